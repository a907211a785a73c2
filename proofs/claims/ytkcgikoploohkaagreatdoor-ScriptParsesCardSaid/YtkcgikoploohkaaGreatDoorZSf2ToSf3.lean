import Derived.Test.YtkcgikoploohkaaGreatDoorZSf1
import Derived.Deep.DeepCutAuto
import Derived.Test.YtkcgikoploohkaaGreatDoorZSd5
import Derived.Laws.EntriesVeiled
import Derived.Lib.SlBytesConst
namespace Go.Proofs.YtkcgikoploohkaaGreatDoor
set_option linter.unusedVariables false
set_option linter.unusedSimpArgs false
set_option maxRecDepth 100000
open Go.RowKit Go.Shelf Nums
end Go.Proofs.YtkcgikoploohkaaGreatDoor
namespace Go.Proofs.YtkcgikoploohkaaGreatDoor
set_option linter.unusedVariables false
set_option linter.unusedSimpArgs false
set_option maxRecDepth 100000
open Go.RowKit Go.Shelf Nums
def awT : List UInt8 := [104,111,114,105,122,111,110,32,53,47,50,10,99,97,115,99,97,100,101,32,49,48,10,98,105,116,115,32,54,52,10,97,116,32,49,46,53,32,118,32,61,32,45,49,10]
def awS : ScT := ⟨mkRat 5 2,10,64,[(mkRat 3 2,⟨#[118]⟩,-1)]⟩
theorem lim_le {n : Nat} (h : n < 4294967296) : (limbs n).length≤12 := Nat.le_trans (len_of (k := 1) h) (by decide)
theorem num52 : NumT ⟨#[53,47,50]⟩ (some (mkRat 5 2)) := number_small _ _ 2 2 (fun w => parseQ_ok 2 _ _ ⟨#[53]⟩ ⟨#[50]⟩ ⟨#[53]⟩ false w ⟨by rfl,by decide⟩ (Or.inr ⟨rfl,rfl,by decide⟩) (by decide) (by decide) (allDig_of _ (by decide)) (by decide) (by decide) (allDig_of _ (by decide)) (by decide) (by decide) (by decide) (by decide) (by decide) (by rfl)) (lim_le (by decide +kernel)) (lim_le (by decide +kernel))
theorem num15 : NumT ⟨#[49,46,53]⟩ (some (mkRat 3 2)) := number_small _ _ 2 2 (fun w => parseD_ok 2 _ _ ⟨#[49]⟩ ⟨#[53]⟩ ⟨#[49]⟩ false w (by decide) ⟨by rfl,by decide⟩ (Or.inr ⟨rfl,rfl,by decide⟩) (by decide) (by decide) (allDig_of _ (by decide)) (by decide) (by decide) (allDig_of _ (by decide)) (by decide) (by decide) (by decide) (by decide)) (lim_le (by decide +kernel)) (lim_le (by decide +kernel))
theorem numm1 : NumT ⟨#[45,49]⟩ (some (-1)) := number_small _ _ 2 2 (fun w => parse_int 2 2 (-1) _ w (by decide) (by decide) (by decide) (int_call 2 true _ ⟨#[49]⟩ (Or.inl ⟨rfl,rfl⟩) (by decide) (by decide) (allDig_of _ (by decide)) (by decide) (by decide))) (lim_le (by decide +kernel)) (lim_le (by decide +kernel))
theorem aw_parse {w : World} (hg : Gl w) : parseM numS awT = .inr awS := by
  have n1 := numS_eq hg num52
  have n2 := numS_eq hg num15
  have n3 := numS_eq hg numm1
  have t1 : takeM awT = some ([bHOR,⟨#[53,47,50]⟩],awT.drop 12) := by rfl
  have t2 : takeM (awT.drop 12) = some ([bCAS,⟨#[49,48]⟩],awT.drop 23) := by rfl
  have t3 : takeM (awT.drop 23) = some ([bBITS,⟨#[54,52]⟩],awT.drop 31) := by rfl
  have t4 : takeM (awT.drop 31) = some ([bAT,⟨#[49,46,53]⟩,⟨#[118]⟩,bEQ,⟨#[45,49]⟩],[]) := by rfl
  rw [parse_3 (lineM_yes t1 (by show (if bHOR = bHOR then numS _ else none) = _;rw [if_pos rfl];exact n1)) (lineM_yes t2 (by rfl)) (lineM_yes t3 (by rfl))]
  rw [loopM_yes (by decide) (lineM_yes t4 (by show (if bAT = bAT∧nameB (⟨#[118]⟩ : ByteArray).data.toList = true∧bEQ = bEQ then pairM ⟨#[118]⟩ (numS _) (numS _) else none) = _;rw [if_pos ⟨rfl,by decide,rfl⟩,n2,n3];rfl)),loopM_end (by decide)]
  rfl
theorem str52 : ratStr (mkRat 5 2) = ⟨#[53,47,50]⟩ := by
  have n1 : (mkRat 5 2).num = 5 := by decide +kernel
  have n2 : (mkRat 5 2).den = 2 := by decide +kernel
  rw [ratStr,if_neg (by rw [n2];decide),n1,n2,decI,if_neg (by decide),show (5 : Int).natAbs = 5 from rfl,dec_digit 5 53 (by omega) (by omega) rfl,dec_digit 2 50 (by omega) (by omega) rfl];rfl
theorem strm1 : ratStr (-1) = ⟨#[45,49]⟩ := by
  rw [ratStr,if_pos (show (-1 : Rat).den = 1 by decide +kernel),show (-1 : Rat).num = -1 by decide +kernel,decI,if_pos (by decide),show (-1 : Int).natAbs = 1 from rfl,dec_digit 1 49 (by omega) (by omega) rfl];rfl
theorem it10 : Lib.itoa 10 = [49,48] := by decide +kernel
theorem it64 : Lib.itoa 64 = [54,52] := by decide +kernel
theorem aw_print : printM awS = [104,111,114,105,122,111,110,32,53,47,50,10,99,97,115,99,97,100,101,32,49,48,10,98,105,116,115,32,54,52,10,97,116,32,51,47,50,32,118,32,61,32,45,49,10] := by
  have e1 : numL (mkRat 5 2) = [53,47,50] := by unfold numL;rw [str52]
  have e2 : numL (mkRat 3 2) = [51,47,50] := by unfold numL;rw [str32]
  have e3 : numL (-1) = [45,49] := by unfold numL;rw [strm1]
  show lineP [bHOR.data.toList,numL (mkRat 5 2)] ++ lineP [bCAS.data.toList,Lib.itoa 10] ++ lineP [bBITS.data.toList,Lib.itoa 64] ++ ([lineP [[97,116],numL (mkRat 3 2),[118],[61],numL (-1)]] : List (List UInt8)).flatten = _
  rw [e1,e2,e3,it10,it64]
  rfl
theorem aw_ok : okP awS = true := by
  show (shortT (ratStr (mkRat 5 2)) && cntB 10 && cntB 64 && [(mkRat 3 2,(⟨#[118]⟩ : ByteArray),(-1 : Rat))].all chB) = true
  have e : chB (mkRat 3 2,(⟨#[118]⟩ : ByteArray),(-1 : Rat)) = (nameB [118] && shortT (ratStr (mkRat 3 2)) && shortT (ratStr (-1))) := rfl
  rw [List.all_cons,List.all_nil,e,str52,str32,strm1]
  decide +kernel
theorem aw_right : rgtM awS [⟨#[118]⟩] = true := by rfl
theorem aw_wrong : rgtM awS [] = false := by rfl
theorem aw_row (w : World) : TRow (w.alloc (.cells (awT.map fun x => Value.int .u8 (x.toNat : Int)).toArray 5 (45,46))) (some ⟨w.heap.size,0,none⟩) 45 45 awT := by
  refine ⟨rfl,Nat.le_refl _,by unfold maxLen;decide,w.heap.size,0,.inl rfl,fun i x hx => ⟨by simp, ?_⟩⟩
  rw [Nat.zero_add]
  have hb : (w.alloc (.cells (awT.map fun x => Value.int .u8 (x.toNat : Int)).toArray 5 (45,46))).heap[w.heap.size]? = some (.cells (awT.map fun x => Value.int .u8 (x.toNat : Int)).toArray 5 (45,46)) := by
    show (w.heap.push _)[w.heap.size]? = _
    simp
  unfold World.cell?
  simp only [hb]
  simp [hx]
theorem aw_xs {xs : List CM} (h : xs.map CM.told = awS.ch) (hf : ∀ x∈xs,x.Fit) : ∀ x∈xs,x.t.n≤12∧x.t.m≤12∧x.v.n≤12∧x.v.m≤12∧x.nm.size≤200 := by
  intro x hx
  have hm : x.told∈awS.ch := by rw [←h];exact List.mem_map_of_mem hx
  have e : x.told = (mkRat 3 2,⟨#[118]⟩,-1) := by simpa [awS] using hm
  have e1 : x.p = mkRat 3 2 := congrArg Prod.fst e
  have e2 : x.nm = ⟨#[118]⟩ := congrArg (fun y => y.2.1) e
  have e3 : x.q = -1 := congrArg (fun y => y.2.2) e
  obtain ⟨⟨f1,f2⟩,f3,f4⟩ := hf x hx
  rw [f1,f2,f3,f4,e1,e2,e3]
  exact ⟨lim_le (by decide +kernel),lim_le (by decide +kernel),lim_le (by decide +kernel),lim_le (by decide +kernel),by decide⟩
theorem aw_h {v : SV} (h : v.h.Fit awS.h) : v.h.n≤12∧v.h.m≤12 := by
  rw [h.1,h.2]
  exact ⟨lim_le (by decide +kernel),lim_le (by decide +kernel)⟩
theorem aw_eq {v : SV} {xs : List CM} (h1 : v.cas = awS.cas) (h2 : v.bits = awS.bits) (h3 : xs.map CM.told = awS.ch) : (⟨awS.h,v.cas,v.bits,xs.map CM.told⟩ : ScT) = awS := by rw [h1,h2,h3]
theorem aw_nil (w : World) : SRow w none 0 0 [] := ⟨rfl,Nat.le_refl _,Nat.zero_le _,0,0,.inr (Nat.le_refl _),fun i x hx => by cases hx⟩
set_option maxHeartbeats 8000000 in
theorem awake_t (w : World) (hg : Gl w) : Calls Tryz.prog 11 #[] w fun e w' => e = .returned (.bool true)∧Below w.heap.size w w' := by
  have hb1 := below_one w (.cells (awT.map fun x => Value.int .u8 (x.toNat : Int)).toArray 5 (45,46))
  have HP := Lib.hid (parse_run _ _ _ awT _ (hg.later hb1) (aw_row w) (by decide))
  rw [aw_parse hg] at HP
  have HB1 := Lib.hid hb1
  have HG := Lib.hid (hg.later hb1)
  have kc := fun (w : World) (C : Array Value) (n c : Nat) => Lib.run_convert_bytes_const (P := Tryz.prog) w 22 5 C n c Tryz.underlying22 Tryz.underlying5
  clear hb1 hg
  go_enter Tryz.func11,Tryz.ntmps11
  go_upto_region 1 with fail
  go_upto_region 2 with (go_at_call 8;refine HP.out.mono ?_;rintro e w1 ⟨v,xs,rfl,hv,hf,hx,h1,h2,h3,hb⟩;have HV := Lib.hid hv;have HF := Lib.hid (aw_h hf);have HX := Lib.hid (aw_xs h3 hx);have HE := Lib.hid (aw_eq h1 h2 h3);have HC := Lib.hid (show v.cas = 10∧v.bits = 64 from ⟨h1,h2⟩);have HB2 := Lib.hid (bthen HB1.out hb);have HG2 := Lib.hid (HG.out.later hb);clear hv hf hx h1 h2 h3 hb)
  obtain ⟨W2,hW2⟩ : ∃ W2,W2 = w1.alloc (.cells #[.bool v.h.s,.slice v.h.a v.h.n v.h.c,.slice v.h.b v.h.m v.h.d,.int .i64 v.cas,.int .i64 v.bits,.slice v.a v.n v.c] 30) := ⟨_,rfl⟩
  rw [←hW2]
  have b2 : Below w1.heap.size w1 W2 := by rw [hW2];exact below_one _ _
  have HS := Lib.hid (show SBlk W2 w1.heap.size v by rw [hW2];exact Blk.new _ _ _)
  have HI := Lib.hid (HV.out.later b2)
  have HG3 := Lib.hid (HG2.out.later b2)
  have HB3 := Lib.hid (bthen HB2.out b2)
  have HL := Lib.hid (show xs.length≤70000 by have := HE.out;have e : xs.map CM.told = awS.ch := congrArg ScT.ch this;have := congrArg List.length e;rw [List.length_map] at this;rw [this];decide)
  obtain ⟨g,hg⟩ : ∃ g,w1.heap.size = g := ⟨_,rfl⟩
  rw [hg] at HS ⊢
  clear hW2 b2 hg HP kc HG HG2 HB1 HB2 HV
  obtain ⟨p0,p1,p2,p3,p4,p5⟩ := HS.out.cells
  go_upto_region 3 with (go_at_call 13;refine (print_run v awS.h xs _ HG3.out HI.out ⟨Nat.le_trans HF.out.1 (by decide),Nat.le_trans HF.out.2 (by decide)⟩ (fun x hx => by have := HX.out x hx;omega) HL.out (by have := HC.out;omega)).mono ?_;rw [HE.out];rintro e w3 ⟨h1,-,hb⟩;obtain ⟨a,n,c,rfl,ht⟩ := h1 aw_ok;have HT := Lib.hid ht;replace HS := Lib.hid (HS.out.later hb);replace HI := Lib.hid (HI.out.later hb);replace HB3 := Lib.hid (bthen HB3.out hb);clear h1 ht hb;clear p0 p1 p2 p3 p4 p5;obtain ⟨p0,p1,p2,p3,p4,p5⟩ := HS.out.cells)
  have hcv := HT.out.conv
  rw [aw_print] at hcv
  change _ = Result.ok (Value.string ⟨#[104,111,114,105,122,111,110,32,53,47,50,10,99,97,115,99,97,100,101,32,49,48,10,98,105,116,115,32,54,52,10,97,116,32,51,47,50,32,118,32,61,32,45,49,10]⟩) w3 at hcv
  go_wp2_with (first
    | (go_at_call 15;refine (right_t v awS.h xs _ 1 1 [⟨#[118]⟩] _ (HI.out.later (below_one _ _)) (srow_new w3 [⟨#[118]⟩] 9 (by decide)) ⟨Nat.le_trans HF.out.1 (by decide),Nat.le_trans HF.out.2 (by decide)⟩ (fun x hx => by have := HX.out x hx;omega)).mono ?_;rw [HE.out,aw_right];rintro e w4 ⟨rfl,hb⟩;have hb4 := bthen (below_one w3 _) hb;replace HS := Lib.hid (HS.out.later hb4);replace HI := Lib.hid (HI.out.later hb4);replace HB3 := Lib.hid (bthen HB3.out hb4);clear hb hb4;clear p0 p1 p2 p3 p4 p5;obtain ⟨p0,p1,p2,p3,p4,p5⟩ := HS.out.cells)
    | (go_at_call 15;refine (right_t v awS.h xs none 0 0 [] _ HI.out (aw_nil _) ⟨Nat.le_trans HF.out.1 (by decide),Nat.le_trans HF.out.2 (by decide)⟩ (fun x hx => by have := HX.out x hx;omega)).mono ?_;rw [HE.out,aw_wrong];rintro e w5 ⟨rfl,hb⟩;replace HB3 := Lib.hid (bthen HB3.out hb);clear hb))
  go_ret
  exact ⟨rfl,HB3.out⟩
end Go.Proofs.YtkcgikoploohkaaGreatDoor
