import Derived.Test.YtkcgikoploohkaaGreatDoorZSc2ToSc8
import Derived.Test.YtkcgikoploohkaaGreatDoorZSc1ToSc4
import Derived.Lib.AppendIntMem
namespace Go.Proofs.YtkcgikoploohkaaGreatDoor
set_option linter.unusedVariables false
set_option linter.unusedSimpArgs false
set_option maxRecDepth 100000
open Go.RowKit Go.Shelf Nums
def numL (q : Rat) : List UInt8 := (ratStr q).data.toList
def lineP (ws : List (List UInt8)) : List UInt8 := Lib.join ws [32] ++ [10]
def chP (x : Rat × ByteArray × Rat) : List UInt8 := lineP [[97,116],numL x.1,x.2.1.data.toList,[61],numL x.2.2]
def printM (S : ScT) : List UInt8 := lineP [bHOR.data.toList,numL S.h] ++ lineP [bCAS.data.toList,Lib.itoa S.cas] ++ lineP [bBITS.data.toList,Lib.itoa S.bits] ++ (S.ch.map chP).flatten
def cntB (n : Int) : Bool := decide (0≤n) && decide (n≤999999)
def chB (x : Rat × ByteArray × Rat) : Bool := nameB x.2.1.data.toList && shortT (ratStr x.1) && shortT (ratStr x.2.2)
def okP (S : ScT) : Bool := shortT (ratStr S.h) && cntB S.cas && cntB S.bits && S.ch.all chB
def Buf (B : Nat) (l : List UInt8) (w : World) : Prop := Lib.IsBuffer 69 5 B B (Lib.byteCells l) w
theorem Buf.keep {B : Nat} {l : List UInt8} {w w' : World} (h : Buf B l w) (hk : ∀ i vs T,Blk w i T vs→(T = 69∨T = 5)→w'.heap[i]? = w.heap[i]?) : Buf B l w' := by
  obtain ⟨h1,v,lr,h2,h3,h4⟩ := h
  refine ⟨h1,v,lr,(hk _ _ _ h2 (.inl rfl)).trans h2,⟨h3.1, ?_⟩,h4⟩
  rcases h3.2 with h5 | ⟨g,cap,cur,rfl,hb,hg,hr⟩
  · exact .inl h5
  · exact .inr ⟨g,cap,cur,rfl,hb,(hk _ _ _ hg (.inr rfl)).trans hg,hr⟩
theorem Buf.only {B : Nat} {l : List UInt8} {S : List Nat} {w w' : World} (h : Buf B l w) (ho : Only S w w') (hS : ∀ i∈S,∃ vs T,Blk w i T vs∧T≠69∧T≠5) : Buf B l w' := by
  refine h.keep fun i vs T hb hT => ho.block i hb.lt fun hm => ?_
  obtain ⟨vs',T',hb',h1,h2⟩ := hS i hm
  unfold Blk at hb hb'
  rw [hb] at hb'
  injection hb' with hb'
  injection hb' with _ hb'
  subst hb'
  rcases hT with e | e
  · exact h1 e
  · exact h2 e
theorem Buf.later {B : Nat} {l : List UInt8} {w w' : World} (h : Buf B l w) (hb : Below w.heap.size w w') : Buf B l w' := h.keep fun i vs T hk _ => hb.block i hk.lt
theorem bytes_one (l : List UInt8) : ∀ v∈Lib.byteCells l,v.oneCell' = true := by
  intro v hv
  obtain ⟨x,_,rfl⟩ := List.mem_map.1 hv
  rfl
theorem byteCells_app (l m : List UInt8) : Lib.byteCells l ++ Lib.byteCells m = Lib.byteCells (l ++ m) := List.map_append.symm
structure WrK (B : Nat) (w w' : World) : Prop where
  b : Below B w w'
  o : Lib.OthersKept 5 (some B) w w'
theorem WrK.blk {B g T : Nat} {w w' : World} {vs : Array Value} (h : WrK B w w') (hb : Blk w g T vs) (hT : T≠5) (hg : g≠B) : Blk w' g T vs := h.o g _ hb (fun e => hg (Option.some.inj e)) (fun c fz e => by injection e with _ e;exact hT e)
theorem WrK.trans {B : Nat} {a b c : World} (h : WrK B a b) (k : WrK B b c) : WrK B a c := ⟨h.b.trans k.b,h.o.trans k.o⟩
theorem WrK.later {B : Nat} {a b : World} (hb : Below a.heap.size a b) (hB : B≤a.heap.size) : WrK B a b := ⟨hb.mono hB,fun k o hk _ _ => (hb.block k (Array.getElem?_eq_some_iff.1 hk).1).trans hk⟩
set_option maxHeartbeats 4000000 in
theorem put_t (B : Nat) (l : List UInt8) (a : Option Addr) (n c : Nat) (ws : List ByteArray) (w : World) (hb : Buf B l w) (hr : SRow w a n c ws) (hB : B≤w.heap.size) (hne : 0 < n) (hn : n≤1000) (hl : l.length≤100000000000) (hw : (Lib.join (ws.map (·.data.toList)) [32]).length≤100000000000) :
    Calls Tryz.prog 39 #[.slice a n c,.pointer (some ⟨B,0,none⟩)] w fun e w' => e = .returned (.tuple #[])∧Buf B (l ++ lineP (ws.map (·.data.toList))) w'∧WrK B w w' := by
  obtain ⟨h1,h2,h3,bk,off,h4,h5⟩ := hr
  obtain rfl : a = some ⟨bk,off,none⟩ := h4.resolve_right (by omega)
  obtain rfl := h1
  have hJ := Lib.hid (Tryz.strings_Join bk off c ws ⟨#[32]⟩ w (fun j x hx => (h5 j x hx).2) (by
    have hx : ws[0]? = some (ws[0]'hne) := List.getElem?_eq_getElem hne
    exact (h5 0 _ hx).1) (by omega) h2 (Nat.le_trans hw (by omega)))
  have HB := Lib.hid hb
  have HBW := Lib.hid hB
  have HW := Lib.hid hw
  have HL := Lib.hid hl
  unfold maxLen at h3
  clear h4 h5 hb hB hw hl
  go_enter Tryz.func39,Tryz.ntmps39
  go_wp2_with (first
    | (go_at_call 41;(with_reducible refine hJ.out.mono ?_);rintro e w1 ⟨rfl,hb⟩;have HB1 := Lib.hid (HB.out.later hb);have HK1 := Lib.hid (WrK.later hb HBW.out);have HZ1 := Lib.hid (Nat.le_trans HBW.out hb.size);clear hb)
    | (go_at_call 40;refine (Tryz.Buffer_WriteString_k B B (Lib.byteCells l) _ _ HB1.out HZ1.out (bytes_one l) (by have h7 := HW.out;have h8 := HL.out;rw [Lib.byteCells_length];show _ + (Lib.join (ws.map (·.data.toList)) [32]).toArray.size≤_;simp only [List.size_toArray];omega)).mono ?_;rintro e w2 ⟨rfl,hb,hb2,ho⟩;have HB2 := Lib.hid hb;have HK2 := Lib.hid (HK1.out.trans ⟨hb2,ho⟩);have HZ2 := Lib.hid (Nat.le_trans HZ1.out hb2.size);clear hb hb2 ho)
    | (go_at_call 42;refine (Tryz.Buffer_WriteByte_k B B _ 10 _ HB2.out HZ2.out (fun v hv => by rcases List.mem_append.1 hv with hv | hv;exact bytes_one _ v hv;exact bytes_one _ v hv) (by have h7 := HW.out;have h8 := HL.out;rw [List.length_append,Lib.byteCells_length,Lib.byteCells_length];show _ + (Lib.join (ws.map (·.data.toList)) [32]).length + 1≤_;omega)).mono ?_;rintro e w3 ⟨rfl,hb,hb2,ho⟩;have HB3 := Lib.hid hb;have HK3 := Lib.hid (HK2.out.trans ⟨hb2,ho⟩);clear hb hb2 ho))
  have hfin : Buf B (l ++ lineP (ws.map (·.data.toList))) w3 := by
    have hb := HB3.out
    unfold Buf lineP
    rw [←byteCells_app,←byteCells_app,←List.append_assoc]
    exact hb
  go_end0
  exact ⟨rfl,hfin,HK3.out⟩
end Go.Proofs.YtkcgikoploohkaaGreatDoor
namespace Go.Proofs.YtkcgikoploohkaaGreatDoor
set_option linter.unusedVariables false
set_option linter.unusedSimpArgs false
set_option maxRecDepth 100000
open Go.RowKit Go.Shelf Nums
theorem is_len {r : RV} {k j : Nat} {q : Rat} {w : World} (h : r.Is k j q w) (hk : k≤90) (hj : j≤90) : (limbs q.num.natAbs).length≤90∧(limbs q.den).length≤90 := by
  obtain ⟨xs,ys,h1,h2,h3,h4,h5⟩ := h
  obtain ⟨e,w',a,n,c,b,m,d,-,hn,hm,g1,g2,-⟩ := calls_ex (normR 90 90 q h1 h2 h3 (by omega) (by omega) (by omega) (by omega) (by omega))
  exact ⟨by rw [g1.1];exact hn,by rw [g2.1];exact hm⟩
theorem print_is {r : RV} {k j : Nat} {q : Rat} {w : World} (h : r.Is k j q w) (hk : k≤90) (hj : j≤90) : Calls Tryz.prog 80 #[.agg #[.bool r.s,.slice r.a r.n r.c,.slice r.b r.m r.d]] w fun e w' => e = .returned (.string (ratStr q))∧Below w.heap.size w w' := by
  obtain ⟨xs,ys,h1,h2,h3,h4,h5⟩ := h
  exact printRX (ratStr q) q h1 h2 h3 (by omega) (by omega) rfl
set_option maxHeartbeats 4000000 in
theorem nof_t (r : RV) (k j : Nat) (q : Rat) (g : Nat) (b0 : Bool) (w : World) (hg : Gl w) (h : r.Is k j q w) (hk : k≤90) (hj : j≤90) (hb : Blk w g 4 #[.bool b0]) :
    Calls Tryz.prog 43 #[.agg #[.bool r.s,.slice r.a r.n r.c,.slice r.b r.m r.d],.pointer (some ⟨g,0,none⟩)] w fun e w' => e = .returned (.string (ratStr q))∧Blk w' g 4 #[.bool (b0 && shortT (ratStr q))]∧Only [g] w w' := by
  have hl := is_len h hk hj
  have hz := ratStr_sizeX hl.1 hl.2
  have hb1 := below_one w (.cells #[.bool r.s,.slice r.a r.n r.c,.slice r.b r.m r.d] 27)
  have HB1 := Lib.hid hb1
  have HN := Lib.hid (numberText_g (ratStr q) (r := r) (w := w.alloc (.cells #[.bool r.s,.slice r.a r.n r.c,.slice r.b r.m r.d] 27)) (hg.later hb1) (by omega) (fun W hW => print_is ((h.later hb1).later hW) hk hj))
  have HK := Lib.hid (hb.later hb1)
  obtain ⟨T,hT⟩ : ∃ T,ratStr q = T := ⟨_,rfl⟩
  rw [hT] at HN ⊢
  obtain ⟨s,hs⟩ : ∃ s,shortT T = s := ⟨_,rfl⟩
  rw [hs] at HN ⊢
  clear hg h hb hl hz hb1 hT hs
  cases b0
  all_goals
    go_enter Tryz.func43,Tryz.ntmps43
    go_wp2_with (go_at_call 44;(with_reducible refine HN.out.mono ?_);rintro e w2 ⟨rfl,hb⟩;have HK2 := Lib.hid (HK.out.later hb);have HB2 := Lib.hid (bthen HB1.out hb);have k0 := HK2.out.cell 0 rfl;have kf := HK2.out.free 0;clear hb)
    go_ret
    exact ⟨rfl,HK2.out.set 0 _,(Only.of_below HB2.out).trans (Only.set (List.mem_singleton.2 rfl) 0 _ _)⟩
theorem itoa_t (n : Int) (w : World) (hg : Gl w) (h0 : -9223372036854775808≤n) (h1 : n≤9223372036854775807) : Calls Tryz.prog 46 #[.int .i64 n] w fun e w' => e = .returned (.string (bsL (Lib.itoa n)))∧Below w.heap.size w w' :=
  (Tryz.strconv_Itoa n h0 h1 w hg.t).mono fun e w' ⟨he,k,os,hw⟩ => ⟨he,by rw [hw];exact Lib.below_grow _ w (Nat.le_refl _) k os⟩
set_option maxHeartbeats 4000000 in
theorem cof_t (n : Int) (g : Nat) (b0 : Bool) (w : World) (hg : Gl w) (h9 : 9≤g) (h0 : -9223372036854775808≤n) (h1 : n≤9223372036854775807) (hb : Blk w g 4 #[.bool b0]) :
    Calls Tryz.prog 45 #[.int .i64 n,.pointer (some ⟨g,0,none⟩)] w fun e w' => e = .returned (.string (bsL (Lib.itoa n)))∧Blk w' g 4 #[.bool (b0 && cntB n)]∧Only [g] w w' := by
  have HG := Lib.hid hg
  have HK := Lib.hid hb
  have H0 := Lib.hid h0
  have H1 := Lib.hid h1
  have k0 : w.cell? ⟨g,0,none⟩ = some (.bool b0) := hb.cell 0 rfl
  have kf := hb.free 0
  unfold cntB
  clear hg hb h0 h1
  cases b0
  · rw [Bool.false_and]
    have HS := Lib.hid (show Gl (w.setCell ⟨g,0,none⟩ (.bool false)) from HG.out.only (Only.set (List.mem_singleton.2 rfl) 0 _ _) (fun i hi => by rw [List.mem_singleton] at hi;subst hi;exact h9))
    clear h9
    go_enter Tryz.func45,Tryz.ntmps45
    go_wp2_with (go_at_call 46;(with_reducible refine (itoa_t n _ HS.out H0.out H1.out).mono ?_);rintro e w2 ⟨rfl,hb⟩;have HB2 := Lib.hid hb;clear hb)
    go_ret
    exact ⟨rfl,(HK.out.set 0 _).later HB2.out,(Only.set (List.mem_singleton.2 rfl) 0 _ _).trans (Only.of_below HB2.out)⟩
  · rw [Bool.true_and]
    by_cases hn : 0≤n
    · have e1 : decide (0≤n) = true := decide_eq_true hn
      rw [e1,Bool.true_and]
      by_cases hm : n≤999999
      · have e2 : decide (n≤999999) = true := decide_eq_true hm
        rw [e2]
        have HS := Lib.hid (show Gl (w.setCell ⟨g,0,none⟩ (.bool true)) from HG.out.only (Only.set (List.mem_singleton.2 rfl) 0 _ _) (fun i hi => by rw [List.mem_singleton] at hi;subst hi;exact h9))
        clear h9
        go_enter Tryz.func45,Tryz.ntmps45
        go_wp2_with (go_at_call 46;(with_reducible refine (itoa_t n _ HS.out H0.out H1.out).mono ?_);rintro e w2 ⟨rfl,hb⟩;have HB2 := Lib.hid hb;clear hb)
        go_ret
        exact ⟨rfl,(HK.out.set 0 _).later HB2.out,(Only.set (List.mem_singleton.2 rfl) 0 _ _).trans (Only.of_below HB2.out)⟩
      · have e2 : decide (n≤999999) = false := decide_eq_false hm
        rw [e2]
        have HS := Lib.hid (show Gl (w.setCell ⟨g,0,none⟩ (.bool false)) from HG.out.only (Only.set (List.mem_singleton.2 rfl) 0 _ _) (fun i hi => by rw [List.mem_singleton] at hi;subst hi;exact h9))
        clear h9
        go_enter Tryz.func45,Tryz.ntmps45
        go_wp2_with (go_at_call 46;(with_reducible refine (itoa_t n _ HS.out H0.out H1.out).mono ?_);rintro e w2 ⟨rfl,hb⟩;have HB2 := Lib.hid hb;clear hb)
        go_ret
        exact ⟨rfl,(HK.out.set 0 _).later HB2.out,(Only.set (List.mem_singleton.2 rfl) 0 _ _).trans (Only.of_below HB2.out)⟩
    · have e1 : decide (0≤n) = false := decide_eq_false hn
      rw [e1,Bool.false_and]
      have HS := Lib.hid (show Gl (w.setCell ⟨g,0,none⟩ (.bool false)) from HG.out.only (Only.set (List.mem_singleton.2 rfl) 0 _ _) (fun i hi => by rw [List.mem_singleton] at hi;subst hi;exact h9))
      clear h9
      go_enter Tryz.func45,Tryz.ntmps45
      go_wp2_with (go_at_call 46;(with_reducible refine (itoa_t n _ HS.out H0.out H1.out).mono ?_);rintro e w2 ⟨rfl,hb⟩;have HB2 := Lib.hid hb;clear hb)
      go_ret
      exact ⟨rfl,(HK.out.set 0 _).later HB2.out,(Only.set (List.mem_singleton.2 rfl) 0 _ _).trans (Only.of_below HB2.out)⟩
end Go.Proofs.YtkcgikoploohkaaGreatDoor
