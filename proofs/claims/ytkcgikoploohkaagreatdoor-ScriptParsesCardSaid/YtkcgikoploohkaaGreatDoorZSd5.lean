import Derived.Test.YtkcgikoploohkaaGreatDoorZSd4
import Derived.Deep.DeepCutAuto
import Derived.Laws.EntriesVeiled
namespace Go.Proofs.YtkcgikoploohkaaGreatDoor
set_option linter.unusedVariables false
set_option linter.unusedSimpArgs false
set_option maxRecDepth 100000
open Go.RowKit Go.Shelf Nums
theorem below_put6 {B g : Nat} {a w : World} (h : Below B a w) (hg : B≤g) (x0 x1 x2 x3 x4 x5 : Value) : Below B a ((((((w.setCell ⟨g,0,none⟩ x0).setCell ⟨g,1,none⟩ x1).setCell ⟨g,2,none⟩ x2).setCell ⟨g,3,none⟩ x3).setCell ⟨g,4,none⟩ x4).setCell ⟨g,5,none⟩ x5) := (((((h.setCell hg _).setCell hg _).setCell hg _).setCell hg _).setCell hg _).setCell hg _
theorem only_put6 (w : World) (g : Nat) (x0 x1 x2 x3 x4 x5 : Value) : Only [g] w ((((((w.setCell ⟨g,0,none⟩ x0).setCell ⟨g,1,none⟩ x1).setCell ⟨g,2,none⟩ x2).setCell ⟨g,3,none⟩ x3).setCell ⟨g,4,none⟩ x4).setCell ⟨g,5,none⟩ x5) := by
  have k : ∀ (i : Nat) (u : World) (x : Value),Only [g] u (u.setCell ⟨g,i,none⟩ x) := fun i u x => Only.set (List.mem_singleton.2 rfl) i u x
  exact ((((((k 0 _ _).trans (k 1 _ _)).trans (k 2 _ _)).trans (k 3 _ _)).trans (k 4 _ _)).trans (k 5 _ _))
theorem par_end {w wr W : World} {v : SV} {xs : List CM} {h : Rat} {o : Nat ⊕ ScT} (hB : Below w.heap.size w wr) (hz : SBlk wr w.heap.size sv0) (hon : Only [w.heap.size] wr W) (ho : OwnN wr w.heap.size v.sl xs) (hn : NumsIn xs wr) (hf : ∀ x∈xs,x.Fit) (hh : v.h.Is v.h.n v.h.m h wr) (hh2 : v.h.Fit h) (hoo : o = .inr ⟨h,v.cas,v.bits,xs.map CM.told⟩) :
    ParRes o w (.returned (.tuple #[.agg #[.bool v.h.s,.slice v.h.a v.h.n v.h.c,.slice v.h.b v.h.m v.h.d,.int .i64 v.cas,.int .i64 v.bits,.slice v.a v.n v.c],.int .i64 0,.int .i64 0])) W := by
  subst hoo
  have hnu : ∀ i∈[w.heap.size],NoU wr i := noU_one hz.noU
  obtain ⟨a9,c9,e9,hrow⟩ := (ho.only hon (fun i hi => notin_one (ho.ne hz (by decide) i hi))).1.row (hn.only hon hnu)
  unfold SV.sl at e9
  injection e9 with e7 e8 e9
  refine ⟨v,xs,rfl,⟨hh.only hon hnu, ?_⟩,hh2,hf,rfl,rfl,rfl,hB.trans (hon.below hB.size (fun j hj => by rw [List.mem_singleton] at hj;omega))⟩
  rw [e7,e8,e9];exact hrow
theorem takeM_lt {rest r : List UInt8} {L : List ByteArray} {b : Nat} (h : takeM rest = some (L,r)) (hl : rest.length≤b) : r.length≤b := by have := takeM_len h;omega
theorem ifb_len2 {Y : List ByteArray→SV→World→Prop} {N : List ByteArray→Prop} {rest r : List UInt8} {v : SV} {w : World} {b : Nat} (h : IfB true (∃ L,takeM rest = some (L,r)∧Y L v w) (takeM rest = none∨∃ L q,takeM rest = some (L,q)∧N L)) (hl : rest.length≤b) : r.length≤b := by
  obtain ⟨L,t,_⟩ : ∃ L,takeM rest = some (L,r)∧Y L v w := h
  exact takeM_lt t hl
theorem bs_nil : (bsL []).toList = [] := by rw [ByteArray.toList_eq];rfl
theorem bs_cons {l : List UInt8} (h : l≠[]) : ¬ (bsL l).toList = [] := by rw [ByteArray.toList_eq];exact h
set_option maxHeartbeats 8000000 in
theorem parse_run (a : Option Addr) (n c : Nat) (l : List UInt8) (w : World) (hg : Gl w) (h : TRow w a n c l) (hn : n≤65536) : Calls Tryz.prog 8 #[.slice a n c] w (ParRes (parseM numS l) w) := by
  have hnI : (n : Int)≤65536 := by omega
  have hll : l.length≤65536 := by rw [h.1];exact hn
  have hW : ∀ W,Below w.heap.size w W→(convert 22 9 (.slice a n c)).run Tryz.prog W = .ok (.string (bsL l)) W := fun W hb => (h.later hb).conv
  have hb2 : Below w.heap.size w ((w.alloc (.cells #[.bool false,.slice none 0 0,.slice none 0 0,.int .i64 0,.int .i64 0,.slice none 0 0] 30)).alloc (.cells #[.bool false,.slice none 0 0,.slice none 0 0,.int .i64 0,.int .i64 0,.slice none 0 0] 30)) := bthen (below_one _ _) (below_one _ _)
  have hcv := hW _ hb2
  have hcv1 := hW _ (below_one w (.cells #[.bool false,.slice none 0 0,.slice none 0 0,.int .i64 0,.int .i64 0,.slice none 0 0] 30))
  have hcv0 := hW _ (Below.refl _ _)
  clear hW hb2
  obtain ⟨W1,hW1⟩ : ∃ W1,W1 = w.alloc (.cells #[.bool false,.slice none 0 0,.slice none 0 0,.int .i64 0,.int .i64 0,.slice none 0 0] 30) := ⟨_,rfl⟩
  obtain ⟨W2,hW2⟩ : ∃ W2,W2 = W1.alloc (.cells #[.bool false,.slice none 0 0,.slice none 0 0,.int .i64 0,.int .i64 0,.slice none 0 0] 30) := ⟨_,rfl⟩
  obtain ⟨W3,hW3⟩ : ∃ W3,W3 = W2.alloc (.cells #[.string (bsL l)] 9) := ⟨_,rfl⟩
  obtain ⟨W4,hW4⟩ : ∃ W4,W4 = W3.alloc (.cells #[.int .i64 0] 3) := ⟨_,rfl⟩
  obtain ⟨W5,hW5⟩ : ∃ W5,W5 = W4.alloc (.cells #[.func (.func 20) #[] #[.pointer (some ⟨w.heap.size + 1 + 1,0,none⟩),.pointer (some ⟨w.heap.size + 1 + 1 + 1,0,none⟩)]] 51) := ⟨_,rfl⟩
  have HP0 : Hid (PSt w W5 (w.heap.size) (w.heap.size + 1) (w.heap.size + 1 + 1) (w.heap.size + 1 + 1 + 1) (w.heap.size + 1 + 1 + 1 + 1) sv0 l 0) := by
    have s1 : W1.heap.size = w.heap.size + 1 := by rw [hW1];simp
    have s2 : W2.heap.size = w.heap.size + 1 + 1 := by rw [hW2];simp [s1]
    have s3 : W3.heap.size = w.heap.size + 1 + 1 + 1 := by rw [hW3];simp [s2]
    have s4 : W4.heap.size = w.heap.size + 1 + 1 + 1 + 1 := by rw [hW4];simp [s3]
    have b1 : Below w.heap.size w W1 := by rw [hW1];exact below_one _ _
    have b2 : Below W1.heap.size W1 W2 := by rw [hW2];exact below_one _ _
    have b3 : Below W2.heap.size W2 W3 := by rw [hW3];exact below_one _ _
    have b4 : Below W3.heap.size W3 W4 := by rw [hW4];exact below_one _ _
    have b5 : Below W4.heap.size W4 W5 := by rw [hW5];exact below_one _ _
    have k0 : SBlk W1 w.heap.size sv0 := by rw [hW1];exact Blk.mk rfl
    have k1 : SBlk W2 (w.heap.size + 1) sv0 := by rw [hW2];exact Blk.mk s1
    have k2 : Blk W3 (w.heap.size + 1 + 1) 9 #[.string (bsL l)] := by rw [hW3];exact Blk.mk s2
    have k3 : Blk W4 (w.heap.size + 1 + 1 + 1) 3 #[.int .i64 0] := by rw [hW4];exact Blk.mk s3
    have h9 := hg.s
    refine Lib.hid ⟨⟨((k1.later b3).later b4).later b5,(k2.later b4).later b5,k3.later b5,⟨by omega,by omega,by omega⟩,⟨by omega,by omega,by omega⟩⟩,(((k0.later b2).later b3).later b4).later b5,by rw [hW5];exact Blk.mk s4,bthen (bthen (bthen (bthen b1 b2) b3) b4) b5,((((hg.later b1).later b2).later b3).later b4).later b5,⟨by omega,by omega,by omega,by omega,by omega⟩,⟨by omega,by omega,by omega,by omega,by omega,by omega⟩,h9⟩
  have HW : Hid (((((w.alloc (.cells #[.bool false,.slice none 0 0,.slice none 0 0,.int .i64 0,.int .i64 0,.slice none 0 0] 30)).alloc (.cells #[.bool false,.slice none 0 0,.slice none 0 0,.int .i64 0,.int .i64 0,.slice none 0 0] 30)).alloc (.cells #[.string (bsL l)] 9)).alloc (.cells #[.int .i64 0] 3)).alloc (.cells #[.func (.func 20) #[] #[.pointer (some ⟨w.heap.size + 1 + 1,0,none⟩),.pointer (some ⟨w.heap.size + 1 + 1 + 1,0,none⟩)]] 51) = W5) := Lib.hid (by rw [hW5,hW4,hW3,hW2,hW1])
  have HL := Lib.hid hll
  clear hW1 hW2 hW3 hW4 hW5 h hn hll hg W1 W2 W3 W4
  go_enter Tryz.func8,Tryz.ntmps8
  go_upto_region 7 with fail
  rw [HW.out];clear HW hcv hcv0 hcv1
  have hl0 : l.length≤1000000 := by have := HL.out;omega
  go_wp2_with (first
    | (have mk := HP2;go_at_call 23;(with_reducible refine (tkw_B (w.heap.size + 1) (w.heap.size + 1 + 1) (w.heap.size + 1 + 1 + 1) (w.heap.size + 1 + 1 + 1 + 1) v7 r7 2 _ HP2.out.vs HP2.out.st HP2.out.t (show r7.length≤1000000 from (ifb_len2 HI2.out (ifb_len2 HI1.out hl0))) (by omega)).mono ?_);rintro e w8 ht;obtain ⟨b8,v8,r8,he,hp,hi,hr⟩ := hd_step HP2.out ht;subst he;have HP3 := Lib.hid hp;have HI3 := Lib.hid hi;have HR3 := Lib.hid hr;clear ht hp hi hr;cases b8)
    | (have mk := HP1;go_at_call 23;(with_reducible refine (tkw_C (w.heap.size + 1) (w.heap.size + 1 + 1) (w.heap.size + 1 + 1 + 1) (w.heap.size + 1 + 1 + 1 + 1) v6 r6 1 _ HP1.out.vs HP1.out.st HP1.out.t (show r6.length≤1000000 from (ifb_len2 HI1.out hl0)) (by omega)).mono ?_);rintro e w7 ht;obtain ⟨b7,v7,r7,he,hp,hi,hr⟩ := hd_step HP1.out ht;subst he;have HP2 := Lib.hid hp;have HI2 := Lib.hid hi;have HR2 := Lib.hid hr;clear ht hp hi hr;cases b7)
    | (go_at_call 23;(with_reducible refine (tkw_H (w.heap.size + 1) (w.heap.size + 1 + 1) (w.heap.size + 1 + 1 + 1) (w.heap.size + 1 + 1 + 1 + 1) sv0 l 0 _ HP0.out.vs HP0.out.st HP0.out.t hl0 (by omega)).mono ?_);rintro e w6 ht;obtain ⟨b6,v6,r6,he,hp,hi,hr⟩ := hd_step HP0.out ht;subst he;have HP1 := Lib.hid hp;have HI1 := Lib.hid hi;have HR1 := Lib.hid hr;clear ht hp hi hr;cases b6))
  · obtain ⟨f0,HV⟩ : ∃ f0,Hid (PInv (parseM numS l) w (w.heap.size) (w.heap.size + 1) (w.heap.size + 1 + 1) (w.heap.size + 1 + 1 + 1) (w.heap.size + 1 + 1 + 1 + 1) f0 false w6) := ⟨1,Lib.hid (pinv_0 1 HP1.out (parse_0 (lineM_no HI1.out)))⟩
    clear HP0 HP1 HI1 HR1
    go_loopg [10] f0 (fun gf t wr => ∃ ok,t = .bool ok∧Hid (PInv (parseM numS l) w (w.heap.size) (w.heap.size + 1) (w.heap.size + 1 + 1) (w.heap.size + 1 + 1 + 1) (w.heap.size + 1 + 1 + 1 + 1) gf ok wr))
    case atStart => exact ⟨_,rfl,HV⟩
    case round =>
      obtain ⟨ok,rfl,HV⟩ := hrel
      obtain ⟨v,rest,k,hp,hi⟩ := HV.out
      have HP := Lib.hid hp
      have HI := Lib.hid hi
      clear hp hi HV
      cases ok with
      | false =>
        have HO := Lib.hid (show parseM numS l = .inl k from HI.out)
        have kl : wr.cell? ⟨w.heap.size + 1 + 1 + 1,0,none⟩ = some (.int .i64 (k : Int)) := HP.out.st.l.cell 0 rfl
        obtain ⟨z0,z1,z2,z3,z4,z5⟩ := HP.out.z.cells
        have zf := Blk.free HP.out.z
        have HB := Lib.hid HP.out.b
        go_wp2_with fail
        go_region
        all_goals
          go_wp2
          refine bodyPost_ret (v := .tuple #[.agg #[.bool false,.slice none 0 0,.slice none 0 0,.int .i64 0,.int .i64 0,.slice none 0 0],.int .i64 200,.int .i64 (k : Int)]) (by simp [results,Tryz.results8,go_sem, *]) rfl ?_
          rw [HO.out]
          exact ⟨rfl,(below_put6 HB.out (Nat.le_refl _) _ _ _ _ _ _).drew⟩
      | true =>
        have HIT := Lib.hid (show k + rest.length≤65600∧∃ (h : Rat) (xs : List CM),OwnN wr w.heap.size v.sl xs∧NumsIn xs wr∧(∀ x∈xs,x.Fit)∧v.h.Is v.h.n v.h.m h wr∧v.h.Fit h∧xs.length≤k∧rest.length < gk∧parseM numS l = endM h v.cas v.bits (loopM numS gk rest k (xs.map CM.told)) from HI.out)
        clear HI
        have c6 : wr.cell? ⟨w.heap.size + 1 + 1,0,none⟩ = some (.string (bsL rest)) := HP.out.st.r.cell 0 rfl
        by_cases hr : rest = []
        · have e1 : (bsL rest).toList = [] := by rw [hr];exact bs_nil
          have e2 : (bsL rest).toList.isEmpty = true := by rw [e1];rfl
          have HRN := Lib.hid hr
          clear hr
          obtain ⟨s0,s1,s2,s3,s4,s5⟩ := HP.out.st.s.cells
          obtain ⟨z0,z1,z2,z3,z4,z5⟩ := HP.out.z.cells
          have zf := Blk.free HP.out.z
          go_wp2_with fail
          refine bodyPost_ret (v := .tuple #[.agg #[.bool v.h.s,.slice v.h.a v.h.n v.h.c,.slice v.h.b v.h.m v.h.d,.int .i64 v.cas,.int .i64 v.bits,.slice v.a v.n v.c],.int .i64 0,.int .i64 0]) (by simp [results,Tryz.results8,go_sem, *]) rfl ?_
          obtain ⟨hlo,h,xs,ho,hn,hf,hh,hh2,hk,hfu,hoo⟩ := HIT.out
          exact par_end HP.out.b HP.out.z (only_put6 _ _ _ _ _ _ _ _) ho hn hf hh hh2 (by rw [hoo,HRN.out,loopM_end (Nat.lt_of_le_of_lt (Nat.zero_le _) hfu)];rfl)
        · have e1 := bs_cons hr
          have e2 : (bsL rest).toList.isEmpty = false := by cases hx : (bsL rest).toList with | nil => exact absurd hx e1 | cons _ _ => rfl
          have HRN := Lib.hid hr
          clear hr
          have t8 : wr.cell? ⟨w.heap.size + 1 + 1 + 1 + 1,0,none⟩ = some (.func (.func 20) #[] #[.pointer (some ⟨w.heap.size + 1 + 1,0,none⟩),.pointer (some ⟨w.heap.size + 1 + 1 + 1,0,none⟩)]) := HP.out.t.cell 0 rfl
          obtain ⟨g',rfl⟩ : ∃ g',gk = g' + 1 := ⟨gk - 1,by obtain ⟨_,_,_,_,_,_,_,_,_,h,_⟩ := HIT.out;omega⟩
          obtain ⟨hlo,h,xs,ho,hn,hf,hh,hh2,hk,hfu,hoo⟩ := HIT.out
          have HO := Lib.hid ho
          have HN := Lib.hid hn
          have HF := Lib.hid hf
          have HH := Lib.hid hh
          have HH2 := Lib.hid hh2
          have HK := Lib.hid hk
          have HLO := Lib.hid hlo
          have HFU := Lib.hid hfu
          have HOO := Lib.hid hoo
          have hq1 : rest.length≤1000000 := by omega
          have hq2 : k≤1000000 := by omega
          have HQ1 := Lib.hid hq1
          have HQ2 := Lib.hid hq2
          have hne := HP.out.ne
          have HG1 := Lib.hid (show w.heap.size + 1 + 1 ∉ ownS (w.heap.size + 1) v from fun hm => by
            rcases List.mem_cons.1 hm with e | hm
            · omega
            · exact ho.notin HP.out.st.r (by decide) hm)
          have HG2 := Lib.hid (show w.heap.size + 1 + 1 + 1 ∉ ownS (w.heap.size + 1) v from fun hm => by
            rcases List.mem_cons.1 hm with e | hm
            · omega
            · exact ho.notin HP.out.st.l (by decide) hm)
          have HRD := Lib.hid (show ∀ (W : World) (a : Option Addr) (n c : Nat) (L : List ByteArray),Gl W→SRow W a n c L→SBlk W (w.heap.size + 1) v→(∀ x∈L,x.size≤1000000)→Only [w.heap.size + 1 + 1,w.heap.size + 1 + 1 + 1] wr W→Calls Tryz.prog 30 #[.slice a n c,.pointer (some ⟨w.heap.size + 1,0,none⟩)] W (OutG (YX v w.heap.size xs L) (NX L) (ownS (w.heap.size + 1) v) (w.heap.size + 1) W) from fun W a n c L q1 q2 q3 q4 q5 => by
            have q6 : ∀ i∈[w.heap.size + 1 + 1,w.heap.size + 1 + 1 + 1],NoU wr i := fun i hi => by
              rcases List.mem_cons.1 hi with e | hi
              · subst e;exact Blk.noU HP.out.st.r (by simp)
              · rw [List.mem_singleton] at hi;subst hi;exact Blk.noU HP.out.st.l (by simp)
            refine rdX_t a n c L (w.heap.size + 1) w.heap.size v xs W q1 q2 q3 q4 (ho.only q5 (fun i hi hm => ?_)) (hn.only q5 q6) (Nat.le_trans HP.out.b.size q5.size) (by omega)
            rcases List.mem_cons.1 hm with e | hm
            · exact ho.ne HP.out.st.r (by decide) i hi e
            · rw [List.mem_singleton] at hm;exact ho.ne HP.out.st.l (by decide) i hi hm)
          clear HIT hlo ho hn hf hh hh2 hk hfu hoo hq1 hq2 hne
          go_wp2_with (go_at_call 20;(with_reducible refine (take_change (w.heap.size + 1) (w.heap.size + 1 + 1) (w.heap.size + 1 + 1 + 1) v rest k _ (YX v w.heap.size xs) NX (ownS (w.heap.size + 1) v) HG1.out HG2.out HP.out.vs HP.out.st HQ1.out HQ2.out HRD.out).mono ?_);rintro e w9 ht;obtain ⟨b9,he,hpi⟩ := ch_step HP.out HO.out HF.out HH.out HH2.out HK.out HLO.out HFU.out HRN.out HOO.out ht;subst he;have HV := Lib.hid hpi;clear ht hpi)
          go_roundg g'
          case rel => exact ⟨_,rfl,HV⟩
          case measure => omega
  · obtain ⟨f0,HV⟩ : ∃ f0,Hid (PInv (parseM numS l) w (w.heap.size) (w.heap.size + 1) (w.heap.size + 1 + 1) (w.heap.size + 1 + 1 + 1) (w.heap.size + 1 + 1 + 1 + 1) f0 false w7) := by
      obtain ⟨L1,t1,q,y1,-⟩ : ∃ L,takeM l = some (L,r6)∧YH sv0 L v6 w6 := HI1.out
      exact ⟨1,Lib.hid (pinv_0 1 HP2.out (parse_1 (lineM_yes t1 y1) (lineM_no HI2.out)))⟩
    clear HP0 HP1 HP2 HI1 HI2 HR1 HR2
    go_loopg [10] f0 (fun gf t wr => ∃ ok,t = .bool ok∧Hid (PInv (parseM numS l) w (w.heap.size) (w.heap.size + 1) (w.heap.size + 1 + 1) (w.heap.size + 1 + 1 + 1) (w.heap.size + 1 + 1 + 1 + 1) gf ok wr))
    case atStart => exact ⟨_,rfl,HV⟩
    case round =>
      obtain ⟨ok,rfl,HV⟩ := hrel
      obtain ⟨v,rest,k,hp,hi⟩ := HV.out
      have HP := Lib.hid hp
      have HI := Lib.hid hi
      clear hp hi HV
      cases ok with
      | false =>
        have HO := Lib.hid (show parseM numS l = .inl k from HI.out)
        have kl : wr.cell? ⟨w.heap.size + 1 + 1 + 1,0,none⟩ = some (.int .i64 (k : Int)) := HP.out.st.l.cell 0 rfl
        obtain ⟨z0,z1,z2,z3,z4,z5⟩ := HP.out.z.cells
        have zf := Blk.free HP.out.z
        have HB := Lib.hid HP.out.b
        go_wp2_with fail
        go_region
        all_goals
          go_wp2
          refine bodyPost_ret (v := .tuple #[.agg #[.bool false,.slice none 0 0,.slice none 0 0,.int .i64 0,.int .i64 0,.slice none 0 0],.int .i64 200,.int .i64 (k : Int)]) (by simp [results,Tryz.results8,go_sem, *]) rfl ?_
          rw [HO.out]
          exact ⟨rfl,(below_put6 HB.out (Nat.le_refl _) _ _ _ _ _ _).drew⟩
      | true =>
        have HIT := Lib.hid (show k + rest.length≤65600∧∃ (h : Rat) (xs : List CM),OwnN wr w.heap.size v.sl xs∧NumsIn xs wr∧(∀ x∈xs,x.Fit)∧v.h.Is v.h.n v.h.m h wr∧v.h.Fit h∧xs.length≤k∧rest.length < gk∧parseM numS l = endM h v.cas v.bits (loopM numS gk rest k (xs.map CM.told)) from HI.out)
        clear HI
        have c6 : wr.cell? ⟨w.heap.size + 1 + 1,0,none⟩ = some (.string (bsL rest)) := HP.out.st.r.cell 0 rfl
        by_cases hr : rest = []
        · have e1 : (bsL rest).toList = [] := by rw [hr];exact bs_nil
          have e2 : (bsL rest).toList.isEmpty = true := by rw [e1];rfl
          have HRN := Lib.hid hr
          clear hr
          obtain ⟨s0,s1,s2,s3,s4,s5⟩ := HP.out.st.s.cells
          obtain ⟨z0,z1,z2,z3,z4,z5⟩ := HP.out.z.cells
          have zf := Blk.free HP.out.z
          go_wp2_with fail
          refine bodyPost_ret (v := .tuple #[.agg #[.bool v.h.s,.slice v.h.a v.h.n v.h.c,.slice v.h.b v.h.m v.h.d,.int .i64 v.cas,.int .i64 v.bits,.slice v.a v.n v.c],.int .i64 0,.int .i64 0]) (by simp [results,Tryz.results8,go_sem, *]) rfl ?_
          obtain ⟨hlo,h,xs,ho,hn,hf,hh,hh2,hk,hfu,hoo⟩ := HIT.out
          exact par_end HP.out.b HP.out.z (only_put6 _ _ _ _ _ _ _ _) ho hn hf hh hh2 (by rw [hoo,HRN.out,loopM_end (Nat.lt_of_le_of_lt (Nat.zero_le _) hfu)];rfl)
        · have e1 := bs_cons hr
          have e2 : (bsL rest).toList.isEmpty = false := by cases hx : (bsL rest).toList with | nil => exact absurd hx e1 | cons _ _ => rfl
          have HRN := Lib.hid hr
          clear hr
          have t8 : wr.cell? ⟨w.heap.size + 1 + 1 + 1 + 1,0,none⟩ = some (.func (.func 20) #[] #[.pointer (some ⟨w.heap.size + 1 + 1,0,none⟩),.pointer (some ⟨w.heap.size + 1 + 1 + 1,0,none⟩)]) := HP.out.t.cell 0 rfl
          obtain ⟨g',rfl⟩ : ∃ g',gk = g' + 1 := ⟨gk - 1,by obtain ⟨_,_,_,_,_,_,_,_,_,h,_⟩ := HIT.out;omega⟩
          obtain ⟨hlo,h,xs,ho,hn,hf,hh,hh2,hk,hfu,hoo⟩ := HIT.out
          have HO := Lib.hid ho
          have HN := Lib.hid hn
          have HF := Lib.hid hf
          have HH := Lib.hid hh
          have HH2 := Lib.hid hh2
          have HK := Lib.hid hk
          have HLO := Lib.hid hlo
          have HFU := Lib.hid hfu
          have HOO := Lib.hid hoo
          have hq1 : rest.length≤1000000 := by omega
          have hq2 : k≤1000000 := by omega
          have HQ1 := Lib.hid hq1
          have HQ2 := Lib.hid hq2
          have hne := HP.out.ne
          have HG1 := Lib.hid (show w.heap.size + 1 + 1 ∉ ownS (w.heap.size + 1) v from fun hm => by
            rcases List.mem_cons.1 hm with e | hm
            · omega
            · exact ho.notin HP.out.st.r (by decide) hm)
          have HG2 := Lib.hid (show w.heap.size + 1 + 1 + 1 ∉ ownS (w.heap.size + 1) v from fun hm => by
            rcases List.mem_cons.1 hm with e | hm
            · omega
            · exact ho.notin HP.out.st.l (by decide) hm)
          have HRD := Lib.hid (show ∀ (W : World) (a : Option Addr) (n c : Nat) (L : List ByteArray),Gl W→SRow W a n c L→SBlk W (w.heap.size + 1) v→(∀ x∈L,x.size≤1000000)→Only [w.heap.size + 1 + 1,w.heap.size + 1 + 1 + 1] wr W→Calls Tryz.prog 30 #[.slice a n c,.pointer (some ⟨w.heap.size + 1,0,none⟩)] W (OutG (YX v w.heap.size xs L) (NX L) (ownS (w.heap.size + 1) v) (w.heap.size + 1) W) from fun W a n c L q1 q2 q3 q4 q5 => by
            have q6 : ∀ i∈[w.heap.size + 1 + 1,w.heap.size + 1 + 1 + 1],NoU wr i := fun i hi => by
              rcases List.mem_cons.1 hi with e | hi
              · subst e;exact Blk.noU HP.out.st.r (by simp)
              · rw [List.mem_singleton] at hi;subst hi;exact Blk.noU HP.out.st.l (by simp)
            refine rdX_t a n c L (w.heap.size + 1) w.heap.size v xs W q1 q2 q3 q4 (ho.only q5 (fun i hi hm => ?_)) (hn.only q5 q6) (Nat.le_trans HP.out.b.size q5.size) (by omega)
            rcases List.mem_cons.1 hm with e | hm
            · exact ho.ne HP.out.st.r (by decide) i hi e
            · rw [List.mem_singleton] at hm;exact ho.ne HP.out.st.l (by decide) i hi hm)
          clear HIT hlo ho hn hf hh hh2 hk hfu hoo hq1 hq2 hne
          go_wp2_with (go_at_call 20;(with_reducible refine (take_change (w.heap.size + 1) (w.heap.size + 1 + 1) (w.heap.size + 1 + 1 + 1) v rest k _ (YX v w.heap.size xs) NX (ownS (w.heap.size + 1) v) HG1.out HG2.out HP.out.vs HP.out.st HQ1.out HQ2.out HRD.out).mono ?_);rintro e w9 ht;obtain ⟨b9,he,hpi⟩ := ch_step HP.out HO.out HF.out HH.out HH2.out HK.out HLO.out HFU.out HRN.out HOO.out ht;subst he;have HV := Lib.hid hpi;clear ht hpi)
          go_roundg g'
          case rel => exact ⟨_,rfl,HV⟩
          case measure => omega
  · obtain ⟨f0,HV⟩ : ∃ f0,Hid (PInv (parseM numS l) w (w.heap.size) (w.heap.size + 1) (w.heap.size + 1 + 1) (w.heap.size + 1 + 1 + 1) (w.heap.size + 1 + 1 + 1 + 1) f0 false w8) := by
      obtain ⟨L1,t1,q,y1,-⟩ : ∃ L,takeM l = some (L,r6)∧YH sv0 L v6 w6 := HI1.out
      obtain ⟨L2,t2,q2,y2,-⟩ : ∃ L,takeM r6 = some (L,r7)∧YC v6 L v7 w7 := HI2.out
      exact ⟨1,Lib.hid (pinv_0 1 HP3.out (parse_2 (lineM_yes t1 y1) (lineM_yes t2 y2) (lineM_no HI3.out)))⟩
    clear HP0 HP1 HP2 HP3 HI1 HI2 HI3 HR1 HR2 HR3
    go_loopg [10] f0 (fun gf t wr => ∃ ok,t = .bool ok∧Hid (PInv (parseM numS l) w (w.heap.size) (w.heap.size + 1) (w.heap.size + 1 + 1) (w.heap.size + 1 + 1 + 1) (w.heap.size + 1 + 1 + 1 + 1) gf ok wr))
    case atStart => exact ⟨_,rfl,HV⟩
    case round =>
      obtain ⟨ok,rfl,HV⟩ := hrel
      obtain ⟨v,rest,k,hp,hi⟩ := HV.out
      have HP := Lib.hid hp
      have HI := Lib.hid hi
      clear hp hi HV
      cases ok with
      | false =>
        have HO := Lib.hid (show parseM numS l = .inl k from HI.out)
        have kl : wr.cell? ⟨w.heap.size + 1 + 1 + 1,0,none⟩ = some (.int .i64 (k : Int)) := HP.out.st.l.cell 0 rfl
        obtain ⟨z0,z1,z2,z3,z4,z5⟩ := HP.out.z.cells
        have zf := Blk.free HP.out.z
        have HB := Lib.hid HP.out.b
        go_wp2_with fail
        go_region
        all_goals
          go_wp2
          refine bodyPost_ret (v := .tuple #[.agg #[.bool false,.slice none 0 0,.slice none 0 0,.int .i64 0,.int .i64 0,.slice none 0 0],.int .i64 200,.int .i64 (k : Int)]) (by simp [results,Tryz.results8,go_sem, *]) rfl ?_
          rw [HO.out]
          exact ⟨rfl,(below_put6 HB.out (Nat.le_refl _) _ _ _ _ _ _).drew⟩
      | true =>
        have HIT := Lib.hid (show k + rest.length≤65600∧∃ (h : Rat) (xs : List CM),OwnN wr w.heap.size v.sl xs∧NumsIn xs wr∧(∀ x∈xs,x.Fit)∧v.h.Is v.h.n v.h.m h wr∧v.h.Fit h∧xs.length≤k∧rest.length < gk∧parseM numS l = endM h v.cas v.bits (loopM numS gk rest k (xs.map CM.told)) from HI.out)
        clear HI
        have c6 : wr.cell? ⟨w.heap.size + 1 + 1,0,none⟩ = some (.string (bsL rest)) := HP.out.st.r.cell 0 rfl
        by_cases hr : rest = []
        · have e1 : (bsL rest).toList = [] := by rw [hr];exact bs_nil
          have e2 : (bsL rest).toList.isEmpty = true := by rw [e1];rfl
          have HRN := Lib.hid hr
          clear hr
          obtain ⟨s0,s1,s2,s3,s4,s5⟩ := HP.out.st.s.cells
          obtain ⟨z0,z1,z2,z3,z4,z5⟩ := HP.out.z.cells
          have zf := Blk.free HP.out.z
          go_wp2_with fail
          refine bodyPost_ret (v := .tuple #[.agg #[.bool v.h.s,.slice v.h.a v.h.n v.h.c,.slice v.h.b v.h.m v.h.d,.int .i64 v.cas,.int .i64 v.bits,.slice v.a v.n v.c],.int .i64 0,.int .i64 0]) (by simp [results,Tryz.results8,go_sem, *]) rfl ?_
          obtain ⟨hlo,h,xs,ho,hn,hf,hh,hh2,hk,hfu,hoo⟩ := HIT.out
          exact par_end HP.out.b HP.out.z (only_put6 _ _ _ _ _ _ _ _) ho hn hf hh hh2 (by rw [hoo,HRN.out,loopM_end (Nat.lt_of_le_of_lt (Nat.zero_le _) hfu)];rfl)
        · have e1 := bs_cons hr
          have e2 : (bsL rest).toList.isEmpty = false := by cases hx : (bsL rest).toList with | nil => exact absurd hx e1 | cons _ _ => rfl
          have HRN := Lib.hid hr
          clear hr
          have t8 : wr.cell? ⟨w.heap.size + 1 + 1 + 1 + 1,0,none⟩ = some (.func (.func 20) #[] #[.pointer (some ⟨w.heap.size + 1 + 1,0,none⟩),.pointer (some ⟨w.heap.size + 1 + 1 + 1,0,none⟩)]) := HP.out.t.cell 0 rfl
          obtain ⟨g',rfl⟩ : ∃ g',gk = g' + 1 := ⟨gk - 1,by obtain ⟨_,_,_,_,_,_,_,_,_,h,_⟩ := HIT.out;omega⟩
          obtain ⟨hlo,h,xs,ho,hn,hf,hh,hh2,hk,hfu,hoo⟩ := HIT.out
          have HO := Lib.hid ho
          have HN := Lib.hid hn
          have HF := Lib.hid hf
          have HH := Lib.hid hh
          have HH2 := Lib.hid hh2
          have HK := Lib.hid hk
          have HLO := Lib.hid hlo
          have HFU := Lib.hid hfu
          have HOO := Lib.hid hoo
          have hq1 : rest.length≤1000000 := by omega
          have hq2 : k≤1000000 := by omega
          have HQ1 := Lib.hid hq1
          have HQ2 := Lib.hid hq2
          have hne := HP.out.ne
          have HG1 := Lib.hid (show w.heap.size + 1 + 1 ∉ ownS (w.heap.size + 1) v from fun hm => by
            rcases List.mem_cons.1 hm with e | hm
            · omega
            · exact ho.notin HP.out.st.r (by decide) hm)
          have HG2 := Lib.hid (show w.heap.size + 1 + 1 + 1 ∉ ownS (w.heap.size + 1) v from fun hm => by
            rcases List.mem_cons.1 hm with e | hm
            · omega
            · exact ho.notin HP.out.st.l (by decide) hm)
          have HRD := Lib.hid (show ∀ (W : World) (a : Option Addr) (n c : Nat) (L : List ByteArray),Gl W→SRow W a n c L→SBlk W (w.heap.size + 1) v→(∀ x∈L,x.size≤1000000)→Only [w.heap.size + 1 + 1,w.heap.size + 1 + 1 + 1] wr W→Calls Tryz.prog 30 #[.slice a n c,.pointer (some ⟨w.heap.size + 1,0,none⟩)] W (OutG (YX v w.heap.size xs L) (NX L) (ownS (w.heap.size + 1) v) (w.heap.size + 1) W) from fun W a n c L q1 q2 q3 q4 q5 => by
            have q6 : ∀ i∈[w.heap.size + 1 + 1,w.heap.size + 1 + 1 + 1],NoU wr i := fun i hi => by
              rcases List.mem_cons.1 hi with e | hi
              · subst e;exact Blk.noU HP.out.st.r (by simp)
              · rw [List.mem_singleton] at hi;subst hi;exact Blk.noU HP.out.st.l (by simp)
            refine rdX_t a n c L (w.heap.size + 1) w.heap.size v xs W q1 q2 q3 q4 (ho.only q5 (fun i hi hm => ?_)) (hn.only q5 q6) (Nat.le_trans HP.out.b.size q5.size) (by omega)
            rcases List.mem_cons.1 hm with e | hm
            · exact ho.ne HP.out.st.r (by decide) i hi e
            · rw [List.mem_singleton] at hm;exact ho.ne HP.out.st.l (by decide) i hi hm)
          clear HIT hlo ho hn hf hh hh2 hk hfu hoo hq1 hq2 hne
          go_wp2_with (go_at_call 20;(with_reducible refine (take_change (w.heap.size + 1) (w.heap.size + 1 + 1) (w.heap.size + 1 + 1 + 1) v rest k _ (YX v w.heap.size xs) NX (ownS (w.heap.size + 1) v) HG1.out HG2.out HP.out.vs HP.out.st HQ1.out HQ2.out HRD.out).mono ?_);rintro e w9 ht;obtain ⟨b9,he,hpi⟩ := ch_step HP.out HO.out HF.out HH.out HH2.out HK.out HLO.out HFU.out HRN.out HOO.out ht;subst he;have HV := Lib.hid hpi;clear ht hpi)
          go_roundg g'
          case rel => exact ⟨_,rfl,HV⟩
          case measure => omega
  · obtain ⟨L1,t1,y1⟩ : ∃ L,takeM l = some (L,r6)∧YH sv0 L v6 w6 := HI1.out
    obtain ⟨L2,t2,y2⟩ : ∃ L,takeM r6 = some (L,r7)∧YC v6 L v7 w7 := HI2.out
    obtain ⟨L3,t3,y3⟩ : ∃ L,takeM r7 = some (L,r8)∧YB v7 L v8 w8 := HI3.out
    obtain ⟨f0,HV⟩ : ∃ f0,Hid (PInv (parseM numS l) w (w.heap.size) (w.heap.size + 1) (w.heap.size + 1 + 1) (w.heap.size + 1 + 1 + 1) (w.heap.size + 1 + 1 + 1 + 1) f0 true w8) := ⟨_,Lib.hid (pinv_3 HP3.out HL.out t1 y1 t2 y2 t3 y3 (fun q hq => HR3.out _ _ (HR2.out _ _ hq)))⟩
    clear HP0 HP1 HP2 HP3 HI1 HI2 HI3 HR1 HR2 HR3 t1 t2 t3 y1 y2 y3
    go_loopg [10] f0 (fun gf t wr => ∃ ok,t = .bool ok∧Hid (PInv (parseM numS l) w (w.heap.size) (w.heap.size + 1) (w.heap.size + 1 + 1) (w.heap.size + 1 + 1 + 1) (w.heap.size + 1 + 1 + 1 + 1) gf ok wr))
    case atStart => exact ⟨_,rfl,HV⟩
    case round =>
      obtain ⟨ok,rfl,HV⟩ := hrel
      obtain ⟨v,rest,k,hp,hi⟩ := HV.out
      have HP := Lib.hid hp
      have HI := Lib.hid hi
      clear hp hi HV
      cases ok with
      | false =>
        have HO := Lib.hid (show parseM numS l = .inl k from HI.out)
        have kl : wr.cell? ⟨w.heap.size + 1 + 1 + 1,0,none⟩ = some (.int .i64 (k : Int)) := HP.out.st.l.cell 0 rfl
        obtain ⟨z0,z1,z2,z3,z4,z5⟩ := HP.out.z.cells
        have zf := Blk.free HP.out.z
        have HB := Lib.hid HP.out.b
        go_wp2_with fail
        go_region
        all_goals
          go_wp2
          refine bodyPost_ret (v := .tuple #[.agg #[.bool false,.slice none 0 0,.slice none 0 0,.int .i64 0,.int .i64 0,.slice none 0 0],.int .i64 200,.int .i64 (k : Int)]) (by simp [results,Tryz.results8,go_sem, *]) rfl ?_
          rw [HO.out]
          exact ⟨rfl,(below_put6 HB.out (Nat.le_refl _) _ _ _ _ _ _).drew⟩
      | true =>
        have HIT := Lib.hid (show k + rest.length≤65600∧∃ (h : Rat) (xs : List CM),OwnN wr w.heap.size v.sl xs∧NumsIn xs wr∧(∀ x∈xs,x.Fit)∧v.h.Is v.h.n v.h.m h wr∧v.h.Fit h∧xs.length≤k∧rest.length < gk∧parseM numS l = endM h v.cas v.bits (loopM numS gk rest k (xs.map CM.told)) from HI.out)
        clear HI
        have c6 : wr.cell? ⟨w.heap.size + 1 + 1,0,none⟩ = some (.string (bsL rest)) := HP.out.st.r.cell 0 rfl
        by_cases hr : rest = []
        · have e1 : (bsL rest).toList = [] := by rw [hr];exact bs_nil
          have e2 : (bsL rest).toList.isEmpty = true := by rw [e1];rfl
          have HRN := Lib.hid hr
          clear hr
          obtain ⟨s0,s1,s2,s3,s4,s5⟩ := HP.out.st.s.cells
          obtain ⟨z0,z1,z2,z3,z4,z5⟩ := HP.out.z.cells
          have zf := Blk.free HP.out.z
          go_wp2_with fail
          refine bodyPost_ret (v := .tuple #[.agg #[.bool v.h.s,.slice v.h.a v.h.n v.h.c,.slice v.h.b v.h.m v.h.d,.int .i64 v.cas,.int .i64 v.bits,.slice v.a v.n v.c],.int .i64 0,.int .i64 0]) (by simp [results,Tryz.results8,go_sem, *]) rfl ?_
          obtain ⟨hlo,h,xs,ho,hn,hf,hh,hh2,hk,hfu,hoo⟩ := HIT.out
          exact par_end HP.out.b HP.out.z (only_put6 _ _ _ _ _ _ _ _) ho hn hf hh hh2 (by rw [hoo,HRN.out,loopM_end (Nat.lt_of_le_of_lt (Nat.zero_le _) hfu)];rfl)
        · have e1 := bs_cons hr
          have e2 : (bsL rest).toList.isEmpty = false := by cases hx : (bsL rest).toList with | nil => exact absurd hx e1 | cons _ _ => rfl
          have HRN := Lib.hid hr
          clear hr
          have t8 : wr.cell? ⟨w.heap.size + 1 + 1 + 1 + 1,0,none⟩ = some (.func (.func 20) #[] #[.pointer (some ⟨w.heap.size + 1 + 1,0,none⟩),.pointer (some ⟨w.heap.size + 1 + 1 + 1,0,none⟩)]) := HP.out.t.cell 0 rfl
          obtain ⟨g',rfl⟩ : ∃ g',gk = g' + 1 := ⟨gk - 1,by obtain ⟨_,_,_,_,_,_,_,_,_,h,_⟩ := HIT.out;omega⟩
          obtain ⟨hlo,h,xs,ho,hn,hf,hh,hh2,hk,hfu,hoo⟩ := HIT.out
          have HO := Lib.hid ho
          have HN := Lib.hid hn
          have HF := Lib.hid hf
          have HH := Lib.hid hh
          have HH2 := Lib.hid hh2
          have HK := Lib.hid hk
          have HLO := Lib.hid hlo
          have HFU := Lib.hid hfu
          have HOO := Lib.hid hoo
          have hq1 : rest.length≤1000000 := by omega
          have hq2 : k≤1000000 := by omega
          have HQ1 := Lib.hid hq1
          have HQ2 := Lib.hid hq2
          have hne := HP.out.ne
          have HG1 := Lib.hid (show w.heap.size + 1 + 1 ∉ ownS (w.heap.size + 1) v from fun hm => by
            rcases List.mem_cons.1 hm with e | hm
            · omega
            · exact ho.notin HP.out.st.r (by decide) hm)
          have HG2 := Lib.hid (show w.heap.size + 1 + 1 + 1 ∉ ownS (w.heap.size + 1) v from fun hm => by
            rcases List.mem_cons.1 hm with e | hm
            · omega
            · exact ho.notin HP.out.st.l (by decide) hm)
          have HRD := Lib.hid (show ∀ (W : World) (a : Option Addr) (n c : Nat) (L : List ByteArray),Gl W→SRow W a n c L→SBlk W (w.heap.size + 1) v→(∀ x∈L,x.size≤1000000)→Only [w.heap.size + 1 + 1,w.heap.size + 1 + 1 + 1] wr W→Calls Tryz.prog 30 #[.slice a n c,.pointer (some ⟨w.heap.size + 1,0,none⟩)] W (OutG (YX v w.heap.size xs L) (NX L) (ownS (w.heap.size + 1) v) (w.heap.size + 1) W) from fun W a n c L q1 q2 q3 q4 q5 => by
            have q6 : ∀ i∈[w.heap.size + 1 + 1,w.heap.size + 1 + 1 + 1],NoU wr i := fun i hi => by
              rcases List.mem_cons.1 hi with e | hi
              · subst e;exact Blk.noU HP.out.st.r (by simp)
              · rw [List.mem_singleton] at hi;subst hi;exact Blk.noU HP.out.st.l (by simp)
            refine rdX_t a n c L (w.heap.size + 1) w.heap.size v xs W q1 q2 q3 q4 (ho.only q5 (fun i hi hm => ?_)) (hn.only q5 q6) (Nat.le_trans HP.out.b.size q5.size) (by omega)
            rcases List.mem_cons.1 hm with e | hm
            · exact ho.ne HP.out.st.r (by decide) i hi e
            · rw [List.mem_singleton] at hm;exact ho.ne HP.out.st.l (by decide) i hi hm)
          clear HIT hlo ho hn hf hh hh2 hk hfu hoo hq1 hq2 hne
          go_wp2_with (go_at_call 20;(with_reducible refine (take_change (w.heap.size + 1) (w.heap.size + 1 + 1) (w.heap.size + 1 + 1 + 1) v rest k _ (YX v w.heap.size xs) NX (ownS (w.heap.size + 1) v) HG1.out HG2.out HP.out.vs HP.out.st HQ1.out HQ2.out HRD.out).mono ?_);rintro e w9 ht;obtain ⟨b9,he,hpi⟩ := ch_step HP.out HO.out HF.out HH.out HH2.out HK.out HLO.out HFU.out HRN.out HOO.out ht;subst he;have HV := Lib.hid hpi;clear ht hpi)
          go_roundg g'
          case rel => exact ⟨_,rfl,HV⟩
          case measure => omega
end Go.Proofs.YtkcgikoploohkaaGreatDoor
