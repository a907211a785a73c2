/- Passed. -/
import Derived.Test.YtmoplgfmngohgaaGreatSvD
import Derived.Test.YtmoplgfmngohgaaGreatSvG
import Derived.Deep.DeepCutAuto
namespace Go.Proofs.YtmoplgfmngohgaaGreat
set_option linter.unusedVariables false
set_option linter.unusedSimpArgs false
set_option maxRecDepth 100000
open Go.RowKit Nums

/-- Passed, of one line, in plain numbers -/
def passedM (t : Rat) (x : LM) : Bool := x.on && decide (x.p < 0) && decide (0 ≤ x.p + x.q * t)
theorem set_next {α : Type} {f : α → Bool} {L : List α} {n k : Nat} {x : α} (hn : L.length = n) (hk : k < n) (hx : L[k]? = some x) {b : Bool} (hb : b = f x) :
    ((L.take k).map f ++ List.replicate (n - k) false).set k b = (L.take (k + 1)).map f ++ List.replicate (n - (k + 1)) false := by
  subst hb
  rw [List.set_append_right _ _ (by simp; omega)]
  rw [List.take_add_one, hx]
  simp only [List.map_append, Option.toList_some, List.map_cons, List.map_nil, List.append_assoc, List.length_map, List.length_take]
  congr 1
  rw [show k - min k L.length = 0 by omega]
  rw [show n - k = (n - (k + 1)) + 1 by omega, List.replicate_succ]
  simp
set_option maxHeartbeats 8000000 in
/-- Passed -/
theorem passed_t (a : Option Addr) (n c : Nat) (L : List LM) (r : RV) (t : Rat) (w : World) (h : LRow w a n c L) (hr : r.Is 8 8 t w) (hS : ∀ x ∈ L, x.Short) (hn : n ≤ 20) :
    Calls Tryz.prog 8 #[.slice a n c, .agg #[.bool r.s, .slice r.a r.n r.c, .slice r.b r.m r.d]] w fun e w' => ∃ g, e = .returned (.slice (some ⟨g, 0, none⟩) n n) ∧ MemB w' g (L.map (passedM t)) ∧ w.heap.size ≤ g ∧ Below w.heap.size w w' := by
  obtain ⟨W1, hW1⟩ : ∃ W1, W1 = w.alloc (.cells #[.bool r.s, .slice r.a r.n r.c, .slice r.b r.m r.d] 27) := ⟨_, rfl⟩
  have hb1 : Below w.heap.size w W1 := by rw [hW1]; exact below_one _ _
  have HB1 := Lib.hid hb1
  have HK1 := Lib.hid (show Blk W1 w.heap.size 27 #[.bool r.s, .slice r.a r.n r.c, .slice r.b r.m r.d] by rw [hW1]; exact Blk.new _ _ _)
  have HH := Lib.hid (fun (W : World) (hb : Below W1.heap.size W1 W) => (h.later hb1).later hb)
  have HR1 := Lib.hid (hr.later hb1)
  have HL := Lib.hid h.1
  have HSH := Lib.hid hS
  have HN := Lib.hid hn
  clear h hr hS hb1 hn
  go_enter Tryz.func8, Tryz.ntmps8
  go_upto_region 1 with fail
  rw [← hW1]; clear hW1
  go_wp2_with (at_make; refine makeB rfl _ rfl _ n rfl rfl (by have := HN.out; omega) ?_)
  intro g w1 hg hmem hb1
  have HG := Lib.hid (show W1.heap.size ≤ g from hg)
  have HM1 := Lib.hid hmem
  have HB2 := Lib.hid hb1
  clear hg hmem hb1
  go_wp2
  go_loopw [13] (fun t13 wr => ∃ k : Nat, k ≤ n ∧ t13 = .int .i64 k ∧ Hid (MemB wr g ((L.take k).map (passedM t) ++ List.replicate (n - k) false)) ∧ Hid (Below W1.heap.size W1 wr)) (fun t _ => n - (intOf t).toNat)
  case atStart => exact ⟨0, Nat.zero_le _, rfl, Lib.hid (by simpa using HM1.out), HB2⟩
  case round =>
    obtain ⟨k, hk, rfl, HM, HB⟩ := hrel
    have hk20 : (k : Int) ≤ 20 := by have := HN.out; omega
    by_cases hlt : k < n
    · obtain ⟨x, hx⟩ : ∃ x, L[k]? = some x := ⟨_, List.getElem?_eq_getElem (by rw [HL.out]; exact hlt)⟩
      obtain ⟨b, off, ha, hbB, hat⟩ := (HH.out _ HB.out).at_ hx
      have HX := Lib.hid hx
      have HSX := Lib.hid (HSH.out x (List.mem_of_getElem? hx))
      have HV := Lib.hid (hat.v.more HSX.out.1 HSX.out.2.1)
      have HZ := Lib.hid (hat.z.more HSX.out.2.2.1 HSX.out.2.2.2)
      have HK := Lib.hid (HK1.out.later HB.out)
      have HRr := Lib.hid (HR1.out.later HB.out)
      subst ha
      obtain ⟨c0, c1, c2, c3, c4, c5, c6, -, -⟩ := hat
      obtain ⟨W2, hW2⟩ : ∃ W2, W2 = wr.alloc (.cells #[.bool x.on, .bool x.v.s, .slice x.v.a x.v.n x.v.c, .slice x.v.b x.v.m x.v.d, .bool x.z.s, .slice x.z.a x.z.n x.z.c, .slice x.z.b x.z.m x.z.d] 37) := ⟨_, rfl⟩
      have hb2 : Below wr.heap.size wr W2 := by rw [hW2]; exact below_one _ _
      have HK2 := Lib.hid (show Blk W2 wr.heap.size 37 #[.bool x.on, .bool x.v.s, .slice x.v.a x.v.n x.v.c, .slice x.v.b x.v.m x.v.d, .bool x.z.s, .slice x.z.a x.z.n x.z.c, .slice x.z.b x.z.m x.z.d] by rw [hW2]; exact Blk.new _ _ _)
      have HB3 := Lib.hid hb2
      clear hx hb2 HSX
      go_upto_region 5 with fail
      rw [← hW2]
      clear hW2 c0 c1 c2 c3 c4 c5 c6 hbB
      have hb := HB3.out
      obtain ⟨p0, p1, p2, p3, p4, p5, p6⟩ := HK2.out.sev
      replace HK := Lib.hid (HK.out.later hb)
      replace HV := Lib.hid (HV.out.later hb)
      replace HZ := Lib.hid (HZ.out.later hb)
      replace HRr := Lib.hid (HRr.out.later hb)
      replace HM := Lib.hid (MemB.below HM.out hb HM.out.lt)
      replace HB := Lib.hid (HB.out.trans (hb.mono HB.out.size))
      clear hb HB3
      obtain ⟨q0, q1, q2, -, -, -, -⟩ := HK.out.tri
      have hlen : k < ((L.take k).map (passedM t) ++ List.replicate (n - k) false).length := by
        have := HL.out; simp; omega
      have m0 := HM.out.cell k hlen
      have m1 := HM.out.free k
      have HLN := Lib.hid hlen
      clear hlen
      by_cases hc : (x.on && decide (x.p < 0)) = true
      · have hon : x.on = true := (Bool.and_eq_true_iff.1 hc).1
        have HP := Lib.hid (show passedM t x = decide (0 ≤ x.p + x.q * t) by unfold passedM; rw [hc]; rfl)
        have HC := Lib.hid hc
        rw [hon] at HK2 p0
        have HON := Lib.hid hon
        clear hc hon
        rcases sgnR_cases (x.p + x.q * t) with ⟨hs0, hs⟩ | ⟨hs0, hs⟩ | ⟨hs0, hs⟩
        all_goals
          have HS0 := Lib.hid hs0
          have HS := Lib.hid hs
          clear hs0 hs
          go_wp2_with (first
            | (go_at_call 19; refine (isBelow_t true x.v x.z _ HV.out (by omega) (by omega)).mono ?_; rintro e w3 ⟨rfl, hb⟩; rw [← HON.out, HC.out]; replace HK2 := Lib.hid (HK2.out.later hb); replace HK := Lib.hid (HK.out.later hb); replace HV := Lib.hid (HV.out.later hb); replace HZ := Lib.hid (HZ.out.later hb); replace HRr := Lib.hid (HRr.out.later hb); replace HM := Lib.hid (MemB.below HM.out hb HM.out.lt); replace HB := Lib.hid (HB.out.trans (hb.mono HB.out.size)); clear p0 p1 p2 p3 p4 p5 p6 q0 q1 q2 m0 m1; obtain ⟨p0, p1, p2, p3, p4, p5, p6⟩ := HK2.out.sev; obtain ⟨q0, q1, q2, -, -, -, -⟩ := HK.out.tri; have m0 := HM.out.cell k HLN.out; have m1 := HM.out.free k; clear hb)
            | (go_at_call 13; refine (at_on 4 4 4 4 8 8 17 16 HV.out HZ.out HRr.out (by omega) (by omega) (by omega) (by omega) (by omega) (by omega) (by omega)).mono ?_; rintro e w4 ⟨r4, rfl, h4, hb⟩; replace HK2 := Lib.hid (HK2.out.later hb); replace HK := Lib.hid (HK.out.later hb); replace HV := Lib.hid (HV.out.later hb); replace HZ := Lib.hid (HZ.out.later hb); replace HRr := Lib.hid (HRr.out.later hb); replace HM := Lib.hid (MemB.below HM.out hb HM.out.lt); replace HB := Lib.hid (HB.out.trans (hb.mono HB.out.size)); clear p0 p1 p2 p3 p4 p5 p6 q0 q1 q2 m0 m1; obtain ⟨p0, p1, p2, p3, p4, p5, p6⟩ := HK2.out.sev; obtain ⟨q0, q1, q2, -, -, -, -⟩ := HK.out.tri; have m0 := HM.out.cell k HLN.out; have m1 := HM.out.free k; have HR4 := Lib.hid h4; clear hb h4)
            | (go_at_call 20; refine (sign_v _ HR4.out HS.out (by omega) (by omega)).mono ?_; rintro e w5 ⟨rfl, hb⟩; replace HK2 := Lib.hid (HK2.out.later hb); replace HK := Lib.hid (HK.out.later hb); replace HV := Lib.hid (HV.out.later hb); replace HZ := Lib.hid (HZ.out.later hb); replace HRr := Lib.hid (HRr.out.later hb); replace HM := Lib.hid (MemB.below HM.out hb HM.out.lt); replace HB := Lib.hid (HB.out.trans (hb.mono HB.out.size)); clear p0 p1 p2 p3 p4 p5 p6 q0 q1 q2 m0 m1; obtain ⟨p0, p1, p2, p3, p4, p5, p6⟩ := HK2.out.sev; obtain ⟨q0, q1, q2, -, -, -, -⟩ := HK.out.tri; have m0 := HM.out.cell k HLN.out; have m1 := HM.out.free k; clear hb))
          go_roundw
          case rel =>
            refine ⟨k + 1, by omega, by go_num, Lib.hid ?_, Lib.hid (HB.out.setCell (p := ⟨g, k, none⟩) HG.out _)⟩
            have hh := MemB.set HM.out k (passedM t x)
            rw [set_next HL.out hlt HX.out rfl] at hh
            rw [HP.out] at hh
            first
              | (rw [show decide (0 ≤ x.p + x.q * t) = true by have := HS0.out; exact decide_eq_true (by grind)] at hh; exact hh)
              | (rw [show decide (0 ≤ x.p + x.q * t) = false by have := HS0.out; exact decide_eq_false (by grind)] at hh; exact hh)
          case measure => simp [intOf]; omega
      · have HP := Lib.hid (show passedM t x = false by unfold passedM; rw [Bool.eq_false_iff.2 hc]; rfl)
        have HC := Lib.hid (Bool.eq_false_iff.2 hc)
        clear hc
        go_wp2_with (first
          | (go_at_call 19; refine (isBelow_t x.on x.v x.z _ HV.out (by omega) (by omega)).mono ?_; rintro e w3 ⟨rfl, hb⟩; rw [HC.out]; replace HK2 := Lib.hid (HK2.out.later hb); replace HK := Lib.hid (HK.out.later hb); replace HV := Lib.hid (HV.out.later hb); replace HZ := Lib.hid (HZ.out.later hb); replace HRr := Lib.hid (HRr.out.later hb); replace HM := Lib.hid (MemB.below HM.out hb HM.out.lt); replace HB := Lib.hid (HB.out.trans (hb.mono HB.out.size)); clear p0 p1 p2 p3 p4 p5 p6 q0 q1 q2 m0 m1; obtain ⟨p0, p1, p2, p3, p4, p5, p6⟩ := HK2.out.sev; obtain ⟨q0, q1, q2, -, -, -, -⟩ := HK.out.tri; have m0 := HM.out.cell k HLN.out; have m1 := HM.out.free k; clear hb))
        go_roundw
        case rel =>
          refine ⟨k + 1, by omega, by go_num, Lib.hid ?_, Lib.hid (HB.out.setCell (p := ⟨g, k, none⟩) HG.out _)⟩
          have hh := MemB.set HM.out k (passedM t x)
          rw [set_next HL.out hlt HX.out rfl] at hh
          rw [HP.out] at hh
          exact hh
        case measure => simp [intOf]; omega
    · obtain rfl : k = n := by omega
      go_wp2
      go_ret
      exact ⟨g, rfl, by have := HM.out; rw [Nat.sub_self, List.replicate_zero, List.append_nil, List.take_of_length_le (by rw [HL.out]; exact Nat.le_refl _)] at this; exact this, Nat.le_trans HB1.out.size HG.out, HB1.out.trans (HB.out.mono HB1.out.size)⟩

end Go.Proofs.YtmoplgfmngohgaaGreat
