/- Passes, of a line that does not pass. -/
import Derived.Test.YtmoplgfmngohgaaGreatSvD
import Derived.Deep.DeepCutAuto
namespace Go.Proofs.YtmoplgfmngohgaaGreat
set_option linter.unusedVariables false
set_option linter.unusedSimpArgs false
set_option maxRecDepth 100000
open Go.RowKit Nums

/-- when a line passes, in plain numbers -/
def passM (on : Bool) (p q : Rat) : Option Rat := if on = true ∧ p < 0 ∧ 0 < q then some (-p / q) else none
/-- a call that tells a number and whether there is one -/
def OptV (k j : Nat) (o : Option Rat) (w : World) (e : Ending) (w' : World) : Prop := match o with
  | none => e = .returned (.tuple #[.agg #[.bool false, .slice none 0 0, .slice none 0 0], .bool false]) ∧ Below w.heap.size w w'
  | some t => ∃ r : RV, e = .returned (.tuple #[.agg #[.bool r.s, .slice r.a r.n r.c, .slice r.b r.m r.d], .bool true]) ∧ r.Is k j t w' ∧ Below w.heap.size w w'

set_option maxHeartbeats 4000000 in
/-- Passes of a line that does not -/
theorem passes_no (on : Bool) (k1 j1 k2 j2 : Nat) {v z : RV} {p q : Rat} {w : World} (hv : v.Is k1 j1 p w) (hz : z.Is k2 j2 q w) (b1 : k1 ≤ 40 ∧ j1 ≤ 40 ∧ k2 ≤ 40 ∧ j2 ≤ 40) (hno : ¬ (on = true ∧ p < 0 ∧ 0 < q)) :
    Calls Tryz.prog 11 #[.agg #[.bool on, .bool v.s, .slice v.a v.n v.c, .slice v.b v.m v.d, .bool z.s, .slice z.a z.n z.c, .slice z.b z.m z.d]] w fun e w' => e = .returned (.tuple #[.agg #[.bool false, .slice none 0 0, .slice none 0 0], .bool false]) ∧ Below w.heap.size w w' := by
  obtain ⟨W1, hW1⟩ : ∃ W1, W1 = w.alloc (.cells #[.bool on, .bool v.s, .slice v.a v.n v.c, .slice v.b v.m v.d, .bool z.s, .slice z.a z.n z.c, .slice z.b z.m z.d] 37) := ⟨_, rfl⟩
  obtain ⟨W2, hW2⟩ : ∃ W2, W2 = W1.alloc (.cells #[.bool false, .slice none 0 0, .slice none 0 0] 27) := ⟨_, rfl⟩
  have hb1 : Below w.heap.size w W1 := by rw [hW1]; exact below_one _ _
  have hb2 : Below W1.heap.size W1 W2 := by rw [hW2]; exact below_one _ _
  have HK1 := Lib.hid ((show Blk W1 w.heap.size 37 #[.bool on, .bool v.s, .slice v.a v.n v.c, .slice v.b v.m v.d, .bool z.s, .slice z.a z.n z.c, .slice z.b z.m z.d] by rw [hW1]; exact Blk.new _ _ _).later hb2)
  have HK2 := Lib.hid (show Blk W2 W1.heap.size 27 #[.bool false, .slice none 0 0, .slice none 0 0] by rw [hW2]; exact Blk.new _ _ _)
  have HB := Lib.hid (bthen hb1 hb2)
  have HV := Lib.hid (hv.later HB.out)
  have HZ := Lib.hid (hz.later HB.out)
  have hs1 : w.heap.size + 1 = W1.heap.size := by rw [hW1]; simp
  have HL := Lib.hid (show w.heap.size < W1.heap.size by omega)
  have BB := Lib.hid b1
  clear hb1 hb2 hv hz b1
  by_cases hc : (on && decide (p < 0)) = true
  · have hq : ¬ 0 < q := fun h => hno ⟨by simpa using (Bool.and_eq_true_iff.1 hc).1, of_decide_eq_true (Bool.and_eq_true_iff.1 hc).2, h⟩
    have HC := Lib.hid hc; clear hc
    rcases sgnR_cases q with ⟨hp, hs⟩ | ⟨hp, hs⟩ | ⟨hp, hs⟩
    · have HS := Lib.hid hs
      clear hno hq hp hs
      obtain ⟨p0, p1, p2, p3, p4, p5, p6⟩ := HK1.out.sev
      obtain ⟨q0, q1, q2, q3, q4, q5, q6⟩ := HK2.out.tri
      have HW1 := Lib.hid hW1
      have HW2 := Lib.hid hW2
      have HS1 := Lib.hid hs1
      clear hW1 hW2 hs1
      go_enter Tryz.func11, Tryz.ntmps11
      go_upto_region 1 with fail
      rw [← HW1.out, ← HW2.out]; simp only [HS1.out]; clear HW1 HW2 HS1
      go_wp2_with (first
        | (go_at_call 19; refine (isBelow_t on v z _ HV.out (by have := BB.out; omega) (by have := BB.out; omega)).mono ?_; rintro e w3 ⟨rfl, hb⟩; rw [HC.out]; replace HV := Lib.hid (HV.out.later hb); replace HZ := Lib.hid (HZ.out.later hb); replace HK1 := Lib.hid (HK1.out.later hb); replace HK2 := Lib.hid (HK2.out.later hb); replace HB := Lib.hid (bthen HB.out hb); clear p0 p1 p2 p3 p4 p5 p6 q0 q1 q2 q3 q4 q5 q6; obtain ⟨p0, p1, p2, p3, p4, p5, p6⟩ := HK1.out.sev; obtain ⟨q0, q1, q2, q3, q4, q5, q6⟩ := HK2.out.tri; clear hb)
        | (go_at_call 20; refine (sign_v _ HZ.out HS.out (by have := BB.out; omega) (by have := BB.out; omega)).mono ?_; rintro e w4 ⟨rfl, hb⟩; replace HV := Lib.hid (HV.out.later hb); replace HZ := Lib.hid (HZ.out.later hb); replace HK1 := Lib.hid (HK1.out.later hb); replace HK2 := Lib.hid (HK2.out.later hb); replace HB := Lib.hid (bthen HB.out hb); clear p0 p1 p2 p3 p4 p5 p6 q0 q1 q2 q3 q4 q5 q6; obtain ⟨p0, p1, p2, p3, p4, p5, p6⟩ := HK1.out.sev; obtain ⟨q0, q1, q2, q3, q4, q5, q6⟩ := HK2.out.tri; clear hb))
      exact bodyPost_ret (v := .tuple #[.agg #[.bool false, .slice none 0 0, .slice none 0 0], .bool false]) (by simp [results, Tryz.results11, go_sem, *]) rfl ⟨rfl, below_put3 HB.out (Nat.le_of_lt HL.out) _ _ _⟩
    · have HS := Lib.hid hs
      clear hno hq hp hs
      obtain ⟨p0, p1, p2, p3, p4, p5, p6⟩ := HK1.out.sev
      obtain ⟨q0, q1, q2, q3, q4, q5, q6⟩ := HK2.out.tri
      have HW1 := Lib.hid hW1
      have HW2 := Lib.hid hW2
      have HS1 := Lib.hid hs1
      clear hW1 hW2 hs1
      go_enter Tryz.func11, Tryz.ntmps11
      go_upto_region 1 with fail
      rw [← HW1.out, ← HW2.out]; simp only [HS1.out]; clear HW1 HW2 HS1
      go_wp2_with (first
        | (go_at_call 19; refine (isBelow_t on v z _ HV.out (by have := BB.out; omega) (by have := BB.out; omega)).mono ?_; rintro e w3 ⟨rfl, hb⟩; rw [HC.out]; replace HV := Lib.hid (HV.out.later hb); replace HZ := Lib.hid (HZ.out.later hb); replace HK1 := Lib.hid (HK1.out.later hb); replace HK2 := Lib.hid (HK2.out.later hb); replace HB := Lib.hid (bthen HB.out hb); clear p0 p1 p2 p3 p4 p5 p6 q0 q1 q2 q3 q4 q5 q6; obtain ⟨p0, p1, p2, p3, p4, p5, p6⟩ := HK1.out.sev; obtain ⟨q0, q1, q2, q3, q4, q5, q6⟩ := HK2.out.tri; clear hb)
        | (go_at_call 20; refine (sign_v _ HZ.out HS.out (by have := BB.out; omega) (by have := BB.out; omega)).mono ?_; rintro e w4 ⟨rfl, hb⟩; replace HV := Lib.hid (HV.out.later hb); replace HZ := Lib.hid (HZ.out.later hb); replace HK1 := Lib.hid (HK1.out.later hb); replace HK2 := Lib.hid (HK2.out.later hb); replace HB := Lib.hid (bthen HB.out hb); clear p0 p1 p2 p3 p4 p5 p6 q0 q1 q2 q3 q4 q5 q6; obtain ⟨p0, p1, p2, p3, p4, p5, p6⟩ := HK1.out.sev; obtain ⟨q0, q1, q2, q3, q4, q5, q6⟩ := HK2.out.tri; clear hb))
      exact bodyPost_ret (v := .tuple #[.agg #[.bool false, .slice none 0 0, .slice none 0 0], .bool false]) (by simp [results, Tryz.results11, go_sem, *]) rfl ⟨rfl, below_put3 HB.out (Nat.le_of_lt HL.out) _ _ _⟩
    · exact absurd hp hq
  · have HC := Lib.hid (Bool.eq_false_iff.2 hc); clear hc hno
    obtain ⟨p0, p1, p2, p3, p4, p5, p6⟩ := HK1.out.sev
    obtain ⟨q0, q1, q2, q3, q4, q5, q6⟩ := HK2.out.tri
    have HW1 := Lib.hid hW1
    have HW2 := Lib.hid hW2
    have HS1 := Lib.hid hs1
    clear hW1 hW2 hs1
    go_enter Tryz.func11, Tryz.ntmps11
    go_upto_region 1 with fail
    rw [← HW1.out, ← HW2.out]; simp only [HS1.out]; clear HW1 HW2 HS1
    go_wp2_with (first
        | (go_at_call 19; refine (isBelow_t on v z _ HV.out (by have := BB.out; omega) (by have := BB.out; omega)).mono ?_; rintro e w3 ⟨rfl, hb⟩; rw [HC.out]; replace HV := Lib.hid (HV.out.later hb); replace HZ := Lib.hid (HZ.out.later hb); replace HK1 := Lib.hid (HK1.out.later hb); replace HK2 := Lib.hid (HK2.out.later hb); replace HB := Lib.hid (bthen HB.out hb); clear p0 p1 p2 p3 p4 p5 p6 q0 q1 q2 q3 q4 q5 q6; obtain ⟨p0, p1, p2, p3, p4, p5, p6⟩ := HK1.out.sev; obtain ⟨q0, q1, q2, q3, q4, q5, q6⟩ := HK2.out.tri; clear hb)
        | (go_at_call 20; refine (sign_v _ HZ.out HS.out (by have := BB.out; omega) (by have := BB.out; omega)).mono ?_; rintro e w4 ⟨rfl, hb⟩; replace HV := Lib.hid (HV.out.later hb); replace HZ := Lib.hid (HZ.out.later hb); replace HK1 := Lib.hid (HK1.out.later hb); replace HK2 := Lib.hid (HK2.out.later hb); replace HB := Lib.hid (bthen HB.out hb); clear p0 p1 p2 p3 p4 p5 p6 q0 q1 q2 q3 q4 q5 q6; obtain ⟨p0, p1, p2, p3, p4, p5, p6⟩ := HK1.out.sev; obtain ⟨q0, q1, q2, q3, q4, q5, q6⟩ := HK2.out.tri; clear hb))
    exact bodyPost_ret (v := .tuple #[.agg #[.bool false, .slice none 0 0, .slice none 0 0], .bool false]) (by simp [results, Tryz.results11, go_sem, *]) rfl ⟨rfl, below_put3 HB.out (Nat.le_of_lt HL.out) _ _ _⟩

/-- the worlds ahead of Passes' last region -/
def PassCut (w : World) (g1 k j : Nat) (t : Rat) (g : Nat) (wx : World) : Prop := g1 < g ∧ ∃ r : RV, Blk wx g 27 #[.bool r.s, .slice r.a r.n r.c, .slice r.b r.m r.d] ∧ r.Is k j t wx ∧ Blk wx g1 27 #[.bool false, .slice none 0 0, .slice none 0 0] ∧ Below w.heap.size w wx
theorem blk_seven {W : World} {g T : Nat} {x0 x1 x2 x3 x4 x5 x6 : Value} (h : Blk W g T #[x0, x1, x2, x3, x4, x5, x6]) : W.cell? ⟨g, 0, none⟩ = some x0 ∧ W.cell? ⟨g, 1, none⟩ = some x1 ∧ W.cell? ⟨g, 2, none⟩ = some x2 ∧ W.cell? ⟨g, 3, none⟩ = some x3 ∧ W.cell? ⟨g, 4, none⟩ = some x4 ∧ W.cell? ⟨g, 5, none⟩ = some x5 ∧ W.cell? ⟨g, 6, none⟩ = some x6 := h.sev

end Go.Proofs.YtmoplgfmngohgaaGreat
