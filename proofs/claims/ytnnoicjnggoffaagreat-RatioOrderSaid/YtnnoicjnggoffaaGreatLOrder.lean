/- RatioOrder holds: numbers are ordered, as sums, opposites and products with what is above nought go. No condition. -/
import Derived.Test.YtnnoicjnggoffaaGreatQC
import Derived.Test.YtnnoicjnggoffaaGreatQG
import Derived.Test.YtnnoicjnggoffaaGreatQD
import Derived.Deep.RegionHeld3
import Derived.ProofKit
import Derived.OpenShut
import Derived.ShutString
import Derived.ChangeOld
namespace Go.Proofs.YtnnoicjnggoffaaGreat
set_option linter.unusedVariables false
set_option linter.unusedSimpArgs false
set_option maxRecDepth 100000
open Go.RowKit Nums

theorem num_pos' {q : Rat} (h : 0 < q) : 0 < q.num := by
  have h1 : 0 ≤ q.num := Rat.num_nonneg.2 (Rat.le_of_lt h)
  have h2 : q.num ≠ 0 := fun e => by rw [Rat.num_eq_zero] at e; subst e; exact absurd h (by decide)
  omega
theorem num_neg' {q : Rat} (h : q < 0) : q.num < 0 := by
  have h1 : ¬ 0 ≤ q.num := fun e => by rw [Rat.num_nonneg] at e; exact (Rat.not_le.2 h) e
  omega
theorem sgn_zero_num {q : Rat} : sgn q.num = 0 ↔ q = 0 := by
  rw [← Rat.num_eq_zero]; unfold sgn; split <;> (try split) <;> omega
theorem sgn_cmp (p q : Rat) : sgn (p - q).num = cmpR p q := by
  rcases rat_tri p q with h | h | h
  · rw [cmpR_lt h]
    have : p - q < 0 := by rw [Rat.sub_lt_iff, Rat.zero_add]; exact h
    have : (p - q).num < 0 := num_neg' this
    rw [sgn, if_pos this]
  · subst h; rw [cmpR_eq rfl, Rat.sub_self]; rfl
  · rw [cmpR_gt h]
    have : 0 < p - q := (Rat.lt_iff_sub_pos q p).1 h
    have : 0 < (p - q).num := num_pos' this
    rw [sgn, if_neg (by omega), if_pos this]
theorem cmpR_swap (p q : Rat) : cmpR q p = -cmpR p q := cmpZ_swap _ _
theorem cmpR_add (p q r : Rat) : cmpR (p + r) (q + r) = cmpR p q := by
  rcases rat_tri p q with h | h | h
  · rw [cmpR_lt h, cmpR_lt (Rat.add_lt_add_right.2 h)]
  · subst h; rw [cmpR_eq rfl, cmpR_eq rfl]
  · rw [cmpR_gt h, cmpR_gt (Rat.add_lt_add_right.2 h)]
theorem cmpR_mul (p q u : Rat) (hu : 0 < u) : cmpR (p * u) (q * u) = cmpR p q := by
  rcases rat_tri p q with h | h | h
  · rw [cmpR_lt h, cmpR_lt (Rat.mul_lt_mul_of_pos_right h hu)]
  · subst h; rw [cmpR_eq rfl, cmpR_eq rfl]
  · rw [cmpR_gt h, cmpR_gt (Rat.mul_lt_mul_of_pos_right h hu)]
theorem square_sgn (r : Rat) : (sgn (r * r).num = 0 ∧ r * r = 0) ∨ (sgn (r * r).num = 1 ∧ 0 < r * r) := by
  rcases rat_tri r 0 with h | h | h
  · right
    have h1 : 0 < -r := by rw [Rat.lt_neg_iff]; simpa using h
    have h2 : 0 < -r * -r := Rat.mul_pos h1 h1
    rw [Rat.neg_mul, Rat.mul_neg, Rat.neg_neg] at h2
    have : 0 < (r * r).num := num_pos' h2
    exact ⟨by rw [sgn, if_neg (by omega), if_pos this], h2⟩
  · left; subst h; exact ⟨by rw [Rat.zero_mul]; rfl, Rat.zero_mul _⟩
  · right
    have h2 := Rat.mul_pos h h
    have : 0 < (r * r).num := num_pos' h2
    exact ⟨by rw [sgn, if_neg (by omega), if_pos this], h2⟩
theorem cmpR_any (p q : Rat) : cmpR p q = 0 ∨ cmpR p q = 1 ∨ cmpR p q = -1 := by
  rcases rat_tri p q with h | h | h
  · exact Or.inr (Or.inr (cmpR_lt h))
  · exact Or.inl (cmpR_eq h)
  · exact Or.inr (Or.inl (cmpR_gt h))

end Go.Proofs.YtnnoicjnggoffaaGreat
/- RatioOrder, where a number is long. -/
namespace Go.Proofs.YtnnoicjnggoffaaGreat
set_option linter.unusedVariables false
set_option linter.unusedSimpArgs false
set_option maxRecDepth 100000
open Go.RowKit Nums

set_option maxHeartbeats 4000000 in
theorem ratioOrder_out0n (s0 s1 s2 : Bool) (a0 b0 a1 b1 a2 b2 : Option Addr) (n0 c0 m0 d0 n1 c1 m1 d1 n2 c2 m2 d2 : Nat) (w : World) (hbad : 4 < n0) :
    Calls Tryz.prog 8 #[.agg #[.bool s0, .slice a0 n0 c0, .slice b0 m0 d0], .agg #[.bool s1, .slice a1 n1 c1, .slice b1 m1 d1], .agg #[.bool s2, .slice a2 n2 c2, .slice b2 m2 d2]] w fun e w' => e = .returned (.bool true) ∧ Below w.heap.size w w' := by
  have HB := Lib.hid (below_four w (.cells #[.bool s0, .slice a0 n0 c0, .slice b0 m0 d0] 26) (.cells #[.bool s1, .slice a1 n1 c1, .slice b1 m1 d1] 26) (.cells #[.bool s2, .slice a2 n2 c2, .slice b2 m2 d2] 26) (.cells #[.bool s0, .slice a0 n0 c0, .slice b0 m0 d0, .bool s1, .slice a1 n1 c1, .slice b1 m1 d1, .bool s2, .slice a2 n2 c2, .slice b2 m2 d2] 26))
  have ka0 := cell_new (((w.alloc (.cells #[.bool s0, .slice a0 n0 c0, .slice b0 m0 d0] 26)).alloc (.cells #[.bool s1, .slice a1 n1 c1, .slice b1 m1 d1] 26)).alloc (.cells #[.bool s2, .slice a2 n2 c2, .slice b2 m2 d2] 26)) #[.bool s0, .slice a0 n0 c0, .slice b0 m0 d0, .bool s1, .slice a1 n1 c1, .slice b1 m1 d1, .bool s2, .slice a2 n2 c2, .slice b2 m2 d2] 26 1
  have kb0 := cell_new (((w.alloc (.cells #[.bool s0, .slice a0 n0 c0, .slice b0 m0 d0] 26)).alloc (.cells #[.bool s1, .slice a1 n1 c1, .slice b1 m1 d1] 26)).alloc (.cells #[.bool s2, .slice a2 n2 c2, .slice b2 m2 d2] 26)) #[.bool s0, .slice a0 n0 c0, .slice b0 m0 d0, .bool s1, .slice a1 n1 c1, .slice b1 m1 d1, .bool s2, .slice a2 n2 c2, .slice b2 m2 d2] 26 2
  have ka1 := cell_new (((w.alloc (.cells #[.bool s0, .slice a0 n0 c0, .slice b0 m0 d0] 26)).alloc (.cells #[.bool s1, .slice a1 n1 c1, .slice b1 m1 d1] 26)).alloc (.cells #[.bool s2, .slice a2 n2 c2, .slice b2 m2 d2] 26)) #[.bool s0, .slice a0 n0 c0, .slice b0 m0 d0, .bool s1, .slice a1 n1 c1, .slice b1 m1 d1, .bool s2, .slice a2 n2 c2, .slice b2 m2 d2] 26 4
  have kb1 := cell_new (((w.alloc (.cells #[.bool s0, .slice a0 n0 c0, .slice b0 m0 d0] 26)).alloc (.cells #[.bool s1, .slice a1 n1 c1, .slice b1 m1 d1] 26)).alloc (.cells #[.bool s2, .slice a2 n2 c2, .slice b2 m2 d2] 26)) #[.bool s0, .slice a0 n0 c0, .slice b0 m0 d0, .bool s1, .slice a1 n1 c1, .slice b1 m1 d1, .bool s2, .slice a2 n2 c2, .slice b2 m2 d2] 26 5
  have ka2 := cell_new (((w.alloc (.cells #[.bool s0, .slice a0 n0 c0, .slice b0 m0 d0] 26)).alloc (.cells #[.bool s1, .slice a1 n1 c1, .slice b1 m1 d1] 26)).alloc (.cells #[.bool s2, .slice a2 n2 c2, .slice b2 m2 d2] 26)) #[.bool s0, .slice a0 n0 c0, .slice b0 m0 d0, .bool s1, .slice a1 n1 c1, .slice b1 m1 d1, .bool s2, .slice a2 n2 c2, .slice b2 m2 d2] 26 7
  have kb2 := cell_new (((w.alloc (.cells #[.bool s0, .slice a0 n0 c0, .slice b0 m0 d0] 26)).alloc (.cells #[.bool s1, .slice a1 n1 c1, .slice b1 m1 d1] 26)).alloc (.cells #[.bool s2, .slice a2 n2 c2, .slice b2 m2 d2] 26)) #[.bool s0, .slice a0 n0 c0, .slice b0 m0 d0, .bool s1, .slice a1 n1 c1, .slice b1 m1 d1, .bool s2, .slice a2 n2 c2, .slice b2 m2 d2] 26 8
  rw [show (((w.alloc (.cells #[.bool s0, .slice a0 n0 c0, .slice b0 m0 d0] 26)).alloc (.cells #[.bool s1, .slice a1 n1 c1, .slice b1 m1 d1] 26)).alloc (.cells #[.bool s2, .slice a2 n2 c2, .slice b2 m2 d2] 26)).heap.size = w.heap.size + 1 + 1 + 1 from by simp] at ka0 kb0 ka1 kb1 ka2 kb2
  go_enter Tryz.func8, Tryz.ntmps8
  go_wp2_with fail
  refine (few3_no0n (w.heap.size + 1 + 1 + 1) a0 b0 n0 c0 m0 d0 a1 b1 n1 c1 m1 d1 a2 b2 n2 c2 m2 d2 _ ka0 kb0 ka1 kb1 ka2 kb2 hbad).mono ?_
  rintro e w' ⟨rfl, rfl⟩
  go_wp2
  go_ret
  exact ⟨rfl, HB.out⟩

set_option maxHeartbeats 4000000 in
theorem ratioOrder_out0m (s0 s1 s2 : Bool) (a0 b0 a1 b1 a2 b2 : Option Addr) (n0 c0 m0 d0 n1 c1 m1 d1 n2 c2 m2 d2 : Nat) (w : World) (hn0 : n0 ≤ 4) (hbad : 4 < m0) :
    Calls Tryz.prog 8 #[.agg #[.bool s0, .slice a0 n0 c0, .slice b0 m0 d0], .agg #[.bool s1, .slice a1 n1 c1, .slice b1 m1 d1], .agg #[.bool s2, .slice a2 n2 c2, .slice b2 m2 d2]] w fun e w' => e = .returned (.bool true) ∧ Below w.heap.size w w' := by
  have HB := Lib.hid (below_four w (.cells #[.bool s0, .slice a0 n0 c0, .slice b0 m0 d0] 26) (.cells #[.bool s1, .slice a1 n1 c1, .slice b1 m1 d1] 26) (.cells #[.bool s2, .slice a2 n2 c2, .slice b2 m2 d2] 26) (.cells #[.bool s0, .slice a0 n0 c0, .slice b0 m0 d0, .bool s1, .slice a1 n1 c1, .slice b1 m1 d1, .bool s2, .slice a2 n2 c2, .slice b2 m2 d2] 26))
  have ka0 := cell_new (((w.alloc (.cells #[.bool s0, .slice a0 n0 c0, .slice b0 m0 d0] 26)).alloc (.cells #[.bool s1, .slice a1 n1 c1, .slice b1 m1 d1] 26)).alloc (.cells #[.bool s2, .slice a2 n2 c2, .slice b2 m2 d2] 26)) #[.bool s0, .slice a0 n0 c0, .slice b0 m0 d0, .bool s1, .slice a1 n1 c1, .slice b1 m1 d1, .bool s2, .slice a2 n2 c2, .slice b2 m2 d2] 26 1
  have kb0 := cell_new (((w.alloc (.cells #[.bool s0, .slice a0 n0 c0, .slice b0 m0 d0] 26)).alloc (.cells #[.bool s1, .slice a1 n1 c1, .slice b1 m1 d1] 26)).alloc (.cells #[.bool s2, .slice a2 n2 c2, .slice b2 m2 d2] 26)) #[.bool s0, .slice a0 n0 c0, .slice b0 m0 d0, .bool s1, .slice a1 n1 c1, .slice b1 m1 d1, .bool s2, .slice a2 n2 c2, .slice b2 m2 d2] 26 2
  have ka1 := cell_new (((w.alloc (.cells #[.bool s0, .slice a0 n0 c0, .slice b0 m0 d0] 26)).alloc (.cells #[.bool s1, .slice a1 n1 c1, .slice b1 m1 d1] 26)).alloc (.cells #[.bool s2, .slice a2 n2 c2, .slice b2 m2 d2] 26)) #[.bool s0, .slice a0 n0 c0, .slice b0 m0 d0, .bool s1, .slice a1 n1 c1, .slice b1 m1 d1, .bool s2, .slice a2 n2 c2, .slice b2 m2 d2] 26 4
  have kb1 := cell_new (((w.alloc (.cells #[.bool s0, .slice a0 n0 c0, .slice b0 m0 d0] 26)).alloc (.cells #[.bool s1, .slice a1 n1 c1, .slice b1 m1 d1] 26)).alloc (.cells #[.bool s2, .slice a2 n2 c2, .slice b2 m2 d2] 26)) #[.bool s0, .slice a0 n0 c0, .slice b0 m0 d0, .bool s1, .slice a1 n1 c1, .slice b1 m1 d1, .bool s2, .slice a2 n2 c2, .slice b2 m2 d2] 26 5
  have ka2 := cell_new (((w.alloc (.cells #[.bool s0, .slice a0 n0 c0, .slice b0 m0 d0] 26)).alloc (.cells #[.bool s1, .slice a1 n1 c1, .slice b1 m1 d1] 26)).alloc (.cells #[.bool s2, .slice a2 n2 c2, .slice b2 m2 d2] 26)) #[.bool s0, .slice a0 n0 c0, .slice b0 m0 d0, .bool s1, .slice a1 n1 c1, .slice b1 m1 d1, .bool s2, .slice a2 n2 c2, .slice b2 m2 d2] 26 7
  have kb2 := cell_new (((w.alloc (.cells #[.bool s0, .slice a0 n0 c0, .slice b0 m0 d0] 26)).alloc (.cells #[.bool s1, .slice a1 n1 c1, .slice b1 m1 d1] 26)).alloc (.cells #[.bool s2, .slice a2 n2 c2, .slice b2 m2 d2] 26)) #[.bool s0, .slice a0 n0 c0, .slice b0 m0 d0, .bool s1, .slice a1 n1 c1, .slice b1 m1 d1, .bool s2, .slice a2 n2 c2, .slice b2 m2 d2] 26 8
  rw [show (((w.alloc (.cells #[.bool s0, .slice a0 n0 c0, .slice b0 m0 d0] 26)).alloc (.cells #[.bool s1, .slice a1 n1 c1, .slice b1 m1 d1] 26)).alloc (.cells #[.bool s2, .slice a2 n2 c2, .slice b2 m2 d2] 26)).heap.size = w.heap.size + 1 + 1 + 1 from by simp] at ka0 kb0 ka1 kb1 ka2 kb2
  go_enter Tryz.func8, Tryz.ntmps8
  go_wp2_with fail
  refine (few3_no0m (w.heap.size + 1 + 1 + 1) a0 b0 n0 c0 m0 d0 a1 b1 n1 c1 m1 d1 a2 b2 n2 c2 m2 d2 _ ka0 kb0 ka1 kb1 ka2 kb2 hn0 hbad).mono ?_
  rintro e w' ⟨rfl, rfl⟩
  go_wp2
  go_ret
  exact ⟨rfl, HB.out⟩

set_option maxHeartbeats 4000000 in
theorem ratioOrder_out1n (s0 s1 s2 : Bool) (a0 b0 a1 b1 a2 b2 : Option Addr) (n0 c0 m0 d0 n1 c1 m1 d1 n2 c2 m2 d2 : Nat) (w : World) (hn0 : n0 ≤ 4) (hm0 : m0 ≤ 4) (hbad : 4 < n1) :
    Calls Tryz.prog 8 #[.agg #[.bool s0, .slice a0 n0 c0, .slice b0 m0 d0], .agg #[.bool s1, .slice a1 n1 c1, .slice b1 m1 d1], .agg #[.bool s2, .slice a2 n2 c2, .slice b2 m2 d2]] w fun e w' => e = .returned (.bool true) ∧ Below w.heap.size w w' := by
  have HB := Lib.hid (below_four w (.cells #[.bool s0, .slice a0 n0 c0, .slice b0 m0 d0] 26) (.cells #[.bool s1, .slice a1 n1 c1, .slice b1 m1 d1] 26) (.cells #[.bool s2, .slice a2 n2 c2, .slice b2 m2 d2] 26) (.cells #[.bool s0, .slice a0 n0 c0, .slice b0 m0 d0, .bool s1, .slice a1 n1 c1, .slice b1 m1 d1, .bool s2, .slice a2 n2 c2, .slice b2 m2 d2] 26))
  have ka0 := cell_new (((w.alloc (.cells #[.bool s0, .slice a0 n0 c0, .slice b0 m0 d0] 26)).alloc (.cells #[.bool s1, .slice a1 n1 c1, .slice b1 m1 d1] 26)).alloc (.cells #[.bool s2, .slice a2 n2 c2, .slice b2 m2 d2] 26)) #[.bool s0, .slice a0 n0 c0, .slice b0 m0 d0, .bool s1, .slice a1 n1 c1, .slice b1 m1 d1, .bool s2, .slice a2 n2 c2, .slice b2 m2 d2] 26 1
  have kb0 := cell_new (((w.alloc (.cells #[.bool s0, .slice a0 n0 c0, .slice b0 m0 d0] 26)).alloc (.cells #[.bool s1, .slice a1 n1 c1, .slice b1 m1 d1] 26)).alloc (.cells #[.bool s2, .slice a2 n2 c2, .slice b2 m2 d2] 26)) #[.bool s0, .slice a0 n0 c0, .slice b0 m0 d0, .bool s1, .slice a1 n1 c1, .slice b1 m1 d1, .bool s2, .slice a2 n2 c2, .slice b2 m2 d2] 26 2
  have ka1 := cell_new (((w.alloc (.cells #[.bool s0, .slice a0 n0 c0, .slice b0 m0 d0] 26)).alloc (.cells #[.bool s1, .slice a1 n1 c1, .slice b1 m1 d1] 26)).alloc (.cells #[.bool s2, .slice a2 n2 c2, .slice b2 m2 d2] 26)) #[.bool s0, .slice a0 n0 c0, .slice b0 m0 d0, .bool s1, .slice a1 n1 c1, .slice b1 m1 d1, .bool s2, .slice a2 n2 c2, .slice b2 m2 d2] 26 4
  have kb1 := cell_new (((w.alloc (.cells #[.bool s0, .slice a0 n0 c0, .slice b0 m0 d0] 26)).alloc (.cells #[.bool s1, .slice a1 n1 c1, .slice b1 m1 d1] 26)).alloc (.cells #[.bool s2, .slice a2 n2 c2, .slice b2 m2 d2] 26)) #[.bool s0, .slice a0 n0 c0, .slice b0 m0 d0, .bool s1, .slice a1 n1 c1, .slice b1 m1 d1, .bool s2, .slice a2 n2 c2, .slice b2 m2 d2] 26 5
  have ka2 := cell_new (((w.alloc (.cells #[.bool s0, .slice a0 n0 c0, .slice b0 m0 d0] 26)).alloc (.cells #[.bool s1, .slice a1 n1 c1, .slice b1 m1 d1] 26)).alloc (.cells #[.bool s2, .slice a2 n2 c2, .slice b2 m2 d2] 26)) #[.bool s0, .slice a0 n0 c0, .slice b0 m0 d0, .bool s1, .slice a1 n1 c1, .slice b1 m1 d1, .bool s2, .slice a2 n2 c2, .slice b2 m2 d2] 26 7
  have kb2 := cell_new (((w.alloc (.cells #[.bool s0, .slice a0 n0 c0, .slice b0 m0 d0] 26)).alloc (.cells #[.bool s1, .slice a1 n1 c1, .slice b1 m1 d1] 26)).alloc (.cells #[.bool s2, .slice a2 n2 c2, .slice b2 m2 d2] 26)) #[.bool s0, .slice a0 n0 c0, .slice b0 m0 d0, .bool s1, .slice a1 n1 c1, .slice b1 m1 d1, .bool s2, .slice a2 n2 c2, .slice b2 m2 d2] 26 8
  rw [show (((w.alloc (.cells #[.bool s0, .slice a0 n0 c0, .slice b0 m0 d0] 26)).alloc (.cells #[.bool s1, .slice a1 n1 c1, .slice b1 m1 d1] 26)).alloc (.cells #[.bool s2, .slice a2 n2 c2, .slice b2 m2 d2] 26)).heap.size = w.heap.size + 1 + 1 + 1 from by simp] at ka0 kb0 ka1 kb1 ka2 kb2
  go_enter Tryz.func8, Tryz.ntmps8
  go_wp2_with fail
  refine (few3_no1n (w.heap.size + 1 + 1 + 1) a0 b0 n0 c0 m0 d0 a1 b1 n1 c1 m1 d1 a2 b2 n2 c2 m2 d2 _ ka0 kb0 ka1 kb1 ka2 kb2 hn0 hm0 hbad).mono ?_
  rintro e w' ⟨rfl, rfl⟩
  go_wp2
  go_ret
  exact ⟨rfl, HB.out⟩

set_option maxHeartbeats 4000000 in
theorem ratioOrder_out1m (s0 s1 s2 : Bool) (a0 b0 a1 b1 a2 b2 : Option Addr) (n0 c0 m0 d0 n1 c1 m1 d1 n2 c2 m2 d2 : Nat) (w : World) (hn0 : n0 ≤ 4) (hm0 : m0 ≤ 4) (hn1 : n1 ≤ 4) (hbad : 4 < m1) :
    Calls Tryz.prog 8 #[.agg #[.bool s0, .slice a0 n0 c0, .slice b0 m0 d0], .agg #[.bool s1, .slice a1 n1 c1, .slice b1 m1 d1], .agg #[.bool s2, .slice a2 n2 c2, .slice b2 m2 d2]] w fun e w' => e = .returned (.bool true) ∧ Below w.heap.size w w' := by
  have HB := Lib.hid (below_four w (.cells #[.bool s0, .slice a0 n0 c0, .slice b0 m0 d0] 26) (.cells #[.bool s1, .slice a1 n1 c1, .slice b1 m1 d1] 26) (.cells #[.bool s2, .slice a2 n2 c2, .slice b2 m2 d2] 26) (.cells #[.bool s0, .slice a0 n0 c0, .slice b0 m0 d0, .bool s1, .slice a1 n1 c1, .slice b1 m1 d1, .bool s2, .slice a2 n2 c2, .slice b2 m2 d2] 26))
  have ka0 := cell_new (((w.alloc (.cells #[.bool s0, .slice a0 n0 c0, .slice b0 m0 d0] 26)).alloc (.cells #[.bool s1, .slice a1 n1 c1, .slice b1 m1 d1] 26)).alloc (.cells #[.bool s2, .slice a2 n2 c2, .slice b2 m2 d2] 26)) #[.bool s0, .slice a0 n0 c0, .slice b0 m0 d0, .bool s1, .slice a1 n1 c1, .slice b1 m1 d1, .bool s2, .slice a2 n2 c2, .slice b2 m2 d2] 26 1
  have kb0 := cell_new (((w.alloc (.cells #[.bool s0, .slice a0 n0 c0, .slice b0 m0 d0] 26)).alloc (.cells #[.bool s1, .slice a1 n1 c1, .slice b1 m1 d1] 26)).alloc (.cells #[.bool s2, .slice a2 n2 c2, .slice b2 m2 d2] 26)) #[.bool s0, .slice a0 n0 c0, .slice b0 m0 d0, .bool s1, .slice a1 n1 c1, .slice b1 m1 d1, .bool s2, .slice a2 n2 c2, .slice b2 m2 d2] 26 2
  have ka1 := cell_new (((w.alloc (.cells #[.bool s0, .slice a0 n0 c0, .slice b0 m0 d0] 26)).alloc (.cells #[.bool s1, .slice a1 n1 c1, .slice b1 m1 d1] 26)).alloc (.cells #[.bool s2, .slice a2 n2 c2, .slice b2 m2 d2] 26)) #[.bool s0, .slice a0 n0 c0, .slice b0 m0 d0, .bool s1, .slice a1 n1 c1, .slice b1 m1 d1, .bool s2, .slice a2 n2 c2, .slice b2 m2 d2] 26 4
  have kb1 := cell_new (((w.alloc (.cells #[.bool s0, .slice a0 n0 c0, .slice b0 m0 d0] 26)).alloc (.cells #[.bool s1, .slice a1 n1 c1, .slice b1 m1 d1] 26)).alloc (.cells #[.bool s2, .slice a2 n2 c2, .slice b2 m2 d2] 26)) #[.bool s0, .slice a0 n0 c0, .slice b0 m0 d0, .bool s1, .slice a1 n1 c1, .slice b1 m1 d1, .bool s2, .slice a2 n2 c2, .slice b2 m2 d2] 26 5
  have ka2 := cell_new (((w.alloc (.cells #[.bool s0, .slice a0 n0 c0, .slice b0 m0 d0] 26)).alloc (.cells #[.bool s1, .slice a1 n1 c1, .slice b1 m1 d1] 26)).alloc (.cells #[.bool s2, .slice a2 n2 c2, .slice b2 m2 d2] 26)) #[.bool s0, .slice a0 n0 c0, .slice b0 m0 d0, .bool s1, .slice a1 n1 c1, .slice b1 m1 d1, .bool s2, .slice a2 n2 c2, .slice b2 m2 d2] 26 7
  have kb2 := cell_new (((w.alloc (.cells #[.bool s0, .slice a0 n0 c0, .slice b0 m0 d0] 26)).alloc (.cells #[.bool s1, .slice a1 n1 c1, .slice b1 m1 d1] 26)).alloc (.cells #[.bool s2, .slice a2 n2 c2, .slice b2 m2 d2] 26)) #[.bool s0, .slice a0 n0 c0, .slice b0 m0 d0, .bool s1, .slice a1 n1 c1, .slice b1 m1 d1, .bool s2, .slice a2 n2 c2, .slice b2 m2 d2] 26 8
  rw [show (((w.alloc (.cells #[.bool s0, .slice a0 n0 c0, .slice b0 m0 d0] 26)).alloc (.cells #[.bool s1, .slice a1 n1 c1, .slice b1 m1 d1] 26)).alloc (.cells #[.bool s2, .slice a2 n2 c2, .slice b2 m2 d2] 26)).heap.size = w.heap.size + 1 + 1 + 1 from by simp] at ka0 kb0 ka1 kb1 ka2 kb2
  go_enter Tryz.func8, Tryz.ntmps8
  go_wp2_with fail
  refine (few3_no1m (w.heap.size + 1 + 1 + 1) a0 b0 n0 c0 m0 d0 a1 b1 n1 c1 m1 d1 a2 b2 n2 c2 m2 d2 _ ka0 kb0 ka1 kb1 ka2 kb2 hn0 hm0 hn1 hbad).mono ?_
  rintro e w' ⟨rfl, rfl⟩
  go_wp2
  go_ret
  exact ⟨rfl, HB.out⟩

set_option maxHeartbeats 4000000 in
theorem ratioOrder_out2n (s0 s1 s2 : Bool) (a0 b0 a1 b1 a2 b2 : Option Addr) (n0 c0 m0 d0 n1 c1 m1 d1 n2 c2 m2 d2 : Nat) (w : World) (hn0 : n0 ≤ 4) (hm0 : m0 ≤ 4) (hn1 : n1 ≤ 4) (hm1 : m1 ≤ 4) (hbad : 4 < n2) :
    Calls Tryz.prog 8 #[.agg #[.bool s0, .slice a0 n0 c0, .slice b0 m0 d0], .agg #[.bool s1, .slice a1 n1 c1, .slice b1 m1 d1], .agg #[.bool s2, .slice a2 n2 c2, .slice b2 m2 d2]] w fun e w' => e = .returned (.bool true) ∧ Below w.heap.size w w' := by
  have HB := Lib.hid (below_four w (.cells #[.bool s0, .slice a0 n0 c0, .slice b0 m0 d0] 26) (.cells #[.bool s1, .slice a1 n1 c1, .slice b1 m1 d1] 26) (.cells #[.bool s2, .slice a2 n2 c2, .slice b2 m2 d2] 26) (.cells #[.bool s0, .slice a0 n0 c0, .slice b0 m0 d0, .bool s1, .slice a1 n1 c1, .slice b1 m1 d1, .bool s2, .slice a2 n2 c2, .slice b2 m2 d2] 26))
  have ka0 := cell_new (((w.alloc (.cells #[.bool s0, .slice a0 n0 c0, .slice b0 m0 d0] 26)).alloc (.cells #[.bool s1, .slice a1 n1 c1, .slice b1 m1 d1] 26)).alloc (.cells #[.bool s2, .slice a2 n2 c2, .slice b2 m2 d2] 26)) #[.bool s0, .slice a0 n0 c0, .slice b0 m0 d0, .bool s1, .slice a1 n1 c1, .slice b1 m1 d1, .bool s2, .slice a2 n2 c2, .slice b2 m2 d2] 26 1
  have kb0 := cell_new (((w.alloc (.cells #[.bool s0, .slice a0 n0 c0, .slice b0 m0 d0] 26)).alloc (.cells #[.bool s1, .slice a1 n1 c1, .slice b1 m1 d1] 26)).alloc (.cells #[.bool s2, .slice a2 n2 c2, .slice b2 m2 d2] 26)) #[.bool s0, .slice a0 n0 c0, .slice b0 m0 d0, .bool s1, .slice a1 n1 c1, .slice b1 m1 d1, .bool s2, .slice a2 n2 c2, .slice b2 m2 d2] 26 2
  have ka1 := cell_new (((w.alloc (.cells #[.bool s0, .slice a0 n0 c0, .slice b0 m0 d0] 26)).alloc (.cells #[.bool s1, .slice a1 n1 c1, .slice b1 m1 d1] 26)).alloc (.cells #[.bool s2, .slice a2 n2 c2, .slice b2 m2 d2] 26)) #[.bool s0, .slice a0 n0 c0, .slice b0 m0 d0, .bool s1, .slice a1 n1 c1, .slice b1 m1 d1, .bool s2, .slice a2 n2 c2, .slice b2 m2 d2] 26 4
  have kb1 := cell_new (((w.alloc (.cells #[.bool s0, .slice a0 n0 c0, .slice b0 m0 d0] 26)).alloc (.cells #[.bool s1, .slice a1 n1 c1, .slice b1 m1 d1] 26)).alloc (.cells #[.bool s2, .slice a2 n2 c2, .slice b2 m2 d2] 26)) #[.bool s0, .slice a0 n0 c0, .slice b0 m0 d0, .bool s1, .slice a1 n1 c1, .slice b1 m1 d1, .bool s2, .slice a2 n2 c2, .slice b2 m2 d2] 26 5
  have ka2 := cell_new (((w.alloc (.cells #[.bool s0, .slice a0 n0 c0, .slice b0 m0 d0] 26)).alloc (.cells #[.bool s1, .slice a1 n1 c1, .slice b1 m1 d1] 26)).alloc (.cells #[.bool s2, .slice a2 n2 c2, .slice b2 m2 d2] 26)) #[.bool s0, .slice a0 n0 c0, .slice b0 m0 d0, .bool s1, .slice a1 n1 c1, .slice b1 m1 d1, .bool s2, .slice a2 n2 c2, .slice b2 m2 d2] 26 7
  have kb2 := cell_new (((w.alloc (.cells #[.bool s0, .slice a0 n0 c0, .slice b0 m0 d0] 26)).alloc (.cells #[.bool s1, .slice a1 n1 c1, .slice b1 m1 d1] 26)).alloc (.cells #[.bool s2, .slice a2 n2 c2, .slice b2 m2 d2] 26)) #[.bool s0, .slice a0 n0 c0, .slice b0 m0 d0, .bool s1, .slice a1 n1 c1, .slice b1 m1 d1, .bool s2, .slice a2 n2 c2, .slice b2 m2 d2] 26 8
  rw [show (((w.alloc (.cells #[.bool s0, .slice a0 n0 c0, .slice b0 m0 d0] 26)).alloc (.cells #[.bool s1, .slice a1 n1 c1, .slice b1 m1 d1] 26)).alloc (.cells #[.bool s2, .slice a2 n2 c2, .slice b2 m2 d2] 26)).heap.size = w.heap.size + 1 + 1 + 1 from by simp] at ka0 kb0 ka1 kb1 ka2 kb2
  go_enter Tryz.func8, Tryz.ntmps8
  go_wp2_with fail
  refine (few3_no2n (w.heap.size + 1 + 1 + 1) a0 b0 n0 c0 m0 d0 a1 b1 n1 c1 m1 d1 a2 b2 n2 c2 m2 d2 _ ka0 kb0 ka1 kb1 ka2 kb2 hn0 hm0 hn1 hm1 hbad).mono ?_
  rintro e w' ⟨rfl, rfl⟩
  go_wp2
  go_ret
  exact ⟨rfl, HB.out⟩

set_option maxHeartbeats 4000000 in
theorem ratioOrder_out2m (s0 s1 s2 : Bool) (a0 b0 a1 b1 a2 b2 : Option Addr) (n0 c0 m0 d0 n1 c1 m1 d1 n2 c2 m2 d2 : Nat) (w : World) (hn0 : n0 ≤ 4) (hm0 : m0 ≤ 4) (hn1 : n1 ≤ 4) (hm1 : m1 ≤ 4) (hn2 : n2 ≤ 4) (hbad : 4 < m2) :
    Calls Tryz.prog 8 #[.agg #[.bool s0, .slice a0 n0 c0, .slice b0 m0 d0], .agg #[.bool s1, .slice a1 n1 c1, .slice b1 m1 d1], .agg #[.bool s2, .slice a2 n2 c2, .slice b2 m2 d2]] w fun e w' => e = .returned (.bool true) ∧ Below w.heap.size w w' := by
  have HB := Lib.hid (below_four w (.cells #[.bool s0, .slice a0 n0 c0, .slice b0 m0 d0] 26) (.cells #[.bool s1, .slice a1 n1 c1, .slice b1 m1 d1] 26) (.cells #[.bool s2, .slice a2 n2 c2, .slice b2 m2 d2] 26) (.cells #[.bool s0, .slice a0 n0 c0, .slice b0 m0 d0, .bool s1, .slice a1 n1 c1, .slice b1 m1 d1, .bool s2, .slice a2 n2 c2, .slice b2 m2 d2] 26))
  have ka0 := cell_new (((w.alloc (.cells #[.bool s0, .slice a0 n0 c0, .slice b0 m0 d0] 26)).alloc (.cells #[.bool s1, .slice a1 n1 c1, .slice b1 m1 d1] 26)).alloc (.cells #[.bool s2, .slice a2 n2 c2, .slice b2 m2 d2] 26)) #[.bool s0, .slice a0 n0 c0, .slice b0 m0 d0, .bool s1, .slice a1 n1 c1, .slice b1 m1 d1, .bool s2, .slice a2 n2 c2, .slice b2 m2 d2] 26 1
  have kb0 := cell_new (((w.alloc (.cells #[.bool s0, .slice a0 n0 c0, .slice b0 m0 d0] 26)).alloc (.cells #[.bool s1, .slice a1 n1 c1, .slice b1 m1 d1] 26)).alloc (.cells #[.bool s2, .slice a2 n2 c2, .slice b2 m2 d2] 26)) #[.bool s0, .slice a0 n0 c0, .slice b0 m0 d0, .bool s1, .slice a1 n1 c1, .slice b1 m1 d1, .bool s2, .slice a2 n2 c2, .slice b2 m2 d2] 26 2
  have ka1 := cell_new (((w.alloc (.cells #[.bool s0, .slice a0 n0 c0, .slice b0 m0 d0] 26)).alloc (.cells #[.bool s1, .slice a1 n1 c1, .slice b1 m1 d1] 26)).alloc (.cells #[.bool s2, .slice a2 n2 c2, .slice b2 m2 d2] 26)) #[.bool s0, .slice a0 n0 c0, .slice b0 m0 d0, .bool s1, .slice a1 n1 c1, .slice b1 m1 d1, .bool s2, .slice a2 n2 c2, .slice b2 m2 d2] 26 4
  have kb1 := cell_new (((w.alloc (.cells #[.bool s0, .slice a0 n0 c0, .slice b0 m0 d0] 26)).alloc (.cells #[.bool s1, .slice a1 n1 c1, .slice b1 m1 d1] 26)).alloc (.cells #[.bool s2, .slice a2 n2 c2, .slice b2 m2 d2] 26)) #[.bool s0, .slice a0 n0 c0, .slice b0 m0 d0, .bool s1, .slice a1 n1 c1, .slice b1 m1 d1, .bool s2, .slice a2 n2 c2, .slice b2 m2 d2] 26 5
  have ka2 := cell_new (((w.alloc (.cells #[.bool s0, .slice a0 n0 c0, .slice b0 m0 d0] 26)).alloc (.cells #[.bool s1, .slice a1 n1 c1, .slice b1 m1 d1] 26)).alloc (.cells #[.bool s2, .slice a2 n2 c2, .slice b2 m2 d2] 26)) #[.bool s0, .slice a0 n0 c0, .slice b0 m0 d0, .bool s1, .slice a1 n1 c1, .slice b1 m1 d1, .bool s2, .slice a2 n2 c2, .slice b2 m2 d2] 26 7
  have kb2 := cell_new (((w.alloc (.cells #[.bool s0, .slice a0 n0 c0, .slice b0 m0 d0] 26)).alloc (.cells #[.bool s1, .slice a1 n1 c1, .slice b1 m1 d1] 26)).alloc (.cells #[.bool s2, .slice a2 n2 c2, .slice b2 m2 d2] 26)) #[.bool s0, .slice a0 n0 c0, .slice b0 m0 d0, .bool s1, .slice a1 n1 c1, .slice b1 m1 d1, .bool s2, .slice a2 n2 c2, .slice b2 m2 d2] 26 8
  rw [show (((w.alloc (.cells #[.bool s0, .slice a0 n0 c0, .slice b0 m0 d0] 26)).alloc (.cells #[.bool s1, .slice a1 n1 c1, .slice b1 m1 d1] 26)).alloc (.cells #[.bool s2, .slice a2 n2 c2, .slice b2 m2 d2] 26)).heap.size = w.heap.size + 1 + 1 + 1 from by simp] at ka0 kb0 ka1 kb1 ka2 kb2
  go_enter Tryz.func8, Tryz.ntmps8
  go_wp2_with fail
  refine (few3_no2m (w.heap.size + 1 + 1 + 1) a0 b0 n0 c0 m0 d0 a1 b1 n1 c1 m1 d1 a2 b2 n2 c2 m2 d2 _ ka0 kb0 ka1 kb1 ka2 kb2 hn0 hm0 hn1 hm1 hn2 hbad).mono ?_
  rintro e w' ⟨rfl, rfl⟩
  go_wp2
  go_ret
  exact ⟨rfl, HB.out⟩

end Go.Proofs.YtnnoicjnggoffaaGreat
/- RatioOrder, two numbers that are one. -/
namespace Go.Proofs.YtnnoicjnggoffaaGreat
set_option linter.unusedVariables false
set_option linter.unusedSimpArgs false
set_option maxRecDepth 100000
open Go.RowKit Nums

set_option maxHeartbeats 16000000 in
theorem ratioOrder_ez (p q r : Rat) {s0 s1 s2 : Bool} {a0 b0 a1 b1 a2 b2 : Option Addr} {n0 c0 m0 d0 n1 c1 m1 d1 n2 c2 m2 d2 : Nat} {xs0 ys0 xs1 ys1 xs2 ys2 : List Nat} {w : World} (h00 : Row w a0 n0 c0 xs0) (h01 : Row w b0 m0 d0 ys0) (hq0 : mkRat (sv s0 (val xs0)) (val ys0) = p) (hn0 : n0 ≤ 4) (hm0 : m0 ≤ 4) (h10 : Row w a1 n1 c1 xs1) (h11 : Row w b1 m1 d1 ys1) (hq1 : mkRat (sv s1 (val xs1)) (val ys1) = q) (hn1 : n1 ≤ 4) (hm1 : m1 ≤ 4) (h20 : Row w a2 n2 c2 xs2) (h21 : Row w b2 m2 d2 ys2) (hq2 : mkRat (sv s2 (val xs2)) (val ys2) = r) (hn2 : n2 ≤ 4) (hm2 : m2 ≤ 4) (hT : cmpR p q = 0) (hS : sgn (r * r).num = 0)
    (hT1 : cmpR q p = 0) (hT2 : cmpR (p + r) (q + r) = 0) (hT3 : cmpR (p * (r * r)) (q * (r * r)) = 0) (hT4 : sgn (p - q).num = 0) :
    Calls Tryz.prog 8 #[.agg #[.bool s0, .slice a0 n0 c0, .slice b0 m0 d0], .agg #[.bool s1, .slice a1 n1 c1, .slice b1 m1 d1], .agg #[.bool s2, .slice a2 n2 c2, .slice b2 m2 d2]] w fun e w' => e = .returned (.bool true) ∧ Below w.heap.size w w' := by
  obtain ⟨u, eu⟩ : ∃ z : Rat, r * r = z := ⟨_, rfl⟩
  obtain ⟨pr, epr⟩ : ∃ z : Rat, p + r = z := ⟨_, rfl⟩
  obtain ⟨qr, eqr⟩ : ∃ z : Rat, q + r = z := ⟨_, rfl⟩
  rw [epr, eqr] at hT2
  rw [eu] at hT3 hS
  obtain ⟨pu, epu⟩ : ∃ z : Rat, p * u = z := ⟨_, rfl⟩
  obtain ⟨qu, equ⟩ : ∃ z : Rat, q * u = z := ⟨_, rfl⟩
  obtain ⟨pq, epq⟩ : ∃ z : Rat, p - q = z := ⟨_, rfl⟩
  rw [epu, equ] at hT3
  rw [epq] at hT4
  have EU := Lib.hid eu; clear eu
  have EPR := Lib.hid epr; clear epr
  have EQR := Lib.hid eqr; clear eqr
  have EPU := Lib.hid epu; clear epu
  have EQU := Lib.hid equ; clear equ
  have EPQ := Lib.hid epq; clear epq
  have HT := Lib.hid hT; clear hT
  have HS := Lib.hid hS; clear hS
  have HT1 := Lib.hid hT1; clear hT1
  have HT2 := Lib.hid hT2; clear hT2
  have HT3 := Lib.hid hT3; clear hT3
  have HT4 := Lib.hid hT4; clear hT4
  have HB := Lib.hid (below_four w (.cells #[.bool s0, .slice a0 n0 c0, .slice b0 m0 d0] 26) (.cells #[.bool s1, .slice a1 n1 c1, .slice b1 m1 d1] 26) (.cells #[.bool s2, .slice a2 n2 c2, .slice b2 m2 d2] 26) (.cells #[.bool s0, .slice a0 n0 c0, .slice b0 m0 d0, .bool s1, .slice a1 n1 c1, .slice b1 m1 d1, .bool s2, .slice a2 n2 c2, .slice b2 m2 d2] 26))
  have T0 : Hid (Tri ((((w.alloc (.cells #[.bool s0, .slice a0 n0 c0, .slice b0 m0 d0] 26)).alloc (.cells #[.bool s1, .slice a1 n1 c1, .slice b1 m1 d1] 26)).alloc (.cells #[.bool s2, .slice a2 n2 c2, .slice b2 m2 d2] 26)).alloc (.cells #[.bool s0, .slice a0 n0 c0, .slice b0 m0 d0, .bool s1, .slice a1 n1 c1, .slice b1 m1 d1, .bool s2, .slice a2 n2 c2, .slice b2 m2 d2] 26)) (w.heap.size) (.bool s0) (.slice a0 n0 c0) (.slice b0 m0 d0)) := ((((tri_new w (.bool s0) (.slice a0 n0 c0) (.slice b0 m0 d0)).alloc _).alloc _).alloc _)
  have T1 : Hid (Tri ((((w.alloc (.cells #[.bool s0, .slice a0 n0 c0, .slice b0 m0 d0] 26)).alloc (.cells #[.bool s1, .slice a1 n1 c1, .slice b1 m1 d1] 26)).alloc (.cells #[.bool s2, .slice a2 n2 c2, .slice b2 m2 d2] 26)).alloc (.cells #[.bool s0, .slice a0 n0 c0, .slice b0 m0 d0, .bool s1, .slice a1 n1 c1, .slice b1 m1 d1, .bool s2, .slice a2 n2 c2, .slice b2 m2 d2] 26)) (w.heap.size + 1) (.bool s1) (.slice a1 n1 c1) (.slice b1 m1 d1)) := (((tri_newE (by simp)).alloc _).alloc _)
  have T2 : Hid (Tri ((((w.alloc (.cells #[.bool s0, .slice a0 n0 c0, .slice b0 m0 d0] 26)).alloc (.cells #[.bool s1, .slice a1 n1 c1, .slice b1 m1 d1] 26)).alloc (.cells #[.bool s2, .slice a2 n2 c2, .slice b2 m2 d2] 26)).alloc (.cells #[.bool s0, .slice a0 n0 c0, .slice b0 m0 d0, .bool s1, .slice a1 n1 c1, .slice b1 m1 d1, .bool s2, .slice a2 n2 c2, .slice b2 m2 d2] 26)) (w.heap.size + 1 + 1) (.bool s2) (.slice a2 n2 c2) (.slice b2 m2 d2)) := ((tri_newE (by simp)).alloc _)
  have ka0 := cell_new (((w.alloc (.cells #[.bool s0, .slice a0 n0 c0, .slice b0 m0 d0] 26)).alloc (.cells #[.bool s1, .slice a1 n1 c1, .slice b1 m1 d1] 26)).alloc (.cells #[.bool s2, .slice a2 n2 c2, .slice b2 m2 d2] 26)) #[.bool s0, .slice a0 n0 c0, .slice b0 m0 d0, .bool s1, .slice a1 n1 c1, .slice b1 m1 d1, .bool s2, .slice a2 n2 c2, .slice b2 m2 d2] 26 1
  have kb0 := cell_new (((w.alloc (.cells #[.bool s0, .slice a0 n0 c0, .slice b0 m0 d0] 26)).alloc (.cells #[.bool s1, .slice a1 n1 c1, .slice b1 m1 d1] 26)).alloc (.cells #[.bool s2, .slice a2 n2 c2, .slice b2 m2 d2] 26)) #[.bool s0, .slice a0 n0 c0, .slice b0 m0 d0, .bool s1, .slice a1 n1 c1, .slice b1 m1 d1, .bool s2, .slice a2 n2 c2, .slice b2 m2 d2] 26 2
  have ka1 := cell_new (((w.alloc (.cells #[.bool s0, .slice a0 n0 c0, .slice b0 m0 d0] 26)).alloc (.cells #[.bool s1, .slice a1 n1 c1, .slice b1 m1 d1] 26)).alloc (.cells #[.bool s2, .slice a2 n2 c2, .slice b2 m2 d2] 26)) #[.bool s0, .slice a0 n0 c0, .slice b0 m0 d0, .bool s1, .slice a1 n1 c1, .slice b1 m1 d1, .bool s2, .slice a2 n2 c2, .slice b2 m2 d2] 26 4
  have kb1 := cell_new (((w.alloc (.cells #[.bool s0, .slice a0 n0 c0, .slice b0 m0 d0] 26)).alloc (.cells #[.bool s1, .slice a1 n1 c1, .slice b1 m1 d1] 26)).alloc (.cells #[.bool s2, .slice a2 n2 c2, .slice b2 m2 d2] 26)) #[.bool s0, .slice a0 n0 c0, .slice b0 m0 d0, .bool s1, .slice a1 n1 c1, .slice b1 m1 d1, .bool s2, .slice a2 n2 c2, .slice b2 m2 d2] 26 5
  have ka2 := cell_new (((w.alloc (.cells #[.bool s0, .slice a0 n0 c0, .slice b0 m0 d0] 26)).alloc (.cells #[.bool s1, .slice a1 n1 c1, .slice b1 m1 d1] 26)).alloc (.cells #[.bool s2, .slice a2 n2 c2, .slice b2 m2 d2] 26)) #[.bool s0, .slice a0 n0 c0, .slice b0 m0 d0, .bool s1, .slice a1 n1 c1, .slice b1 m1 d1, .bool s2, .slice a2 n2 c2, .slice b2 m2 d2] 26 7
  have kb2 := cell_new (((w.alloc (.cells #[.bool s0, .slice a0 n0 c0, .slice b0 m0 d0] 26)).alloc (.cells #[.bool s1, .slice a1 n1 c1, .slice b1 m1 d1] 26)).alloc (.cells #[.bool s2, .slice a2 n2 c2, .slice b2 m2 d2] 26)) #[.bool s0, .slice a0 n0 c0, .slice b0 m0 d0, .bool s1, .slice a1 n1 c1, .slice b1 m1 d1, .bool s2, .slice a2 n2 c2, .slice b2 m2 d2] 26 8
  rw [show (((w.alloc (.cells #[.bool s0, .slice a0 n0 c0, .slice b0 m0 d0] 26)).alloc (.cells #[.bool s1, .slice a1 n1 c1, .slice b1 m1 d1] 26)).alloc (.cells #[.bool s2, .slice a2 n2 c2, .slice b2 m2 d2] 26)).heap.size = w.heap.size + 1 + 1 + 1 from by simp] at ka0 kb0 ka1 kb1 ka2 kb2
  have R00 := Lib.hid (h00.later HB.out); clear h00
  have R01 := Lib.hid (h01.later HB.out); clear h01
  have HQ0 := Lib.hid hq0; clear hq0
  have R10 := Lib.hid (h10.later HB.out); clear h10
  have R11 := Lib.hid (h11.later HB.out); clear h11
  have HQ1 := Lib.hid hq1; clear hq1
  have R20 := Lib.hid (h20.later HB.out); clear h20
  have R21 := Lib.hid (h21.later HB.out); clear h21
  have HQ2 := Lib.hid hq2; clear hq2
  go_enter Tryz.func8, Tryz.ntmps8
  go_wp2_with fail
  refine (few3_yes (w.heap.size + 1 + 1 + 1) a0 b0 n0 c0 m0 d0 a1 b1 n1 c1 m1 d1 a2 b2 n2 c2 m2 d2 _ ka0 kb0 ka1 kb1 ka2 kb2 hn0 hm0 hn1 hm1 hn2 hm2).mono ?_
  rintro e w0 ⟨rfl, rfl⟩
  clear ka0 kb0 ka1 kb1 ka2 kb2
  obtain ⟨kT00, kT01, kT02, -, -, -, -⟩ := T0.out
  obtain ⟨kT10, kT11, kT12, -, -, -, -⟩ := T1.out
  obtain ⟨kT20, kT21, kT22, -, -, -, -⟩ := T2.out
  go_wp2_with fail
  refine (cmpRat 0 p q R00.out R01.out R10.out R11.out HQ0.out HQ1.out (by omega) (by omega) (by omega) (by omega) HT.out).mono ?_
  rintro e w1 ⟨rfl, hb⟩
  replace R00 := Lib.hid (R00.out.later hb)
  replace R01 := Lib.hid (R01.out.later hb)
  replace R10 := Lib.hid (R10.out.later hb)
  replace R11 := Lib.hid (R11.out.later hb)
  replace R20 := Lib.hid (R20.out.later hb)
  replace R21 := Lib.hid (R21.out.later hb)
  replace T0 := Lib.hid (T0.out.later hb)
  replace T1 := Lib.hid (T1.out.later hb)
  replace T2 := Lib.hid (T2.out.later hb)
  replace HB := Lib.hid (bthen HB.out hb)
  clear hb
  clear kT00 kT01 kT02 kT10 kT11 kT12 kT20 kT21 kT22
  obtain ⟨kT00, kT01, kT02, -, -, -, -⟩ := T0.out
  obtain ⟨kT10, kT11, kT12, -, -, -, -⟩ := T1.out
  obtain ⟨kT20, kT21, kT22, -, -, -, -⟩ := T2.out
  go_wp2_with fail
  refine (mulR 8 8 u r r R20.out R21.out R20.out R21.out HQ2.out HQ2.out (by omega) (by omega) (by omega) (by omega) (by omega) (by omega) (by omega) (by omega) (by omega) EU.out).mono ?_
  rintro e w2 ⟨au, nu, cu, bu, mu, du, rfl, hnu, hmu, hr, hr2, hb⟩
  replace R00 := Lib.hid (R00.out.later hb)
  replace R01 := Lib.hid (R01.out.later hb)
  replace R10 := Lib.hid (R10.out.later hb)
  replace R11 := Lib.hid (R11.out.later hb)
  replace R20 := Lib.hid (R20.out.later hb)
  replace R21 := Lib.hid (R21.out.later hb)
  replace T0 := Lib.hid (T0.out.later hb)
  replace T1 := Lib.hid (T1.out.later hb)
  replace T2 := Lib.hid (T2.out.later hb)
  replace HB := Lib.hid (bthen HB.out hb)
  clear hb
  clear kT00 kT01 kT02 kT10 kT11 kT12 kT20 kT21 kT22
  have Ru0 := Lib.hid hr; clear hr
  have Ru1 := Lib.hid hr2; clear hr2
  have hb1 := below_one w2 (.cells #[.bool (decide (u.num < 0)), .slice au nu cu, .slice bu mu du] 26)
  have TU : Hid (Tri (w2.alloc (.cells #[.bool (decide (u.num < 0)), .slice au nu cu, .slice bu mu du] 26)) w2.heap.size (.bool (decide (u.num < 0))) (.slice au nu cu) (.slice bu mu du)) := tri_new w2 _ _ _
  replace Ru0 := Lib.hid (Ru0.out.later hb1)
  replace Ru1 := Lib.hid (Ru1.out.later hb1)
  replace R00 := Lib.hid (R00.out.later hb1)
  replace R01 := Lib.hid (R01.out.later hb1)
  replace R10 := Lib.hid (R10.out.later hb1)
  replace R11 := Lib.hid (R11.out.later hb1)
  replace R20 := Lib.hid (R20.out.later hb1)
  replace R21 := Lib.hid (R21.out.later hb1)
  replace T0 := Lib.hid (T0.out.later hb1)
  replace T1 := Lib.hid (T1.out.later hb1)
  replace T2 := Lib.hid (T2.out.later hb1)
  replace HB := Lib.hid (bthen HB.out hb1)
  clear hb1
  obtain ⟨kT00, kT01, kT02, -, -, -, -⟩ := T0.out
  obtain ⟨kT10, kT11, kT12, -, -, -, -⟩ := T1.out
  obtain ⟨kT20, kT21, kT22, -, -, -, -⟩ := T2.out
  obtain ⟨kTU0, kTU1, kTU2, -, -, -, -⟩ := TU.out
  go_wp2_with fail
  refine (signR 0 u Ru0.out Ru1.out (rat_limbs u) (by omega) (by omega) HS.out).mono ?_
  rintro e w3 ⟨rfl, hb⟩
  replace R00 := Lib.hid (R00.out.later hb)
  replace R01 := Lib.hid (R01.out.later hb)
  replace R10 := Lib.hid (R10.out.later hb)
  replace R11 := Lib.hid (R11.out.later hb)
  replace R20 := Lib.hid (R20.out.later hb)
  replace R21 := Lib.hid (R21.out.later hb)
  replace Ru0 := Lib.hid (Ru0.out.later hb)
  replace Ru1 := Lib.hid (Ru1.out.later hb)
  replace T0 := Lib.hid (T0.out.later hb)
  replace T1 := Lib.hid (T1.out.later hb)
  replace T2 := Lib.hid (T2.out.later hb)
  replace TU := Lib.hid (TU.out.later hb)
  replace HB := Lib.hid (bthen HB.out hb)
  clear hb
  clear kT00 kT01 kT02 kT10 kT11 kT12 kT20 kT21 kT22 kTU0 kTU1 kTU2
  obtain ⟨kT00, kT01, kT02, -, -, -, -⟩ := T0.out
  obtain ⟨kT10, kT11, kT12, -, -, -, -⟩ := T1.out
  obtain ⟨kT20, kT21, kT22, -, -, -, -⟩ := T2.out
  obtain ⟨kTU0, kTU1, kTU2, -, -, -, -⟩ := TU.out
  go_wp2_with fail
  replace R00 := Lib.hid R00.out.drew
  replace R01 := Lib.hid R01.out.drew
  replace R10 := Lib.hid R10.out.drew
  replace R11 := Lib.hid R11.out.drew
  replace R20 := Lib.hid R20.out.drew
  replace R21 := Lib.hid R21.out.drew
  replace Ru0 := Lib.hid Ru0.out.drew
  replace Ru1 := Lib.hid Ru1.out.drew
  replace T0 := Lib.hid T0.out.drew
  replace T1 := Lib.hid T1.out.drew
  replace T2 := Lib.hid T2.out.drew
  replace TU := Lib.hid TU.out.drew
  replace HB := Lib.hid HB.out.drew
  clear kT00 kT01 kT02 kT10 kT11 kT12 kT20 kT21 kT22 kTU0 kTU1 kTU2
  obtain ⟨kT00, kT01, kT02, -, -, -, -⟩ := T0.out
  obtain ⟨kT10, kT11, kT12, -, -, -, -⟩ := T1.out
  obtain ⟨kT20, kT21, kT22, -, -, -, -⟩ := T2.out
  obtain ⟨kTU0, kTU1, kTU2, -, -, -, -⟩ := TU.out
  go_region_held3 (fun w' => w'.cell? ⟨w.heap.size, 0, none⟩ = some (.bool s0) ∧ w'.cell? ⟨w.heap.size, 1, none⟩ = some (.slice a0 n0 c0) ∧ w'.cell? ⟨w.heap.size, 2, none⟩ = some (.slice b0 m0 d0) ∧ w'.cell? ⟨w.heap.size + 1, 0, none⟩ = some (.bool s1) ∧ w'.cell? ⟨w.heap.size + 1, 1, none⟩ = some (.slice a1 n1 c1) ∧ w'.cell? ⟨w.heap.size + 1, 2, none⟩ = some (.slice b1 m1 d1) ∧ w'.cell? ⟨w.heap.size + 1 + 1, 0, none⟩ = some (.bool s2) ∧ w'.cell? ⟨w.heap.size + 1 + 1, 1, none⟩ = some (.slice a2 n2 c2) ∧ w'.cell? ⟨w.heap.size + 1 + 1, 2, none⟩ = some (.slice b2 m2 d2) ∧ w'.cell? ⟨w2.heap.size, 0, none⟩ = some (.bool (decide (u.num < 0))) ∧ w'.cell? ⟨w2.heap.size, 1, none⟩ = some (.slice au nu cu) ∧ w'.cell? ⟨w2.heap.size, 2, none⟩ = some (.slice bu mu du))
    (first | (refine ⟨?_, ?_, ?_, ?_, ?_, ?_, ?_, ?_, ?_, ?_, ?_, ?_⟩ <;> with_reducible assumption) | (go_keep; done) | (refine ⟨?_, ?_, ?_, ?_, ?_, ?_, ?_, ?_, ?_, ?_, ?_, ?_⟩ <;> (repeat rw [cell_other (by first | (simp; done) | (simp; omega))]) <;> with_reducible assumption))
    (first
      | (have mk := G10; clear mk
         rw [if_pos (by rfl)]
         go_simp
         go_at_call 26
         refine (awakeR _).mono ?_
         rintro e v11 ⟨rfl, hb⟩
         replace R00 := Lib.hid (R00.out.later hb)
         replace R01 := Lib.hid (R01.out.later hb)
         replace R10 := Lib.hid (R10.out.later hb)
         replace R11 := Lib.hid (R11.out.later hb)
         replace R20 := Lib.hid (R20.out.later hb)
         replace R21 := Lib.hid (R21.out.later hb)
         replace Ru0 := Lib.hid (Ru0.out.later hb)
         replace Ru1 := Lib.hid (Ru1.out.later hb)
         replace Rpq0 := Lib.hid (Rpq0.out.later hb)
         replace Rpq1 := Lib.hid (Rpq1.out.later hb)
         replace T0 := Lib.hid (T0.out.later hb)
         replace T1 := Lib.hid (T1.out.later hb)
         replace T2 := Lib.hid (T2.out.later hb)
         replace TU := Lib.hid (TU.out.later hb)
         replace HB := Lib.hid (bthen HB.out hb); clear hb
         clear kT00 kT01 kT02 kT10 kT11 kT12 kT20 kT21 kT22 kTU0 kTU1 kTU2
         obtain ⟨kT00, kT01, kT02, -, -, -, -⟩ := T0.out
         obtain ⟨kT10, kT11, kT12, -, -, -, -⟩ := T1.out
         obtain ⟨kT20, kT21, kT22, -, -, -, -⟩ := T2.out
         obtain ⟨kTU0, kTU1, kTU2, -, -, -, -⟩ := TU.out
         have G11 : Hid True := trivial
         try go_wp2_with fail)
      | (have mk := G9; clear mk
         rw [if_pos (by rfl)]
         go_simp
         go_at_call 29
         refine (signR 0 pq Rpq0.out Rpq1.out (rat_limbs pq) (by omega) (by omega) HT4.out).mono ?_
         rintro e v10 ⟨rfl, hb⟩
         replace R00 := Lib.hid (R00.out.later hb)
         replace R01 := Lib.hid (R01.out.later hb)
         replace R10 := Lib.hid (R10.out.later hb)
         replace R11 := Lib.hid (R11.out.later hb)
         replace R20 := Lib.hid (R20.out.later hb)
         replace R21 := Lib.hid (R21.out.later hb)
         replace Ru0 := Lib.hid (Ru0.out.later hb)
         replace Ru1 := Lib.hid (Ru1.out.later hb)
         replace Rpq0 := Lib.hid (Rpq0.out.later hb)
         replace Rpq1 := Lib.hid (Rpq1.out.later hb)
         replace T0 := Lib.hid (T0.out.later hb)
         replace T1 := Lib.hid (T1.out.later hb)
         replace T2 := Lib.hid (T2.out.later hb)
         replace TU := Lib.hid (TU.out.later hb)
         replace HB := Lib.hid (bthen HB.out hb); clear hb
         clear kT00 kT01 kT02 kT10 kT11 kT12 kT20 kT21 kT22 kTU0 kTU1 kTU2
         obtain ⟨kT00, kT01, kT02, -, -, -, -⟩ := T0.out
         obtain ⟨kT10, kT11, kT12, -, -, -, -⟩ := T1.out
         obtain ⟨kT20, kT21, kT22, -, -, -, -⟩ := T2.out
         obtain ⟨kTU0, kTU1, kTU2, -, -, -, -⟩ := TU.out
         have G10 : Hid True := trivial
         try go_wp2_with fail)
      | (have mk := G8; clear mk
         rw [if_pos (by rfl)]
         go_simp
         go_at_call 18
         refine (subR 4 4 4 4 9 8 pq p q R00.out R01.out R10.out R11.out HQ0.out HQ1.out hn0 hm0 hn1 hm1 (by omega) (by omega) (by omega) (by omega) (by omega) (by omega) (by omega) (by omega) (by omega) (by omega) (by omega) EPQ.out).mono ?_
         rintro e v9 ⟨apq, npq, cpq, bpq, mpq, dpq, rfl, hnpq, hmpq, hr, hr2, hb⟩
         replace R00 := Lib.hid (R00.out.later hb)
         replace R01 := Lib.hid (R01.out.later hb)
         replace R10 := Lib.hid (R10.out.later hb)
         replace R11 := Lib.hid (R11.out.later hb)
         replace R20 := Lib.hid (R20.out.later hb)
         replace R21 := Lib.hid (R21.out.later hb)
         replace Ru0 := Lib.hid (Ru0.out.later hb)
         replace Ru1 := Lib.hid (Ru1.out.later hb)
         replace T0 := Lib.hid (T0.out.later hb)
         replace T1 := Lib.hid (T1.out.later hb)
         replace T2 := Lib.hid (T2.out.later hb)
         replace TU := Lib.hid (TU.out.later hb)
         replace HB := Lib.hid (bthen HB.out hb); clear hb
         clear kT00 kT01 kT02 kT10 kT11 kT12 kT20 kT21 kT22 kTU0 kTU1 kTU2
         obtain ⟨kT00, kT01, kT02, -, -, -, -⟩ := T0.out
         obtain ⟨kT10, kT11, kT12, -, -, -, -⟩ := T1.out
         obtain ⟨kT20, kT21, kT22, -, -, -, -⟩ := T2.out
         obtain ⟨kTU0, kTU1, kTU2, -, -, -, -⟩ := TU.out
         have Rpq0 := Lib.hid hr; clear hr
         have Rpq1 := Lib.hid hr2; clear hr2
         have G9 : Hid True := trivial
         try go_wp2_with fail)
      | (have mk := G7; clear mk
         rw [if_pos (by rfl)]
         go_simp
         go_at_call 29
         refine (signR 0 u Ru0.out Ru1.out (rat_limbs u) (by omega) (by omega) HS.out).mono ?_
         rintro e v8 ⟨rfl, hb⟩
         replace R00 := Lib.hid (R00.out.later hb)
         replace R01 := Lib.hid (R01.out.later hb)
         replace R10 := Lib.hid (R10.out.later hb)
         replace R11 := Lib.hid (R11.out.later hb)
         replace R20 := Lib.hid (R20.out.later hb)
         replace R21 := Lib.hid (R21.out.later hb)
         replace Ru0 := Lib.hid (Ru0.out.later hb)
         replace Ru1 := Lib.hid (Ru1.out.later hb)
         replace T0 := Lib.hid (T0.out.later hb)
         replace T1 := Lib.hid (T1.out.later hb)
         replace T2 := Lib.hid (T2.out.later hb)
         replace TU := Lib.hid (TU.out.later hb)
         replace HB := Lib.hid (bthen HB.out hb); clear hb
         clear kT00 kT01 kT02 kT10 kT11 kT12 kT20 kT21 kT22 kTU0 kTU1 kTU2
         obtain ⟨kT00, kT01, kT02, -, -, -, -⟩ := T0.out
         obtain ⟨kT10, kT11, kT12, -, -, -, -⟩ := T1.out
         obtain ⟨kT20, kT21, kT22, -, -, -, -⟩ := T2.out
         obtain ⟨kTU0, kTU1, kTU2, -, -, -, -⟩ := TU.out
         have G8 : Hid True := trivial
         try go_wp2_with fail)
      | (have mk := G6; clear mk
         rw [if_pos (by rfl)]
         go_simp
         go_at_call 24
         refine (cmpRat 0 pu qu Rpu0.out Rpu1.out Rqu0.out Rqu1.out (rat_limbs pu) (rat_limbs qu) (by omega) (by omega) (by omega) (by omega) HT3.out).mono ?_
         rintro e v7 ⟨rfl, hb⟩
         clear Rpu0
         clear Rpu1
         clear Rqu0
         clear Rqu1
         replace R00 := Lib.hid (R00.out.later hb)
         replace R01 := Lib.hid (R01.out.later hb)
         replace R10 := Lib.hid (R10.out.later hb)
         replace R11 := Lib.hid (R11.out.later hb)
         replace R20 := Lib.hid (R20.out.later hb)
         replace R21 := Lib.hid (R21.out.later hb)
         replace Ru0 := Lib.hid (Ru0.out.later hb)
         replace Ru1 := Lib.hid (Ru1.out.later hb)
         replace T0 := Lib.hid (T0.out.later hb)
         replace T1 := Lib.hid (T1.out.later hb)
         replace T2 := Lib.hid (T2.out.later hb)
         replace TU := Lib.hid (TU.out.later hb)
         replace HB := Lib.hid (bthen HB.out hb); clear hb
         clear kT00 kT01 kT02 kT10 kT11 kT12 kT20 kT21 kT22 kTU0 kTU1 kTU2
         obtain ⟨kT00, kT01, kT02, -, -, -, -⟩ := T0.out
         obtain ⟨kT10, kT11, kT12, -, -, -, -⟩ := T1.out
         obtain ⟨kT20, kT21, kT22, -, -, -, -⟩ := T2.out
         obtain ⟨kTU0, kTU1, kTU2, -, -, -, -⟩ := TU.out
         have G7 : Hid True := trivial
         try go_wp2_with fail)
      | (have mk := G5; clear mk
         rw [if_pos (by rfl)]
         go_simp
         go_at_call 20
         refine (mulR 12 12 qu q u R10.out R11.out Ru0.out Ru1.out HQ1.out (rat_limbs u) (by omega) (by omega) (by omega) (by omega) (by omega) (by omega) (by omega) (by omega) (by omega) EQU.out).mono ?_
         rintro e v6 ⟨aqu, nqu, cqu, bqu, mqu, dqu, rfl, hnqu, hmqu, hr, hr2, hb⟩
         replace R00 := Lib.hid (R00.out.later hb)
         replace R01 := Lib.hid (R01.out.later hb)
         replace R10 := Lib.hid (R10.out.later hb)
         replace R11 := Lib.hid (R11.out.later hb)
         replace R20 := Lib.hid (R20.out.later hb)
         replace R21 := Lib.hid (R21.out.later hb)
         replace Ru0 := Lib.hid (Ru0.out.later hb)
         replace Ru1 := Lib.hid (Ru1.out.later hb)
         replace Rpu0 := Lib.hid (Rpu0.out.later hb)
         replace Rpu1 := Lib.hid (Rpu1.out.later hb)
         replace T0 := Lib.hid (T0.out.later hb)
         replace T1 := Lib.hid (T1.out.later hb)
         replace T2 := Lib.hid (T2.out.later hb)
         replace TU := Lib.hid (TU.out.later hb)
         replace HB := Lib.hid (bthen HB.out hb); clear hb
         clear kT00 kT01 kT02 kT10 kT11 kT12 kT20 kT21 kT22 kTU0 kTU1 kTU2
         obtain ⟨kT00, kT01, kT02, -, -, -, -⟩ := T0.out
         obtain ⟨kT10, kT11, kT12, -, -, -, -⟩ := T1.out
         obtain ⟨kT20, kT21, kT22, -, -, -, -⟩ := T2.out
         obtain ⟨kTU0, kTU1, kTU2, -, -, -, -⟩ := TU.out
         have Rqu0 := Lib.hid hr; clear hr
         have Rqu1 := Lib.hid hr2; clear hr2
         have G6 : Hid True := trivial
         try go_wp2_with fail)
      | (have mk := G4; clear mk
         rw [if_pos (by rfl)]
         go_simp
         go_at_call 20
         refine (mulR 12 12 pu p u R00.out R01.out Ru0.out Ru1.out HQ0.out (rat_limbs u) (by omega) (by omega) (by omega) (by omega) (by omega) (by omega) (by omega) (by omega) (by omega) EPU.out).mono ?_
         rintro e v5 ⟨apu, npu, cpu, bpu, mpu, dpu, rfl, hnpu, hmpu, hr, hr2, hb⟩
         replace R00 := Lib.hid (R00.out.later hb)
         replace R01 := Lib.hid (R01.out.later hb)
         replace R10 := Lib.hid (R10.out.later hb)
         replace R11 := Lib.hid (R11.out.later hb)
         replace R20 := Lib.hid (R20.out.later hb)
         replace R21 := Lib.hid (R21.out.later hb)
         replace Ru0 := Lib.hid (Ru0.out.later hb)
         replace Ru1 := Lib.hid (Ru1.out.later hb)
         replace T0 := Lib.hid (T0.out.later hb)
         replace T1 := Lib.hid (T1.out.later hb)
         replace T2 := Lib.hid (T2.out.later hb)
         replace TU := Lib.hid (TU.out.later hb)
         replace HB := Lib.hid (bthen HB.out hb); clear hb
         clear kT00 kT01 kT02 kT10 kT11 kT12 kT20 kT21 kT22 kTU0 kTU1 kTU2
         obtain ⟨kT00, kT01, kT02, -, -, -, -⟩ := T0.out
         obtain ⟨kT10, kT11, kT12, -, -, -, -⟩ := T1.out
         obtain ⟨kT20, kT21, kT22, -, -, -, -⟩ := T2.out
         obtain ⟨kTU0, kTU1, kTU2, -, -, -, -⟩ := TU.out
         have Rpu0 := Lib.hid hr; clear hr
         have Rpu1 := Lib.hid hr2; clear hr2
         have G5 : Hid True := trivial
         try go_wp2_with fail)
      | (have mk := G3; clear mk
         rw [if_pos (by rfl)]
         go_simp
         go_at_call 24
         refine (cmpRat 0 pr qr Rpr0.out Rpr1.out Rqr0.out Rqr1.out (rat_limbs pr) (rat_limbs qr) (by omega) (by omega) (by omega) (by omega) HT2.out).mono ?_
         rintro e v4 ⟨rfl, hb⟩
         clear Rpr0
         clear Rpr1
         clear Rqr0
         clear Rqr1
         replace R00 := Lib.hid (R00.out.later hb)
         replace R01 := Lib.hid (R01.out.later hb)
         replace R10 := Lib.hid (R10.out.later hb)
         replace R11 := Lib.hid (R11.out.later hb)
         replace R20 := Lib.hid (R20.out.later hb)
         replace R21 := Lib.hid (R21.out.later hb)
         replace Ru0 := Lib.hid (Ru0.out.later hb)
         replace Ru1 := Lib.hid (Ru1.out.later hb)
         replace T0 := Lib.hid (T0.out.later hb)
         replace T1 := Lib.hid (T1.out.later hb)
         replace T2 := Lib.hid (T2.out.later hb)
         replace TU := Lib.hid (TU.out.later hb)
         replace HB := Lib.hid (bthen HB.out hb); clear hb
         clear kT00 kT01 kT02 kT10 kT11 kT12 kT20 kT21 kT22 kTU0 kTU1 kTU2
         obtain ⟨kT00, kT01, kT02, -, -, -, -⟩ := T0.out
         obtain ⟨kT10, kT11, kT12, -, -, -, -⟩ := T1.out
         obtain ⟨kT20, kT21, kT22, -, -, -, -⟩ := T2.out
         obtain ⟨kTU0, kTU1, kTU2, -, -, -, -⟩ := TU.out
         have G4 : Hid True := trivial
         try go_wp2_with fail)
      | (have mk := G2; clear mk
         rw [if_pos (by rfl)]
         go_simp
         go_at_call 16
         refine (addR 4 4 4 4 9 8 qr q r R10.out R11.out R20.out R21.out HQ1.out HQ2.out hn1 hm1 hn2 hm2 (by omega) (by omega) (by omega) (by omega) (by omega) (by omega) (by omega) (by omega) (by omega) (by omega) (by omega) EQR.out).mono ?_
         rintro e v3 ⟨aqr, nqr, cqr, bqr, mqr, dqr, rfl, hnqr, hmqr, hr, hr2, hb⟩
         replace R00 := Lib.hid (R00.out.later hb)
         replace R01 := Lib.hid (R01.out.later hb)
         replace R10 := Lib.hid (R10.out.later hb)
         replace R11 := Lib.hid (R11.out.later hb)
         replace R20 := Lib.hid (R20.out.later hb)
         replace R21 := Lib.hid (R21.out.later hb)
         replace Ru0 := Lib.hid (Ru0.out.later hb)
         replace Ru1 := Lib.hid (Ru1.out.later hb)
         replace Rpr0 := Lib.hid (Rpr0.out.later hb)
         replace Rpr1 := Lib.hid (Rpr1.out.later hb)
         replace T0 := Lib.hid (T0.out.later hb)
         replace T1 := Lib.hid (T1.out.later hb)
         replace T2 := Lib.hid (T2.out.later hb)
         replace TU := Lib.hid (TU.out.later hb)
         replace HB := Lib.hid (bthen HB.out hb); clear hb
         clear kT00 kT01 kT02 kT10 kT11 kT12 kT20 kT21 kT22 kTU0 kTU1 kTU2
         obtain ⟨kT00, kT01, kT02, -, -, -, -⟩ := T0.out
         obtain ⟨kT10, kT11, kT12, -, -, -, -⟩ := T1.out
         obtain ⟨kT20, kT21, kT22, -, -, -, -⟩ := T2.out
         obtain ⟨kTU0, kTU1, kTU2, -, -, -, -⟩ := TU.out
         have Rqr0 := Lib.hid hr; clear hr
         have Rqr1 := Lib.hid hr2; clear hr2
         have G3 : Hid True := trivial
         try go_wp2_with fail)
      | (have mk := G1; clear mk
         rw [if_pos (by rfl)]
         go_simp
         go_at_call 16
         refine (addR 4 4 4 4 9 8 pr p r R00.out R01.out R20.out R21.out HQ0.out HQ2.out hn0 hm0 hn2 hm2 (by omega) (by omega) (by omega) (by omega) (by omega) (by omega) (by omega) (by omega) (by omega) (by omega) (by omega) EPR.out).mono ?_
         rintro e v2 ⟨apr, npr, cpr, bpr, mpr, dpr, rfl, hnpr, hmpr, hr, hr2, hb⟩
         replace R00 := Lib.hid (R00.out.later hb)
         replace R01 := Lib.hid (R01.out.later hb)
         replace R10 := Lib.hid (R10.out.later hb)
         replace R11 := Lib.hid (R11.out.later hb)
         replace R20 := Lib.hid (R20.out.later hb)
         replace R21 := Lib.hid (R21.out.later hb)
         replace Ru0 := Lib.hid (Ru0.out.later hb)
         replace Ru1 := Lib.hid (Ru1.out.later hb)
         replace T0 := Lib.hid (T0.out.later hb)
         replace T1 := Lib.hid (T1.out.later hb)
         replace T2 := Lib.hid (T2.out.later hb)
         replace TU := Lib.hid (TU.out.later hb)
         replace HB := Lib.hid (bthen HB.out hb); clear hb
         clear kT00 kT01 kT02 kT10 kT11 kT12 kT20 kT21 kT22 kTU0 kTU1 kTU2
         obtain ⟨kT00, kT01, kT02, -, -, -, -⟩ := T0.out
         obtain ⟨kT10, kT11, kT12, -, -, -, -⟩ := T1.out
         obtain ⟨kT20, kT21, kT22, -, -, -, -⟩ := T2.out
         obtain ⟨kTU0, kTU1, kTU2, -, -, -, -⟩ := TU.out
         have Rpr0 := Lib.hid hr; clear hr
         have Rpr1 := Lib.hid hr2; clear hr2
         have G2 : Hid True := trivial
         try go_wp2_with fail)
      | (skip
         rw [if_pos (by rfl)]
         go_simp
         go_at_call 24
         refine (cmpRat 0 q p R10.out R11.out R00.out R01.out HQ1.out HQ0.out (by omega) (by omega) (by omega) (by omega) HT1.out).mono ?_
         rintro e v1 ⟨rfl, hb⟩
         replace R00 := Lib.hid (R00.out.later hb)
         replace R01 := Lib.hid (R01.out.later hb)
         replace R10 := Lib.hid (R10.out.later hb)
         replace R11 := Lib.hid (R11.out.later hb)
         replace R20 := Lib.hid (R20.out.later hb)
         replace R21 := Lib.hid (R21.out.later hb)
         replace Ru0 := Lib.hid (Ru0.out.later hb)
         replace Ru1 := Lib.hid (Ru1.out.later hb)
         replace T0 := Lib.hid (T0.out.later hb)
         replace T1 := Lib.hid (T1.out.later hb)
         replace T2 := Lib.hid (T2.out.later hb)
         replace TU := Lib.hid (TU.out.later hb)
         replace HB := Lib.hid (bthen HB.out hb); clear hb
         clear kT00 kT01 kT02 kT10 kT11 kT12 kT20 kT21 kT22 kTU0 kTU1 kTU2
         obtain ⟨kT00, kT01, kT02, -, -, -, -⟩ := T0.out
         obtain ⟨kT10, kT11, kT12, -, -, -, -⟩ := T1.out
         obtain ⟨kT20, kT21, kT22, -, -, -, -⟩ := T2.out
         obtain ⟨kTU0, kTU1, kTU2, -, -, -, -⟩ := TU.out
         have G1 : Hid True := trivial
         try go_wp2_with fail))
  go_wp2
  go_ret
  exact ⟨rfl, HB.out⟩

set_option maxHeartbeats 16000000 in
theorem ratioOrder_ep (p q r : Rat) {s0 s1 s2 : Bool} {a0 b0 a1 b1 a2 b2 : Option Addr} {n0 c0 m0 d0 n1 c1 m1 d1 n2 c2 m2 d2 : Nat} {xs0 ys0 xs1 ys1 xs2 ys2 : List Nat} {w : World} (h00 : Row w a0 n0 c0 xs0) (h01 : Row w b0 m0 d0 ys0) (hq0 : mkRat (sv s0 (val xs0)) (val ys0) = p) (hn0 : n0 ≤ 4) (hm0 : m0 ≤ 4) (h10 : Row w a1 n1 c1 xs1) (h11 : Row w b1 m1 d1 ys1) (hq1 : mkRat (sv s1 (val xs1)) (val ys1) = q) (hn1 : n1 ≤ 4) (hm1 : m1 ≤ 4) (h20 : Row w a2 n2 c2 xs2) (h21 : Row w b2 m2 d2 ys2) (hq2 : mkRat (sv s2 (val xs2)) (val ys2) = r) (hn2 : n2 ≤ 4) (hm2 : m2 ≤ 4) (hT : cmpR p q = 0) (hS : sgn (r * r).num = 1)
    (hT1 : cmpR q p = 0) (hT2 : cmpR (p + r) (q + r) = 0) (hT3 : cmpR (p * (r * r)) (q * (r * r)) = 0) (hT4 : sgn (p - q).num = 0) :
    Calls Tryz.prog 8 #[.agg #[.bool s0, .slice a0 n0 c0, .slice b0 m0 d0], .agg #[.bool s1, .slice a1 n1 c1, .slice b1 m1 d1], .agg #[.bool s2, .slice a2 n2 c2, .slice b2 m2 d2]] w fun e w' => e = .returned (.bool true) ∧ Below w.heap.size w w' := by
  obtain ⟨u, eu⟩ : ∃ z : Rat, r * r = z := ⟨_, rfl⟩
  obtain ⟨pr, epr⟩ : ∃ z : Rat, p + r = z := ⟨_, rfl⟩
  obtain ⟨qr, eqr⟩ : ∃ z : Rat, q + r = z := ⟨_, rfl⟩
  rw [epr, eqr] at hT2
  rw [eu] at hT3 hS
  obtain ⟨pu, epu⟩ : ∃ z : Rat, p * u = z := ⟨_, rfl⟩
  obtain ⟨qu, equ⟩ : ∃ z : Rat, q * u = z := ⟨_, rfl⟩
  obtain ⟨pq, epq⟩ : ∃ z : Rat, p - q = z := ⟨_, rfl⟩
  rw [epu, equ] at hT3
  rw [epq] at hT4
  have EU := Lib.hid eu; clear eu
  have EPR := Lib.hid epr; clear epr
  have EQR := Lib.hid eqr; clear eqr
  have EPU := Lib.hid epu; clear epu
  have EQU := Lib.hid equ; clear equ
  have EPQ := Lib.hid epq; clear epq
  have HT := Lib.hid hT; clear hT
  have HS := Lib.hid hS; clear hS
  have HT1 := Lib.hid hT1; clear hT1
  have HT2 := Lib.hid hT2; clear hT2
  have HT3 := Lib.hid hT3; clear hT3
  have HT4 := Lib.hid hT4; clear hT4
  have HB := Lib.hid (below_four w (.cells #[.bool s0, .slice a0 n0 c0, .slice b0 m0 d0] 26) (.cells #[.bool s1, .slice a1 n1 c1, .slice b1 m1 d1] 26) (.cells #[.bool s2, .slice a2 n2 c2, .slice b2 m2 d2] 26) (.cells #[.bool s0, .slice a0 n0 c0, .slice b0 m0 d0, .bool s1, .slice a1 n1 c1, .slice b1 m1 d1, .bool s2, .slice a2 n2 c2, .slice b2 m2 d2] 26))
  have T0 : Hid (Tri ((((w.alloc (.cells #[.bool s0, .slice a0 n0 c0, .slice b0 m0 d0] 26)).alloc (.cells #[.bool s1, .slice a1 n1 c1, .slice b1 m1 d1] 26)).alloc (.cells #[.bool s2, .slice a2 n2 c2, .slice b2 m2 d2] 26)).alloc (.cells #[.bool s0, .slice a0 n0 c0, .slice b0 m0 d0, .bool s1, .slice a1 n1 c1, .slice b1 m1 d1, .bool s2, .slice a2 n2 c2, .slice b2 m2 d2] 26)) (w.heap.size) (.bool s0) (.slice a0 n0 c0) (.slice b0 m0 d0)) := ((((tri_new w (.bool s0) (.slice a0 n0 c0) (.slice b0 m0 d0)).alloc _).alloc _).alloc _)
  have T1 : Hid (Tri ((((w.alloc (.cells #[.bool s0, .slice a0 n0 c0, .slice b0 m0 d0] 26)).alloc (.cells #[.bool s1, .slice a1 n1 c1, .slice b1 m1 d1] 26)).alloc (.cells #[.bool s2, .slice a2 n2 c2, .slice b2 m2 d2] 26)).alloc (.cells #[.bool s0, .slice a0 n0 c0, .slice b0 m0 d0, .bool s1, .slice a1 n1 c1, .slice b1 m1 d1, .bool s2, .slice a2 n2 c2, .slice b2 m2 d2] 26)) (w.heap.size + 1) (.bool s1) (.slice a1 n1 c1) (.slice b1 m1 d1)) := (((tri_newE (by simp)).alloc _).alloc _)
  have T2 : Hid (Tri ((((w.alloc (.cells #[.bool s0, .slice a0 n0 c0, .slice b0 m0 d0] 26)).alloc (.cells #[.bool s1, .slice a1 n1 c1, .slice b1 m1 d1] 26)).alloc (.cells #[.bool s2, .slice a2 n2 c2, .slice b2 m2 d2] 26)).alloc (.cells #[.bool s0, .slice a0 n0 c0, .slice b0 m0 d0, .bool s1, .slice a1 n1 c1, .slice b1 m1 d1, .bool s2, .slice a2 n2 c2, .slice b2 m2 d2] 26)) (w.heap.size + 1 + 1) (.bool s2) (.slice a2 n2 c2) (.slice b2 m2 d2)) := ((tri_newE (by simp)).alloc _)
  have ka0 := cell_new (((w.alloc (.cells #[.bool s0, .slice a0 n0 c0, .slice b0 m0 d0] 26)).alloc (.cells #[.bool s1, .slice a1 n1 c1, .slice b1 m1 d1] 26)).alloc (.cells #[.bool s2, .slice a2 n2 c2, .slice b2 m2 d2] 26)) #[.bool s0, .slice a0 n0 c0, .slice b0 m0 d0, .bool s1, .slice a1 n1 c1, .slice b1 m1 d1, .bool s2, .slice a2 n2 c2, .slice b2 m2 d2] 26 1
  have kb0 := cell_new (((w.alloc (.cells #[.bool s0, .slice a0 n0 c0, .slice b0 m0 d0] 26)).alloc (.cells #[.bool s1, .slice a1 n1 c1, .slice b1 m1 d1] 26)).alloc (.cells #[.bool s2, .slice a2 n2 c2, .slice b2 m2 d2] 26)) #[.bool s0, .slice a0 n0 c0, .slice b0 m0 d0, .bool s1, .slice a1 n1 c1, .slice b1 m1 d1, .bool s2, .slice a2 n2 c2, .slice b2 m2 d2] 26 2
  have ka1 := cell_new (((w.alloc (.cells #[.bool s0, .slice a0 n0 c0, .slice b0 m0 d0] 26)).alloc (.cells #[.bool s1, .slice a1 n1 c1, .slice b1 m1 d1] 26)).alloc (.cells #[.bool s2, .slice a2 n2 c2, .slice b2 m2 d2] 26)) #[.bool s0, .slice a0 n0 c0, .slice b0 m0 d0, .bool s1, .slice a1 n1 c1, .slice b1 m1 d1, .bool s2, .slice a2 n2 c2, .slice b2 m2 d2] 26 4
  have kb1 := cell_new (((w.alloc (.cells #[.bool s0, .slice a0 n0 c0, .slice b0 m0 d0] 26)).alloc (.cells #[.bool s1, .slice a1 n1 c1, .slice b1 m1 d1] 26)).alloc (.cells #[.bool s2, .slice a2 n2 c2, .slice b2 m2 d2] 26)) #[.bool s0, .slice a0 n0 c0, .slice b0 m0 d0, .bool s1, .slice a1 n1 c1, .slice b1 m1 d1, .bool s2, .slice a2 n2 c2, .slice b2 m2 d2] 26 5
  have ka2 := cell_new (((w.alloc (.cells #[.bool s0, .slice a0 n0 c0, .slice b0 m0 d0] 26)).alloc (.cells #[.bool s1, .slice a1 n1 c1, .slice b1 m1 d1] 26)).alloc (.cells #[.bool s2, .slice a2 n2 c2, .slice b2 m2 d2] 26)) #[.bool s0, .slice a0 n0 c0, .slice b0 m0 d0, .bool s1, .slice a1 n1 c1, .slice b1 m1 d1, .bool s2, .slice a2 n2 c2, .slice b2 m2 d2] 26 7
  have kb2 := cell_new (((w.alloc (.cells #[.bool s0, .slice a0 n0 c0, .slice b0 m0 d0] 26)).alloc (.cells #[.bool s1, .slice a1 n1 c1, .slice b1 m1 d1] 26)).alloc (.cells #[.bool s2, .slice a2 n2 c2, .slice b2 m2 d2] 26)) #[.bool s0, .slice a0 n0 c0, .slice b0 m0 d0, .bool s1, .slice a1 n1 c1, .slice b1 m1 d1, .bool s2, .slice a2 n2 c2, .slice b2 m2 d2] 26 8
  rw [show (((w.alloc (.cells #[.bool s0, .slice a0 n0 c0, .slice b0 m0 d0] 26)).alloc (.cells #[.bool s1, .slice a1 n1 c1, .slice b1 m1 d1] 26)).alloc (.cells #[.bool s2, .slice a2 n2 c2, .slice b2 m2 d2] 26)).heap.size = w.heap.size + 1 + 1 + 1 from by simp] at ka0 kb0 ka1 kb1 ka2 kb2
  have R00 := Lib.hid (h00.later HB.out); clear h00
  have R01 := Lib.hid (h01.later HB.out); clear h01
  have HQ0 := Lib.hid hq0; clear hq0
  have R10 := Lib.hid (h10.later HB.out); clear h10
  have R11 := Lib.hid (h11.later HB.out); clear h11
  have HQ1 := Lib.hid hq1; clear hq1
  have R20 := Lib.hid (h20.later HB.out); clear h20
  have R21 := Lib.hid (h21.later HB.out); clear h21
  have HQ2 := Lib.hid hq2; clear hq2
  go_enter Tryz.func8, Tryz.ntmps8
  go_wp2_with fail
  refine (few3_yes (w.heap.size + 1 + 1 + 1) a0 b0 n0 c0 m0 d0 a1 b1 n1 c1 m1 d1 a2 b2 n2 c2 m2 d2 _ ka0 kb0 ka1 kb1 ka2 kb2 hn0 hm0 hn1 hm1 hn2 hm2).mono ?_
  rintro e w0 ⟨rfl, rfl⟩
  clear ka0 kb0 ka1 kb1 ka2 kb2
  obtain ⟨kT00, kT01, kT02, -, -, -, -⟩ := T0.out
  obtain ⟨kT10, kT11, kT12, -, -, -, -⟩ := T1.out
  obtain ⟨kT20, kT21, kT22, -, -, -, -⟩ := T2.out
  go_wp2_with fail
  refine (cmpRat 0 p q R00.out R01.out R10.out R11.out HQ0.out HQ1.out (by omega) (by omega) (by omega) (by omega) HT.out).mono ?_
  rintro e w1 ⟨rfl, hb⟩
  replace R00 := Lib.hid (R00.out.later hb)
  replace R01 := Lib.hid (R01.out.later hb)
  replace R10 := Lib.hid (R10.out.later hb)
  replace R11 := Lib.hid (R11.out.later hb)
  replace R20 := Lib.hid (R20.out.later hb)
  replace R21 := Lib.hid (R21.out.later hb)
  replace T0 := Lib.hid (T0.out.later hb)
  replace T1 := Lib.hid (T1.out.later hb)
  replace T2 := Lib.hid (T2.out.later hb)
  replace HB := Lib.hid (bthen HB.out hb)
  clear hb
  clear kT00 kT01 kT02 kT10 kT11 kT12 kT20 kT21 kT22
  obtain ⟨kT00, kT01, kT02, -, -, -, -⟩ := T0.out
  obtain ⟨kT10, kT11, kT12, -, -, -, -⟩ := T1.out
  obtain ⟨kT20, kT21, kT22, -, -, -, -⟩ := T2.out
  go_wp2_with fail
  refine (mulR 8 8 u r r R20.out R21.out R20.out R21.out HQ2.out HQ2.out (by omega) (by omega) (by omega) (by omega) (by omega) (by omega) (by omega) (by omega) (by omega) EU.out).mono ?_
  rintro e w2 ⟨au, nu, cu, bu, mu, du, rfl, hnu, hmu, hr, hr2, hb⟩
  replace R00 := Lib.hid (R00.out.later hb)
  replace R01 := Lib.hid (R01.out.later hb)
  replace R10 := Lib.hid (R10.out.later hb)
  replace R11 := Lib.hid (R11.out.later hb)
  replace R20 := Lib.hid (R20.out.later hb)
  replace R21 := Lib.hid (R21.out.later hb)
  replace T0 := Lib.hid (T0.out.later hb)
  replace T1 := Lib.hid (T1.out.later hb)
  replace T2 := Lib.hid (T2.out.later hb)
  replace HB := Lib.hid (bthen HB.out hb)
  clear hb
  clear kT00 kT01 kT02 kT10 kT11 kT12 kT20 kT21 kT22
  have Ru0 := Lib.hid hr; clear hr
  have Ru1 := Lib.hid hr2; clear hr2
  have hb1 := below_one w2 (.cells #[.bool (decide (u.num < 0)), .slice au nu cu, .slice bu mu du] 26)
  have TU : Hid (Tri (w2.alloc (.cells #[.bool (decide (u.num < 0)), .slice au nu cu, .slice bu mu du] 26)) w2.heap.size (.bool (decide (u.num < 0))) (.slice au nu cu) (.slice bu mu du)) := tri_new w2 _ _ _
  replace Ru0 := Lib.hid (Ru0.out.later hb1)
  replace Ru1 := Lib.hid (Ru1.out.later hb1)
  replace R00 := Lib.hid (R00.out.later hb1)
  replace R01 := Lib.hid (R01.out.later hb1)
  replace R10 := Lib.hid (R10.out.later hb1)
  replace R11 := Lib.hid (R11.out.later hb1)
  replace R20 := Lib.hid (R20.out.later hb1)
  replace R21 := Lib.hid (R21.out.later hb1)
  replace T0 := Lib.hid (T0.out.later hb1)
  replace T1 := Lib.hid (T1.out.later hb1)
  replace T2 := Lib.hid (T2.out.later hb1)
  replace HB := Lib.hid (bthen HB.out hb1)
  clear hb1
  obtain ⟨kT00, kT01, kT02, -, -, -, -⟩ := T0.out
  obtain ⟨kT10, kT11, kT12, -, -, -, -⟩ := T1.out
  obtain ⟨kT20, kT21, kT22, -, -, -, -⟩ := T2.out
  obtain ⟨kTU0, kTU1, kTU2, -, -, -, -⟩ := TU.out
  go_wp2_with fail
  refine (signR 1 u Ru0.out Ru1.out (rat_limbs u) (by omega) (by omega) HS.out).mono ?_
  rintro e w3 ⟨rfl, hb⟩
  replace R00 := Lib.hid (R00.out.later hb)
  replace R01 := Lib.hid (R01.out.later hb)
  replace R10 := Lib.hid (R10.out.later hb)
  replace R11 := Lib.hid (R11.out.later hb)
  replace R20 := Lib.hid (R20.out.later hb)
  replace R21 := Lib.hid (R21.out.later hb)
  replace Ru0 := Lib.hid (Ru0.out.later hb)
  replace Ru1 := Lib.hid (Ru1.out.later hb)
  replace T0 := Lib.hid (T0.out.later hb)
  replace T1 := Lib.hid (T1.out.later hb)
  replace T2 := Lib.hid (T2.out.later hb)
  replace TU := Lib.hid (TU.out.later hb)
  replace HB := Lib.hid (bthen HB.out hb)
  clear hb
  clear kT00 kT01 kT02 kT10 kT11 kT12 kT20 kT21 kT22 kTU0 kTU1 kTU2
  obtain ⟨kT00, kT01, kT02, -, -, -, -⟩ := T0.out
  obtain ⟨kT10, kT11, kT12, -, -, -, -⟩ := T1.out
  obtain ⟨kT20, kT21, kT22, -, -, -, -⟩ := T2.out
  obtain ⟨kTU0, kTU1, kTU2, -, -, -, -⟩ := TU.out
  go_wp2_with fail
  replace R00 := Lib.hid R00.out.drew
  replace R01 := Lib.hid R01.out.drew
  replace R10 := Lib.hid R10.out.drew
  replace R11 := Lib.hid R11.out.drew
  replace R20 := Lib.hid R20.out.drew
  replace R21 := Lib.hid R21.out.drew
  replace Ru0 := Lib.hid Ru0.out.drew
  replace Ru1 := Lib.hid Ru1.out.drew
  replace T0 := Lib.hid T0.out.drew
  replace T1 := Lib.hid T1.out.drew
  replace T2 := Lib.hid T2.out.drew
  replace TU := Lib.hid TU.out.drew
  replace HB := Lib.hid HB.out.drew
  clear kT00 kT01 kT02 kT10 kT11 kT12 kT20 kT21 kT22 kTU0 kTU1 kTU2
  obtain ⟨kT00, kT01, kT02, -, -, -, -⟩ := T0.out
  obtain ⟨kT10, kT11, kT12, -, -, -, -⟩ := T1.out
  obtain ⟨kT20, kT21, kT22, -, -, -, -⟩ := T2.out
  obtain ⟨kTU0, kTU1, kTU2, -, -, -, -⟩ := TU.out
  go_region_held3 (fun w' => w'.cell? ⟨w.heap.size, 0, none⟩ = some (.bool s0) ∧ w'.cell? ⟨w.heap.size, 1, none⟩ = some (.slice a0 n0 c0) ∧ w'.cell? ⟨w.heap.size, 2, none⟩ = some (.slice b0 m0 d0) ∧ w'.cell? ⟨w.heap.size + 1, 0, none⟩ = some (.bool s1) ∧ w'.cell? ⟨w.heap.size + 1, 1, none⟩ = some (.slice a1 n1 c1) ∧ w'.cell? ⟨w.heap.size + 1, 2, none⟩ = some (.slice b1 m1 d1) ∧ w'.cell? ⟨w.heap.size + 1 + 1, 0, none⟩ = some (.bool s2) ∧ w'.cell? ⟨w.heap.size + 1 + 1, 1, none⟩ = some (.slice a2 n2 c2) ∧ w'.cell? ⟨w.heap.size + 1 + 1, 2, none⟩ = some (.slice b2 m2 d2) ∧ w'.cell? ⟨w2.heap.size, 0, none⟩ = some (.bool (decide (u.num < 0))) ∧ w'.cell? ⟨w2.heap.size, 1, none⟩ = some (.slice au nu cu) ∧ w'.cell? ⟨w2.heap.size, 2, none⟩ = some (.slice bu mu du))
    (first | (refine ⟨?_, ?_, ?_, ?_, ?_, ?_, ?_, ?_, ?_, ?_, ?_, ?_⟩ <;> with_reducible assumption) | (go_keep; done) | (refine ⟨?_, ?_, ?_, ?_, ?_, ?_, ?_, ?_, ?_, ?_, ?_, ?_⟩ <;> (repeat rw [cell_other (by first | (simp; done) | (simp; omega))]) <;> with_reducible assumption))
    (first
      | (have mk := G10; clear mk
         rw [if_pos (by rfl)]
         go_simp
         go_at_call 26
         refine (awakeR _).mono ?_
         rintro e v11 ⟨rfl, hb⟩
         replace R00 := Lib.hid (R00.out.later hb)
         replace R01 := Lib.hid (R01.out.later hb)
         replace R10 := Lib.hid (R10.out.later hb)
         replace R11 := Lib.hid (R11.out.later hb)
         replace R20 := Lib.hid (R20.out.later hb)
         replace R21 := Lib.hid (R21.out.later hb)
         replace Ru0 := Lib.hid (Ru0.out.later hb)
         replace Ru1 := Lib.hid (Ru1.out.later hb)
         replace Rpq0 := Lib.hid (Rpq0.out.later hb)
         replace Rpq1 := Lib.hid (Rpq1.out.later hb)
         replace T0 := Lib.hid (T0.out.later hb)
         replace T1 := Lib.hid (T1.out.later hb)
         replace T2 := Lib.hid (T2.out.later hb)
         replace TU := Lib.hid (TU.out.later hb)
         replace HB := Lib.hid (bthen HB.out hb); clear hb
         clear kT00 kT01 kT02 kT10 kT11 kT12 kT20 kT21 kT22 kTU0 kTU1 kTU2
         obtain ⟨kT00, kT01, kT02, -, -, -, -⟩ := T0.out
         obtain ⟨kT10, kT11, kT12, -, -, -, -⟩ := T1.out
         obtain ⟨kT20, kT21, kT22, -, -, -, -⟩ := T2.out
         obtain ⟨kTU0, kTU1, kTU2, -, -, -, -⟩ := TU.out
         have G11 : Hid True := trivial
         try go_wp2_with fail)
      | (have mk := G9; clear mk
         rw [if_pos (by rfl)]
         go_simp
         go_at_call 29
         refine (signR 0 pq Rpq0.out Rpq1.out (rat_limbs pq) (by omega) (by omega) HT4.out).mono ?_
         rintro e v10 ⟨rfl, hb⟩
         replace R00 := Lib.hid (R00.out.later hb)
         replace R01 := Lib.hid (R01.out.later hb)
         replace R10 := Lib.hid (R10.out.later hb)
         replace R11 := Lib.hid (R11.out.later hb)
         replace R20 := Lib.hid (R20.out.later hb)
         replace R21 := Lib.hid (R21.out.later hb)
         replace Ru0 := Lib.hid (Ru0.out.later hb)
         replace Ru1 := Lib.hid (Ru1.out.later hb)
         replace Rpq0 := Lib.hid (Rpq0.out.later hb)
         replace Rpq1 := Lib.hid (Rpq1.out.later hb)
         replace T0 := Lib.hid (T0.out.later hb)
         replace T1 := Lib.hid (T1.out.later hb)
         replace T2 := Lib.hid (T2.out.later hb)
         replace TU := Lib.hid (TU.out.later hb)
         replace HB := Lib.hid (bthen HB.out hb); clear hb
         clear kT00 kT01 kT02 kT10 kT11 kT12 kT20 kT21 kT22 kTU0 kTU1 kTU2
         obtain ⟨kT00, kT01, kT02, -, -, -, -⟩ := T0.out
         obtain ⟨kT10, kT11, kT12, -, -, -, -⟩ := T1.out
         obtain ⟨kT20, kT21, kT22, -, -, -, -⟩ := T2.out
         obtain ⟨kTU0, kTU1, kTU2, -, -, -, -⟩ := TU.out
         have G10 : Hid True := trivial
         try go_wp2_with fail)
      | (have mk := G8; clear mk
         rw [if_pos (by rfl)]
         go_simp
         go_at_call 18
         refine (subR 4 4 4 4 9 8 pq p q R00.out R01.out R10.out R11.out HQ0.out HQ1.out hn0 hm0 hn1 hm1 (by omega) (by omega) (by omega) (by omega) (by omega) (by omega) (by omega) (by omega) (by omega) (by omega) (by omega) EPQ.out).mono ?_
         rintro e v9 ⟨apq, npq, cpq, bpq, mpq, dpq, rfl, hnpq, hmpq, hr, hr2, hb⟩
         replace R00 := Lib.hid (R00.out.later hb)
         replace R01 := Lib.hid (R01.out.later hb)
         replace R10 := Lib.hid (R10.out.later hb)
         replace R11 := Lib.hid (R11.out.later hb)
         replace R20 := Lib.hid (R20.out.later hb)
         replace R21 := Lib.hid (R21.out.later hb)
         replace Ru0 := Lib.hid (Ru0.out.later hb)
         replace Ru1 := Lib.hid (Ru1.out.later hb)
         replace T0 := Lib.hid (T0.out.later hb)
         replace T1 := Lib.hid (T1.out.later hb)
         replace T2 := Lib.hid (T2.out.later hb)
         replace TU := Lib.hid (TU.out.later hb)
         replace HB := Lib.hid (bthen HB.out hb); clear hb
         clear kT00 kT01 kT02 kT10 kT11 kT12 kT20 kT21 kT22 kTU0 kTU1 kTU2
         obtain ⟨kT00, kT01, kT02, -, -, -, -⟩ := T0.out
         obtain ⟨kT10, kT11, kT12, -, -, -, -⟩ := T1.out
         obtain ⟨kT20, kT21, kT22, -, -, -, -⟩ := T2.out
         obtain ⟨kTU0, kTU1, kTU2, -, -, -, -⟩ := TU.out
         have Rpq0 := Lib.hid hr; clear hr
         have Rpq1 := Lib.hid hr2; clear hr2
         have G9 : Hid True := trivial
         try go_wp2_with fail)
      | (have mk := G7; clear mk
         rw [if_pos (by rfl)]
         go_simp
         go_at_call 29
         refine (signR 1 u Ru0.out Ru1.out (rat_limbs u) (by omega) (by omega) HS.out).mono ?_
         rintro e v8 ⟨rfl, hb⟩
         replace R00 := Lib.hid (R00.out.later hb)
         replace R01 := Lib.hid (R01.out.later hb)
         replace R10 := Lib.hid (R10.out.later hb)
         replace R11 := Lib.hid (R11.out.later hb)
         replace R20 := Lib.hid (R20.out.later hb)
         replace R21 := Lib.hid (R21.out.later hb)
         replace Ru0 := Lib.hid (Ru0.out.later hb)
         replace Ru1 := Lib.hid (Ru1.out.later hb)
         replace T0 := Lib.hid (T0.out.later hb)
         replace T1 := Lib.hid (T1.out.later hb)
         replace T2 := Lib.hid (T2.out.later hb)
         replace TU := Lib.hid (TU.out.later hb)
         replace HB := Lib.hid (bthen HB.out hb); clear hb
         clear kT00 kT01 kT02 kT10 kT11 kT12 kT20 kT21 kT22 kTU0 kTU1 kTU2
         obtain ⟨kT00, kT01, kT02, -, -, -, -⟩ := T0.out
         obtain ⟨kT10, kT11, kT12, -, -, -, -⟩ := T1.out
         obtain ⟨kT20, kT21, kT22, -, -, -, -⟩ := T2.out
         obtain ⟨kTU0, kTU1, kTU2, -, -, -, -⟩ := TU.out
         have G8 : Hid True := trivial
         try go_wp2_with fail)
      | (have mk := G6; clear mk
         rw [if_pos (by rfl)]
         go_simp
         go_at_call 24
         refine (cmpRat 0 pu qu Rpu0.out Rpu1.out Rqu0.out Rqu1.out (rat_limbs pu) (rat_limbs qu) (by omega) (by omega) (by omega) (by omega) HT3.out).mono ?_
         rintro e v7 ⟨rfl, hb⟩
         clear Rpu0
         clear Rpu1
         clear Rqu0
         clear Rqu1
         replace R00 := Lib.hid (R00.out.later hb)
         replace R01 := Lib.hid (R01.out.later hb)
         replace R10 := Lib.hid (R10.out.later hb)
         replace R11 := Lib.hid (R11.out.later hb)
         replace R20 := Lib.hid (R20.out.later hb)
         replace R21 := Lib.hid (R21.out.later hb)
         replace Ru0 := Lib.hid (Ru0.out.later hb)
         replace Ru1 := Lib.hid (Ru1.out.later hb)
         replace T0 := Lib.hid (T0.out.later hb)
         replace T1 := Lib.hid (T1.out.later hb)
         replace T2 := Lib.hid (T2.out.later hb)
         replace TU := Lib.hid (TU.out.later hb)
         replace HB := Lib.hid (bthen HB.out hb); clear hb
         clear kT00 kT01 kT02 kT10 kT11 kT12 kT20 kT21 kT22 kTU0 kTU1 kTU2
         obtain ⟨kT00, kT01, kT02, -, -, -, -⟩ := T0.out
         obtain ⟨kT10, kT11, kT12, -, -, -, -⟩ := T1.out
         obtain ⟨kT20, kT21, kT22, -, -, -, -⟩ := T2.out
         obtain ⟨kTU0, kTU1, kTU2, -, -, -, -⟩ := TU.out
         have G7 : Hid True := trivial
         try go_wp2_with fail)
      | (have mk := G5; clear mk
         rw [if_pos (by rfl)]
         go_simp
         go_at_call 20
         refine (mulR 12 12 qu q u R10.out R11.out Ru0.out Ru1.out HQ1.out (rat_limbs u) (by omega) (by omega) (by omega) (by omega) (by omega) (by omega) (by omega) (by omega) (by omega) EQU.out).mono ?_
         rintro e v6 ⟨aqu, nqu, cqu, bqu, mqu, dqu, rfl, hnqu, hmqu, hr, hr2, hb⟩
         replace R00 := Lib.hid (R00.out.later hb)
         replace R01 := Lib.hid (R01.out.later hb)
         replace R10 := Lib.hid (R10.out.later hb)
         replace R11 := Lib.hid (R11.out.later hb)
         replace R20 := Lib.hid (R20.out.later hb)
         replace R21 := Lib.hid (R21.out.later hb)
         replace Ru0 := Lib.hid (Ru0.out.later hb)
         replace Ru1 := Lib.hid (Ru1.out.later hb)
         replace Rpu0 := Lib.hid (Rpu0.out.later hb)
         replace Rpu1 := Lib.hid (Rpu1.out.later hb)
         replace T0 := Lib.hid (T0.out.later hb)
         replace T1 := Lib.hid (T1.out.later hb)
         replace T2 := Lib.hid (T2.out.later hb)
         replace TU := Lib.hid (TU.out.later hb)
         replace HB := Lib.hid (bthen HB.out hb); clear hb
         clear kT00 kT01 kT02 kT10 kT11 kT12 kT20 kT21 kT22 kTU0 kTU1 kTU2
         obtain ⟨kT00, kT01, kT02, -, -, -, -⟩ := T0.out
         obtain ⟨kT10, kT11, kT12, -, -, -, -⟩ := T1.out
         obtain ⟨kT20, kT21, kT22, -, -, -, -⟩ := T2.out
         obtain ⟨kTU0, kTU1, kTU2, -, -, -, -⟩ := TU.out
         have Rqu0 := Lib.hid hr; clear hr
         have Rqu1 := Lib.hid hr2; clear hr2
         have G6 : Hid True := trivial
         try go_wp2_with fail)
      | (have mk := G4; clear mk
         rw [if_pos (by rfl)]
         go_simp
         go_at_call 20
         refine (mulR 12 12 pu p u R00.out R01.out Ru0.out Ru1.out HQ0.out (rat_limbs u) (by omega) (by omega) (by omega) (by omega) (by omega) (by omega) (by omega) (by omega) (by omega) EPU.out).mono ?_
         rintro e v5 ⟨apu, npu, cpu, bpu, mpu, dpu, rfl, hnpu, hmpu, hr, hr2, hb⟩
         replace R00 := Lib.hid (R00.out.later hb)
         replace R01 := Lib.hid (R01.out.later hb)
         replace R10 := Lib.hid (R10.out.later hb)
         replace R11 := Lib.hid (R11.out.later hb)
         replace R20 := Lib.hid (R20.out.later hb)
         replace R21 := Lib.hid (R21.out.later hb)
         replace Ru0 := Lib.hid (Ru0.out.later hb)
         replace Ru1 := Lib.hid (Ru1.out.later hb)
         replace T0 := Lib.hid (T0.out.later hb)
         replace T1 := Lib.hid (T1.out.later hb)
         replace T2 := Lib.hid (T2.out.later hb)
         replace TU := Lib.hid (TU.out.later hb)
         replace HB := Lib.hid (bthen HB.out hb); clear hb
         clear kT00 kT01 kT02 kT10 kT11 kT12 kT20 kT21 kT22 kTU0 kTU1 kTU2
         obtain ⟨kT00, kT01, kT02, -, -, -, -⟩ := T0.out
         obtain ⟨kT10, kT11, kT12, -, -, -, -⟩ := T1.out
         obtain ⟨kT20, kT21, kT22, -, -, -, -⟩ := T2.out
         obtain ⟨kTU0, kTU1, kTU2, -, -, -, -⟩ := TU.out
         have Rpu0 := Lib.hid hr; clear hr
         have Rpu1 := Lib.hid hr2; clear hr2
         have G5 : Hid True := trivial
         try go_wp2_with fail)
      | (have mk := G3; clear mk
         rw [if_pos (by rfl)]
         go_simp
         go_at_call 24
         refine (cmpRat 0 pr qr Rpr0.out Rpr1.out Rqr0.out Rqr1.out (rat_limbs pr) (rat_limbs qr) (by omega) (by omega) (by omega) (by omega) HT2.out).mono ?_
         rintro e v4 ⟨rfl, hb⟩
         clear Rpr0
         clear Rpr1
         clear Rqr0
         clear Rqr1
         replace R00 := Lib.hid (R00.out.later hb)
         replace R01 := Lib.hid (R01.out.later hb)
         replace R10 := Lib.hid (R10.out.later hb)
         replace R11 := Lib.hid (R11.out.later hb)
         replace R20 := Lib.hid (R20.out.later hb)
         replace R21 := Lib.hid (R21.out.later hb)
         replace Ru0 := Lib.hid (Ru0.out.later hb)
         replace Ru1 := Lib.hid (Ru1.out.later hb)
         replace T0 := Lib.hid (T0.out.later hb)
         replace T1 := Lib.hid (T1.out.later hb)
         replace T2 := Lib.hid (T2.out.later hb)
         replace TU := Lib.hid (TU.out.later hb)
         replace HB := Lib.hid (bthen HB.out hb); clear hb
         clear kT00 kT01 kT02 kT10 kT11 kT12 kT20 kT21 kT22 kTU0 kTU1 kTU2
         obtain ⟨kT00, kT01, kT02, -, -, -, -⟩ := T0.out
         obtain ⟨kT10, kT11, kT12, -, -, -, -⟩ := T1.out
         obtain ⟨kT20, kT21, kT22, -, -, -, -⟩ := T2.out
         obtain ⟨kTU0, kTU1, kTU2, -, -, -, -⟩ := TU.out
         have G4 : Hid True := trivial
         try go_wp2_with fail)
      | (have mk := G2; clear mk
         rw [if_pos (by rfl)]
         go_simp
         go_at_call 16
         refine (addR 4 4 4 4 9 8 qr q r R10.out R11.out R20.out R21.out HQ1.out HQ2.out hn1 hm1 hn2 hm2 (by omega) (by omega) (by omega) (by omega) (by omega) (by omega) (by omega) (by omega) (by omega) (by omega) (by omega) EQR.out).mono ?_
         rintro e v3 ⟨aqr, nqr, cqr, bqr, mqr, dqr, rfl, hnqr, hmqr, hr, hr2, hb⟩
         replace R00 := Lib.hid (R00.out.later hb)
         replace R01 := Lib.hid (R01.out.later hb)
         replace R10 := Lib.hid (R10.out.later hb)
         replace R11 := Lib.hid (R11.out.later hb)
         replace R20 := Lib.hid (R20.out.later hb)
         replace R21 := Lib.hid (R21.out.later hb)
         replace Ru0 := Lib.hid (Ru0.out.later hb)
         replace Ru1 := Lib.hid (Ru1.out.later hb)
         replace Rpr0 := Lib.hid (Rpr0.out.later hb)
         replace Rpr1 := Lib.hid (Rpr1.out.later hb)
         replace T0 := Lib.hid (T0.out.later hb)
         replace T1 := Lib.hid (T1.out.later hb)
         replace T2 := Lib.hid (T2.out.later hb)
         replace TU := Lib.hid (TU.out.later hb)
         replace HB := Lib.hid (bthen HB.out hb); clear hb
         clear kT00 kT01 kT02 kT10 kT11 kT12 kT20 kT21 kT22 kTU0 kTU1 kTU2
         obtain ⟨kT00, kT01, kT02, -, -, -, -⟩ := T0.out
         obtain ⟨kT10, kT11, kT12, -, -, -, -⟩ := T1.out
         obtain ⟨kT20, kT21, kT22, -, -, -, -⟩ := T2.out
         obtain ⟨kTU0, kTU1, kTU2, -, -, -, -⟩ := TU.out
         have Rqr0 := Lib.hid hr; clear hr
         have Rqr1 := Lib.hid hr2; clear hr2
         have G3 : Hid True := trivial
         try go_wp2_with fail)
      | (have mk := G1; clear mk
         rw [if_pos (by rfl)]
         go_simp
         go_at_call 16
         refine (addR 4 4 4 4 9 8 pr p r R00.out R01.out R20.out R21.out HQ0.out HQ2.out hn0 hm0 hn2 hm2 (by omega) (by omega) (by omega) (by omega) (by omega) (by omega) (by omega) (by omega) (by omega) (by omega) (by omega) EPR.out).mono ?_
         rintro e v2 ⟨apr, npr, cpr, bpr, mpr, dpr, rfl, hnpr, hmpr, hr, hr2, hb⟩
         replace R00 := Lib.hid (R00.out.later hb)
         replace R01 := Lib.hid (R01.out.later hb)
         replace R10 := Lib.hid (R10.out.later hb)
         replace R11 := Lib.hid (R11.out.later hb)
         replace R20 := Lib.hid (R20.out.later hb)
         replace R21 := Lib.hid (R21.out.later hb)
         replace Ru0 := Lib.hid (Ru0.out.later hb)
         replace Ru1 := Lib.hid (Ru1.out.later hb)
         replace T0 := Lib.hid (T0.out.later hb)
         replace T1 := Lib.hid (T1.out.later hb)
         replace T2 := Lib.hid (T2.out.later hb)
         replace TU := Lib.hid (TU.out.later hb)
         replace HB := Lib.hid (bthen HB.out hb); clear hb
         clear kT00 kT01 kT02 kT10 kT11 kT12 kT20 kT21 kT22 kTU0 kTU1 kTU2
         obtain ⟨kT00, kT01, kT02, -, -, -, -⟩ := T0.out
         obtain ⟨kT10, kT11, kT12, -, -, -, -⟩ := T1.out
         obtain ⟨kT20, kT21, kT22, -, -, -, -⟩ := T2.out
         obtain ⟨kTU0, kTU1, kTU2, -, -, -, -⟩ := TU.out
         have Rpr0 := Lib.hid hr; clear hr
         have Rpr1 := Lib.hid hr2; clear hr2
         have G2 : Hid True := trivial
         try go_wp2_with fail)
      | (skip
         rw [if_pos (by rfl)]
         go_simp
         go_at_call 24
         refine (cmpRat 0 q p R10.out R11.out R00.out R01.out HQ1.out HQ0.out (by omega) (by omega) (by omega) (by omega) HT1.out).mono ?_
         rintro e v1 ⟨rfl, hb⟩
         replace R00 := Lib.hid (R00.out.later hb)
         replace R01 := Lib.hid (R01.out.later hb)
         replace R10 := Lib.hid (R10.out.later hb)
         replace R11 := Lib.hid (R11.out.later hb)
         replace R20 := Lib.hid (R20.out.later hb)
         replace R21 := Lib.hid (R21.out.later hb)
         replace Ru0 := Lib.hid (Ru0.out.later hb)
         replace Ru1 := Lib.hid (Ru1.out.later hb)
         replace T0 := Lib.hid (T0.out.later hb)
         replace T1 := Lib.hid (T1.out.later hb)
         replace T2 := Lib.hid (T2.out.later hb)
         replace TU := Lib.hid (TU.out.later hb)
         replace HB := Lib.hid (bthen HB.out hb); clear hb
         clear kT00 kT01 kT02 kT10 kT11 kT12 kT20 kT21 kT22 kTU0 kTU1 kTU2
         obtain ⟨kT00, kT01, kT02, -, -, -, -⟩ := T0.out
         obtain ⟨kT10, kT11, kT12, -, -, -, -⟩ := T1.out
         obtain ⟨kT20, kT21, kT22, -, -, -, -⟩ := T2.out
         obtain ⟨kTU0, kTU1, kTU2, -, -, -, -⟩ := TU.out
         have G1 : Hid True := trivial
         try go_wp2_with fail))
  go_wp2
  go_ret
  exact ⟨rfl, HB.out⟩

end Go.Proofs.YtnnoicjnggoffaaGreat
/- RatioOrder, by nought. -/
namespace Go.Proofs.YtnnoicjnggoffaaGreat
set_option linter.unusedVariables false
set_option linter.unusedSimpArgs false
set_option maxRecDepth 100000
open Go.RowKit Nums

set_option maxHeartbeats 16000000 in
theorem ratioOrder_gz (p q r : Rat) {s0 s1 s2 : Bool} {a0 b0 a1 b1 a2 b2 : Option Addr} {n0 c0 m0 d0 n1 c1 m1 d1 n2 c2 m2 d2 : Nat} {xs0 ys0 xs1 ys1 xs2 ys2 : List Nat} {w : World} (h00 : Row w a0 n0 c0 xs0) (h01 : Row w b0 m0 d0 ys0) (hq0 : mkRat (sv s0 (val xs0)) (val ys0) = p) (hn0 : n0 ≤ 4) (hm0 : m0 ≤ 4) (h10 : Row w a1 n1 c1 xs1) (h11 : Row w b1 m1 d1 ys1) (hq1 : mkRat (sv s1 (val xs1)) (val ys1) = q) (hn1 : n1 ≤ 4) (hm1 : m1 ≤ 4) (h20 : Row w a2 n2 c2 xs2) (h21 : Row w b2 m2 d2 ys2) (hq2 : mkRat (sv s2 (val xs2)) (val ys2) = r) (hn2 : n2 ≤ 4) (hm2 : m2 ≤ 4) (hT : cmpR p q = 1) (hS : sgn (r * r).num = 0)
    (hT1 : cmpR q p = (-1)) (hT2 : cmpR (p + r) (q + r) = 1) (hT3 : cmpR (p * (r * r)) (q * (r * r)) = 0) (hT4 : sgn (p - q).num = 1) :
    Calls Tryz.prog 8 #[.agg #[.bool s0, .slice a0 n0 c0, .slice b0 m0 d0], .agg #[.bool s1, .slice a1 n1 c1, .slice b1 m1 d1], .agg #[.bool s2, .slice a2 n2 c2, .slice b2 m2 d2]] w fun e w' => e = .returned (.bool true) ∧ Below w.heap.size w w' := by
  obtain ⟨u, eu⟩ : ∃ z : Rat, r * r = z := ⟨_, rfl⟩
  obtain ⟨pr, epr⟩ : ∃ z : Rat, p + r = z := ⟨_, rfl⟩
  obtain ⟨qr, eqr⟩ : ∃ z : Rat, q + r = z := ⟨_, rfl⟩
  rw [epr, eqr] at hT2
  rw [eu] at hT3 hS
  obtain ⟨pu, epu⟩ : ∃ z : Rat, p * u = z := ⟨_, rfl⟩
  obtain ⟨qu, equ⟩ : ∃ z : Rat, q * u = z := ⟨_, rfl⟩
  obtain ⟨pq, epq⟩ : ∃ z : Rat, p - q = z := ⟨_, rfl⟩
  rw [epu, equ] at hT3
  rw [epq] at hT4
  have EU := Lib.hid eu; clear eu
  have EPR := Lib.hid epr; clear epr
  have EQR := Lib.hid eqr; clear eqr
  have EPU := Lib.hid epu; clear epu
  have EQU := Lib.hid equ; clear equ
  have EPQ := Lib.hid epq; clear epq
  have HT := Lib.hid hT; clear hT
  have HS := Lib.hid hS; clear hS
  have HT1 := Lib.hid hT1; clear hT1
  have HT2 := Lib.hid hT2; clear hT2
  have HT3 := Lib.hid hT3; clear hT3
  have HT4 := Lib.hid hT4; clear hT4
  have HB := Lib.hid (below_four w (.cells #[.bool s0, .slice a0 n0 c0, .slice b0 m0 d0] 26) (.cells #[.bool s1, .slice a1 n1 c1, .slice b1 m1 d1] 26) (.cells #[.bool s2, .slice a2 n2 c2, .slice b2 m2 d2] 26) (.cells #[.bool s0, .slice a0 n0 c0, .slice b0 m0 d0, .bool s1, .slice a1 n1 c1, .slice b1 m1 d1, .bool s2, .slice a2 n2 c2, .slice b2 m2 d2] 26))
  have T0 : Hid (Tri ((((w.alloc (.cells #[.bool s0, .slice a0 n0 c0, .slice b0 m0 d0] 26)).alloc (.cells #[.bool s1, .slice a1 n1 c1, .slice b1 m1 d1] 26)).alloc (.cells #[.bool s2, .slice a2 n2 c2, .slice b2 m2 d2] 26)).alloc (.cells #[.bool s0, .slice a0 n0 c0, .slice b0 m0 d0, .bool s1, .slice a1 n1 c1, .slice b1 m1 d1, .bool s2, .slice a2 n2 c2, .slice b2 m2 d2] 26)) (w.heap.size) (.bool s0) (.slice a0 n0 c0) (.slice b0 m0 d0)) := ((((tri_new w (.bool s0) (.slice a0 n0 c0) (.slice b0 m0 d0)).alloc _).alloc _).alloc _)
  have T1 : Hid (Tri ((((w.alloc (.cells #[.bool s0, .slice a0 n0 c0, .slice b0 m0 d0] 26)).alloc (.cells #[.bool s1, .slice a1 n1 c1, .slice b1 m1 d1] 26)).alloc (.cells #[.bool s2, .slice a2 n2 c2, .slice b2 m2 d2] 26)).alloc (.cells #[.bool s0, .slice a0 n0 c0, .slice b0 m0 d0, .bool s1, .slice a1 n1 c1, .slice b1 m1 d1, .bool s2, .slice a2 n2 c2, .slice b2 m2 d2] 26)) (w.heap.size + 1) (.bool s1) (.slice a1 n1 c1) (.slice b1 m1 d1)) := (((tri_newE (by simp)).alloc _).alloc _)
  have T2 : Hid (Tri ((((w.alloc (.cells #[.bool s0, .slice a0 n0 c0, .slice b0 m0 d0] 26)).alloc (.cells #[.bool s1, .slice a1 n1 c1, .slice b1 m1 d1] 26)).alloc (.cells #[.bool s2, .slice a2 n2 c2, .slice b2 m2 d2] 26)).alloc (.cells #[.bool s0, .slice a0 n0 c0, .slice b0 m0 d0, .bool s1, .slice a1 n1 c1, .slice b1 m1 d1, .bool s2, .slice a2 n2 c2, .slice b2 m2 d2] 26)) (w.heap.size + 1 + 1) (.bool s2) (.slice a2 n2 c2) (.slice b2 m2 d2)) := ((tri_newE (by simp)).alloc _)
  have ka0 := cell_new (((w.alloc (.cells #[.bool s0, .slice a0 n0 c0, .slice b0 m0 d0] 26)).alloc (.cells #[.bool s1, .slice a1 n1 c1, .slice b1 m1 d1] 26)).alloc (.cells #[.bool s2, .slice a2 n2 c2, .slice b2 m2 d2] 26)) #[.bool s0, .slice a0 n0 c0, .slice b0 m0 d0, .bool s1, .slice a1 n1 c1, .slice b1 m1 d1, .bool s2, .slice a2 n2 c2, .slice b2 m2 d2] 26 1
  have kb0 := cell_new (((w.alloc (.cells #[.bool s0, .slice a0 n0 c0, .slice b0 m0 d0] 26)).alloc (.cells #[.bool s1, .slice a1 n1 c1, .slice b1 m1 d1] 26)).alloc (.cells #[.bool s2, .slice a2 n2 c2, .slice b2 m2 d2] 26)) #[.bool s0, .slice a0 n0 c0, .slice b0 m0 d0, .bool s1, .slice a1 n1 c1, .slice b1 m1 d1, .bool s2, .slice a2 n2 c2, .slice b2 m2 d2] 26 2
  have ka1 := cell_new (((w.alloc (.cells #[.bool s0, .slice a0 n0 c0, .slice b0 m0 d0] 26)).alloc (.cells #[.bool s1, .slice a1 n1 c1, .slice b1 m1 d1] 26)).alloc (.cells #[.bool s2, .slice a2 n2 c2, .slice b2 m2 d2] 26)) #[.bool s0, .slice a0 n0 c0, .slice b0 m0 d0, .bool s1, .slice a1 n1 c1, .slice b1 m1 d1, .bool s2, .slice a2 n2 c2, .slice b2 m2 d2] 26 4
  have kb1 := cell_new (((w.alloc (.cells #[.bool s0, .slice a0 n0 c0, .slice b0 m0 d0] 26)).alloc (.cells #[.bool s1, .slice a1 n1 c1, .slice b1 m1 d1] 26)).alloc (.cells #[.bool s2, .slice a2 n2 c2, .slice b2 m2 d2] 26)) #[.bool s0, .slice a0 n0 c0, .slice b0 m0 d0, .bool s1, .slice a1 n1 c1, .slice b1 m1 d1, .bool s2, .slice a2 n2 c2, .slice b2 m2 d2] 26 5
  have ka2 := cell_new (((w.alloc (.cells #[.bool s0, .slice a0 n0 c0, .slice b0 m0 d0] 26)).alloc (.cells #[.bool s1, .slice a1 n1 c1, .slice b1 m1 d1] 26)).alloc (.cells #[.bool s2, .slice a2 n2 c2, .slice b2 m2 d2] 26)) #[.bool s0, .slice a0 n0 c0, .slice b0 m0 d0, .bool s1, .slice a1 n1 c1, .slice b1 m1 d1, .bool s2, .slice a2 n2 c2, .slice b2 m2 d2] 26 7
  have kb2 := cell_new (((w.alloc (.cells #[.bool s0, .slice a0 n0 c0, .slice b0 m0 d0] 26)).alloc (.cells #[.bool s1, .slice a1 n1 c1, .slice b1 m1 d1] 26)).alloc (.cells #[.bool s2, .slice a2 n2 c2, .slice b2 m2 d2] 26)) #[.bool s0, .slice a0 n0 c0, .slice b0 m0 d0, .bool s1, .slice a1 n1 c1, .slice b1 m1 d1, .bool s2, .slice a2 n2 c2, .slice b2 m2 d2] 26 8
  rw [show (((w.alloc (.cells #[.bool s0, .slice a0 n0 c0, .slice b0 m0 d0] 26)).alloc (.cells #[.bool s1, .slice a1 n1 c1, .slice b1 m1 d1] 26)).alloc (.cells #[.bool s2, .slice a2 n2 c2, .slice b2 m2 d2] 26)).heap.size = w.heap.size + 1 + 1 + 1 from by simp] at ka0 kb0 ka1 kb1 ka2 kb2
  have R00 := Lib.hid (h00.later HB.out); clear h00
  have R01 := Lib.hid (h01.later HB.out); clear h01
  have HQ0 := Lib.hid hq0; clear hq0
  have R10 := Lib.hid (h10.later HB.out); clear h10
  have R11 := Lib.hid (h11.later HB.out); clear h11
  have HQ1 := Lib.hid hq1; clear hq1
  have R20 := Lib.hid (h20.later HB.out); clear h20
  have R21 := Lib.hid (h21.later HB.out); clear h21
  have HQ2 := Lib.hid hq2; clear hq2
  go_enter Tryz.func8, Tryz.ntmps8
  go_wp2_with fail
  refine (few3_yes (w.heap.size + 1 + 1 + 1) a0 b0 n0 c0 m0 d0 a1 b1 n1 c1 m1 d1 a2 b2 n2 c2 m2 d2 _ ka0 kb0 ka1 kb1 ka2 kb2 hn0 hm0 hn1 hm1 hn2 hm2).mono ?_
  rintro e w0 ⟨rfl, rfl⟩
  clear ka0 kb0 ka1 kb1 ka2 kb2
  obtain ⟨kT00, kT01, kT02, -, -, -, -⟩ := T0.out
  obtain ⟨kT10, kT11, kT12, -, -, -, -⟩ := T1.out
  obtain ⟨kT20, kT21, kT22, -, -, -, -⟩ := T2.out
  go_wp2_with fail
  refine (cmpRat 1 p q R00.out R01.out R10.out R11.out HQ0.out HQ1.out (by omega) (by omega) (by omega) (by omega) HT.out).mono ?_
  rintro e w1 ⟨rfl, hb⟩
  replace R00 := Lib.hid (R00.out.later hb)
  replace R01 := Lib.hid (R01.out.later hb)
  replace R10 := Lib.hid (R10.out.later hb)
  replace R11 := Lib.hid (R11.out.later hb)
  replace R20 := Lib.hid (R20.out.later hb)
  replace R21 := Lib.hid (R21.out.later hb)
  replace T0 := Lib.hid (T0.out.later hb)
  replace T1 := Lib.hid (T1.out.later hb)
  replace T2 := Lib.hid (T2.out.later hb)
  replace HB := Lib.hid (bthen HB.out hb)
  clear hb
  clear kT00 kT01 kT02 kT10 kT11 kT12 kT20 kT21 kT22
  obtain ⟨kT00, kT01, kT02, -, -, -, -⟩ := T0.out
  obtain ⟨kT10, kT11, kT12, -, -, -, -⟩ := T1.out
  obtain ⟨kT20, kT21, kT22, -, -, -, -⟩ := T2.out
  go_wp2_with fail
  refine (mulR 8 8 u r r R20.out R21.out R20.out R21.out HQ2.out HQ2.out (by omega) (by omega) (by omega) (by omega) (by omega) (by omega) (by omega) (by omega) (by omega) EU.out).mono ?_
  rintro e w2 ⟨au, nu, cu, bu, mu, du, rfl, hnu, hmu, hr, hr2, hb⟩
  replace R00 := Lib.hid (R00.out.later hb)
  replace R01 := Lib.hid (R01.out.later hb)
  replace R10 := Lib.hid (R10.out.later hb)
  replace R11 := Lib.hid (R11.out.later hb)
  replace R20 := Lib.hid (R20.out.later hb)
  replace R21 := Lib.hid (R21.out.later hb)
  replace T0 := Lib.hid (T0.out.later hb)
  replace T1 := Lib.hid (T1.out.later hb)
  replace T2 := Lib.hid (T2.out.later hb)
  replace HB := Lib.hid (bthen HB.out hb)
  clear hb
  clear kT00 kT01 kT02 kT10 kT11 kT12 kT20 kT21 kT22
  have Ru0 := Lib.hid hr; clear hr
  have Ru1 := Lib.hid hr2; clear hr2
  have hb1 := below_one w2 (.cells #[.bool (decide (u.num < 0)), .slice au nu cu, .slice bu mu du] 26)
  have TU : Hid (Tri (w2.alloc (.cells #[.bool (decide (u.num < 0)), .slice au nu cu, .slice bu mu du] 26)) w2.heap.size (.bool (decide (u.num < 0))) (.slice au nu cu) (.slice bu mu du)) := tri_new w2 _ _ _
  replace Ru0 := Lib.hid (Ru0.out.later hb1)
  replace Ru1 := Lib.hid (Ru1.out.later hb1)
  replace R00 := Lib.hid (R00.out.later hb1)
  replace R01 := Lib.hid (R01.out.later hb1)
  replace R10 := Lib.hid (R10.out.later hb1)
  replace R11 := Lib.hid (R11.out.later hb1)
  replace R20 := Lib.hid (R20.out.later hb1)
  replace R21 := Lib.hid (R21.out.later hb1)
  replace T0 := Lib.hid (T0.out.later hb1)
  replace T1 := Lib.hid (T1.out.later hb1)
  replace T2 := Lib.hid (T2.out.later hb1)
  replace HB := Lib.hid (bthen HB.out hb1)
  clear hb1
  obtain ⟨kT00, kT01, kT02, -, -, -, -⟩ := T0.out
  obtain ⟨kT10, kT11, kT12, -, -, -, -⟩ := T1.out
  obtain ⟨kT20, kT21, kT22, -, -, -, -⟩ := T2.out
  obtain ⟨kTU0, kTU1, kTU2, -, -, -, -⟩ := TU.out
  go_wp2_with fail
  refine (signR 0 u Ru0.out Ru1.out (rat_limbs u) (by omega) (by omega) HS.out).mono ?_
  rintro e w3 ⟨rfl, hb⟩
  replace R00 := Lib.hid (R00.out.later hb)
  replace R01 := Lib.hid (R01.out.later hb)
  replace R10 := Lib.hid (R10.out.later hb)
  replace R11 := Lib.hid (R11.out.later hb)
  replace R20 := Lib.hid (R20.out.later hb)
  replace R21 := Lib.hid (R21.out.later hb)
  replace Ru0 := Lib.hid (Ru0.out.later hb)
  replace Ru1 := Lib.hid (Ru1.out.later hb)
  replace T0 := Lib.hid (T0.out.later hb)
  replace T1 := Lib.hid (T1.out.later hb)
  replace T2 := Lib.hid (T2.out.later hb)
  replace TU := Lib.hid (TU.out.later hb)
  replace HB := Lib.hid (bthen HB.out hb)
  clear hb
  clear kT00 kT01 kT02 kT10 kT11 kT12 kT20 kT21 kT22 kTU0 kTU1 kTU2
  obtain ⟨kT00, kT01, kT02, -, -, -, -⟩ := T0.out
  obtain ⟨kT10, kT11, kT12, -, -, -, -⟩ := T1.out
  obtain ⟨kT20, kT21, kT22, -, -, -, -⟩ := T2.out
  obtain ⟨kTU0, kTU1, kTU2, -, -, -, -⟩ := TU.out
  go_wp2_with fail
  replace R00 := Lib.hid R00.out.drew
  replace R01 := Lib.hid R01.out.drew
  replace R10 := Lib.hid R10.out.drew
  replace R11 := Lib.hid R11.out.drew
  replace R20 := Lib.hid R20.out.drew
  replace R21 := Lib.hid R21.out.drew
  replace Ru0 := Lib.hid Ru0.out.drew
  replace Ru1 := Lib.hid Ru1.out.drew
  replace T0 := Lib.hid T0.out.drew
  replace T1 := Lib.hid T1.out.drew
  replace T2 := Lib.hid T2.out.drew
  replace TU := Lib.hid TU.out.drew
  replace HB := Lib.hid HB.out.drew
  clear kT00 kT01 kT02 kT10 kT11 kT12 kT20 kT21 kT22 kTU0 kTU1 kTU2
  obtain ⟨kT00, kT01, kT02, -, -, -, -⟩ := T0.out
  obtain ⟨kT10, kT11, kT12, -, -, -, -⟩ := T1.out
  obtain ⟨kT20, kT21, kT22, -, -, -, -⟩ := T2.out
  obtain ⟨kTU0, kTU1, kTU2, -, -, -, -⟩ := TU.out
  go_region_held3 (fun w' => w'.cell? ⟨w.heap.size, 0, none⟩ = some (.bool s0) ∧ w'.cell? ⟨w.heap.size, 1, none⟩ = some (.slice a0 n0 c0) ∧ w'.cell? ⟨w.heap.size, 2, none⟩ = some (.slice b0 m0 d0) ∧ w'.cell? ⟨w.heap.size + 1, 0, none⟩ = some (.bool s1) ∧ w'.cell? ⟨w.heap.size + 1, 1, none⟩ = some (.slice a1 n1 c1) ∧ w'.cell? ⟨w.heap.size + 1, 2, none⟩ = some (.slice b1 m1 d1) ∧ w'.cell? ⟨w.heap.size + 1 + 1, 0, none⟩ = some (.bool s2) ∧ w'.cell? ⟨w.heap.size + 1 + 1, 1, none⟩ = some (.slice a2 n2 c2) ∧ w'.cell? ⟨w.heap.size + 1 + 1, 2, none⟩ = some (.slice b2 m2 d2) ∧ w'.cell? ⟨w2.heap.size, 0, none⟩ = some (.bool (decide (u.num < 0))) ∧ w'.cell? ⟨w2.heap.size, 1, none⟩ = some (.slice au nu cu) ∧ w'.cell? ⟨w2.heap.size, 2, none⟩ = some (.slice bu mu du))
    (first | (refine ⟨?_, ?_, ?_, ?_, ?_, ?_, ?_, ?_, ?_, ?_, ?_, ?_⟩ <;> with_reducible assumption) | (go_keep; done) | (refine ⟨?_, ?_, ?_, ?_, ?_, ?_, ?_, ?_, ?_, ?_, ?_, ?_⟩ <;> (repeat rw [cell_other (by first | (simp; done) | (simp; omega))]) <;> with_reducible assumption))
    (first
      | (have mk := G10; clear mk
         rw [if_pos (by rfl)]
         go_simp
         go_at_call 26
         refine (awakeR _).mono ?_
         rintro e v11 ⟨rfl, hb⟩
         replace R00 := Lib.hid (R00.out.later hb)
         replace R01 := Lib.hid (R01.out.later hb)
         replace R10 := Lib.hid (R10.out.later hb)
         replace R11 := Lib.hid (R11.out.later hb)
         replace R20 := Lib.hid (R20.out.later hb)
         replace R21 := Lib.hid (R21.out.later hb)
         replace Ru0 := Lib.hid (Ru0.out.later hb)
         replace Ru1 := Lib.hid (Ru1.out.later hb)
         replace Rpq0 := Lib.hid (Rpq0.out.later hb)
         replace Rpq1 := Lib.hid (Rpq1.out.later hb)
         replace T0 := Lib.hid (T0.out.later hb)
         replace T1 := Lib.hid (T1.out.later hb)
         replace T2 := Lib.hid (T2.out.later hb)
         replace TU := Lib.hid (TU.out.later hb)
         replace HB := Lib.hid (bthen HB.out hb); clear hb
         clear kT00 kT01 kT02 kT10 kT11 kT12 kT20 kT21 kT22 kTU0 kTU1 kTU2
         obtain ⟨kT00, kT01, kT02, -, -, -, -⟩ := T0.out
         obtain ⟨kT10, kT11, kT12, -, -, -, -⟩ := T1.out
         obtain ⟨kT20, kT21, kT22, -, -, -, -⟩ := T2.out
         obtain ⟨kTU0, kTU1, kTU2, -, -, -, -⟩ := TU.out
         have G11 : Hid True := trivial
         try go_wp2_with fail)
      | (have mk := G9; clear mk
         rw [if_pos (by rfl)]
         go_simp
         go_at_call 29
         refine (signR 1 pq Rpq0.out Rpq1.out (rat_limbs pq) (by omega) (by omega) HT4.out).mono ?_
         rintro e v10 ⟨rfl, hb⟩
         replace R00 := Lib.hid (R00.out.later hb)
         replace R01 := Lib.hid (R01.out.later hb)
         replace R10 := Lib.hid (R10.out.later hb)
         replace R11 := Lib.hid (R11.out.later hb)
         replace R20 := Lib.hid (R20.out.later hb)
         replace R21 := Lib.hid (R21.out.later hb)
         replace Ru0 := Lib.hid (Ru0.out.later hb)
         replace Ru1 := Lib.hid (Ru1.out.later hb)
         replace Rpq0 := Lib.hid (Rpq0.out.later hb)
         replace Rpq1 := Lib.hid (Rpq1.out.later hb)
         replace T0 := Lib.hid (T0.out.later hb)
         replace T1 := Lib.hid (T1.out.later hb)
         replace T2 := Lib.hid (T2.out.later hb)
         replace TU := Lib.hid (TU.out.later hb)
         replace HB := Lib.hid (bthen HB.out hb); clear hb
         clear kT00 kT01 kT02 kT10 kT11 kT12 kT20 kT21 kT22 kTU0 kTU1 kTU2
         obtain ⟨kT00, kT01, kT02, -, -, -, -⟩ := T0.out
         obtain ⟨kT10, kT11, kT12, -, -, -, -⟩ := T1.out
         obtain ⟨kT20, kT21, kT22, -, -, -, -⟩ := T2.out
         obtain ⟨kTU0, kTU1, kTU2, -, -, -, -⟩ := TU.out
         have G10 : Hid True := trivial
         try go_wp2_with fail)
      | (have mk := G8; clear mk
         rw [if_pos (by rfl)]
         go_simp
         go_at_call 18
         refine (subR 4 4 4 4 9 8 pq p q R00.out R01.out R10.out R11.out HQ0.out HQ1.out hn0 hm0 hn1 hm1 (by omega) (by omega) (by omega) (by omega) (by omega) (by omega) (by omega) (by omega) (by omega) (by omega) (by omega) EPQ.out).mono ?_
         rintro e v9 ⟨apq, npq, cpq, bpq, mpq, dpq, rfl, hnpq, hmpq, hr, hr2, hb⟩
         replace R00 := Lib.hid (R00.out.later hb)
         replace R01 := Lib.hid (R01.out.later hb)
         replace R10 := Lib.hid (R10.out.later hb)
         replace R11 := Lib.hid (R11.out.later hb)
         replace R20 := Lib.hid (R20.out.later hb)
         replace R21 := Lib.hid (R21.out.later hb)
         replace Ru0 := Lib.hid (Ru0.out.later hb)
         replace Ru1 := Lib.hid (Ru1.out.later hb)
         replace T0 := Lib.hid (T0.out.later hb)
         replace T1 := Lib.hid (T1.out.later hb)
         replace T2 := Lib.hid (T2.out.later hb)
         replace TU := Lib.hid (TU.out.later hb)
         replace HB := Lib.hid (bthen HB.out hb); clear hb
         clear kT00 kT01 kT02 kT10 kT11 kT12 kT20 kT21 kT22 kTU0 kTU1 kTU2
         obtain ⟨kT00, kT01, kT02, -, -, -, -⟩ := T0.out
         obtain ⟨kT10, kT11, kT12, -, -, -, -⟩ := T1.out
         obtain ⟨kT20, kT21, kT22, -, -, -, -⟩ := T2.out
         obtain ⟨kTU0, kTU1, kTU2, -, -, -, -⟩ := TU.out
         have Rpq0 := Lib.hid hr; clear hr
         have Rpq1 := Lib.hid hr2; clear hr2
         have G9 : Hid True := trivial
         try go_wp2_with fail)
      | (have mk := G7; clear mk
         rw [if_pos (by rfl)]
         go_simp
         go_at_call 29
         refine (signR 0 u Ru0.out Ru1.out (rat_limbs u) (by omega) (by omega) HS.out).mono ?_
         rintro e v8 ⟨rfl, hb⟩
         replace R00 := Lib.hid (R00.out.later hb)
         replace R01 := Lib.hid (R01.out.later hb)
         replace R10 := Lib.hid (R10.out.later hb)
         replace R11 := Lib.hid (R11.out.later hb)
         replace R20 := Lib.hid (R20.out.later hb)
         replace R21 := Lib.hid (R21.out.later hb)
         replace Ru0 := Lib.hid (Ru0.out.later hb)
         replace Ru1 := Lib.hid (Ru1.out.later hb)
         replace T0 := Lib.hid (T0.out.later hb)
         replace T1 := Lib.hid (T1.out.later hb)
         replace T2 := Lib.hid (T2.out.later hb)
         replace TU := Lib.hid (TU.out.later hb)
         replace HB := Lib.hid (bthen HB.out hb); clear hb
         clear kT00 kT01 kT02 kT10 kT11 kT12 kT20 kT21 kT22 kTU0 kTU1 kTU2
         obtain ⟨kT00, kT01, kT02, -, -, -, -⟩ := T0.out
         obtain ⟨kT10, kT11, kT12, -, -, -, -⟩ := T1.out
         obtain ⟨kT20, kT21, kT22, -, -, -, -⟩ := T2.out
         obtain ⟨kTU0, kTU1, kTU2, -, -, -, -⟩ := TU.out
         have G8 : Hid True := trivial
         try go_wp2_with fail)
      | (have mk := G6; clear mk
         rw [if_pos (by rfl)]
         go_simp
         go_at_call 24
         refine (cmpRat 0 pu qu Rpu0.out Rpu1.out Rqu0.out Rqu1.out (rat_limbs pu) (rat_limbs qu) (by omega) (by omega) (by omega) (by omega) HT3.out).mono ?_
         rintro e v7 ⟨rfl, hb⟩
         clear Rpu0
         clear Rpu1
         clear Rqu0
         clear Rqu1
         replace R00 := Lib.hid (R00.out.later hb)
         replace R01 := Lib.hid (R01.out.later hb)
         replace R10 := Lib.hid (R10.out.later hb)
         replace R11 := Lib.hid (R11.out.later hb)
         replace R20 := Lib.hid (R20.out.later hb)
         replace R21 := Lib.hid (R21.out.later hb)
         replace Ru0 := Lib.hid (Ru0.out.later hb)
         replace Ru1 := Lib.hid (Ru1.out.later hb)
         replace T0 := Lib.hid (T0.out.later hb)
         replace T1 := Lib.hid (T1.out.later hb)
         replace T2 := Lib.hid (T2.out.later hb)
         replace TU := Lib.hid (TU.out.later hb)
         replace HB := Lib.hid (bthen HB.out hb); clear hb
         clear kT00 kT01 kT02 kT10 kT11 kT12 kT20 kT21 kT22 kTU0 kTU1 kTU2
         obtain ⟨kT00, kT01, kT02, -, -, -, -⟩ := T0.out
         obtain ⟨kT10, kT11, kT12, -, -, -, -⟩ := T1.out
         obtain ⟨kT20, kT21, kT22, -, -, -, -⟩ := T2.out
         obtain ⟨kTU0, kTU1, kTU2, -, -, -, -⟩ := TU.out
         have G7 : Hid True := trivial
         try go_wp2_with fail)
      | (have mk := G5; clear mk
         rw [if_pos (by rfl)]
         go_simp
         go_at_call 20
         refine (mulR 12 12 qu q u R10.out R11.out Ru0.out Ru1.out HQ1.out (rat_limbs u) (by omega) (by omega) (by omega) (by omega) (by omega) (by omega) (by omega) (by omega) (by omega) EQU.out).mono ?_
         rintro e v6 ⟨aqu, nqu, cqu, bqu, mqu, dqu, rfl, hnqu, hmqu, hr, hr2, hb⟩
         replace R00 := Lib.hid (R00.out.later hb)
         replace R01 := Lib.hid (R01.out.later hb)
         replace R10 := Lib.hid (R10.out.later hb)
         replace R11 := Lib.hid (R11.out.later hb)
         replace R20 := Lib.hid (R20.out.later hb)
         replace R21 := Lib.hid (R21.out.later hb)
         replace Ru0 := Lib.hid (Ru0.out.later hb)
         replace Ru1 := Lib.hid (Ru1.out.later hb)
         replace Rpu0 := Lib.hid (Rpu0.out.later hb)
         replace Rpu1 := Lib.hid (Rpu1.out.later hb)
         replace T0 := Lib.hid (T0.out.later hb)
         replace T1 := Lib.hid (T1.out.later hb)
         replace T2 := Lib.hid (T2.out.later hb)
         replace TU := Lib.hid (TU.out.later hb)
         replace HB := Lib.hid (bthen HB.out hb); clear hb
         clear kT00 kT01 kT02 kT10 kT11 kT12 kT20 kT21 kT22 kTU0 kTU1 kTU2
         obtain ⟨kT00, kT01, kT02, -, -, -, -⟩ := T0.out
         obtain ⟨kT10, kT11, kT12, -, -, -, -⟩ := T1.out
         obtain ⟨kT20, kT21, kT22, -, -, -, -⟩ := T2.out
         obtain ⟨kTU0, kTU1, kTU2, -, -, -, -⟩ := TU.out
         have Rqu0 := Lib.hid hr; clear hr
         have Rqu1 := Lib.hid hr2; clear hr2
         have G6 : Hid True := trivial
         try go_wp2_with fail)
      | (have mk := G4; clear mk
         rw [if_pos (by rfl)]
         go_simp
         go_at_call 20
         refine (mulR 12 12 pu p u R00.out R01.out Ru0.out Ru1.out HQ0.out (rat_limbs u) (by omega) (by omega) (by omega) (by omega) (by omega) (by omega) (by omega) (by omega) (by omega) EPU.out).mono ?_
         rintro e v5 ⟨apu, npu, cpu, bpu, mpu, dpu, rfl, hnpu, hmpu, hr, hr2, hb⟩
         replace R00 := Lib.hid (R00.out.later hb)
         replace R01 := Lib.hid (R01.out.later hb)
         replace R10 := Lib.hid (R10.out.later hb)
         replace R11 := Lib.hid (R11.out.later hb)
         replace R20 := Lib.hid (R20.out.later hb)
         replace R21 := Lib.hid (R21.out.later hb)
         replace Ru0 := Lib.hid (Ru0.out.later hb)
         replace Ru1 := Lib.hid (Ru1.out.later hb)
         replace T0 := Lib.hid (T0.out.later hb)
         replace T1 := Lib.hid (T1.out.later hb)
         replace T2 := Lib.hid (T2.out.later hb)
         replace TU := Lib.hid (TU.out.later hb)
         replace HB := Lib.hid (bthen HB.out hb); clear hb
         clear kT00 kT01 kT02 kT10 kT11 kT12 kT20 kT21 kT22 kTU0 kTU1 kTU2
         obtain ⟨kT00, kT01, kT02, -, -, -, -⟩ := T0.out
         obtain ⟨kT10, kT11, kT12, -, -, -, -⟩ := T1.out
         obtain ⟨kT20, kT21, kT22, -, -, -, -⟩ := T2.out
         obtain ⟨kTU0, kTU1, kTU2, -, -, -, -⟩ := TU.out
         have Rpu0 := Lib.hid hr; clear hr
         have Rpu1 := Lib.hid hr2; clear hr2
         have G5 : Hid True := trivial
         try go_wp2_with fail)
      | (have mk := G3; clear mk
         rw [if_pos (by rfl)]
         go_simp
         go_at_call 24
         refine (cmpRat 1 pr qr Rpr0.out Rpr1.out Rqr0.out Rqr1.out (rat_limbs pr) (rat_limbs qr) (by omega) (by omega) (by omega) (by omega) HT2.out).mono ?_
         rintro e v4 ⟨rfl, hb⟩
         clear Rpr0
         clear Rpr1
         clear Rqr0
         clear Rqr1
         replace R00 := Lib.hid (R00.out.later hb)
         replace R01 := Lib.hid (R01.out.later hb)
         replace R10 := Lib.hid (R10.out.later hb)
         replace R11 := Lib.hid (R11.out.later hb)
         replace R20 := Lib.hid (R20.out.later hb)
         replace R21 := Lib.hid (R21.out.later hb)
         replace Ru0 := Lib.hid (Ru0.out.later hb)
         replace Ru1 := Lib.hid (Ru1.out.later hb)
         replace T0 := Lib.hid (T0.out.later hb)
         replace T1 := Lib.hid (T1.out.later hb)
         replace T2 := Lib.hid (T2.out.later hb)
         replace TU := Lib.hid (TU.out.later hb)
         replace HB := Lib.hid (bthen HB.out hb); clear hb
         clear kT00 kT01 kT02 kT10 kT11 kT12 kT20 kT21 kT22 kTU0 kTU1 kTU2
         obtain ⟨kT00, kT01, kT02, -, -, -, -⟩ := T0.out
         obtain ⟨kT10, kT11, kT12, -, -, -, -⟩ := T1.out
         obtain ⟨kT20, kT21, kT22, -, -, -, -⟩ := T2.out
         obtain ⟨kTU0, kTU1, kTU2, -, -, -, -⟩ := TU.out
         have G4 : Hid True := trivial
         try go_wp2_with fail)
      | (have mk := G2; clear mk
         rw [if_pos (by rfl)]
         go_simp
         go_at_call 16
         refine (addR 4 4 4 4 9 8 qr q r R10.out R11.out R20.out R21.out HQ1.out HQ2.out hn1 hm1 hn2 hm2 (by omega) (by omega) (by omega) (by omega) (by omega) (by omega) (by omega) (by omega) (by omega) (by omega) (by omega) EQR.out).mono ?_
         rintro e v3 ⟨aqr, nqr, cqr, bqr, mqr, dqr, rfl, hnqr, hmqr, hr, hr2, hb⟩
         replace R00 := Lib.hid (R00.out.later hb)
         replace R01 := Lib.hid (R01.out.later hb)
         replace R10 := Lib.hid (R10.out.later hb)
         replace R11 := Lib.hid (R11.out.later hb)
         replace R20 := Lib.hid (R20.out.later hb)
         replace R21 := Lib.hid (R21.out.later hb)
         replace Ru0 := Lib.hid (Ru0.out.later hb)
         replace Ru1 := Lib.hid (Ru1.out.later hb)
         replace Rpr0 := Lib.hid (Rpr0.out.later hb)
         replace Rpr1 := Lib.hid (Rpr1.out.later hb)
         replace T0 := Lib.hid (T0.out.later hb)
         replace T1 := Lib.hid (T1.out.later hb)
         replace T2 := Lib.hid (T2.out.later hb)
         replace TU := Lib.hid (TU.out.later hb)
         replace HB := Lib.hid (bthen HB.out hb); clear hb
         clear kT00 kT01 kT02 kT10 kT11 kT12 kT20 kT21 kT22 kTU0 kTU1 kTU2
         obtain ⟨kT00, kT01, kT02, -, -, -, -⟩ := T0.out
         obtain ⟨kT10, kT11, kT12, -, -, -, -⟩ := T1.out
         obtain ⟨kT20, kT21, kT22, -, -, -, -⟩ := T2.out
         obtain ⟨kTU0, kTU1, kTU2, -, -, -, -⟩ := TU.out
         have Rqr0 := Lib.hid hr; clear hr
         have Rqr1 := Lib.hid hr2; clear hr2
         have G3 : Hid True := trivial
         try go_wp2_with fail)
      | (have mk := G1; clear mk
         rw [if_pos (by rfl)]
         go_simp
         go_at_call 16
         refine (addR 4 4 4 4 9 8 pr p r R00.out R01.out R20.out R21.out HQ0.out HQ2.out hn0 hm0 hn2 hm2 (by omega) (by omega) (by omega) (by omega) (by omega) (by omega) (by omega) (by omega) (by omega) (by omega) (by omega) EPR.out).mono ?_
         rintro e v2 ⟨apr, npr, cpr, bpr, mpr, dpr, rfl, hnpr, hmpr, hr, hr2, hb⟩
         replace R00 := Lib.hid (R00.out.later hb)
         replace R01 := Lib.hid (R01.out.later hb)
         replace R10 := Lib.hid (R10.out.later hb)
         replace R11 := Lib.hid (R11.out.later hb)
         replace R20 := Lib.hid (R20.out.later hb)
         replace R21 := Lib.hid (R21.out.later hb)
         replace Ru0 := Lib.hid (Ru0.out.later hb)
         replace Ru1 := Lib.hid (Ru1.out.later hb)
         replace T0 := Lib.hid (T0.out.later hb)
         replace T1 := Lib.hid (T1.out.later hb)
         replace T2 := Lib.hid (T2.out.later hb)
         replace TU := Lib.hid (TU.out.later hb)
         replace HB := Lib.hid (bthen HB.out hb); clear hb
         clear kT00 kT01 kT02 kT10 kT11 kT12 kT20 kT21 kT22 kTU0 kTU1 kTU2
         obtain ⟨kT00, kT01, kT02, -, -, -, -⟩ := T0.out
         obtain ⟨kT10, kT11, kT12, -, -, -, -⟩ := T1.out
         obtain ⟨kT20, kT21, kT22, -, -, -, -⟩ := T2.out
         obtain ⟨kTU0, kTU1, kTU2, -, -, -, -⟩ := TU.out
         have Rpr0 := Lib.hid hr; clear hr
         have Rpr1 := Lib.hid hr2; clear hr2
         have G2 : Hid True := trivial
         try go_wp2_with fail)
      | (skip
         rw [if_pos (by rfl)]
         go_simp
         go_at_call 24
         refine (cmpRat (-1) q p R10.out R11.out R00.out R01.out HQ1.out HQ0.out (by omega) (by omega) (by omega) (by omega) HT1.out).mono ?_
         rintro e v1 ⟨rfl, hb⟩
         replace R00 := Lib.hid (R00.out.later hb)
         replace R01 := Lib.hid (R01.out.later hb)
         replace R10 := Lib.hid (R10.out.later hb)
         replace R11 := Lib.hid (R11.out.later hb)
         replace R20 := Lib.hid (R20.out.later hb)
         replace R21 := Lib.hid (R21.out.later hb)
         replace Ru0 := Lib.hid (Ru0.out.later hb)
         replace Ru1 := Lib.hid (Ru1.out.later hb)
         replace T0 := Lib.hid (T0.out.later hb)
         replace T1 := Lib.hid (T1.out.later hb)
         replace T2 := Lib.hid (T2.out.later hb)
         replace TU := Lib.hid (TU.out.later hb)
         replace HB := Lib.hid (bthen HB.out hb); clear hb
         clear kT00 kT01 kT02 kT10 kT11 kT12 kT20 kT21 kT22 kTU0 kTU1 kTU2
         obtain ⟨kT00, kT01, kT02, -, -, -, -⟩ := T0.out
         obtain ⟨kT10, kT11, kT12, -, -, -, -⟩ := T1.out
         obtain ⟨kT20, kT21, kT22, -, -, -, -⟩ := T2.out
         obtain ⟨kTU0, kTU1, kTU2, -, -, -, -⟩ := TU.out
         have G1 : Hid True := trivial
         try go_wp2_with fail))
  go_wp2
  go_ret
  exact ⟨rfl, HB.out⟩

set_option maxHeartbeats 16000000 in
theorem ratioOrder_lz (p q r : Rat) {s0 s1 s2 : Bool} {a0 b0 a1 b1 a2 b2 : Option Addr} {n0 c0 m0 d0 n1 c1 m1 d1 n2 c2 m2 d2 : Nat} {xs0 ys0 xs1 ys1 xs2 ys2 : List Nat} {w : World} (h00 : Row w a0 n0 c0 xs0) (h01 : Row w b0 m0 d0 ys0) (hq0 : mkRat (sv s0 (val xs0)) (val ys0) = p) (hn0 : n0 ≤ 4) (hm0 : m0 ≤ 4) (h10 : Row w a1 n1 c1 xs1) (h11 : Row w b1 m1 d1 ys1) (hq1 : mkRat (sv s1 (val xs1)) (val ys1) = q) (hn1 : n1 ≤ 4) (hm1 : m1 ≤ 4) (h20 : Row w a2 n2 c2 xs2) (h21 : Row w b2 m2 d2 ys2) (hq2 : mkRat (sv s2 (val xs2)) (val ys2) = r) (hn2 : n2 ≤ 4) (hm2 : m2 ≤ 4) (hT : cmpR p q = (-1)) (hS : sgn (r * r).num = 0)
    (hT1 : cmpR q p = 1) (hT2 : cmpR (p + r) (q + r) = (-1)) (hT3 : cmpR (p * (r * r)) (q * (r * r)) = 0) (hT4 : sgn (p - q).num = (-1)) :
    Calls Tryz.prog 8 #[.agg #[.bool s0, .slice a0 n0 c0, .slice b0 m0 d0], .agg #[.bool s1, .slice a1 n1 c1, .slice b1 m1 d1], .agg #[.bool s2, .slice a2 n2 c2, .slice b2 m2 d2]] w fun e w' => e = .returned (.bool true) ∧ Below w.heap.size w w' := by
  obtain ⟨u, eu⟩ : ∃ z : Rat, r * r = z := ⟨_, rfl⟩
  obtain ⟨pr, epr⟩ : ∃ z : Rat, p + r = z := ⟨_, rfl⟩
  obtain ⟨qr, eqr⟩ : ∃ z : Rat, q + r = z := ⟨_, rfl⟩
  rw [epr, eqr] at hT2
  rw [eu] at hT3 hS
  obtain ⟨pu, epu⟩ : ∃ z : Rat, p * u = z := ⟨_, rfl⟩
  obtain ⟨qu, equ⟩ : ∃ z : Rat, q * u = z := ⟨_, rfl⟩
  obtain ⟨pq, epq⟩ : ∃ z : Rat, p - q = z := ⟨_, rfl⟩
  rw [epu, equ] at hT3
  rw [epq] at hT4
  have EU := Lib.hid eu; clear eu
  have EPR := Lib.hid epr; clear epr
  have EQR := Lib.hid eqr; clear eqr
  have EPU := Lib.hid epu; clear epu
  have EQU := Lib.hid equ; clear equ
  have EPQ := Lib.hid epq; clear epq
  have HT := Lib.hid hT; clear hT
  have HS := Lib.hid hS; clear hS
  have HT1 := Lib.hid hT1; clear hT1
  have HT2 := Lib.hid hT2; clear hT2
  have HT3 := Lib.hid hT3; clear hT3
  have HT4 := Lib.hid hT4; clear hT4
  have HB := Lib.hid (below_four w (.cells #[.bool s0, .slice a0 n0 c0, .slice b0 m0 d0] 26) (.cells #[.bool s1, .slice a1 n1 c1, .slice b1 m1 d1] 26) (.cells #[.bool s2, .slice a2 n2 c2, .slice b2 m2 d2] 26) (.cells #[.bool s0, .slice a0 n0 c0, .slice b0 m0 d0, .bool s1, .slice a1 n1 c1, .slice b1 m1 d1, .bool s2, .slice a2 n2 c2, .slice b2 m2 d2] 26))
  have T0 : Hid (Tri ((((w.alloc (.cells #[.bool s0, .slice a0 n0 c0, .slice b0 m0 d0] 26)).alloc (.cells #[.bool s1, .slice a1 n1 c1, .slice b1 m1 d1] 26)).alloc (.cells #[.bool s2, .slice a2 n2 c2, .slice b2 m2 d2] 26)).alloc (.cells #[.bool s0, .slice a0 n0 c0, .slice b0 m0 d0, .bool s1, .slice a1 n1 c1, .slice b1 m1 d1, .bool s2, .slice a2 n2 c2, .slice b2 m2 d2] 26)) (w.heap.size) (.bool s0) (.slice a0 n0 c0) (.slice b0 m0 d0)) := ((((tri_new w (.bool s0) (.slice a0 n0 c0) (.slice b0 m0 d0)).alloc _).alloc _).alloc _)
  have T1 : Hid (Tri ((((w.alloc (.cells #[.bool s0, .slice a0 n0 c0, .slice b0 m0 d0] 26)).alloc (.cells #[.bool s1, .slice a1 n1 c1, .slice b1 m1 d1] 26)).alloc (.cells #[.bool s2, .slice a2 n2 c2, .slice b2 m2 d2] 26)).alloc (.cells #[.bool s0, .slice a0 n0 c0, .slice b0 m0 d0, .bool s1, .slice a1 n1 c1, .slice b1 m1 d1, .bool s2, .slice a2 n2 c2, .slice b2 m2 d2] 26)) (w.heap.size + 1) (.bool s1) (.slice a1 n1 c1) (.slice b1 m1 d1)) := (((tri_newE (by simp)).alloc _).alloc _)
  have T2 : Hid (Tri ((((w.alloc (.cells #[.bool s0, .slice a0 n0 c0, .slice b0 m0 d0] 26)).alloc (.cells #[.bool s1, .slice a1 n1 c1, .slice b1 m1 d1] 26)).alloc (.cells #[.bool s2, .slice a2 n2 c2, .slice b2 m2 d2] 26)).alloc (.cells #[.bool s0, .slice a0 n0 c0, .slice b0 m0 d0, .bool s1, .slice a1 n1 c1, .slice b1 m1 d1, .bool s2, .slice a2 n2 c2, .slice b2 m2 d2] 26)) (w.heap.size + 1 + 1) (.bool s2) (.slice a2 n2 c2) (.slice b2 m2 d2)) := ((tri_newE (by simp)).alloc _)
  have ka0 := cell_new (((w.alloc (.cells #[.bool s0, .slice a0 n0 c0, .slice b0 m0 d0] 26)).alloc (.cells #[.bool s1, .slice a1 n1 c1, .slice b1 m1 d1] 26)).alloc (.cells #[.bool s2, .slice a2 n2 c2, .slice b2 m2 d2] 26)) #[.bool s0, .slice a0 n0 c0, .slice b0 m0 d0, .bool s1, .slice a1 n1 c1, .slice b1 m1 d1, .bool s2, .slice a2 n2 c2, .slice b2 m2 d2] 26 1
  have kb0 := cell_new (((w.alloc (.cells #[.bool s0, .slice a0 n0 c0, .slice b0 m0 d0] 26)).alloc (.cells #[.bool s1, .slice a1 n1 c1, .slice b1 m1 d1] 26)).alloc (.cells #[.bool s2, .slice a2 n2 c2, .slice b2 m2 d2] 26)) #[.bool s0, .slice a0 n0 c0, .slice b0 m0 d0, .bool s1, .slice a1 n1 c1, .slice b1 m1 d1, .bool s2, .slice a2 n2 c2, .slice b2 m2 d2] 26 2
  have ka1 := cell_new (((w.alloc (.cells #[.bool s0, .slice a0 n0 c0, .slice b0 m0 d0] 26)).alloc (.cells #[.bool s1, .slice a1 n1 c1, .slice b1 m1 d1] 26)).alloc (.cells #[.bool s2, .slice a2 n2 c2, .slice b2 m2 d2] 26)) #[.bool s0, .slice a0 n0 c0, .slice b0 m0 d0, .bool s1, .slice a1 n1 c1, .slice b1 m1 d1, .bool s2, .slice a2 n2 c2, .slice b2 m2 d2] 26 4
  have kb1 := cell_new (((w.alloc (.cells #[.bool s0, .slice a0 n0 c0, .slice b0 m0 d0] 26)).alloc (.cells #[.bool s1, .slice a1 n1 c1, .slice b1 m1 d1] 26)).alloc (.cells #[.bool s2, .slice a2 n2 c2, .slice b2 m2 d2] 26)) #[.bool s0, .slice a0 n0 c0, .slice b0 m0 d0, .bool s1, .slice a1 n1 c1, .slice b1 m1 d1, .bool s2, .slice a2 n2 c2, .slice b2 m2 d2] 26 5
  have ka2 := cell_new (((w.alloc (.cells #[.bool s0, .slice a0 n0 c0, .slice b0 m0 d0] 26)).alloc (.cells #[.bool s1, .slice a1 n1 c1, .slice b1 m1 d1] 26)).alloc (.cells #[.bool s2, .slice a2 n2 c2, .slice b2 m2 d2] 26)) #[.bool s0, .slice a0 n0 c0, .slice b0 m0 d0, .bool s1, .slice a1 n1 c1, .slice b1 m1 d1, .bool s2, .slice a2 n2 c2, .slice b2 m2 d2] 26 7
  have kb2 := cell_new (((w.alloc (.cells #[.bool s0, .slice a0 n0 c0, .slice b0 m0 d0] 26)).alloc (.cells #[.bool s1, .slice a1 n1 c1, .slice b1 m1 d1] 26)).alloc (.cells #[.bool s2, .slice a2 n2 c2, .slice b2 m2 d2] 26)) #[.bool s0, .slice a0 n0 c0, .slice b0 m0 d0, .bool s1, .slice a1 n1 c1, .slice b1 m1 d1, .bool s2, .slice a2 n2 c2, .slice b2 m2 d2] 26 8
  rw [show (((w.alloc (.cells #[.bool s0, .slice a0 n0 c0, .slice b0 m0 d0] 26)).alloc (.cells #[.bool s1, .slice a1 n1 c1, .slice b1 m1 d1] 26)).alloc (.cells #[.bool s2, .slice a2 n2 c2, .slice b2 m2 d2] 26)).heap.size = w.heap.size + 1 + 1 + 1 from by simp] at ka0 kb0 ka1 kb1 ka2 kb2
  have R00 := Lib.hid (h00.later HB.out); clear h00
  have R01 := Lib.hid (h01.later HB.out); clear h01
  have HQ0 := Lib.hid hq0; clear hq0
  have R10 := Lib.hid (h10.later HB.out); clear h10
  have R11 := Lib.hid (h11.later HB.out); clear h11
  have HQ1 := Lib.hid hq1; clear hq1
  have R20 := Lib.hid (h20.later HB.out); clear h20
  have R21 := Lib.hid (h21.later HB.out); clear h21
  have HQ2 := Lib.hid hq2; clear hq2
  go_enter Tryz.func8, Tryz.ntmps8
  go_wp2_with fail
  refine (few3_yes (w.heap.size + 1 + 1 + 1) a0 b0 n0 c0 m0 d0 a1 b1 n1 c1 m1 d1 a2 b2 n2 c2 m2 d2 _ ka0 kb0 ka1 kb1 ka2 kb2 hn0 hm0 hn1 hm1 hn2 hm2).mono ?_
  rintro e w0 ⟨rfl, rfl⟩
  clear ka0 kb0 ka1 kb1 ka2 kb2
  obtain ⟨kT00, kT01, kT02, -, -, -, -⟩ := T0.out
  obtain ⟨kT10, kT11, kT12, -, -, -, -⟩ := T1.out
  obtain ⟨kT20, kT21, kT22, -, -, -, -⟩ := T2.out
  go_wp2_with fail
  refine (cmpRat (-1) p q R00.out R01.out R10.out R11.out HQ0.out HQ1.out (by omega) (by omega) (by omega) (by omega) HT.out).mono ?_
  rintro e w1 ⟨rfl, hb⟩
  replace R00 := Lib.hid (R00.out.later hb)
  replace R01 := Lib.hid (R01.out.later hb)
  replace R10 := Lib.hid (R10.out.later hb)
  replace R11 := Lib.hid (R11.out.later hb)
  replace R20 := Lib.hid (R20.out.later hb)
  replace R21 := Lib.hid (R21.out.later hb)
  replace T0 := Lib.hid (T0.out.later hb)
  replace T1 := Lib.hid (T1.out.later hb)
  replace T2 := Lib.hid (T2.out.later hb)
  replace HB := Lib.hid (bthen HB.out hb)
  clear hb
  clear kT00 kT01 kT02 kT10 kT11 kT12 kT20 kT21 kT22
  obtain ⟨kT00, kT01, kT02, -, -, -, -⟩ := T0.out
  obtain ⟨kT10, kT11, kT12, -, -, -, -⟩ := T1.out
  obtain ⟨kT20, kT21, kT22, -, -, -, -⟩ := T2.out
  go_wp2_with fail
  refine (mulR 8 8 u r r R20.out R21.out R20.out R21.out HQ2.out HQ2.out (by omega) (by omega) (by omega) (by omega) (by omega) (by omega) (by omega) (by omega) (by omega) EU.out).mono ?_
  rintro e w2 ⟨au, nu, cu, bu, mu, du, rfl, hnu, hmu, hr, hr2, hb⟩
  replace R00 := Lib.hid (R00.out.later hb)
  replace R01 := Lib.hid (R01.out.later hb)
  replace R10 := Lib.hid (R10.out.later hb)
  replace R11 := Lib.hid (R11.out.later hb)
  replace R20 := Lib.hid (R20.out.later hb)
  replace R21 := Lib.hid (R21.out.later hb)
  replace T0 := Lib.hid (T0.out.later hb)
  replace T1 := Lib.hid (T1.out.later hb)
  replace T2 := Lib.hid (T2.out.later hb)
  replace HB := Lib.hid (bthen HB.out hb)
  clear hb
  clear kT00 kT01 kT02 kT10 kT11 kT12 kT20 kT21 kT22
  have Ru0 := Lib.hid hr; clear hr
  have Ru1 := Lib.hid hr2; clear hr2
  have hb1 := below_one w2 (.cells #[.bool (decide (u.num < 0)), .slice au nu cu, .slice bu mu du] 26)
  have TU : Hid (Tri (w2.alloc (.cells #[.bool (decide (u.num < 0)), .slice au nu cu, .slice bu mu du] 26)) w2.heap.size (.bool (decide (u.num < 0))) (.slice au nu cu) (.slice bu mu du)) := tri_new w2 _ _ _
  replace Ru0 := Lib.hid (Ru0.out.later hb1)
  replace Ru1 := Lib.hid (Ru1.out.later hb1)
  replace R00 := Lib.hid (R00.out.later hb1)
  replace R01 := Lib.hid (R01.out.later hb1)
  replace R10 := Lib.hid (R10.out.later hb1)
  replace R11 := Lib.hid (R11.out.later hb1)
  replace R20 := Lib.hid (R20.out.later hb1)
  replace R21 := Lib.hid (R21.out.later hb1)
  replace T0 := Lib.hid (T0.out.later hb1)
  replace T1 := Lib.hid (T1.out.later hb1)
  replace T2 := Lib.hid (T2.out.later hb1)
  replace HB := Lib.hid (bthen HB.out hb1)
  clear hb1
  obtain ⟨kT00, kT01, kT02, -, -, -, -⟩ := T0.out
  obtain ⟨kT10, kT11, kT12, -, -, -, -⟩ := T1.out
  obtain ⟨kT20, kT21, kT22, -, -, -, -⟩ := T2.out
  obtain ⟨kTU0, kTU1, kTU2, -, -, -, -⟩ := TU.out
  go_wp2_with fail
  refine (signR 0 u Ru0.out Ru1.out (rat_limbs u) (by omega) (by omega) HS.out).mono ?_
  rintro e w3 ⟨rfl, hb⟩
  replace R00 := Lib.hid (R00.out.later hb)
  replace R01 := Lib.hid (R01.out.later hb)
  replace R10 := Lib.hid (R10.out.later hb)
  replace R11 := Lib.hid (R11.out.later hb)
  replace R20 := Lib.hid (R20.out.later hb)
  replace R21 := Lib.hid (R21.out.later hb)
  replace Ru0 := Lib.hid (Ru0.out.later hb)
  replace Ru1 := Lib.hid (Ru1.out.later hb)
  replace T0 := Lib.hid (T0.out.later hb)
  replace T1 := Lib.hid (T1.out.later hb)
  replace T2 := Lib.hid (T2.out.later hb)
  replace TU := Lib.hid (TU.out.later hb)
  replace HB := Lib.hid (bthen HB.out hb)
  clear hb
  clear kT00 kT01 kT02 kT10 kT11 kT12 kT20 kT21 kT22 kTU0 kTU1 kTU2
  obtain ⟨kT00, kT01, kT02, -, -, -, -⟩ := T0.out
  obtain ⟨kT10, kT11, kT12, -, -, -, -⟩ := T1.out
  obtain ⟨kT20, kT21, kT22, -, -, -, -⟩ := T2.out
  obtain ⟨kTU0, kTU1, kTU2, -, -, -, -⟩ := TU.out
  go_wp2_with fail
  replace R00 := Lib.hid R00.out.drew
  replace R01 := Lib.hid R01.out.drew
  replace R10 := Lib.hid R10.out.drew
  replace R11 := Lib.hid R11.out.drew
  replace R20 := Lib.hid R20.out.drew
  replace R21 := Lib.hid R21.out.drew
  replace Ru0 := Lib.hid Ru0.out.drew
  replace Ru1 := Lib.hid Ru1.out.drew
  replace T0 := Lib.hid T0.out.drew
  replace T1 := Lib.hid T1.out.drew
  replace T2 := Lib.hid T2.out.drew
  replace TU := Lib.hid TU.out.drew
  replace HB := Lib.hid HB.out.drew
  clear kT00 kT01 kT02 kT10 kT11 kT12 kT20 kT21 kT22 kTU0 kTU1 kTU2
  obtain ⟨kT00, kT01, kT02, -, -, -, -⟩ := T0.out
  obtain ⟨kT10, kT11, kT12, -, -, -, -⟩ := T1.out
  obtain ⟨kT20, kT21, kT22, -, -, -, -⟩ := T2.out
  obtain ⟨kTU0, kTU1, kTU2, -, -, -, -⟩ := TU.out
  go_region_held3 (fun w' => w'.cell? ⟨w.heap.size, 0, none⟩ = some (.bool s0) ∧ w'.cell? ⟨w.heap.size, 1, none⟩ = some (.slice a0 n0 c0) ∧ w'.cell? ⟨w.heap.size, 2, none⟩ = some (.slice b0 m0 d0) ∧ w'.cell? ⟨w.heap.size + 1, 0, none⟩ = some (.bool s1) ∧ w'.cell? ⟨w.heap.size + 1, 1, none⟩ = some (.slice a1 n1 c1) ∧ w'.cell? ⟨w.heap.size + 1, 2, none⟩ = some (.slice b1 m1 d1) ∧ w'.cell? ⟨w.heap.size + 1 + 1, 0, none⟩ = some (.bool s2) ∧ w'.cell? ⟨w.heap.size + 1 + 1, 1, none⟩ = some (.slice a2 n2 c2) ∧ w'.cell? ⟨w.heap.size + 1 + 1, 2, none⟩ = some (.slice b2 m2 d2) ∧ w'.cell? ⟨w2.heap.size, 0, none⟩ = some (.bool (decide (u.num < 0))) ∧ w'.cell? ⟨w2.heap.size, 1, none⟩ = some (.slice au nu cu) ∧ w'.cell? ⟨w2.heap.size, 2, none⟩ = some (.slice bu mu du))
    (first | (refine ⟨?_, ?_, ?_, ?_, ?_, ?_, ?_, ?_, ?_, ?_, ?_, ?_⟩ <;> with_reducible assumption) | (go_keep; done) | (refine ⟨?_, ?_, ?_, ?_, ?_, ?_, ?_, ?_, ?_, ?_, ?_, ?_⟩ <;> (repeat rw [cell_other (by first | (simp; done) | (simp; omega))]) <;> with_reducible assumption))
    (first
      | (have mk := G10; clear mk
         rw [if_pos (by rfl)]
         go_simp
         go_at_call 26
         refine (awakeR _).mono ?_
         rintro e v11 ⟨rfl, hb⟩
         replace R00 := Lib.hid (R00.out.later hb)
         replace R01 := Lib.hid (R01.out.later hb)
         replace R10 := Lib.hid (R10.out.later hb)
         replace R11 := Lib.hid (R11.out.later hb)
         replace R20 := Lib.hid (R20.out.later hb)
         replace R21 := Lib.hid (R21.out.later hb)
         replace Ru0 := Lib.hid (Ru0.out.later hb)
         replace Ru1 := Lib.hid (Ru1.out.later hb)
         replace Rpq0 := Lib.hid (Rpq0.out.later hb)
         replace Rpq1 := Lib.hid (Rpq1.out.later hb)
         replace T0 := Lib.hid (T0.out.later hb)
         replace T1 := Lib.hid (T1.out.later hb)
         replace T2 := Lib.hid (T2.out.later hb)
         replace TU := Lib.hid (TU.out.later hb)
         replace HB := Lib.hid (bthen HB.out hb); clear hb
         clear kT00 kT01 kT02 kT10 kT11 kT12 kT20 kT21 kT22 kTU0 kTU1 kTU2
         obtain ⟨kT00, kT01, kT02, -, -, -, -⟩ := T0.out
         obtain ⟨kT10, kT11, kT12, -, -, -, -⟩ := T1.out
         obtain ⟨kT20, kT21, kT22, -, -, -, -⟩ := T2.out
         obtain ⟨kTU0, kTU1, kTU2, -, -, -, -⟩ := TU.out
         have G11 : Hid True := trivial
         try go_wp2_with fail)
      | (have mk := G9; clear mk
         rw [if_pos (by rfl)]
         go_simp
         go_at_call 29
         refine (signR (-1) pq Rpq0.out Rpq1.out (rat_limbs pq) (by omega) (by omega) HT4.out).mono ?_
         rintro e v10 ⟨rfl, hb⟩
         replace R00 := Lib.hid (R00.out.later hb)
         replace R01 := Lib.hid (R01.out.later hb)
         replace R10 := Lib.hid (R10.out.later hb)
         replace R11 := Lib.hid (R11.out.later hb)
         replace R20 := Lib.hid (R20.out.later hb)
         replace R21 := Lib.hid (R21.out.later hb)
         replace Ru0 := Lib.hid (Ru0.out.later hb)
         replace Ru1 := Lib.hid (Ru1.out.later hb)
         replace Rpq0 := Lib.hid (Rpq0.out.later hb)
         replace Rpq1 := Lib.hid (Rpq1.out.later hb)
         replace T0 := Lib.hid (T0.out.later hb)
         replace T1 := Lib.hid (T1.out.later hb)
         replace T2 := Lib.hid (T2.out.later hb)
         replace TU := Lib.hid (TU.out.later hb)
         replace HB := Lib.hid (bthen HB.out hb); clear hb
         clear kT00 kT01 kT02 kT10 kT11 kT12 kT20 kT21 kT22 kTU0 kTU1 kTU2
         obtain ⟨kT00, kT01, kT02, -, -, -, -⟩ := T0.out
         obtain ⟨kT10, kT11, kT12, -, -, -, -⟩ := T1.out
         obtain ⟨kT20, kT21, kT22, -, -, -, -⟩ := T2.out
         obtain ⟨kTU0, kTU1, kTU2, -, -, -, -⟩ := TU.out
         have G10 : Hid True := trivial
         try go_wp2_with fail)
      | (have mk := G8; clear mk
         rw [if_pos (by rfl)]
         go_simp
         go_at_call 18
         refine (subR 4 4 4 4 9 8 pq p q R00.out R01.out R10.out R11.out HQ0.out HQ1.out hn0 hm0 hn1 hm1 (by omega) (by omega) (by omega) (by omega) (by omega) (by omega) (by omega) (by omega) (by omega) (by omega) (by omega) EPQ.out).mono ?_
         rintro e v9 ⟨apq, npq, cpq, bpq, mpq, dpq, rfl, hnpq, hmpq, hr, hr2, hb⟩
         replace R00 := Lib.hid (R00.out.later hb)
         replace R01 := Lib.hid (R01.out.later hb)
         replace R10 := Lib.hid (R10.out.later hb)
         replace R11 := Lib.hid (R11.out.later hb)
         replace R20 := Lib.hid (R20.out.later hb)
         replace R21 := Lib.hid (R21.out.later hb)
         replace Ru0 := Lib.hid (Ru0.out.later hb)
         replace Ru1 := Lib.hid (Ru1.out.later hb)
         replace T0 := Lib.hid (T0.out.later hb)
         replace T1 := Lib.hid (T1.out.later hb)
         replace T2 := Lib.hid (T2.out.later hb)
         replace TU := Lib.hid (TU.out.later hb)
         replace HB := Lib.hid (bthen HB.out hb); clear hb
         clear kT00 kT01 kT02 kT10 kT11 kT12 kT20 kT21 kT22 kTU0 kTU1 kTU2
         obtain ⟨kT00, kT01, kT02, -, -, -, -⟩ := T0.out
         obtain ⟨kT10, kT11, kT12, -, -, -, -⟩ := T1.out
         obtain ⟨kT20, kT21, kT22, -, -, -, -⟩ := T2.out
         obtain ⟨kTU0, kTU1, kTU2, -, -, -, -⟩ := TU.out
         have Rpq0 := Lib.hid hr; clear hr
         have Rpq1 := Lib.hid hr2; clear hr2
         have G9 : Hid True := trivial
         try go_wp2_with fail)
      | (have mk := G7; clear mk
         rw [if_pos (by rfl)]
         go_simp
         go_at_call 29
         refine (signR 0 u Ru0.out Ru1.out (rat_limbs u) (by omega) (by omega) HS.out).mono ?_
         rintro e v8 ⟨rfl, hb⟩
         replace R00 := Lib.hid (R00.out.later hb)
         replace R01 := Lib.hid (R01.out.later hb)
         replace R10 := Lib.hid (R10.out.later hb)
         replace R11 := Lib.hid (R11.out.later hb)
         replace R20 := Lib.hid (R20.out.later hb)
         replace R21 := Lib.hid (R21.out.later hb)
         replace Ru0 := Lib.hid (Ru0.out.later hb)
         replace Ru1 := Lib.hid (Ru1.out.later hb)
         replace T0 := Lib.hid (T0.out.later hb)
         replace T1 := Lib.hid (T1.out.later hb)
         replace T2 := Lib.hid (T2.out.later hb)
         replace TU := Lib.hid (TU.out.later hb)
         replace HB := Lib.hid (bthen HB.out hb); clear hb
         clear kT00 kT01 kT02 kT10 kT11 kT12 kT20 kT21 kT22 kTU0 kTU1 kTU2
         obtain ⟨kT00, kT01, kT02, -, -, -, -⟩ := T0.out
         obtain ⟨kT10, kT11, kT12, -, -, -, -⟩ := T1.out
         obtain ⟨kT20, kT21, kT22, -, -, -, -⟩ := T2.out
         obtain ⟨kTU0, kTU1, kTU2, -, -, -, -⟩ := TU.out
         have G8 : Hid True := trivial
         try go_wp2_with fail)
      | (have mk := G6; clear mk
         rw [if_pos (by rfl)]
         go_simp
         go_at_call 24
         refine (cmpRat 0 pu qu Rpu0.out Rpu1.out Rqu0.out Rqu1.out (rat_limbs pu) (rat_limbs qu) (by omega) (by omega) (by omega) (by omega) HT3.out).mono ?_
         rintro e v7 ⟨rfl, hb⟩
         clear Rpu0
         clear Rpu1
         clear Rqu0
         clear Rqu1
         replace R00 := Lib.hid (R00.out.later hb)
         replace R01 := Lib.hid (R01.out.later hb)
         replace R10 := Lib.hid (R10.out.later hb)
         replace R11 := Lib.hid (R11.out.later hb)
         replace R20 := Lib.hid (R20.out.later hb)
         replace R21 := Lib.hid (R21.out.later hb)
         replace Ru0 := Lib.hid (Ru0.out.later hb)
         replace Ru1 := Lib.hid (Ru1.out.later hb)
         replace T0 := Lib.hid (T0.out.later hb)
         replace T1 := Lib.hid (T1.out.later hb)
         replace T2 := Lib.hid (T2.out.later hb)
         replace TU := Lib.hid (TU.out.later hb)
         replace HB := Lib.hid (bthen HB.out hb); clear hb
         clear kT00 kT01 kT02 kT10 kT11 kT12 kT20 kT21 kT22 kTU0 kTU1 kTU2
         obtain ⟨kT00, kT01, kT02, -, -, -, -⟩ := T0.out
         obtain ⟨kT10, kT11, kT12, -, -, -, -⟩ := T1.out
         obtain ⟨kT20, kT21, kT22, -, -, -, -⟩ := T2.out
         obtain ⟨kTU0, kTU1, kTU2, -, -, -, -⟩ := TU.out
         have G7 : Hid True := trivial
         try go_wp2_with fail)
      | (have mk := G5; clear mk
         rw [if_pos (by rfl)]
         go_simp
         go_at_call 20
         refine (mulR 12 12 qu q u R10.out R11.out Ru0.out Ru1.out HQ1.out (rat_limbs u) (by omega) (by omega) (by omega) (by omega) (by omega) (by omega) (by omega) (by omega) (by omega) EQU.out).mono ?_
         rintro e v6 ⟨aqu, nqu, cqu, bqu, mqu, dqu, rfl, hnqu, hmqu, hr, hr2, hb⟩
         replace R00 := Lib.hid (R00.out.later hb)
         replace R01 := Lib.hid (R01.out.later hb)
         replace R10 := Lib.hid (R10.out.later hb)
         replace R11 := Lib.hid (R11.out.later hb)
         replace R20 := Lib.hid (R20.out.later hb)
         replace R21 := Lib.hid (R21.out.later hb)
         replace Ru0 := Lib.hid (Ru0.out.later hb)
         replace Ru1 := Lib.hid (Ru1.out.later hb)
         replace Rpu0 := Lib.hid (Rpu0.out.later hb)
         replace Rpu1 := Lib.hid (Rpu1.out.later hb)
         replace T0 := Lib.hid (T0.out.later hb)
         replace T1 := Lib.hid (T1.out.later hb)
         replace T2 := Lib.hid (T2.out.later hb)
         replace TU := Lib.hid (TU.out.later hb)
         replace HB := Lib.hid (bthen HB.out hb); clear hb
         clear kT00 kT01 kT02 kT10 kT11 kT12 kT20 kT21 kT22 kTU0 kTU1 kTU2
         obtain ⟨kT00, kT01, kT02, -, -, -, -⟩ := T0.out
         obtain ⟨kT10, kT11, kT12, -, -, -, -⟩ := T1.out
         obtain ⟨kT20, kT21, kT22, -, -, -, -⟩ := T2.out
         obtain ⟨kTU0, kTU1, kTU2, -, -, -, -⟩ := TU.out
         have Rqu0 := Lib.hid hr; clear hr
         have Rqu1 := Lib.hid hr2; clear hr2
         have G6 : Hid True := trivial
         try go_wp2_with fail)
      | (have mk := G4; clear mk
         rw [if_pos (by rfl)]
         go_simp
         go_at_call 20
         refine (mulR 12 12 pu p u R00.out R01.out Ru0.out Ru1.out HQ0.out (rat_limbs u) (by omega) (by omega) (by omega) (by omega) (by omega) (by omega) (by omega) (by omega) (by omega) EPU.out).mono ?_
         rintro e v5 ⟨apu, npu, cpu, bpu, mpu, dpu, rfl, hnpu, hmpu, hr, hr2, hb⟩
         replace R00 := Lib.hid (R00.out.later hb)
         replace R01 := Lib.hid (R01.out.later hb)
         replace R10 := Lib.hid (R10.out.later hb)
         replace R11 := Lib.hid (R11.out.later hb)
         replace R20 := Lib.hid (R20.out.later hb)
         replace R21 := Lib.hid (R21.out.later hb)
         replace Ru0 := Lib.hid (Ru0.out.later hb)
         replace Ru1 := Lib.hid (Ru1.out.later hb)
         replace T0 := Lib.hid (T0.out.later hb)
         replace T1 := Lib.hid (T1.out.later hb)
         replace T2 := Lib.hid (T2.out.later hb)
         replace TU := Lib.hid (TU.out.later hb)
         replace HB := Lib.hid (bthen HB.out hb); clear hb
         clear kT00 kT01 kT02 kT10 kT11 kT12 kT20 kT21 kT22 kTU0 kTU1 kTU2
         obtain ⟨kT00, kT01, kT02, -, -, -, -⟩ := T0.out
         obtain ⟨kT10, kT11, kT12, -, -, -, -⟩ := T1.out
         obtain ⟨kT20, kT21, kT22, -, -, -, -⟩ := T2.out
         obtain ⟨kTU0, kTU1, kTU2, -, -, -, -⟩ := TU.out
         have Rpu0 := Lib.hid hr; clear hr
         have Rpu1 := Lib.hid hr2; clear hr2
         have G5 : Hid True := trivial
         try go_wp2_with fail)
      | (have mk := G3; clear mk
         rw [if_pos (by rfl)]
         go_simp
         go_at_call 24
         refine (cmpRat (-1) pr qr Rpr0.out Rpr1.out Rqr0.out Rqr1.out (rat_limbs pr) (rat_limbs qr) (by omega) (by omega) (by omega) (by omega) HT2.out).mono ?_
         rintro e v4 ⟨rfl, hb⟩
         clear Rpr0
         clear Rpr1
         clear Rqr0
         clear Rqr1
         replace R00 := Lib.hid (R00.out.later hb)
         replace R01 := Lib.hid (R01.out.later hb)
         replace R10 := Lib.hid (R10.out.later hb)
         replace R11 := Lib.hid (R11.out.later hb)
         replace R20 := Lib.hid (R20.out.later hb)
         replace R21 := Lib.hid (R21.out.later hb)
         replace Ru0 := Lib.hid (Ru0.out.later hb)
         replace Ru1 := Lib.hid (Ru1.out.later hb)
         replace T0 := Lib.hid (T0.out.later hb)
         replace T1 := Lib.hid (T1.out.later hb)
         replace T2 := Lib.hid (T2.out.later hb)
         replace TU := Lib.hid (TU.out.later hb)
         replace HB := Lib.hid (bthen HB.out hb); clear hb
         clear kT00 kT01 kT02 kT10 kT11 kT12 kT20 kT21 kT22 kTU0 kTU1 kTU2
         obtain ⟨kT00, kT01, kT02, -, -, -, -⟩ := T0.out
         obtain ⟨kT10, kT11, kT12, -, -, -, -⟩ := T1.out
         obtain ⟨kT20, kT21, kT22, -, -, -, -⟩ := T2.out
         obtain ⟨kTU0, kTU1, kTU2, -, -, -, -⟩ := TU.out
         have G4 : Hid True := trivial
         try go_wp2_with fail)
      | (have mk := G2; clear mk
         rw [if_pos (by rfl)]
         go_simp
         go_at_call 16
         refine (addR 4 4 4 4 9 8 qr q r R10.out R11.out R20.out R21.out HQ1.out HQ2.out hn1 hm1 hn2 hm2 (by omega) (by omega) (by omega) (by omega) (by omega) (by omega) (by omega) (by omega) (by omega) (by omega) (by omega) EQR.out).mono ?_
         rintro e v3 ⟨aqr, nqr, cqr, bqr, mqr, dqr, rfl, hnqr, hmqr, hr, hr2, hb⟩
         replace R00 := Lib.hid (R00.out.later hb)
         replace R01 := Lib.hid (R01.out.later hb)
         replace R10 := Lib.hid (R10.out.later hb)
         replace R11 := Lib.hid (R11.out.later hb)
         replace R20 := Lib.hid (R20.out.later hb)
         replace R21 := Lib.hid (R21.out.later hb)
         replace Ru0 := Lib.hid (Ru0.out.later hb)
         replace Ru1 := Lib.hid (Ru1.out.later hb)
         replace Rpr0 := Lib.hid (Rpr0.out.later hb)
         replace Rpr1 := Lib.hid (Rpr1.out.later hb)
         replace T0 := Lib.hid (T0.out.later hb)
         replace T1 := Lib.hid (T1.out.later hb)
         replace T2 := Lib.hid (T2.out.later hb)
         replace TU := Lib.hid (TU.out.later hb)
         replace HB := Lib.hid (bthen HB.out hb); clear hb
         clear kT00 kT01 kT02 kT10 kT11 kT12 kT20 kT21 kT22 kTU0 kTU1 kTU2
         obtain ⟨kT00, kT01, kT02, -, -, -, -⟩ := T0.out
         obtain ⟨kT10, kT11, kT12, -, -, -, -⟩ := T1.out
         obtain ⟨kT20, kT21, kT22, -, -, -, -⟩ := T2.out
         obtain ⟨kTU0, kTU1, kTU2, -, -, -, -⟩ := TU.out
         have Rqr0 := Lib.hid hr; clear hr
         have Rqr1 := Lib.hid hr2; clear hr2
         have G3 : Hid True := trivial
         try go_wp2_with fail)
      | (have mk := G1; clear mk
         rw [if_pos (by rfl)]
         go_simp
         go_at_call 16
         refine (addR 4 4 4 4 9 8 pr p r R00.out R01.out R20.out R21.out HQ0.out HQ2.out hn0 hm0 hn2 hm2 (by omega) (by omega) (by omega) (by omega) (by omega) (by omega) (by omega) (by omega) (by omega) (by omega) (by omega) EPR.out).mono ?_
         rintro e v2 ⟨apr, npr, cpr, bpr, mpr, dpr, rfl, hnpr, hmpr, hr, hr2, hb⟩
         replace R00 := Lib.hid (R00.out.later hb)
         replace R01 := Lib.hid (R01.out.later hb)
         replace R10 := Lib.hid (R10.out.later hb)
         replace R11 := Lib.hid (R11.out.later hb)
         replace R20 := Lib.hid (R20.out.later hb)
         replace R21 := Lib.hid (R21.out.later hb)
         replace Ru0 := Lib.hid (Ru0.out.later hb)
         replace Ru1 := Lib.hid (Ru1.out.later hb)
         replace T0 := Lib.hid (T0.out.later hb)
         replace T1 := Lib.hid (T1.out.later hb)
         replace T2 := Lib.hid (T2.out.later hb)
         replace TU := Lib.hid (TU.out.later hb)
         replace HB := Lib.hid (bthen HB.out hb); clear hb
         clear kT00 kT01 kT02 kT10 kT11 kT12 kT20 kT21 kT22 kTU0 kTU1 kTU2
         obtain ⟨kT00, kT01, kT02, -, -, -, -⟩ := T0.out
         obtain ⟨kT10, kT11, kT12, -, -, -, -⟩ := T1.out
         obtain ⟨kT20, kT21, kT22, -, -, -, -⟩ := T2.out
         obtain ⟨kTU0, kTU1, kTU2, -, -, -, -⟩ := TU.out
         have Rpr0 := Lib.hid hr; clear hr
         have Rpr1 := Lib.hid hr2; clear hr2
         have G2 : Hid True := trivial
         try go_wp2_with fail)
      | (skip
         rw [if_pos (by rfl)]
         go_simp
         go_at_call 24
         refine (cmpRat 1 q p R10.out R11.out R00.out R01.out HQ1.out HQ0.out (by omega) (by omega) (by omega) (by omega) HT1.out).mono ?_
         rintro e v1 ⟨rfl, hb⟩
         replace R00 := Lib.hid (R00.out.later hb)
         replace R01 := Lib.hid (R01.out.later hb)
         replace R10 := Lib.hid (R10.out.later hb)
         replace R11 := Lib.hid (R11.out.later hb)
         replace R20 := Lib.hid (R20.out.later hb)
         replace R21 := Lib.hid (R21.out.later hb)
         replace Ru0 := Lib.hid (Ru0.out.later hb)
         replace Ru1 := Lib.hid (Ru1.out.later hb)
         replace T0 := Lib.hid (T0.out.later hb)
         replace T1 := Lib.hid (T1.out.later hb)
         replace T2 := Lib.hid (T2.out.later hb)
         replace TU := Lib.hid (TU.out.later hb)
         replace HB := Lib.hid (bthen HB.out hb); clear hb
         clear kT00 kT01 kT02 kT10 kT11 kT12 kT20 kT21 kT22 kTU0 kTU1 kTU2
         obtain ⟨kT00, kT01, kT02, -, -, -, -⟩ := T0.out
         obtain ⟨kT10, kT11, kT12, -, -, -, -⟩ := T1.out
         obtain ⟨kT20, kT21, kT22, -, -, -, -⟩ := T2.out
         obtain ⟨kTU0, kTU1, kTU2, -, -, -, -⟩ := TU.out
         have G1 : Hid True := trivial
         try go_wp2_with fail))
  go_wp2
  go_ret
  exact ⟨rfl, HB.out⟩

end Go.Proofs.YtnnoicjnggoffaaGreat
/- RatioOrder, by what is above nought. -/
namespace Go.Proofs.YtnnoicjnggoffaaGreat
set_option linter.unusedVariables false
set_option linter.unusedSimpArgs false
set_option maxRecDepth 100000
open Go.RowKit Nums

set_option maxHeartbeats 16000000 in
theorem ratioOrder_gp (p q r : Rat) {s0 s1 s2 : Bool} {a0 b0 a1 b1 a2 b2 : Option Addr} {n0 c0 m0 d0 n1 c1 m1 d1 n2 c2 m2 d2 : Nat} {xs0 ys0 xs1 ys1 xs2 ys2 : List Nat} {w : World} (h00 : Row w a0 n0 c0 xs0) (h01 : Row w b0 m0 d0 ys0) (hq0 : mkRat (sv s0 (val xs0)) (val ys0) = p) (hn0 : n0 ≤ 4) (hm0 : m0 ≤ 4) (h10 : Row w a1 n1 c1 xs1) (h11 : Row w b1 m1 d1 ys1) (hq1 : mkRat (sv s1 (val xs1)) (val ys1) = q) (hn1 : n1 ≤ 4) (hm1 : m1 ≤ 4) (h20 : Row w a2 n2 c2 xs2) (h21 : Row w b2 m2 d2 ys2) (hq2 : mkRat (sv s2 (val xs2)) (val ys2) = r) (hn2 : n2 ≤ 4) (hm2 : m2 ≤ 4) (hT : cmpR p q = 1) (hS : sgn (r * r).num = 1)
    (hT1 : cmpR q p = (-1)) (hT2 : cmpR (p + r) (q + r) = 1) (hT3 : cmpR (p * (r * r)) (q * (r * r)) = 1) (hT4 : sgn (p - q).num = 1) :
    Calls Tryz.prog 8 #[.agg #[.bool s0, .slice a0 n0 c0, .slice b0 m0 d0], .agg #[.bool s1, .slice a1 n1 c1, .slice b1 m1 d1], .agg #[.bool s2, .slice a2 n2 c2, .slice b2 m2 d2]] w fun e w' => e = .returned (.bool true) ∧ Below w.heap.size w w' := by
  obtain ⟨u, eu⟩ : ∃ z : Rat, r * r = z := ⟨_, rfl⟩
  obtain ⟨pr, epr⟩ : ∃ z : Rat, p + r = z := ⟨_, rfl⟩
  obtain ⟨qr, eqr⟩ : ∃ z : Rat, q + r = z := ⟨_, rfl⟩
  rw [epr, eqr] at hT2
  rw [eu] at hT3 hS
  obtain ⟨pu, epu⟩ : ∃ z : Rat, p * u = z := ⟨_, rfl⟩
  obtain ⟨qu, equ⟩ : ∃ z : Rat, q * u = z := ⟨_, rfl⟩
  obtain ⟨pq, epq⟩ : ∃ z : Rat, p - q = z := ⟨_, rfl⟩
  rw [epu, equ] at hT3
  rw [epq] at hT4
  have EU := Lib.hid eu; clear eu
  have EPR := Lib.hid epr; clear epr
  have EQR := Lib.hid eqr; clear eqr
  have EPU := Lib.hid epu; clear epu
  have EQU := Lib.hid equ; clear equ
  have EPQ := Lib.hid epq; clear epq
  have HT := Lib.hid hT; clear hT
  have HS := Lib.hid hS; clear hS
  have HT1 := Lib.hid hT1; clear hT1
  have HT2 := Lib.hid hT2; clear hT2
  have HT3 := Lib.hid hT3; clear hT3
  have HT4 := Lib.hid hT4; clear hT4
  have HB := Lib.hid (below_four w (.cells #[.bool s0, .slice a0 n0 c0, .slice b0 m0 d0] 26) (.cells #[.bool s1, .slice a1 n1 c1, .slice b1 m1 d1] 26) (.cells #[.bool s2, .slice a2 n2 c2, .slice b2 m2 d2] 26) (.cells #[.bool s0, .slice a0 n0 c0, .slice b0 m0 d0, .bool s1, .slice a1 n1 c1, .slice b1 m1 d1, .bool s2, .slice a2 n2 c2, .slice b2 m2 d2] 26))
  have T0 : Hid (Tri ((((w.alloc (.cells #[.bool s0, .slice a0 n0 c0, .slice b0 m0 d0] 26)).alloc (.cells #[.bool s1, .slice a1 n1 c1, .slice b1 m1 d1] 26)).alloc (.cells #[.bool s2, .slice a2 n2 c2, .slice b2 m2 d2] 26)).alloc (.cells #[.bool s0, .slice a0 n0 c0, .slice b0 m0 d0, .bool s1, .slice a1 n1 c1, .slice b1 m1 d1, .bool s2, .slice a2 n2 c2, .slice b2 m2 d2] 26)) (w.heap.size) (.bool s0) (.slice a0 n0 c0) (.slice b0 m0 d0)) := ((((tri_new w (.bool s0) (.slice a0 n0 c0) (.slice b0 m0 d0)).alloc _).alloc _).alloc _)
  have T1 : Hid (Tri ((((w.alloc (.cells #[.bool s0, .slice a0 n0 c0, .slice b0 m0 d0] 26)).alloc (.cells #[.bool s1, .slice a1 n1 c1, .slice b1 m1 d1] 26)).alloc (.cells #[.bool s2, .slice a2 n2 c2, .slice b2 m2 d2] 26)).alloc (.cells #[.bool s0, .slice a0 n0 c0, .slice b0 m0 d0, .bool s1, .slice a1 n1 c1, .slice b1 m1 d1, .bool s2, .slice a2 n2 c2, .slice b2 m2 d2] 26)) (w.heap.size + 1) (.bool s1) (.slice a1 n1 c1) (.slice b1 m1 d1)) := (((tri_newE (by simp)).alloc _).alloc _)
  have T2 : Hid (Tri ((((w.alloc (.cells #[.bool s0, .slice a0 n0 c0, .slice b0 m0 d0] 26)).alloc (.cells #[.bool s1, .slice a1 n1 c1, .slice b1 m1 d1] 26)).alloc (.cells #[.bool s2, .slice a2 n2 c2, .slice b2 m2 d2] 26)).alloc (.cells #[.bool s0, .slice a0 n0 c0, .slice b0 m0 d0, .bool s1, .slice a1 n1 c1, .slice b1 m1 d1, .bool s2, .slice a2 n2 c2, .slice b2 m2 d2] 26)) (w.heap.size + 1 + 1) (.bool s2) (.slice a2 n2 c2) (.slice b2 m2 d2)) := ((tri_newE (by simp)).alloc _)
  have ka0 := cell_new (((w.alloc (.cells #[.bool s0, .slice a0 n0 c0, .slice b0 m0 d0] 26)).alloc (.cells #[.bool s1, .slice a1 n1 c1, .slice b1 m1 d1] 26)).alloc (.cells #[.bool s2, .slice a2 n2 c2, .slice b2 m2 d2] 26)) #[.bool s0, .slice a0 n0 c0, .slice b0 m0 d0, .bool s1, .slice a1 n1 c1, .slice b1 m1 d1, .bool s2, .slice a2 n2 c2, .slice b2 m2 d2] 26 1
  have kb0 := cell_new (((w.alloc (.cells #[.bool s0, .slice a0 n0 c0, .slice b0 m0 d0] 26)).alloc (.cells #[.bool s1, .slice a1 n1 c1, .slice b1 m1 d1] 26)).alloc (.cells #[.bool s2, .slice a2 n2 c2, .slice b2 m2 d2] 26)) #[.bool s0, .slice a0 n0 c0, .slice b0 m0 d0, .bool s1, .slice a1 n1 c1, .slice b1 m1 d1, .bool s2, .slice a2 n2 c2, .slice b2 m2 d2] 26 2
  have ka1 := cell_new (((w.alloc (.cells #[.bool s0, .slice a0 n0 c0, .slice b0 m0 d0] 26)).alloc (.cells #[.bool s1, .slice a1 n1 c1, .slice b1 m1 d1] 26)).alloc (.cells #[.bool s2, .slice a2 n2 c2, .slice b2 m2 d2] 26)) #[.bool s0, .slice a0 n0 c0, .slice b0 m0 d0, .bool s1, .slice a1 n1 c1, .slice b1 m1 d1, .bool s2, .slice a2 n2 c2, .slice b2 m2 d2] 26 4
  have kb1 := cell_new (((w.alloc (.cells #[.bool s0, .slice a0 n0 c0, .slice b0 m0 d0] 26)).alloc (.cells #[.bool s1, .slice a1 n1 c1, .slice b1 m1 d1] 26)).alloc (.cells #[.bool s2, .slice a2 n2 c2, .slice b2 m2 d2] 26)) #[.bool s0, .slice a0 n0 c0, .slice b0 m0 d0, .bool s1, .slice a1 n1 c1, .slice b1 m1 d1, .bool s2, .slice a2 n2 c2, .slice b2 m2 d2] 26 5
  have ka2 := cell_new (((w.alloc (.cells #[.bool s0, .slice a0 n0 c0, .slice b0 m0 d0] 26)).alloc (.cells #[.bool s1, .slice a1 n1 c1, .slice b1 m1 d1] 26)).alloc (.cells #[.bool s2, .slice a2 n2 c2, .slice b2 m2 d2] 26)) #[.bool s0, .slice a0 n0 c0, .slice b0 m0 d0, .bool s1, .slice a1 n1 c1, .slice b1 m1 d1, .bool s2, .slice a2 n2 c2, .slice b2 m2 d2] 26 7
  have kb2 := cell_new (((w.alloc (.cells #[.bool s0, .slice a0 n0 c0, .slice b0 m0 d0] 26)).alloc (.cells #[.bool s1, .slice a1 n1 c1, .slice b1 m1 d1] 26)).alloc (.cells #[.bool s2, .slice a2 n2 c2, .slice b2 m2 d2] 26)) #[.bool s0, .slice a0 n0 c0, .slice b0 m0 d0, .bool s1, .slice a1 n1 c1, .slice b1 m1 d1, .bool s2, .slice a2 n2 c2, .slice b2 m2 d2] 26 8
  rw [show (((w.alloc (.cells #[.bool s0, .slice a0 n0 c0, .slice b0 m0 d0] 26)).alloc (.cells #[.bool s1, .slice a1 n1 c1, .slice b1 m1 d1] 26)).alloc (.cells #[.bool s2, .slice a2 n2 c2, .slice b2 m2 d2] 26)).heap.size = w.heap.size + 1 + 1 + 1 from by simp] at ka0 kb0 ka1 kb1 ka2 kb2
  have R00 := Lib.hid (h00.later HB.out); clear h00
  have R01 := Lib.hid (h01.later HB.out); clear h01
  have HQ0 := Lib.hid hq0; clear hq0
  have R10 := Lib.hid (h10.later HB.out); clear h10
  have R11 := Lib.hid (h11.later HB.out); clear h11
  have HQ1 := Lib.hid hq1; clear hq1
  have R20 := Lib.hid (h20.later HB.out); clear h20
  have R21 := Lib.hid (h21.later HB.out); clear h21
  have HQ2 := Lib.hid hq2; clear hq2
  go_enter Tryz.func8, Tryz.ntmps8
  go_wp2_with fail
  refine (few3_yes (w.heap.size + 1 + 1 + 1) a0 b0 n0 c0 m0 d0 a1 b1 n1 c1 m1 d1 a2 b2 n2 c2 m2 d2 _ ka0 kb0 ka1 kb1 ka2 kb2 hn0 hm0 hn1 hm1 hn2 hm2).mono ?_
  rintro e w0 ⟨rfl, rfl⟩
  clear ka0 kb0 ka1 kb1 ka2 kb2
  obtain ⟨kT00, kT01, kT02, -, -, -, -⟩ := T0.out
  obtain ⟨kT10, kT11, kT12, -, -, -, -⟩ := T1.out
  obtain ⟨kT20, kT21, kT22, -, -, -, -⟩ := T2.out
  go_wp2_with fail
  refine (cmpRat 1 p q R00.out R01.out R10.out R11.out HQ0.out HQ1.out (by omega) (by omega) (by omega) (by omega) HT.out).mono ?_
  rintro e w1 ⟨rfl, hb⟩
  replace R00 := Lib.hid (R00.out.later hb)
  replace R01 := Lib.hid (R01.out.later hb)
  replace R10 := Lib.hid (R10.out.later hb)
  replace R11 := Lib.hid (R11.out.later hb)
  replace R20 := Lib.hid (R20.out.later hb)
  replace R21 := Lib.hid (R21.out.later hb)
  replace T0 := Lib.hid (T0.out.later hb)
  replace T1 := Lib.hid (T1.out.later hb)
  replace T2 := Lib.hid (T2.out.later hb)
  replace HB := Lib.hid (bthen HB.out hb)
  clear hb
  clear kT00 kT01 kT02 kT10 kT11 kT12 kT20 kT21 kT22
  obtain ⟨kT00, kT01, kT02, -, -, -, -⟩ := T0.out
  obtain ⟨kT10, kT11, kT12, -, -, -, -⟩ := T1.out
  obtain ⟨kT20, kT21, kT22, -, -, -, -⟩ := T2.out
  go_wp2_with fail
  refine (mulR 8 8 u r r R20.out R21.out R20.out R21.out HQ2.out HQ2.out (by omega) (by omega) (by omega) (by omega) (by omega) (by omega) (by omega) (by omega) (by omega) EU.out).mono ?_
  rintro e w2 ⟨au, nu, cu, bu, mu, du, rfl, hnu, hmu, hr, hr2, hb⟩
  replace R00 := Lib.hid (R00.out.later hb)
  replace R01 := Lib.hid (R01.out.later hb)
  replace R10 := Lib.hid (R10.out.later hb)
  replace R11 := Lib.hid (R11.out.later hb)
  replace R20 := Lib.hid (R20.out.later hb)
  replace R21 := Lib.hid (R21.out.later hb)
  replace T0 := Lib.hid (T0.out.later hb)
  replace T1 := Lib.hid (T1.out.later hb)
  replace T2 := Lib.hid (T2.out.later hb)
  replace HB := Lib.hid (bthen HB.out hb)
  clear hb
  clear kT00 kT01 kT02 kT10 kT11 kT12 kT20 kT21 kT22
  have Ru0 := Lib.hid hr; clear hr
  have Ru1 := Lib.hid hr2; clear hr2
  have hb1 := below_one w2 (.cells #[.bool (decide (u.num < 0)), .slice au nu cu, .slice bu mu du] 26)
  have TU : Hid (Tri (w2.alloc (.cells #[.bool (decide (u.num < 0)), .slice au nu cu, .slice bu mu du] 26)) w2.heap.size (.bool (decide (u.num < 0))) (.slice au nu cu) (.slice bu mu du)) := tri_new w2 _ _ _
  replace Ru0 := Lib.hid (Ru0.out.later hb1)
  replace Ru1 := Lib.hid (Ru1.out.later hb1)
  replace R00 := Lib.hid (R00.out.later hb1)
  replace R01 := Lib.hid (R01.out.later hb1)
  replace R10 := Lib.hid (R10.out.later hb1)
  replace R11 := Lib.hid (R11.out.later hb1)
  replace R20 := Lib.hid (R20.out.later hb1)
  replace R21 := Lib.hid (R21.out.later hb1)
  replace T0 := Lib.hid (T0.out.later hb1)
  replace T1 := Lib.hid (T1.out.later hb1)
  replace T2 := Lib.hid (T2.out.later hb1)
  replace HB := Lib.hid (bthen HB.out hb1)
  clear hb1
  obtain ⟨kT00, kT01, kT02, -, -, -, -⟩ := T0.out
  obtain ⟨kT10, kT11, kT12, -, -, -, -⟩ := T1.out
  obtain ⟨kT20, kT21, kT22, -, -, -, -⟩ := T2.out
  obtain ⟨kTU0, kTU1, kTU2, -, -, -, -⟩ := TU.out
  go_wp2_with fail
  refine (signR 1 u Ru0.out Ru1.out (rat_limbs u) (by omega) (by omega) HS.out).mono ?_
  rintro e w3 ⟨rfl, hb⟩
  replace R00 := Lib.hid (R00.out.later hb)
  replace R01 := Lib.hid (R01.out.later hb)
  replace R10 := Lib.hid (R10.out.later hb)
  replace R11 := Lib.hid (R11.out.later hb)
  replace R20 := Lib.hid (R20.out.later hb)
  replace R21 := Lib.hid (R21.out.later hb)
  replace Ru0 := Lib.hid (Ru0.out.later hb)
  replace Ru1 := Lib.hid (Ru1.out.later hb)
  replace T0 := Lib.hid (T0.out.later hb)
  replace T1 := Lib.hid (T1.out.later hb)
  replace T2 := Lib.hid (T2.out.later hb)
  replace TU := Lib.hid (TU.out.later hb)
  replace HB := Lib.hid (bthen HB.out hb)
  clear hb
  clear kT00 kT01 kT02 kT10 kT11 kT12 kT20 kT21 kT22 kTU0 kTU1 kTU2
  obtain ⟨kT00, kT01, kT02, -, -, -, -⟩ := T0.out
  obtain ⟨kT10, kT11, kT12, -, -, -, -⟩ := T1.out
  obtain ⟨kT20, kT21, kT22, -, -, -, -⟩ := T2.out
  obtain ⟨kTU0, kTU1, kTU2, -, -, -, -⟩ := TU.out
  go_wp2_with fail
  replace R00 := Lib.hid R00.out.drew
  replace R01 := Lib.hid R01.out.drew
  replace R10 := Lib.hid R10.out.drew
  replace R11 := Lib.hid R11.out.drew
  replace R20 := Lib.hid R20.out.drew
  replace R21 := Lib.hid R21.out.drew
  replace Ru0 := Lib.hid Ru0.out.drew
  replace Ru1 := Lib.hid Ru1.out.drew
  replace T0 := Lib.hid T0.out.drew
  replace T1 := Lib.hid T1.out.drew
  replace T2 := Lib.hid T2.out.drew
  replace TU := Lib.hid TU.out.drew
  replace HB := Lib.hid HB.out.drew
  clear kT00 kT01 kT02 kT10 kT11 kT12 kT20 kT21 kT22 kTU0 kTU1 kTU2
  obtain ⟨kT00, kT01, kT02, -, -, -, -⟩ := T0.out
  obtain ⟨kT10, kT11, kT12, -, -, -, -⟩ := T1.out
  obtain ⟨kT20, kT21, kT22, -, -, -, -⟩ := T2.out
  obtain ⟨kTU0, kTU1, kTU2, -, -, -, -⟩ := TU.out
  go_region_held3 (fun w' => w'.cell? ⟨w.heap.size, 0, none⟩ = some (.bool s0) ∧ w'.cell? ⟨w.heap.size, 1, none⟩ = some (.slice a0 n0 c0) ∧ w'.cell? ⟨w.heap.size, 2, none⟩ = some (.slice b0 m0 d0) ∧ w'.cell? ⟨w.heap.size + 1, 0, none⟩ = some (.bool s1) ∧ w'.cell? ⟨w.heap.size + 1, 1, none⟩ = some (.slice a1 n1 c1) ∧ w'.cell? ⟨w.heap.size + 1, 2, none⟩ = some (.slice b1 m1 d1) ∧ w'.cell? ⟨w.heap.size + 1 + 1, 0, none⟩ = some (.bool s2) ∧ w'.cell? ⟨w.heap.size + 1 + 1, 1, none⟩ = some (.slice a2 n2 c2) ∧ w'.cell? ⟨w.heap.size + 1 + 1, 2, none⟩ = some (.slice b2 m2 d2) ∧ w'.cell? ⟨w2.heap.size, 0, none⟩ = some (.bool (decide (u.num < 0))) ∧ w'.cell? ⟨w2.heap.size, 1, none⟩ = some (.slice au nu cu) ∧ w'.cell? ⟨w2.heap.size, 2, none⟩ = some (.slice bu mu du))
    (first | (refine ⟨?_, ?_, ?_, ?_, ?_, ?_, ?_, ?_, ?_, ?_, ?_, ?_⟩ <;> with_reducible assumption) | (go_keep; done) | (refine ⟨?_, ?_, ?_, ?_, ?_, ?_, ?_, ?_, ?_, ?_, ?_, ?_⟩ <;> (repeat rw [cell_other (by first | (simp; done) | (simp; omega))]) <;> with_reducible assumption))
    (first
      | (have mk := G10; clear mk
         rw [if_pos (by rfl)]
         go_simp
         go_at_call 26
         refine (awakeR _).mono ?_
         rintro e v11 ⟨rfl, hb⟩
         replace R00 := Lib.hid (R00.out.later hb)
         replace R01 := Lib.hid (R01.out.later hb)
         replace R10 := Lib.hid (R10.out.later hb)
         replace R11 := Lib.hid (R11.out.later hb)
         replace R20 := Lib.hid (R20.out.later hb)
         replace R21 := Lib.hid (R21.out.later hb)
         replace Ru0 := Lib.hid (Ru0.out.later hb)
         replace Ru1 := Lib.hid (Ru1.out.later hb)
         replace Rpq0 := Lib.hid (Rpq0.out.later hb)
         replace Rpq1 := Lib.hid (Rpq1.out.later hb)
         replace T0 := Lib.hid (T0.out.later hb)
         replace T1 := Lib.hid (T1.out.later hb)
         replace T2 := Lib.hid (T2.out.later hb)
         replace TU := Lib.hid (TU.out.later hb)
         replace HB := Lib.hid (bthen HB.out hb); clear hb
         clear kT00 kT01 kT02 kT10 kT11 kT12 kT20 kT21 kT22 kTU0 kTU1 kTU2
         obtain ⟨kT00, kT01, kT02, -, -, -, -⟩ := T0.out
         obtain ⟨kT10, kT11, kT12, -, -, -, -⟩ := T1.out
         obtain ⟨kT20, kT21, kT22, -, -, -, -⟩ := T2.out
         obtain ⟨kTU0, kTU1, kTU2, -, -, -, -⟩ := TU.out
         have G11 : Hid True := trivial
         try go_wp2_with fail)
      | (have mk := G9; clear mk
         rw [if_pos (by rfl)]
         go_simp
         go_at_call 29
         refine (signR 1 pq Rpq0.out Rpq1.out (rat_limbs pq) (by omega) (by omega) HT4.out).mono ?_
         rintro e v10 ⟨rfl, hb⟩
         replace R00 := Lib.hid (R00.out.later hb)
         replace R01 := Lib.hid (R01.out.later hb)
         replace R10 := Lib.hid (R10.out.later hb)
         replace R11 := Lib.hid (R11.out.later hb)
         replace R20 := Lib.hid (R20.out.later hb)
         replace R21 := Lib.hid (R21.out.later hb)
         replace Ru0 := Lib.hid (Ru0.out.later hb)
         replace Ru1 := Lib.hid (Ru1.out.later hb)
         replace Rpq0 := Lib.hid (Rpq0.out.later hb)
         replace Rpq1 := Lib.hid (Rpq1.out.later hb)
         replace T0 := Lib.hid (T0.out.later hb)
         replace T1 := Lib.hid (T1.out.later hb)
         replace T2 := Lib.hid (T2.out.later hb)
         replace TU := Lib.hid (TU.out.later hb)
         replace HB := Lib.hid (bthen HB.out hb); clear hb
         clear kT00 kT01 kT02 kT10 kT11 kT12 kT20 kT21 kT22 kTU0 kTU1 kTU2
         obtain ⟨kT00, kT01, kT02, -, -, -, -⟩ := T0.out
         obtain ⟨kT10, kT11, kT12, -, -, -, -⟩ := T1.out
         obtain ⟨kT20, kT21, kT22, -, -, -, -⟩ := T2.out
         obtain ⟨kTU0, kTU1, kTU2, -, -, -, -⟩ := TU.out
         have G10 : Hid True := trivial
         try go_wp2_with fail)
      | (have mk := G8; clear mk
         rw [if_pos (by rfl)]
         go_simp
         go_at_call 18
         refine (subR 4 4 4 4 9 8 pq p q R00.out R01.out R10.out R11.out HQ0.out HQ1.out hn0 hm0 hn1 hm1 (by omega) (by omega) (by omega) (by omega) (by omega) (by omega) (by omega) (by omega) (by omega) (by omega) (by omega) EPQ.out).mono ?_
         rintro e v9 ⟨apq, npq, cpq, bpq, mpq, dpq, rfl, hnpq, hmpq, hr, hr2, hb⟩
         replace R00 := Lib.hid (R00.out.later hb)
         replace R01 := Lib.hid (R01.out.later hb)
         replace R10 := Lib.hid (R10.out.later hb)
         replace R11 := Lib.hid (R11.out.later hb)
         replace R20 := Lib.hid (R20.out.later hb)
         replace R21 := Lib.hid (R21.out.later hb)
         replace Ru0 := Lib.hid (Ru0.out.later hb)
         replace Ru1 := Lib.hid (Ru1.out.later hb)
         replace T0 := Lib.hid (T0.out.later hb)
         replace T1 := Lib.hid (T1.out.later hb)
         replace T2 := Lib.hid (T2.out.later hb)
         replace TU := Lib.hid (TU.out.later hb)
         replace HB := Lib.hid (bthen HB.out hb); clear hb
         clear kT00 kT01 kT02 kT10 kT11 kT12 kT20 kT21 kT22 kTU0 kTU1 kTU2
         obtain ⟨kT00, kT01, kT02, -, -, -, -⟩ := T0.out
         obtain ⟨kT10, kT11, kT12, -, -, -, -⟩ := T1.out
         obtain ⟨kT20, kT21, kT22, -, -, -, -⟩ := T2.out
         obtain ⟨kTU0, kTU1, kTU2, -, -, -, -⟩ := TU.out
         have Rpq0 := Lib.hid hr; clear hr
         have Rpq1 := Lib.hid hr2; clear hr2
         have G9 : Hid True := trivial
         try go_wp2_with fail)
      | (have mk := G7; clear mk
         rw [if_pos (by rfl)]
         go_simp
         go_at_call 29
         refine (signR 1 u Ru0.out Ru1.out (rat_limbs u) (by omega) (by omega) HS.out).mono ?_
         rintro e v8 ⟨rfl, hb⟩
         replace R00 := Lib.hid (R00.out.later hb)
         replace R01 := Lib.hid (R01.out.later hb)
         replace R10 := Lib.hid (R10.out.later hb)
         replace R11 := Lib.hid (R11.out.later hb)
         replace R20 := Lib.hid (R20.out.later hb)
         replace R21 := Lib.hid (R21.out.later hb)
         replace Ru0 := Lib.hid (Ru0.out.later hb)
         replace Ru1 := Lib.hid (Ru1.out.later hb)
         replace T0 := Lib.hid (T0.out.later hb)
         replace T1 := Lib.hid (T1.out.later hb)
         replace T2 := Lib.hid (T2.out.later hb)
         replace TU := Lib.hid (TU.out.later hb)
         replace HB := Lib.hid (bthen HB.out hb); clear hb
         clear kT00 kT01 kT02 kT10 kT11 kT12 kT20 kT21 kT22 kTU0 kTU1 kTU2
         obtain ⟨kT00, kT01, kT02, -, -, -, -⟩ := T0.out
         obtain ⟨kT10, kT11, kT12, -, -, -, -⟩ := T1.out
         obtain ⟨kT20, kT21, kT22, -, -, -, -⟩ := T2.out
         obtain ⟨kTU0, kTU1, kTU2, -, -, -, -⟩ := TU.out
         have G8 : Hid True := trivial
         try go_wp2_with fail)
      | (have mk := G6; clear mk
         rw [if_pos (by rfl)]
         go_simp
         go_at_call 24
         refine (cmpRat 1 pu qu Rpu0.out Rpu1.out Rqu0.out Rqu1.out (rat_limbs pu) (rat_limbs qu) (by omega) (by omega) (by omega) (by omega) HT3.out).mono ?_
         rintro e v7 ⟨rfl, hb⟩
         clear Rpu0
         clear Rpu1
         clear Rqu0
         clear Rqu1
         replace R00 := Lib.hid (R00.out.later hb)
         replace R01 := Lib.hid (R01.out.later hb)
         replace R10 := Lib.hid (R10.out.later hb)
         replace R11 := Lib.hid (R11.out.later hb)
         replace R20 := Lib.hid (R20.out.later hb)
         replace R21 := Lib.hid (R21.out.later hb)
         replace Ru0 := Lib.hid (Ru0.out.later hb)
         replace Ru1 := Lib.hid (Ru1.out.later hb)
         replace T0 := Lib.hid (T0.out.later hb)
         replace T1 := Lib.hid (T1.out.later hb)
         replace T2 := Lib.hid (T2.out.later hb)
         replace TU := Lib.hid (TU.out.later hb)
         replace HB := Lib.hid (bthen HB.out hb); clear hb
         clear kT00 kT01 kT02 kT10 kT11 kT12 kT20 kT21 kT22 kTU0 kTU1 kTU2
         obtain ⟨kT00, kT01, kT02, -, -, -, -⟩ := T0.out
         obtain ⟨kT10, kT11, kT12, -, -, -, -⟩ := T1.out
         obtain ⟨kT20, kT21, kT22, -, -, -, -⟩ := T2.out
         obtain ⟨kTU0, kTU1, kTU2, -, -, -, -⟩ := TU.out
         have G7 : Hid True := trivial
         try go_wp2_with fail)
      | (have mk := G5; clear mk
         rw [if_pos (by rfl)]
         go_simp
         go_at_call 20
         refine (mulR 12 12 qu q u R10.out R11.out Ru0.out Ru1.out HQ1.out (rat_limbs u) (by omega) (by omega) (by omega) (by omega) (by omega) (by omega) (by omega) (by omega) (by omega) EQU.out).mono ?_
         rintro e v6 ⟨aqu, nqu, cqu, bqu, mqu, dqu, rfl, hnqu, hmqu, hr, hr2, hb⟩
         replace R00 := Lib.hid (R00.out.later hb)
         replace R01 := Lib.hid (R01.out.later hb)
         replace R10 := Lib.hid (R10.out.later hb)
         replace R11 := Lib.hid (R11.out.later hb)
         replace R20 := Lib.hid (R20.out.later hb)
         replace R21 := Lib.hid (R21.out.later hb)
         replace Ru0 := Lib.hid (Ru0.out.later hb)
         replace Ru1 := Lib.hid (Ru1.out.later hb)
         replace Rpu0 := Lib.hid (Rpu0.out.later hb)
         replace Rpu1 := Lib.hid (Rpu1.out.later hb)
         replace T0 := Lib.hid (T0.out.later hb)
         replace T1 := Lib.hid (T1.out.later hb)
         replace T2 := Lib.hid (T2.out.later hb)
         replace TU := Lib.hid (TU.out.later hb)
         replace HB := Lib.hid (bthen HB.out hb); clear hb
         clear kT00 kT01 kT02 kT10 kT11 kT12 kT20 kT21 kT22 kTU0 kTU1 kTU2
         obtain ⟨kT00, kT01, kT02, -, -, -, -⟩ := T0.out
         obtain ⟨kT10, kT11, kT12, -, -, -, -⟩ := T1.out
         obtain ⟨kT20, kT21, kT22, -, -, -, -⟩ := T2.out
         obtain ⟨kTU0, kTU1, kTU2, -, -, -, -⟩ := TU.out
         have Rqu0 := Lib.hid hr; clear hr
         have Rqu1 := Lib.hid hr2; clear hr2
         have G6 : Hid True := trivial
         try go_wp2_with fail)
      | (have mk := G4; clear mk
         rw [if_pos (by rfl)]
         go_simp
         go_at_call 20
         refine (mulR 12 12 pu p u R00.out R01.out Ru0.out Ru1.out HQ0.out (rat_limbs u) (by omega) (by omega) (by omega) (by omega) (by omega) (by omega) (by omega) (by omega) (by omega) EPU.out).mono ?_
         rintro e v5 ⟨apu, npu, cpu, bpu, mpu, dpu, rfl, hnpu, hmpu, hr, hr2, hb⟩
         replace R00 := Lib.hid (R00.out.later hb)
         replace R01 := Lib.hid (R01.out.later hb)
         replace R10 := Lib.hid (R10.out.later hb)
         replace R11 := Lib.hid (R11.out.later hb)
         replace R20 := Lib.hid (R20.out.later hb)
         replace R21 := Lib.hid (R21.out.later hb)
         replace Ru0 := Lib.hid (Ru0.out.later hb)
         replace Ru1 := Lib.hid (Ru1.out.later hb)
         replace T0 := Lib.hid (T0.out.later hb)
         replace T1 := Lib.hid (T1.out.later hb)
         replace T2 := Lib.hid (T2.out.later hb)
         replace TU := Lib.hid (TU.out.later hb)
         replace HB := Lib.hid (bthen HB.out hb); clear hb
         clear kT00 kT01 kT02 kT10 kT11 kT12 kT20 kT21 kT22 kTU0 kTU1 kTU2
         obtain ⟨kT00, kT01, kT02, -, -, -, -⟩ := T0.out
         obtain ⟨kT10, kT11, kT12, -, -, -, -⟩ := T1.out
         obtain ⟨kT20, kT21, kT22, -, -, -, -⟩ := T2.out
         obtain ⟨kTU0, kTU1, kTU2, -, -, -, -⟩ := TU.out
         have Rpu0 := Lib.hid hr; clear hr
         have Rpu1 := Lib.hid hr2; clear hr2
         have G5 : Hid True := trivial
         try go_wp2_with fail)
      | (have mk := G3; clear mk
         rw [if_pos (by rfl)]
         go_simp
         go_at_call 24
         refine (cmpRat 1 pr qr Rpr0.out Rpr1.out Rqr0.out Rqr1.out (rat_limbs pr) (rat_limbs qr) (by omega) (by omega) (by omega) (by omega) HT2.out).mono ?_
         rintro e v4 ⟨rfl, hb⟩
         clear Rpr0
         clear Rpr1
         clear Rqr0
         clear Rqr1
         replace R00 := Lib.hid (R00.out.later hb)
         replace R01 := Lib.hid (R01.out.later hb)
         replace R10 := Lib.hid (R10.out.later hb)
         replace R11 := Lib.hid (R11.out.later hb)
         replace R20 := Lib.hid (R20.out.later hb)
         replace R21 := Lib.hid (R21.out.later hb)
         replace Ru0 := Lib.hid (Ru0.out.later hb)
         replace Ru1 := Lib.hid (Ru1.out.later hb)
         replace T0 := Lib.hid (T0.out.later hb)
         replace T1 := Lib.hid (T1.out.later hb)
         replace T2 := Lib.hid (T2.out.later hb)
         replace TU := Lib.hid (TU.out.later hb)
         replace HB := Lib.hid (bthen HB.out hb); clear hb
         clear kT00 kT01 kT02 kT10 kT11 kT12 kT20 kT21 kT22 kTU0 kTU1 kTU2
         obtain ⟨kT00, kT01, kT02, -, -, -, -⟩ := T0.out
         obtain ⟨kT10, kT11, kT12, -, -, -, -⟩ := T1.out
         obtain ⟨kT20, kT21, kT22, -, -, -, -⟩ := T2.out
         obtain ⟨kTU0, kTU1, kTU2, -, -, -, -⟩ := TU.out
         have G4 : Hid True := trivial
         try go_wp2_with fail)
      | (have mk := G2; clear mk
         rw [if_pos (by rfl)]
         go_simp
         go_at_call 16
         refine (addR 4 4 4 4 9 8 qr q r R10.out R11.out R20.out R21.out HQ1.out HQ2.out hn1 hm1 hn2 hm2 (by omega) (by omega) (by omega) (by omega) (by omega) (by omega) (by omega) (by omega) (by omega) (by omega) (by omega) EQR.out).mono ?_
         rintro e v3 ⟨aqr, nqr, cqr, bqr, mqr, dqr, rfl, hnqr, hmqr, hr, hr2, hb⟩
         replace R00 := Lib.hid (R00.out.later hb)
         replace R01 := Lib.hid (R01.out.later hb)
         replace R10 := Lib.hid (R10.out.later hb)
         replace R11 := Lib.hid (R11.out.later hb)
         replace R20 := Lib.hid (R20.out.later hb)
         replace R21 := Lib.hid (R21.out.later hb)
         replace Ru0 := Lib.hid (Ru0.out.later hb)
         replace Ru1 := Lib.hid (Ru1.out.later hb)
         replace Rpr0 := Lib.hid (Rpr0.out.later hb)
         replace Rpr1 := Lib.hid (Rpr1.out.later hb)
         replace T0 := Lib.hid (T0.out.later hb)
         replace T1 := Lib.hid (T1.out.later hb)
         replace T2 := Lib.hid (T2.out.later hb)
         replace TU := Lib.hid (TU.out.later hb)
         replace HB := Lib.hid (bthen HB.out hb); clear hb
         clear kT00 kT01 kT02 kT10 kT11 kT12 kT20 kT21 kT22 kTU0 kTU1 kTU2
         obtain ⟨kT00, kT01, kT02, -, -, -, -⟩ := T0.out
         obtain ⟨kT10, kT11, kT12, -, -, -, -⟩ := T1.out
         obtain ⟨kT20, kT21, kT22, -, -, -, -⟩ := T2.out
         obtain ⟨kTU0, kTU1, kTU2, -, -, -, -⟩ := TU.out
         have Rqr0 := Lib.hid hr; clear hr
         have Rqr1 := Lib.hid hr2; clear hr2
         have G3 : Hid True := trivial
         try go_wp2_with fail)
      | (have mk := G1; clear mk
         rw [if_pos (by rfl)]
         go_simp
         go_at_call 16
         refine (addR 4 4 4 4 9 8 pr p r R00.out R01.out R20.out R21.out HQ0.out HQ2.out hn0 hm0 hn2 hm2 (by omega) (by omega) (by omega) (by omega) (by omega) (by omega) (by omega) (by omega) (by omega) (by omega) (by omega) EPR.out).mono ?_
         rintro e v2 ⟨apr, npr, cpr, bpr, mpr, dpr, rfl, hnpr, hmpr, hr, hr2, hb⟩
         replace R00 := Lib.hid (R00.out.later hb)
         replace R01 := Lib.hid (R01.out.later hb)
         replace R10 := Lib.hid (R10.out.later hb)
         replace R11 := Lib.hid (R11.out.later hb)
         replace R20 := Lib.hid (R20.out.later hb)
         replace R21 := Lib.hid (R21.out.later hb)
         replace Ru0 := Lib.hid (Ru0.out.later hb)
         replace Ru1 := Lib.hid (Ru1.out.later hb)
         replace T0 := Lib.hid (T0.out.later hb)
         replace T1 := Lib.hid (T1.out.later hb)
         replace T2 := Lib.hid (T2.out.later hb)
         replace TU := Lib.hid (TU.out.later hb)
         replace HB := Lib.hid (bthen HB.out hb); clear hb
         clear kT00 kT01 kT02 kT10 kT11 kT12 kT20 kT21 kT22 kTU0 kTU1 kTU2
         obtain ⟨kT00, kT01, kT02, -, -, -, -⟩ := T0.out
         obtain ⟨kT10, kT11, kT12, -, -, -, -⟩ := T1.out
         obtain ⟨kT20, kT21, kT22, -, -, -, -⟩ := T2.out
         obtain ⟨kTU0, kTU1, kTU2, -, -, -, -⟩ := TU.out
         have Rpr0 := Lib.hid hr; clear hr
         have Rpr1 := Lib.hid hr2; clear hr2
         have G2 : Hid True := trivial
         try go_wp2_with fail)
      | (skip
         rw [if_pos (by rfl)]
         go_simp
         go_at_call 24
         refine (cmpRat (-1) q p R10.out R11.out R00.out R01.out HQ1.out HQ0.out (by omega) (by omega) (by omega) (by omega) HT1.out).mono ?_
         rintro e v1 ⟨rfl, hb⟩
         replace R00 := Lib.hid (R00.out.later hb)
         replace R01 := Lib.hid (R01.out.later hb)
         replace R10 := Lib.hid (R10.out.later hb)
         replace R11 := Lib.hid (R11.out.later hb)
         replace R20 := Lib.hid (R20.out.later hb)
         replace R21 := Lib.hid (R21.out.later hb)
         replace Ru0 := Lib.hid (Ru0.out.later hb)
         replace Ru1 := Lib.hid (Ru1.out.later hb)
         replace T0 := Lib.hid (T0.out.later hb)
         replace T1 := Lib.hid (T1.out.later hb)
         replace T2 := Lib.hid (T2.out.later hb)
         replace TU := Lib.hid (TU.out.later hb)
         replace HB := Lib.hid (bthen HB.out hb); clear hb
         clear kT00 kT01 kT02 kT10 kT11 kT12 kT20 kT21 kT22 kTU0 kTU1 kTU2
         obtain ⟨kT00, kT01, kT02, -, -, -, -⟩ := T0.out
         obtain ⟨kT10, kT11, kT12, -, -, -, -⟩ := T1.out
         obtain ⟨kT20, kT21, kT22, -, -, -, -⟩ := T2.out
         obtain ⟨kTU0, kTU1, kTU2, -, -, -, -⟩ := TU.out
         have G1 : Hid True := trivial
         try go_wp2_with fail))
  go_wp2
  go_ret
  exact ⟨rfl, HB.out⟩

set_option maxHeartbeats 16000000 in
theorem ratioOrder_lp (p q r : Rat) {s0 s1 s2 : Bool} {a0 b0 a1 b1 a2 b2 : Option Addr} {n0 c0 m0 d0 n1 c1 m1 d1 n2 c2 m2 d2 : Nat} {xs0 ys0 xs1 ys1 xs2 ys2 : List Nat} {w : World} (h00 : Row w a0 n0 c0 xs0) (h01 : Row w b0 m0 d0 ys0) (hq0 : mkRat (sv s0 (val xs0)) (val ys0) = p) (hn0 : n0 ≤ 4) (hm0 : m0 ≤ 4) (h10 : Row w a1 n1 c1 xs1) (h11 : Row w b1 m1 d1 ys1) (hq1 : mkRat (sv s1 (val xs1)) (val ys1) = q) (hn1 : n1 ≤ 4) (hm1 : m1 ≤ 4) (h20 : Row w a2 n2 c2 xs2) (h21 : Row w b2 m2 d2 ys2) (hq2 : mkRat (sv s2 (val xs2)) (val ys2) = r) (hn2 : n2 ≤ 4) (hm2 : m2 ≤ 4) (hT : cmpR p q = (-1)) (hS : sgn (r * r).num = 1)
    (hT1 : cmpR q p = 1) (hT2 : cmpR (p + r) (q + r) = (-1)) (hT3 : cmpR (p * (r * r)) (q * (r * r)) = (-1)) (hT4 : sgn (p - q).num = (-1)) :
    Calls Tryz.prog 8 #[.agg #[.bool s0, .slice a0 n0 c0, .slice b0 m0 d0], .agg #[.bool s1, .slice a1 n1 c1, .slice b1 m1 d1], .agg #[.bool s2, .slice a2 n2 c2, .slice b2 m2 d2]] w fun e w' => e = .returned (.bool true) ∧ Below w.heap.size w w' := by
  obtain ⟨u, eu⟩ : ∃ z : Rat, r * r = z := ⟨_, rfl⟩
  obtain ⟨pr, epr⟩ : ∃ z : Rat, p + r = z := ⟨_, rfl⟩
  obtain ⟨qr, eqr⟩ : ∃ z : Rat, q + r = z := ⟨_, rfl⟩
  rw [epr, eqr] at hT2
  rw [eu] at hT3 hS
  obtain ⟨pu, epu⟩ : ∃ z : Rat, p * u = z := ⟨_, rfl⟩
  obtain ⟨qu, equ⟩ : ∃ z : Rat, q * u = z := ⟨_, rfl⟩
  obtain ⟨pq, epq⟩ : ∃ z : Rat, p - q = z := ⟨_, rfl⟩
  rw [epu, equ] at hT3
  rw [epq] at hT4
  have EU := Lib.hid eu; clear eu
  have EPR := Lib.hid epr; clear epr
  have EQR := Lib.hid eqr; clear eqr
  have EPU := Lib.hid epu; clear epu
  have EQU := Lib.hid equ; clear equ
  have EPQ := Lib.hid epq; clear epq
  have HT := Lib.hid hT; clear hT
  have HS := Lib.hid hS; clear hS
  have HT1 := Lib.hid hT1; clear hT1
  have HT2 := Lib.hid hT2; clear hT2
  have HT3 := Lib.hid hT3; clear hT3
  have HT4 := Lib.hid hT4; clear hT4
  have HB := Lib.hid (below_four w (.cells #[.bool s0, .slice a0 n0 c0, .slice b0 m0 d0] 26) (.cells #[.bool s1, .slice a1 n1 c1, .slice b1 m1 d1] 26) (.cells #[.bool s2, .slice a2 n2 c2, .slice b2 m2 d2] 26) (.cells #[.bool s0, .slice a0 n0 c0, .slice b0 m0 d0, .bool s1, .slice a1 n1 c1, .slice b1 m1 d1, .bool s2, .slice a2 n2 c2, .slice b2 m2 d2] 26))
  have T0 : Hid (Tri ((((w.alloc (.cells #[.bool s0, .slice a0 n0 c0, .slice b0 m0 d0] 26)).alloc (.cells #[.bool s1, .slice a1 n1 c1, .slice b1 m1 d1] 26)).alloc (.cells #[.bool s2, .slice a2 n2 c2, .slice b2 m2 d2] 26)).alloc (.cells #[.bool s0, .slice a0 n0 c0, .slice b0 m0 d0, .bool s1, .slice a1 n1 c1, .slice b1 m1 d1, .bool s2, .slice a2 n2 c2, .slice b2 m2 d2] 26)) (w.heap.size) (.bool s0) (.slice a0 n0 c0) (.slice b0 m0 d0)) := ((((tri_new w (.bool s0) (.slice a0 n0 c0) (.slice b0 m0 d0)).alloc _).alloc _).alloc _)
  have T1 : Hid (Tri ((((w.alloc (.cells #[.bool s0, .slice a0 n0 c0, .slice b0 m0 d0] 26)).alloc (.cells #[.bool s1, .slice a1 n1 c1, .slice b1 m1 d1] 26)).alloc (.cells #[.bool s2, .slice a2 n2 c2, .slice b2 m2 d2] 26)).alloc (.cells #[.bool s0, .slice a0 n0 c0, .slice b0 m0 d0, .bool s1, .slice a1 n1 c1, .slice b1 m1 d1, .bool s2, .slice a2 n2 c2, .slice b2 m2 d2] 26)) (w.heap.size + 1) (.bool s1) (.slice a1 n1 c1) (.slice b1 m1 d1)) := (((tri_newE (by simp)).alloc _).alloc _)
  have T2 : Hid (Tri ((((w.alloc (.cells #[.bool s0, .slice a0 n0 c0, .slice b0 m0 d0] 26)).alloc (.cells #[.bool s1, .slice a1 n1 c1, .slice b1 m1 d1] 26)).alloc (.cells #[.bool s2, .slice a2 n2 c2, .slice b2 m2 d2] 26)).alloc (.cells #[.bool s0, .slice a0 n0 c0, .slice b0 m0 d0, .bool s1, .slice a1 n1 c1, .slice b1 m1 d1, .bool s2, .slice a2 n2 c2, .slice b2 m2 d2] 26)) (w.heap.size + 1 + 1) (.bool s2) (.slice a2 n2 c2) (.slice b2 m2 d2)) := ((tri_newE (by simp)).alloc _)
  have ka0 := cell_new (((w.alloc (.cells #[.bool s0, .slice a0 n0 c0, .slice b0 m0 d0] 26)).alloc (.cells #[.bool s1, .slice a1 n1 c1, .slice b1 m1 d1] 26)).alloc (.cells #[.bool s2, .slice a2 n2 c2, .slice b2 m2 d2] 26)) #[.bool s0, .slice a0 n0 c0, .slice b0 m0 d0, .bool s1, .slice a1 n1 c1, .slice b1 m1 d1, .bool s2, .slice a2 n2 c2, .slice b2 m2 d2] 26 1
  have kb0 := cell_new (((w.alloc (.cells #[.bool s0, .slice a0 n0 c0, .slice b0 m0 d0] 26)).alloc (.cells #[.bool s1, .slice a1 n1 c1, .slice b1 m1 d1] 26)).alloc (.cells #[.bool s2, .slice a2 n2 c2, .slice b2 m2 d2] 26)) #[.bool s0, .slice a0 n0 c0, .slice b0 m0 d0, .bool s1, .slice a1 n1 c1, .slice b1 m1 d1, .bool s2, .slice a2 n2 c2, .slice b2 m2 d2] 26 2
  have ka1 := cell_new (((w.alloc (.cells #[.bool s0, .slice a0 n0 c0, .slice b0 m0 d0] 26)).alloc (.cells #[.bool s1, .slice a1 n1 c1, .slice b1 m1 d1] 26)).alloc (.cells #[.bool s2, .slice a2 n2 c2, .slice b2 m2 d2] 26)) #[.bool s0, .slice a0 n0 c0, .slice b0 m0 d0, .bool s1, .slice a1 n1 c1, .slice b1 m1 d1, .bool s2, .slice a2 n2 c2, .slice b2 m2 d2] 26 4
  have kb1 := cell_new (((w.alloc (.cells #[.bool s0, .slice a0 n0 c0, .slice b0 m0 d0] 26)).alloc (.cells #[.bool s1, .slice a1 n1 c1, .slice b1 m1 d1] 26)).alloc (.cells #[.bool s2, .slice a2 n2 c2, .slice b2 m2 d2] 26)) #[.bool s0, .slice a0 n0 c0, .slice b0 m0 d0, .bool s1, .slice a1 n1 c1, .slice b1 m1 d1, .bool s2, .slice a2 n2 c2, .slice b2 m2 d2] 26 5
  have ka2 := cell_new (((w.alloc (.cells #[.bool s0, .slice a0 n0 c0, .slice b0 m0 d0] 26)).alloc (.cells #[.bool s1, .slice a1 n1 c1, .slice b1 m1 d1] 26)).alloc (.cells #[.bool s2, .slice a2 n2 c2, .slice b2 m2 d2] 26)) #[.bool s0, .slice a0 n0 c0, .slice b0 m0 d0, .bool s1, .slice a1 n1 c1, .slice b1 m1 d1, .bool s2, .slice a2 n2 c2, .slice b2 m2 d2] 26 7
  have kb2 := cell_new (((w.alloc (.cells #[.bool s0, .slice a0 n0 c0, .slice b0 m0 d0] 26)).alloc (.cells #[.bool s1, .slice a1 n1 c1, .slice b1 m1 d1] 26)).alloc (.cells #[.bool s2, .slice a2 n2 c2, .slice b2 m2 d2] 26)) #[.bool s0, .slice a0 n0 c0, .slice b0 m0 d0, .bool s1, .slice a1 n1 c1, .slice b1 m1 d1, .bool s2, .slice a2 n2 c2, .slice b2 m2 d2] 26 8
  rw [show (((w.alloc (.cells #[.bool s0, .slice a0 n0 c0, .slice b0 m0 d0] 26)).alloc (.cells #[.bool s1, .slice a1 n1 c1, .slice b1 m1 d1] 26)).alloc (.cells #[.bool s2, .slice a2 n2 c2, .slice b2 m2 d2] 26)).heap.size = w.heap.size + 1 + 1 + 1 from by simp] at ka0 kb0 ka1 kb1 ka2 kb2
  have R00 := Lib.hid (h00.later HB.out); clear h00
  have R01 := Lib.hid (h01.later HB.out); clear h01
  have HQ0 := Lib.hid hq0; clear hq0
  have R10 := Lib.hid (h10.later HB.out); clear h10
  have R11 := Lib.hid (h11.later HB.out); clear h11
  have HQ1 := Lib.hid hq1; clear hq1
  have R20 := Lib.hid (h20.later HB.out); clear h20
  have R21 := Lib.hid (h21.later HB.out); clear h21
  have HQ2 := Lib.hid hq2; clear hq2
  go_enter Tryz.func8, Tryz.ntmps8
  go_wp2_with fail
  refine (few3_yes (w.heap.size + 1 + 1 + 1) a0 b0 n0 c0 m0 d0 a1 b1 n1 c1 m1 d1 a2 b2 n2 c2 m2 d2 _ ka0 kb0 ka1 kb1 ka2 kb2 hn0 hm0 hn1 hm1 hn2 hm2).mono ?_
  rintro e w0 ⟨rfl, rfl⟩
  clear ka0 kb0 ka1 kb1 ka2 kb2
  obtain ⟨kT00, kT01, kT02, -, -, -, -⟩ := T0.out
  obtain ⟨kT10, kT11, kT12, -, -, -, -⟩ := T1.out
  obtain ⟨kT20, kT21, kT22, -, -, -, -⟩ := T2.out
  go_wp2_with fail
  refine (cmpRat (-1) p q R00.out R01.out R10.out R11.out HQ0.out HQ1.out (by omega) (by omega) (by omega) (by omega) HT.out).mono ?_
  rintro e w1 ⟨rfl, hb⟩
  replace R00 := Lib.hid (R00.out.later hb)
  replace R01 := Lib.hid (R01.out.later hb)
  replace R10 := Lib.hid (R10.out.later hb)
  replace R11 := Lib.hid (R11.out.later hb)
  replace R20 := Lib.hid (R20.out.later hb)
  replace R21 := Lib.hid (R21.out.later hb)
  replace T0 := Lib.hid (T0.out.later hb)
  replace T1 := Lib.hid (T1.out.later hb)
  replace T2 := Lib.hid (T2.out.later hb)
  replace HB := Lib.hid (bthen HB.out hb)
  clear hb
  clear kT00 kT01 kT02 kT10 kT11 kT12 kT20 kT21 kT22
  obtain ⟨kT00, kT01, kT02, -, -, -, -⟩ := T0.out
  obtain ⟨kT10, kT11, kT12, -, -, -, -⟩ := T1.out
  obtain ⟨kT20, kT21, kT22, -, -, -, -⟩ := T2.out
  go_wp2_with fail
  refine (mulR 8 8 u r r R20.out R21.out R20.out R21.out HQ2.out HQ2.out (by omega) (by omega) (by omega) (by omega) (by omega) (by omega) (by omega) (by omega) (by omega) EU.out).mono ?_
  rintro e w2 ⟨au, nu, cu, bu, mu, du, rfl, hnu, hmu, hr, hr2, hb⟩
  replace R00 := Lib.hid (R00.out.later hb)
  replace R01 := Lib.hid (R01.out.later hb)
  replace R10 := Lib.hid (R10.out.later hb)
  replace R11 := Lib.hid (R11.out.later hb)
  replace R20 := Lib.hid (R20.out.later hb)
  replace R21 := Lib.hid (R21.out.later hb)
  replace T0 := Lib.hid (T0.out.later hb)
  replace T1 := Lib.hid (T1.out.later hb)
  replace T2 := Lib.hid (T2.out.later hb)
  replace HB := Lib.hid (bthen HB.out hb)
  clear hb
  clear kT00 kT01 kT02 kT10 kT11 kT12 kT20 kT21 kT22
  have Ru0 := Lib.hid hr; clear hr
  have Ru1 := Lib.hid hr2; clear hr2
  have hb1 := below_one w2 (.cells #[.bool (decide (u.num < 0)), .slice au nu cu, .slice bu mu du] 26)
  have TU : Hid (Tri (w2.alloc (.cells #[.bool (decide (u.num < 0)), .slice au nu cu, .slice bu mu du] 26)) w2.heap.size (.bool (decide (u.num < 0))) (.slice au nu cu) (.slice bu mu du)) := tri_new w2 _ _ _
  replace Ru0 := Lib.hid (Ru0.out.later hb1)
  replace Ru1 := Lib.hid (Ru1.out.later hb1)
  replace R00 := Lib.hid (R00.out.later hb1)
  replace R01 := Lib.hid (R01.out.later hb1)
  replace R10 := Lib.hid (R10.out.later hb1)
  replace R11 := Lib.hid (R11.out.later hb1)
  replace R20 := Lib.hid (R20.out.later hb1)
  replace R21 := Lib.hid (R21.out.later hb1)
  replace T0 := Lib.hid (T0.out.later hb1)
  replace T1 := Lib.hid (T1.out.later hb1)
  replace T2 := Lib.hid (T2.out.later hb1)
  replace HB := Lib.hid (bthen HB.out hb1)
  clear hb1
  obtain ⟨kT00, kT01, kT02, -, -, -, -⟩ := T0.out
  obtain ⟨kT10, kT11, kT12, -, -, -, -⟩ := T1.out
  obtain ⟨kT20, kT21, kT22, -, -, -, -⟩ := T2.out
  obtain ⟨kTU0, kTU1, kTU2, -, -, -, -⟩ := TU.out
  go_wp2_with fail
  refine (signR 1 u Ru0.out Ru1.out (rat_limbs u) (by omega) (by omega) HS.out).mono ?_
  rintro e w3 ⟨rfl, hb⟩
  replace R00 := Lib.hid (R00.out.later hb)
  replace R01 := Lib.hid (R01.out.later hb)
  replace R10 := Lib.hid (R10.out.later hb)
  replace R11 := Lib.hid (R11.out.later hb)
  replace R20 := Lib.hid (R20.out.later hb)
  replace R21 := Lib.hid (R21.out.later hb)
  replace Ru0 := Lib.hid (Ru0.out.later hb)
  replace Ru1 := Lib.hid (Ru1.out.later hb)
  replace T0 := Lib.hid (T0.out.later hb)
  replace T1 := Lib.hid (T1.out.later hb)
  replace T2 := Lib.hid (T2.out.later hb)
  replace TU := Lib.hid (TU.out.later hb)
  replace HB := Lib.hid (bthen HB.out hb)
  clear hb
  clear kT00 kT01 kT02 kT10 kT11 kT12 kT20 kT21 kT22 kTU0 kTU1 kTU2
  obtain ⟨kT00, kT01, kT02, -, -, -, -⟩ := T0.out
  obtain ⟨kT10, kT11, kT12, -, -, -, -⟩ := T1.out
  obtain ⟨kT20, kT21, kT22, -, -, -, -⟩ := T2.out
  obtain ⟨kTU0, kTU1, kTU2, -, -, -, -⟩ := TU.out
  go_wp2_with fail
  replace R00 := Lib.hid R00.out.drew
  replace R01 := Lib.hid R01.out.drew
  replace R10 := Lib.hid R10.out.drew
  replace R11 := Lib.hid R11.out.drew
  replace R20 := Lib.hid R20.out.drew
  replace R21 := Lib.hid R21.out.drew
  replace Ru0 := Lib.hid Ru0.out.drew
  replace Ru1 := Lib.hid Ru1.out.drew
  replace T0 := Lib.hid T0.out.drew
  replace T1 := Lib.hid T1.out.drew
  replace T2 := Lib.hid T2.out.drew
  replace TU := Lib.hid TU.out.drew
  replace HB := Lib.hid HB.out.drew
  clear kT00 kT01 kT02 kT10 kT11 kT12 kT20 kT21 kT22 kTU0 kTU1 kTU2
  obtain ⟨kT00, kT01, kT02, -, -, -, -⟩ := T0.out
  obtain ⟨kT10, kT11, kT12, -, -, -, -⟩ := T1.out
  obtain ⟨kT20, kT21, kT22, -, -, -, -⟩ := T2.out
  obtain ⟨kTU0, kTU1, kTU2, -, -, -, -⟩ := TU.out
  go_region_held3 (fun w' => w'.cell? ⟨w.heap.size, 0, none⟩ = some (.bool s0) ∧ w'.cell? ⟨w.heap.size, 1, none⟩ = some (.slice a0 n0 c0) ∧ w'.cell? ⟨w.heap.size, 2, none⟩ = some (.slice b0 m0 d0) ∧ w'.cell? ⟨w.heap.size + 1, 0, none⟩ = some (.bool s1) ∧ w'.cell? ⟨w.heap.size + 1, 1, none⟩ = some (.slice a1 n1 c1) ∧ w'.cell? ⟨w.heap.size + 1, 2, none⟩ = some (.slice b1 m1 d1) ∧ w'.cell? ⟨w.heap.size + 1 + 1, 0, none⟩ = some (.bool s2) ∧ w'.cell? ⟨w.heap.size + 1 + 1, 1, none⟩ = some (.slice a2 n2 c2) ∧ w'.cell? ⟨w.heap.size + 1 + 1, 2, none⟩ = some (.slice b2 m2 d2) ∧ w'.cell? ⟨w2.heap.size, 0, none⟩ = some (.bool (decide (u.num < 0))) ∧ w'.cell? ⟨w2.heap.size, 1, none⟩ = some (.slice au nu cu) ∧ w'.cell? ⟨w2.heap.size, 2, none⟩ = some (.slice bu mu du))
    (first | (refine ⟨?_, ?_, ?_, ?_, ?_, ?_, ?_, ?_, ?_, ?_, ?_, ?_⟩ <;> with_reducible assumption) | (go_keep; done) | (refine ⟨?_, ?_, ?_, ?_, ?_, ?_, ?_, ?_, ?_, ?_, ?_, ?_⟩ <;> (repeat rw [cell_other (by first | (simp; done) | (simp; omega))]) <;> with_reducible assumption))
    (first
      | (have mk := G10; clear mk
         rw [if_pos (by rfl)]
         go_simp
         go_at_call 26
         refine (awakeR _).mono ?_
         rintro e v11 ⟨rfl, hb⟩
         replace R00 := Lib.hid (R00.out.later hb)
         replace R01 := Lib.hid (R01.out.later hb)
         replace R10 := Lib.hid (R10.out.later hb)
         replace R11 := Lib.hid (R11.out.later hb)
         replace R20 := Lib.hid (R20.out.later hb)
         replace R21 := Lib.hid (R21.out.later hb)
         replace Ru0 := Lib.hid (Ru0.out.later hb)
         replace Ru1 := Lib.hid (Ru1.out.later hb)
         replace Rpq0 := Lib.hid (Rpq0.out.later hb)
         replace Rpq1 := Lib.hid (Rpq1.out.later hb)
         replace T0 := Lib.hid (T0.out.later hb)
         replace T1 := Lib.hid (T1.out.later hb)
         replace T2 := Lib.hid (T2.out.later hb)
         replace TU := Lib.hid (TU.out.later hb)
         replace HB := Lib.hid (bthen HB.out hb); clear hb
         clear kT00 kT01 kT02 kT10 kT11 kT12 kT20 kT21 kT22 kTU0 kTU1 kTU2
         obtain ⟨kT00, kT01, kT02, -, -, -, -⟩ := T0.out
         obtain ⟨kT10, kT11, kT12, -, -, -, -⟩ := T1.out
         obtain ⟨kT20, kT21, kT22, -, -, -, -⟩ := T2.out
         obtain ⟨kTU0, kTU1, kTU2, -, -, -, -⟩ := TU.out
         have G11 : Hid True := trivial
         try go_wp2_with fail)
      | (have mk := G9; clear mk
         rw [if_pos (by rfl)]
         go_simp
         go_at_call 29
         refine (signR (-1) pq Rpq0.out Rpq1.out (rat_limbs pq) (by omega) (by omega) HT4.out).mono ?_
         rintro e v10 ⟨rfl, hb⟩
         replace R00 := Lib.hid (R00.out.later hb)
         replace R01 := Lib.hid (R01.out.later hb)
         replace R10 := Lib.hid (R10.out.later hb)
         replace R11 := Lib.hid (R11.out.later hb)
         replace R20 := Lib.hid (R20.out.later hb)
         replace R21 := Lib.hid (R21.out.later hb)
         replace Ru0 := Lib.hid (Ru0.out.later hb)
         replace Ru1 := Lib.hid (Ru1.out.later hb)
         replace Rpq0 := Lib.hid (Rpq0.out.later hb)
         replace Rpq1 := Lib.hid (Rpq1.out.later hb)
         replace T0 := Lib.hid (T0.out.later hb)
         replace T1 := Lib.hid (T1.out.later hb)
         replace T2 := Lib.hid (T2.out.later hb)
         replace TU := Lib.hid (TU.out.later hb)
         replace HB := Lib.hid (bthen HB.out hb); clear hb
         clear kT00 kT01 kT02 kT10 kT11 kT12 kT20 kT21 kT22 kTU0 kTU1 kTU2
         obtain ⟨kT00, kT01, kT02, -, -, -, -⟩ := T0.out
         obtain ⟨kT10, kT11, kT12, -, -, -, -⟩ := T1.out
         obtain ⟨kT20, kT21, kT22, -, -, -, -⟩ := T2.out
         obtain ⟨kTU0, kTU1, kTU2, -, -, -, -⟩ := TU.out
         have G10 : Hid True := trivial
         try go_wp2_with fail)
      | (have mk := G8; clear mk
         rw [if_pos (by rfl)]
         go_simp
         go_at_call 18
         refine (subR 4 4 4 4 9 8 pq p q R00.out R01.out R10.out R11.out HQ0.out HQ1.out hn0 hm0 hn1 hm1 (by omega) (by omega) (by omega) (by omega) (by omega) (by omega) (by omega) (by omega) (by omega) (by omega) (by omega) EPQ.out).mono ?_
         rintro e v9 ⟨apq, npq, cpq, bpq, mpq, dpq, rfl, hnpq, hmpq, hr, hr2, hb⟩
         replace R00 := Lib.hid (R00.out.later hb)
         replace R01 := Lib.hid (R01.out.later hb)
         replace R10 := Lib.hid (R10.out.later hb)
         replace R11 := Lib.hid (R11.out.later hb)
         replace R20 := Lib.hid (R20.out.later hb)
         replace R21 := Lib.hid (R21.out.later hb)
         replace Ru0 := Lib.hid (Ru0.out.later hb)
         replace Ru1 := Lib.hid (Ru1.out.later hb)
         replace T0 := Lib.hid (T0.out.later hb)
         replace T1 := Lib.hid (T1.out.later hb)
         replace T2 := Lib.hid (T2.out.later hb)
         replace TU := Lib.hid (TU.out.later hb)
         replace HB := Lib.hid (bthen HB.out hb); clear hb
         clear kT00 kT01 kT02 kT10 kT11 kT12 kT20 kT21 kT22 kTU0 kTU1 kTU2
         obtain ⟨kT00, kT01, kT02, -, -, -, -⟩ := T0.out
         obtain ⟨kT10, kT11, kT12, -, -, -, -⟩ := T1.out
         obtain ⟨kT20, kT21, kT22, -, -, -, -⟩ := T2.out
         obtain ⟨kTU0, kTU1, kTU2, -, -, -, -⟩ := TU.out
         have Rpq0 := Lib.hid hr; clear hr
         have Rpq1 := Lib.hid hr2; clear hr2
         have G9 : Hid True := trivial
         try go_wp2_with fail)
      | (have mk := G7; clear mk
         rw [if_pos (by rfl)]
         go_simp
         go_at_call 29
         refine (signR 1 u Ru0.out Ru1.out (rat_limbs u) (by omega) (by omega) HS.out).mono ?_
         rintro e v8 ⟨rfl, hb⟩
         replace R00 := Lib.hid (R00.out.later hb)
         replace R01 := Lib.hid (R01.out.later hb)
         replace R10 := Lib.hid (R10.out.later hb)
         replace R11 := Lib.hid (R11.out.later hb)
         replace R20 := Lib.hid (R20.out.later hb)
         replace R21 := Lib.hid (R21.out.later hb)
         replace Ru0 := Lib.hid (Ru0.out.later hb)
         replace Ru1 := Lib.hid (Ru1.out.later hb)
         replace T0 := Lib.hid (T0.out.later hb)
         replace T1 := Lib.hid (T1.out.later hb)
         replace T2 := Lib.hid (T2.out.later hb)
         replace TU := Lib.hid (TU.out.later hb)
         replace HB := Lib.hid (bthen HB.out hb); clear hb
         clear kT00 kT01 kT02 kT10 kT11 kT12 kT20 kT21 kT22 kTU0 kTU1 kTU2
         obtain ⟨kT00, kT01, kT02, -, -, -, -⟩ := T0.out
         obtain ⟨kT10, kT11, kT12, -, -, -, -⟩ := T1.out
         obtain ⟨kT20, kT21, kT22, -, -, -, -⟩ := T2.out
         obtain ⟨kTU0, kTU1, kTU2, -, -, -, -⟩ := TU.out
         have G8 : Hid True := trivial
         try go_wp2_with fail)
      | (have mk := G6; clear mk
         rw [if_pos (by rfl)]
         go_simp
         go_at_call 24
         refine (cmpRat (-1) pu qu Rpu0.out Rpu1.out Rqu0.out Rqu1.out (rat_limbs pu) (rat_limbs qu) (by omega) (by omega) (by omega) (by omega) HT3.out).mono ?_
         rintro e v7 ⟨rfl, hb⟩
         clear Rpu0
         clear Rpu1
         clear Rqu0
         clear Rqu1
         replace R00 := Lib.hid (R00.out.later hb)
         replace R01 := Lib.hid (R01.out.later hb)
         replace R10 := Lib.hid (R10.out.later hb)
         replace R11 := Lib.hid (R11.out.later hb)
         replace R20 := Lib.hid (R20.out.later hb)
         replace R21 := Lib.hid (R21.out.later hb)
         replace Ru0 := Lib.hid (Ru0.out.later hb)
         replace Ru1 := Lib.hid (Ru1.out.later hb)
         replace T0 := Lib.hid (T0.out.later hb)
         replace T1 := Lib.hid (T1.out.later hb)
         replace T2 := Lib.hid (T2.out.later hb)
         replace TU := Lib.hid (TU.out.later hb)
         replace HB := Lib.hid (bthen HB.out hb); clear hb
         clear kT00 kT01 kT02 kT10 kT11 kT12 kT20 kT21 kT22 kTU0 kTU1 kTU2
         obtain ⟨kT00, kT01, kT02, -, -, -, -⟩ := T0.out
         obtain ⟨kT10, kT11, kT12, -, -, -, -⟩ := T1.out
         obtain ⟨kT20, kT21, kT22, -, -, -, -⟩ := T2.out
         obtain ⟨kTU0, kTU1, kTU2, -, -, -, -⟩ := TU.out
         have G7 : Hid True := trivial
         try go_wp2_with fail)
      | (have mk := G5; clear mk
         rw [if_pos (by rfl)]
         go_simp
         go_at_call 20
         refine (mulR 12 12 qu q u R10.out R11.out Ru0.out Ru1.out HQ1.out (rat_limbs u) (by omega) (by omega) (by omega) (by omega) (by omega) (by omega) (by omega) (by omega) (by omega) EQU.out).mono ?_
         rintro e v6 ⟨aqu, nqu, cqu, bqu, mqu, dqu, rfl, hnqu, hmqu, hr, hr2, hb⟩
         replace R00 := Lib.hid (R00.out.later hb)
         replace R01 := Lib.hid (R01.out.later hb)
         replace R10 := Lib.hid (R10.out.later hb)
         replace R11 := Lib.hid (R11.out.later hb)
         replace R20 := Lib.hid (R20.out.later hb)
         replace R21 := Lib.hid (R21.out.later hb)
         replace Ru0 := Lib.hid (Ru0.out.later hb)
         replace Ru1 := Lib.hid (Ru1.out.later hb)
         replace Rpu0 := Lib.hid (Rpu0.out.later hb)
         replace Rpu1 := Lib.hid (Rpu1.out.later hb)
         replace T0 := Lib.hid (T0.out.later hb)
         replace T1 := Lib.hid (T1.out.later hb)
         replace T2 := Lib.hid (T2.out.later hb)
         replace TU := Lib.hid (TU.out.later hb)
         replace HB := Lib.hid (bthen HB.out hb); clear hb
         clear kT00 kT01 kT02 kT10 kT11 kT12 kT20 kT21 kT22 kTU0 kTU1 kTU2
         obtain ⟨kT00, kT01, kT02, -, -, -, -⟩ := T0.out
         obtain ⟨kT10, kT11, kT12, -, -, -, -⟩ := T1.out
         obtain ⟨kT20, kT21, kT22, -, -, -, -⟩ := T2.out
         obtain ⟨kTU0, kTU1, kTU2, -, -, -, -⟩ := TU.out
         have Rqu0 := Lib.hid hr; clear hr
         have Rqu1 := Lib.hid hr2; clear hr2
         have G6 : Hid True := trivial
         try go_wp2_with fail)
      | (have mk := G4; clear mk
         rw [if_pos (by rfl)]
         go_simp
         go_at_call 20
         refine (mulR 12 12 pu p u R00.out R01.out Ru0.out Ru1.out HQ0.out (rat_limbs u) (by omega) (by omega) (by omega) (by omega) (by omega) (by omega) (by omega) (by omega) (by omega) EPU.out).mono ?_
         rintro e v5 ⟨apu, npu, cpu, bpu, mpu, dpu, rfl, hnpu, hmpu, hr, hr2, hb⟩
         replace R00 := Lib.hid (R00.out.later hb)
         replace R01 := Lib.hid (R01.out.later hb)
         replace R10 := Lib.hid (R10.out.later hb)
         replace R11 := Lib.hid (R11.out.later hb)
         replace R20 := Lib.hid (R20.out.later hb)
         replace R21 := Lib.hid (R21.out.later hb)
         replace Ru0 := Lib.hid (Ru0.out.later hb)
         replace Ru1 := Lib.hid (Ru1.out.later hb)
         replace T0 := Lib.hid (T0.out.later hb)
         replace T1 := Lib.hid (T1.out.later hb)
         replace T2 := Lib.hid (T2.out.later hb)
         replace TU := Lib.hid (TU.out.later hb)
         replace HB := Lib.hid (bthen HB.out hb); clear hb
         clear kT00 kT01 kT02 kT10 kT11 kT12 kT20 kT21 kT22 kTU0 kTU1 kTU2
         obtain ⟨kT00, kT01, kT02, -, -, -, -⟩ := T0.out
         obtain ⟨kT10, kT11, kT12, -, -, -, -⟩ := T1.out
         obtain ⟨kT20, kT21, kT22, -, -, -, -⟩ := T2.out
         obtain ⟨kTU0, kTU1, kTU2, -, -, -, -⟩ := TU.out
         have Rpu0 := Lib.hid hr; clear hr
         have Rpu1 := Lib.hid hr2; clear hr2
         have G5 : Hid True := trivial
         try go_wp2_with fail)
      | (have mk := G3; clear mk
         rw [if_pos (by rfl)]
         go_simp
         go_at_call 24
         refine (cmpRat (-1) pr qr Rpr0.out Rpr1.out Rqr0.out Rqr1.out (rat_limbs pr) (rat_limbs qr) (by omega) (by omega) (by omega) (by omega) HT2.out).mono ?_
         rintro e v4 ⟨rfl, hb⟩
         clear Rpr0
         clear Rpr1
         clear Rqr0
         clear Rqr1
         replace R00 := Lib.hid (R00.out.later hb)
         replace R01 := Lib.hid (R01.out.later hb)
         replace R10 := Lib.hid (R10.out.later hb)
         replace R11 := Lib.hid (R11.out.later hb)
         replace R20 := Lib.hid (R20.out.later hb)
         replace R21 := Lib.hid (R21.out.later hb)
         replace Ru0 := Lib.hid (Ru0.out.later hb)
         replace Ru1 := Lib.hid (Ru1.out.later hb)
         replace T0 := Lib.hid (T0.out.later hb)
         replace T1 := Lib.hid (T1.out.later hb)
         replace T2 := Lib.hid (T2.out.later hb)
         replace TU := Lib.hid (TU.out.later hb)
         replace HB := Lib.hid (bthen HB.out hb); clear hb
         clear kT00 kT01 kT02 kT10 kT11 kT12 kT20 kT21 kT22 kTU0 kTU1 kTU2
         obtain ⟨kT00, kT01, kT02, -, -, -, -⟩ := T0.out
         obtain ⟨kT10, kT11, kT12, -, -, -, -⟩ := T1.out
         obtain ⟨kT20, kT21, kT22, -, -, -, -⟩ := T2.out
         obtain ⟨kTU0, kTU1, kTU2, -, -, -, -⟩ := TU.out
         have G4 : Hid True := trivial
         try go_wp2_with fail)
      | (have mk := G2; clear mk
         rw [if_pos (by rfl)]
         go_simp
         go_at_call 16
         refine (addR 4 4 4 4 9 8 qr q r R10.out R11.out R20.out R21.out HQ1.out HQ2.out hn1 hm1 hn2 hm2 (by omega) (by omega) (by omega) (by omega) (by omega) (by omega) (by omega) (by omega) (by omega) (by omega) (by omega) EQR.out).mono ?_
         rintro e v3 ⟨aqr, nqr, cqr, bqr, mqr, dqr, rfl, hnqr, hmqr, hr, hr2, hb⟩
         replace R00 := Lib.hid (R00.out.later hb)
         replace R01 := Lib.hid (R01.out.later hb)
         replace R10 := Lib.hid (R10.out.later hb)
         replace R11 := Lib.hid (R11.out.later hb)
         replace R20 := Lib.hid (R20.out.later hb)
         replace R21 := Lib.hid (R21.out.later hb)
         replace Ru0 := Lib.hid (Ru0.out.later hb)
         replace Ru1 := Lib.hid (Ru1.out.later hb)
         replace Rpr0 := Lib.hid (Rpr0.out.later hb)
         replace Rpr1 := Lib.hid (Rpr1.out.later hb)
         replace T0 := Lib.hid (T0.out.later hb)
         replace T1 := Lib.hid (T1.out.later hb)
         replace T2 := Lib.hid (T2.out.later hb)
         replace TU := Lib.hid (TU.out.later hb)
         replace HB := Lib.hid (bthen HB.out hb); clear hb
         clear kT00 kT01 kT02 kT10 kT11 kT12 kT20 kT21 kT22 kTU0 kTU1 kTU2
         obtain ⟨kT00, kT01, kT02, -, -, -, -⟩ := T0.out
         obtain ⟨kT10, kT11, kT12, -, -, -, -⟩ := T1.out
         obtain ⟨kT20, kT21, kT22, -, -, -, -⟩ := T2.out
         obtain ⟨kTU0, kTU1, kTU2, -, -, -, -⟩ := TU.out
         have Rqr0 := Lib.hid hr; clear hr
         have Rqr1 := Lib.hid hr2; clear hr2
         have G3 : Hid True := trivial
         try go_wp2_with fail)
      | (have mk := G1; clear mk
         rw [if_pos (by rfl)]
         go_simp
         go_at_call 16
         refine (addR 4 4 4 4 9 8 pr p r R00.out R01.out R20.out R21.out HQ0.out HQ2.out hn0 hm0 hn2 hm2 (by omega) (by omega) (by omega) (by omega) (by omega) (by omega) (by omega) (by omega) (by omega) (by omega) (by omega) EPR.out).mono ?_
         rintro e v2 ⟨apr, npr, cpr, bpr, mpr, dpr, rfl, hnpr, hmpr, hr, hr2, hb⟩
         replace R00 := Lib.hid (R00.out.later hb)
         replace R01 := Lib.hid (R01.out.later hb)
         replace R10 := Lib.hid (R10.out.later hb)
         replace R11 := Lib.hid (R11.out.later hb)
         replace R20 := Lib.hid (R20.out.later hb)
         replace R21 := Lib.hid (R21.out.later hb)
         replace Ru0 := Lib.hid (Ru0.out.later hb)
         replace Ru1 := Lib.hid (Ru1.out.later hb)
         replace T0 := Lib.hid (T0.out.later hb)
         replace T1 := Lib.hid (T1.out.later hb)
         replace T2 := Lib.hid (T2.out.later hb)
         replace TU := Lib.hid (TU.out.later hb)
         replace HB := Lib.hid (bthen HB.out hb); clear hb
         clear kT00 kT01 kT02 kT10 kT11 kT12 kT20 kT21 kT22 kTU0 kTU1 kTU2
         obtain ⟨kT00, kT01, kT02, -, -, -, -⟩ := T0.out
         obtain ⟨kT10, kT11, kT12, -, -, -, -⟩ := T1.out
         obtain ⟨kT20, kT21, kT22, -, -, -, -⟩ := T2.out
         obtain ⟨kTU0, kTU1, kTU2, -, -, -, -⟩ := TU.out
         have Rpr0 := Lib.hid hr; clear hr
         have Rpr1 := Lib.hid hr2; clear hr2
         have G2 : Hid True := trivial
         try go_wp2_with fail)
      | (skip
         rw [if_pos (by rfl)]
         go_simp
         go_at_call 24
         refine (cmpRat 1 q p R10.out R11.out R00.out R01.out HQ1.out HQ0.out (by omega) (by omega) (by omega) (by omega) HT1.out).mono ?_
         rintro e v1 ⟨rfl, hb⟩
         replace R00 := Lib.hid (R00.out.later hb)
         replace R01 := Lib.hid (R01.out.later hb)
         replace R10 := Lib.hid (R10.out.later hb)
         replace R11 := Lib.hid (R11.out.later hb)
         replace R20 := Lib.hid (R20.out.later hb)
         replace R21 := Lib.hid (R21.out.later hb)
         replace Ru0 := Lib.hid (Ru0.out.later hb)
         replace Ru1 := Lib.hid (Ru1.out.later hb)
         replace T0 := Lib.hid (T0.out.later hb)
         replace T1 := Lib.hid (T1.out.later hb)
         replace T2 := Lib.hid (T2.out.later hb)
         replace TU := Lib.hid (TU.out.later hb)
         replace HB := Lib.hid (bthen HB.out hb); clear hb
         clear kT00 kT01 kT02 kT10 kT11 kT12 kT20 kT21 kT22 kTU0 kTU1 kTU2
         obtain ⟨kT00, kT01, kT02, -, -, -, -⟩ := T0.out
         obtain ⟨kT10, kT11, kT12, -, -, -, -⟩ := T1.out
         obtain ⟨kT20, kT21, kT22, -, -, -, -⟩ := T2.out
         obtain ⟨kTU0, kTU1, kTU2, -, -, -, -⟩ := TU.out
         have G1 : Hid True := trivial
         try go_wp2_with fail))
  go_wp2
  go_ret
  exact ⟨rfl, HB.out⟩

end Go.Proofs.YtnnoicjnggoffaaGreat
/- RatioOrder holds: numbers are ordered, as sums, opposites and products with what is above nought go. No condition. -/
namespace Go.Proofs.YtnnoicjnggoffaaGreat
set_option linter.unusedVariables false
set_option linter.unusedSimpArgs false
set_option maxRecDepth 100000
open Go.ChangeShapes Go.WideShapes Go.ChangeAt Go.RowKit Nums Go.Joins

theorem ratioOrder_walk (s0 s1 s2 : Bool) (a0 b0 a1 b1 a2 b2 : Option Addr) (n0 c0 m0 d0 n1 c1 m1 d1 n2 c2 m2 d2 : Nat) (xs0 ys0 xs1 ys1 xs2 ys2 : List Nat) (w : World) (h00 : Row w a0 n0 c0 xs0) (h01 : Row w b0 m0 d0 ys0) (h10 : Row w a1 n1 c1 xs1) (h11 : Row w b1 m1 d1 ys1) (h20 : Row w a2 n2 c2 xs2) (h21 : Row w b2 m2 d2 ys2) :
    Calls Tryz.prog 8 #[.agg #[.bool s0, .slice a0 n0 c0, .slice b0 m0 d0], .agg #[.bool s1, .slice a1 n1 c1, .slice b1 m1 d1], .agg #[.bool s2, .slice a2 n2 c2, .slice b2 m2 d2]] w fun e w' => e = .returned (.bool true) ∧ Below w.heap.size w w' := by
  by_cases hn0 : n0 ≤ 4
  · by_cases hm0 : m0 ≤ 4
    · by_cases hn1 : n1 ≤ 4
      · by_cases hm1 : m1 ≤ 4
        · by_cases hn2 : n2 ≤ 4
          · by_cases hm2 : m2 ≤ 4
            · have k1 := cmpR_swap (mkRat (sv s0 (val xs0)) (val ys0)) (mkRat (sv s1 (val xs1)) (val ys1))
              have k2 := cmpR_add (mkRat (sv s0 (val xs0)) (val ys0)) (mkRat (sv s1 (val xs1)) (val ys1)) (mkRat (sv s2 (val xs2)) (val ys2))
              have k4 := sgn_cmp (mkRat (sv s0 (val xs0)) (val ys0)) (mkRat (sv s1 (val xs1)) (val ys1))
              rcases square_sgn (mkRat (sv s2 (val xs2)) (val ys2)) with ⟨hS, hz⟩ | ⟨hS, hz⟩
              · have k3 : cmpR (mkRat (sv s0 (val xs0)) (val ys0) * (mkRat (sv s2 (val xs2)) (val ys2) * mkRat (sv s2 (val xs2)) (val ys2))) (mkRat (sv s1 (val xs1)) (val ys1) * (mkRat (sv s2 (val xs2)) (val ys2) * mkRat (sv s2 (val xs2)) (val ys2))) = 0 := by rw [hz, Rat.mul_zero, Rat.mul_zero]; exact cmpR_eq rfl
                rcases cmpR_any (mkRat (sv s0 (val xs0)) (val ys0)) (mkRat (sv s1 (val xs1)) (val ys1)) with h | h | h
                · exact ratioOrder_ez _ _ _ h00 h01 rfl hn0 hm0 h10 h11 rfl hn1 hm1 h20 h21 rfl hn2 hm2 h hS (by rw [k1, h]; rfl) (by rw [k2, h]) k3 (by rw [k4, h])
                · exact ratioOrder_gz _ _ _ h00 h01 rfl hn0 hm0 h10 h11 rfl hn1 hm1 h20 h21 rfl hn2 hm2 h hS (by rw [k1, h]) (by rw [k2, h]) k3 (by rw [k4, h])
                · exact ratioOrder_lz _ _ _ h00 h01 rfl hn0 hm0 h10 h11 rfl hn1 hm1 h20 h21 rfl hn2 hm2 h hS (by rw [k1, h]; rfl) (by rw [k2, h]) k3 (by rw [k4, h])
              · have k3 := cmpR_mul (mkRat (sv s0 (val xs0)) (val ys0)) (mkRat (sv s1 (val xs1)) (val ys1)) _ hz
                rcases cmpR_any (mkRat (sv s0 (val xs0)) (val ys0)) (mkRat (sv s1 (val xs1)) (val ys1)) with h | h | h
                · exact ratioOrder_ep _ _ _ h00 h01 rfl hn0 hm0 h10 h11 rfl hn1 hm1 h20 h21 rfl hn2 hm2 h hS (by rw [k1, h]; rfl) (by rw [k2, h]) (by rw [k3, h]) (by rw [k4, h])
                · exact ratioOrder_gp _ _ _ h00 h01 rfl hn0 hm0 h10 h11 rfl hn1 hm1 h20 h21 rfl hn2 hm2 h hS (by rw [k1, h]) (by rw [k2, h]) (by rw [k3, h]) (by rw [k4, h])
                · exact ratioOrder_lp _ _ _ h00 h01 rfl hn0 hm0 h10 h11 rfl hn1 hm1 h20 h21 rfl hn2 hm2 h hS (by rw [k1, h]; rfl) (by rw [k2, h]) (by rw [k3, h]) (by rw [k4, h])
            · exact ratioOrder_out2m s0 s1 s2 a0 b0 a1 b1 a2 b2 n0 c0 m0 d0 n1 c1 m1 d1 n2 c2 m2 d2 w hn0 hm0 hn1 hm1 hn2 (by omega)
          · exact ratioOrder_out2n s0 s1 s2 a0 b0 a1 b1 a2 b2 n0 c0 m0 d0 n1 c1 m1 d1 n2 c2 m2 d2 w hn0 hm0 hn1 hm1 (by omega)
        · exact ratioOrder_out1m s0 s1 s2 a0 b0 a1 b1 a2 b2 n0 c0 m0 d0 n1 c1 m1 d1 n2 c2 m2 d2 w hn0 hm0 hn1 (by omega)
      · exact ratioOrder_out1n s0 s1 s2 a0 b0 a1 b1 a2 b2 n0 c0 m0 d0 n1 c1 m1 d1 n2 c2 m2 d2 w hn0 hm0 (by omega)
    · exact ratioOrder_out0m s0 s1 s2 a0 b0 a1 b1 a2 b2 n0 c0 m0 d0 n1 c1 m1 d1 n2 c2 m2 d2 w  hn0 (by omega)
  · exact ratioOrder_out0n s0 s1 s2 a0 b0 a1 b1 a2 b2 n0 c0 m0 d0 n1 c1 m1 d1 n2 c2 m2 d2 w  (by omega)

theorem ratioOrder_lifted (os : Os) (started : os.Started) (H : Type) (enc : TypeId × Value → H) :
    ReturnsInHanded {} Tryz.checked os 8 .any (Rows.ratioOrderSpec.pre6 enc Tryz.prog Tryz.f8 Rows.ratioOrderRow.domain false) (Rows.ratioOrderSpec.post enc Tryz.prog Tryz.f8 false true false false) := by
  refine returnsInHanded_of_change (C := Tryz.checked) Tryz.ownKnob started (by kernel_rfl) Tryz.func8
    (ChangeSpec.witness6 (enc := enc) (C := Tryz.checked) false ⟨#[], #[.agg #[.bool false, .slice none 0 0, .slice none 0 0], .agg #[.bool false, .slice none 0 0, .slice none 0 0], .agg #[.bool false, .slice none 0 0, .slice none 0 0]], []⟩ 8 (by kernel_rfl) (by kernel_rfl) (by kernel_rfl) (by kernel_rfl)) ?_
  intro W base args ds gs before hval0 hW hcnd _
  have hval : ∀ (j : Nat) t v, Tryz.f8.params[j]? = some t → args[j]? = some v → Value.okWide Tryz.prog W .any base t v := hval0
  have hW' := hW
  obtain ⟨p, q, hA0, hV, rfl, hfz, hnd⟩ := hW
  have hA : DataW.TrodAll enc Tryz.prog W 0 (fun _ => true) true Tryz.f8.params.toList args.toList ds p := hA0
  rw [Tryz.params8] at hA hval
  obtain ⟨v0, vs0, d0, ds0, p0, q0, hargs, rfl, rfl, h0, r0⟩ := trodAll_cons hA
  obtain ⟨v1, vs1, d1, ds1, p1, q1, rfl, rfl, rfl, h1, r1⟩ := trodAll_cons r0
  obtain ⟨v2, vs2, d2, ds2, p2, q2, rfl, rfl, rfl, h2, r2⟩ := trodAll_cons r1
  obtain ⟨rfl, rfl, rfl⟩ := trodAll_nil r2
  obtain rfl : args = #[v0, v1, v2] := by cases args; simp_all
  obtain ⟨rfl, rfl⟩ := trodVars_none hV
  have k0 := h0
  have lt0 : ∀ x ∈ p0, x.block < W.heap.size := by obtain ⟨m, hm⟩ := k0; exact DataW.trod_lt m _ _ _ hm
  obtain ⟨s0, a0, n0, c0, b0, m0, e0, xs0, ys0, rfl, w0, u0⟩ := rat_of_trod (hval 0 26 v0 rfl rfl) h0
  have k1 := h1
  have lt1 : ∀ x ∈ p1, x.block < W.heap.size := by obtain ⟨m, hm⟩ := k1; exact DataW.trod_lt m _ _ _ hm
  obtain ⟨s1, a1, n1, c1, b1, m1, e1, xs1, ys1, rfl, w1, u1⟩ := rat_of_trod (hval 1 26 v1 rfl rfl) h1
  have k2 := h2
  have lt2 : ∀ x ∈ p2, x.block < W.heap.size := by obtain ⟨m, hm⟩ := k2; exact DataW.trod_lt m _ _ _ hm
  obtain ⟨s2, a2, n2, c2, b2, m2, e2, xs2, ys2, rfl, w2, u2⟩ := rat_of_trod (hval 2 26 v2 rfl rfl) h2
  clear hA0 hval0
  refine (ratioOrder_walk s0 s1 s2 a0 b0 a1 b1 a2 b2 n0 c0 m0 e0 n1 c1 m1 e1 n2 c2 m2 e2 xs0 ys0 xs1 ys1 xs2 ys2 W w0 u0 w1 u1 w2 u2).mono fun e W' ⟨he, bel⟩ => ?_
  subst he
  exact ⟨_, rfl, _, _, _, [], _, [], hW', trodAll_mk1 (shut_bool Tryz.underlying4 _), (trodAll_cons_mk (Below.trod Tryz.laidOut (by kernel_rfl) (of_decide_eq_true (by kernel_rfl)) k0 bel lt0) (trodAll_cons_mk (Below.trod Tryz.laidOut (by kernel_rfl) (of_decide_eq_true (by kernel_rfl)) k1 bel lt1) (trodAll_cons_mk (Below.trod Tryz.laidOut (by kernel_rfl) (of_decide_eq_true (by kernel_rfl)) k2 bel lt2) trodAll_mk0))), rfl, bel.frame _, fun h => by cases h⟩

theorem ratioOrder_over : Rows.ratioOrderRow.holds Tryz.pinned (OpenSpec.ofChange Rows.ratioOrderSpec) :=
  OpenClaim.holds_of_wide 8 Tryz.f8 rfl rfl rfl rfl rfl rfl rfl ⟨rfl, rfl, rfl, rfl, rfl⟩ rfl rfl rfl rfl rfl (by kernel_rfl) Tryz.func8 (by kernel_rfl)
    (of_decide_eq_true (by kernel_rfl)) (by unfold Func.isWrapper; first | (rw [if_pos (by decide +kernel)]; kernel_rfl) | (rw [if_neg (by decide +kernel)]; exact ⟨rfl, rfl⟩))
    (fun os started H enc _ => ratioOrder_lifted os started H enc)

theorem ratioOrder_holds : Rows.RatioOrderSaid := ratioOrder_over
#print axioms ratioOrder_holds
end Go.Proofs.YtnnoicjnggoffaaGreat
