/- Numbers: when a line passes. -/
import Derived.Test.YtmoplgfmngohgaaGreatSvK
namespace Go.Proofs.YtmoplgfmngohgaaGreat
set_option linter.unusedVariables false
set_option linter.unusedSimpArgs false
set_option maxRecDepth 100000
open Go.RowKit Nums

theorem pass_pos {p q : Rat} (hp : p < 0) (hq : 0 < q) : 0 < -p / q := by
  rw [Rat.div_def]; exact Rat.mul_pos (by grind) (Rat.inv_pos.2 hq)
theorem pass_cancel {p q : Rat} (hq : 0 < q) : q * (-p / q) = -p := by
  have : q ≠ 0 := by grind
  grind
theorem pass_zero {p q : Rat} (hq : 0 < q) : p + q * (-p / q) = 0 := by
  rw [pass_cancel hq]; grind
theorem pass_early {p q s : Rat} (hq : 0 < q) : p + q * s < 0 ↔ s < -p / q := by
  have h := pass_cancel (p := p) hq
  have h2 : q * s < q * (-p / q) ↔ s < -p / q := by rw [Rat.mul_lt_mul_left hq]
  rw [← h2, h]; grind
theorem pass_twice {p q d : Rat} (hq : 0 < q) : -(p + q * d) / q + d = -p / q := by
  have : q ≠ 0 := by grind
  grind
theorem not_pass {p q s : Rat} (hp : p < 0) (hq : q ≤ 0) (hs : 0 ≤ s) : p + q * s < 0 := by
  have := Rat.mul_nonneg (a := -q) (b := s) (by grind) hs
  grind
theorem stays {p q s : Rat} (hp : 0 ≤ p) (hq : 0 ≤ q) (hs : 0 ≤ s) : 0 ≤ p + q * s := by
  have := Rat.mul_nonneg hq hs
  grind
theorem sgn_neg {p : Rat} (h : p < 0) : sgn p.num = -1 := by
  rcases sgnR_cases p with ⟨h1, hs⟩ | ⟨h1, hs⟩ | ⟨h1, hs⟩ <;> first | exact hs | grind
theorem sgn_pos {p : Rat} (h : 0 < p) : sgn p.num = 1 := by
  rcases sgnR_cases p with ⟨h1, hs⟩ | ⟨h1, hs⟩ | ⟨h1, hs⟩ <;> first | exact hs | grind
theorem sgn_nil {p : Rat} (h : p = 0) : sgn p.num = 0 := sgn_zero_num.2 h
/-- what is not below 0 has a sign of 0 or 1 -/
theorem sgn_ge {p : Rat} (h : ¬ p < 0) : ∃ T : Int, sgn p.num = T ∧ 0 ≤ T ∧ ¬ T < 0 := by
  rcases sgnR_cases p with ⟨h1, hs⟩ | ⟨h1, hs⟩ | ⟨h1, hs⟩
  · exact absurd h1 h
  · exact ⟨0, hs, by omega, by omega⟩
  · exact ⟨1, hs, by omega, by omega⟩
theorem cmpR_ge {p q : Rat} (h : ¬ p < q) : ∃ T : Int, cmpR p q = T ∧ 0 ≤ T ∧ ¬ T < 0 := by
  rcases (show p = q ∨ q < p by grind) with h1 | h1
  · exact ⟨0, cmpR_eq h1, by omega, by omega⟩
  · exact ⟨1, cmpR_gt h1, by omega, by omega⟩

end Go.Proofs.YtmoplgfmngohgaaGreat
