import Derived.Test.YtkcgikoploohkaaGreatDoorQG
import Derived.Test.YtkcgikoploohkaaGreatDoorQC
import Derived.Test.YtkcgikoploohkaaGreatDoorQD
import Derived.Deep.RegionHeld3
import Derived.Deep.DeepCutAuto
import Derived.Test.YtkcgikoploohkaaGreatDoorIF
namespace Go.Proofs.YtkcgikoploohkaaGreatDoor
set_option linter.unusedVariables false
set_option linter.unusedSimpArgs false
set_option maxRecDepth 100000
open Go.RowKit Nums
theorem Row.alloc {w : World} {a : Option Addr} {n c : Nat} {xs : List Nat} (h : Row w a n c xs) (o : Obj) : Row (w.alloc o) a n c xs := h.later (below_one w o)
theorem tri_cells2 {W : World} {g g' : Nat} {u v x u' v' x' : Value} (h : Tri W g u v x) (h' : Tri W g' u' v' x') : W.cell? ⟨g,0,none⟩ = some u∧W.cell? ⟨g,1,none⟩ = some v∧W.cell? ⟨g,2,none⟩ = some x∧W.cell? ⟨g',0,none⟩ = some u'∧W.cell? ⟨g',1,none⟩ = some v'∧W.cell? ⟨g',2,none⟩ = some x' := ⟨h.1,h.2.1,h.2.2.1,h'.1,h'.2.1,h'.2.2.1⟩
end Go.Proofs.YtkcgikoploohkaaGreatDoor
/- How numbers compare. -/
namespace Go.Proofs.YtkcgikoploohkaaGreatDoor
set_option linter.unusedVariables false
set_option linter.unusedSimpArgs false
set_option maxRecDepth 100000
open Go.RowKit Nums
theorem num_pos' {q : Rat} (h : 0 < q) : 0 < q.num := by
  have h1 : 0≤q.num := Rat.num_nonneg.2 (Rat.le_of_lt h)
  have h2 : q.num≠0 := fun e => by rw [Rat.num_eq_zero] at e;subst e;exact absurd h (by decide)
  omega
theorem num_neg' {q : Rat} (h : q < 0) : q.num < 0 := by
  have h1 : ¬ 0≤q.num := fun e => by rw [Rat.num_nonneg] at e;exact (Rat.not_le.2 h) e
  omega
theorem sgn_zero_num {q : Rat} : sgn q.num = 0↔q = 0 := by
  rw [←Rat.num_eq_zero];unfold sgn;split <;> (try split) <;> omega
theorem cmpR_add (p q r : Rat) : cmpR (p + r) (q + r) = cmpR p q := by
  rcases rat_tri p q with h | h | h
  · rw [cmpR_lt h,cmpR_lt (Rat.add_lt_add_right.2 h)]
  · subst h;rw [cmpR_eq rfl,cmpR_eq rfl]
  · rw [cmpR_gt h,cmpR_gt (Rat.add_lt_add_right.2 h)]
end Go.Proofs.YtkcgikoploohkaaGreatDoor
/- RatioOne, where a number is long. -/
namespace Go.Proofs.YtkcgikoploohkaaGreatDoor
set_option linter.unusedVariables false
set_option linter.unusedSimpArgs false
set_option maxRecDepth 100000
open Go.RowKit Nums
end Go.Proofs.YtkcgikoploohkaaGreatDoor
/- RatioOne, two numbers that are one. -/
namespace Go.Proofs.YtkcgikoploohkaaGreatDoor
set_option linter.unusedVariables false
set_option linter.unusedSimpArgs false
set_option maxRecDepth 100000
open Go.RowKit Nums
end Go.Proofs.YtkcgikoploohkaaGreatDoor
