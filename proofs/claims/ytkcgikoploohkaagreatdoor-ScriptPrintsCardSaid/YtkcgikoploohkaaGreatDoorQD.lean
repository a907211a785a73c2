/- What Add, Sub and Div tell. -/
import Derived.Test.YtkcgikoploohkaaGreatDoorQC
import Derived.Deep.DeepCutAuto
import Derived.Deep.RegionHeld3
import Derived.Deep.RegionWith
namespace Go.Proofs.YtkcgikoploohkaaGreatDoor
set_option linter.unusedVariables false
set_option linter.unusedSimpArgs false
set_option maxRecDepth 100000
open Go.RowKit Nums

/-- both numbers laid, their Dens above 0 -/
def SaidTwo (k1 j1 k2 j2 : Nat) (p q : Rat) (w W : World) : Prop :=
  ∃ s1 a1 n1 c1 b1 m1 d1 us1 vs1 s2 a2 n2 c2 b2 m2 d2 us2 vs2, Tri W w.heap.size (.bool s1) (.slice a1 n1 c1) (.slice b1 m1 d1) ∧ Tri W (w.heap.size + 1) (.bool s2) (.slice a2 n2 c2) (.slice b2 m2 d2) ∧ Tri W (w.heap.size + 2) (.bool false) (.slice none 0 0) (.slice none 0 0) ∧
    Row W a1 n1 c1 us1 ∧ Row W b1 m1 d1 vs1 ∧ Row W a2 n2 c2 us2 ∧ Row W b2 m2 d2 vs2 ∧ n1 ≤ k1 ∧ m1 ≤ j1 ∧ n2 ≤ k2 ∧ m2 ≤ j2 ∧ mkRat (sv s1 (val us1)) (val vs1) = p ∧ 0 < val vs1 ∧ mkRat (sv s2 (val us2)) (val vs2) = q ∧ 0 < val vs2 ∧ Below w.heap.size w W

end Go.Proofs.YtkcgikoploohkaaGreatDoor
