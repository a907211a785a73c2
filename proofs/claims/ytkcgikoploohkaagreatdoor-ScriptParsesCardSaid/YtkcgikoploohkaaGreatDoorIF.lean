import Derived.Test.YtkcgikoploohkaaGreatDoorID
import Derived.Test.YtkcgikoploohkaaGreatDoorIC
import Derived.Deep.RegionWith
namespace Go.Proofs.YtkcgikoploohkaaGreatDoor
set_option linter.unusedVariables false
set_option linter.unusedSimpArgs false
set_option maxRecDepth 100000
open Go.RowKit Nums
theorem keep_six {W : World} {g1 g2 g3 h : Nat} {u1 u2 u3 u4 u5 u6 p q : Value} (H : W.cell? ⟨g1,0,none⟩ = some u1∧W.cell? ⟨g1,1,none⟩ = some u2∧W.cell? ⟨g2,0,none⟩ = some u3∧W.cell? ⟨g2,1,none⟩ = some u4∧W.cell? ⟨g3,0,none⟩ = some u5∧W.cell? ⟨g3,1,none⟩ = some u6)
    (n1 : h≠g1) (n2 : h≠g2) (n3 : h≠g3) :
    ((W.setCell ⟨h,0,none⟩ p).setCell ⟨h,1,none⟩ q).cell? ⟨g1,0,none⟩ = some u1∧((W.setCell ⟨h,0,none⟩ p).setCell ⟨h,1,none⟩ q).cell? ⟨g1,1,none⟩ = some u2∧((W.setCell ⟨h,0,none⟩ p).setCell ⟨h,1,none⟩ q).cell? ⟨g2,0,none⟩ = some u3∧((W.setCell ⟨h,0,none⟩ p).setCell ⟨h,1,none⟩ q).cell? ⟨g2,1,none⟩ = some u4∧((W.setCell ⟨h,0,none⟩ p).setCell ⟨h,1,none⟩ q).cell? ⟨g3,0,none⟩ = some u5∧((W.setCell ⟨h,0,none⟩ p).setCell ⟨h,1,none⟩ q).cell? ⟨g3,1,none⟩ = some u6 := by
  obtain ⟨h1,h2,h3,h4,h5,h6⟩ := H
  refine ⟨?_, ?_, ?_, ?_, ?_, ?_⟩
  · rw [cell_other (by simp),cell_other (by simp)];exact h1
  · rw [cell_other (by simp),cell_other (by simp)];exact h2
  · rw [cell_other (by simp),cell_other (by simp)];exact h3
  · rw [cell_other (by simp),cell_other (by simp)];exact h4
  · rw [cell_other (by simp),cell_other (by simp)];exact h5
  · rw [cell_other (by simp),cell_other (by simp)];exact h6
end Go.Proofs.YtkcgikoploohkaaGreatDoor
/- What the document's answer's Div tells, signs apart. -/
namespace Go.Proofs.YtkcgikoploohkaaGreatDoor
set_option linter.unusedVariables false
set_option linter.unusedSimpArgs false
set_option maxRecDepth 100000
open Go.RowKit Nums
end Go.Proofs.YtkcgikoploohkaaGreatDoor
/- What the document's answer's Div tells, signs apart. -/
namespace Go.Proofs.YtkcgikoploohkaaGreatDoor
set_option linter.unusedVariables false
set_option linter.unusedSimpArgs false
set_option maxRecDepth 100000
open Go.RowKit Nums
end Go.Proofs.YtkcgikoploohkaaGreatDoor
/- What the document's answer's Div tells, in the words of the integers that it is handed. -/
namespace Go.Proofs.YtkcgikoploohkaaGreatDoor
set_option linter.unusedVariables false
set_option linter.unusedSimpArgs false
set_option maxRecDepth 100000
open Go.RowKit Nums
section
variable {s t : Bool} {a b : Option Addr} {n c m d : Nat} {xs ys : List Nat} {w : World} {X Y : Int}
end
end Go.Proofs.YtkcgikoploohkaaGreatDoor
