import Derived.Test.YtkcgikoploohkaaGreatDoorNC
import Derived.Test.YtkcgikoploohkaaGreatDoorIC
namespace Go.Proofs.YtkcgikoploohkaaGreatDoor
set_option linter.unusedVariables false
set_option linter.unusedSimpArgs false
set_option maxRecDepth 100000
open Go.RowKit Nums
theorem limbs_one (x : Nat) (h0 : 0 < x) (h : x < 4294967296) : limbs x = [x] := by
  rw [limbs_pos (by omega),Nat.mod_eq_of_lt h,Nat.div_eq_of_lt h,limbs_zero]
theorem row_lit (w : World) (X : Int) (x : Nat) (hX : X = (x : Int)) (h0 : 0 < x) (h : x < 4294967296) : Row (w.alloc (.cells #[.int .u32 X] 89)) (some ⟨w.heap.size,0,none⟩) 1 1 (limbs x) := by
  subst hX
  rw [limbs_one x h0 h]
  exact (mem_alloc w [x] _ rfl).row0 (by intro y hy;simp at hy;omega) 1 (by simp) (by unfold maxLen;omega)
end Go.Proofs.YtkcgikoploohkaaGreatDoor
