/- Quotients and rests: how long they are. -/
import Derived.Test.YtbapgkjkhdlngaaIC
namespace Go.Proofs.Ytbapgkjkhdlngaa
open Go.RowKit Nums

theorem natAbs_fmod (X Y : Int) (hY : Y ≠ 0) : (X.fmod Y).natAbs ≤ Y.natAbs := by
  rcases Int.lt_or_gt_of_ne hY with h | h
  · have := ((Int.fdiv_fmod_unique' (a := X) (q := X.fdiv Y) (r := X.fmod Y) h).1 ⟨rfl, rfl⟩).2
    omega
  · have := ((Int.fdiv_fmod_unique (a := X) (q := X.fdiv Y) (r := X.fmod Y) h).1 ⟨rfl, rfl⟩).2
    omega

theorem len_fmod {X Y : Int} {k : Nat} (h : (limbs Y.natAbs).length ≤ k) (hY : Y ≠ 0) : (limbs (X.fmod Y).natAbs).length ≤ k := len_le (natAbs_fmod X Y hY) h

theorem natAbs_fdiv (X Y : Int) (hY : Y ≠ 0) : (X.fdiv Y).natAbs ≤ X.natAbs + 1 := by
  have hB : 0 < Y.natAbs := by omega
  have hx := sv_told X
  have hy := sv_told Y
  have hd := Nat.div_le_self X.natAbs Y.natAbs
  by_cases hst : decide (Y < 0) = decide (X < 0)
  · obtain ⟨e1, -⟩ := fdiv_same (decide (X < 0)) X.natAbs Y.natAbs hB
    rw [hx, ← hst, hy] at e1
    rw [e1, natAbs_sv]; omega
  · have hne : decide (Y < 0) = !decide (X < 0) := by
      cases h1 : decide (X < 0) <;> cases h2 : decide (Y < 0) <;> simp_all
    rcases Nat.eq_zero_or_pos (X.natAbs % Y.natAbs) with h | h
    · obtain ⟨e1, -⟩ := fdiv_even (decide (X < 0)) X.natAbs Y.natAbs hB h
      rw [hx, ← hne, hy] at e1
      rw [e1, natAbs_sv]; omega
    · obtain ⟨e1, -⟩ := fdiv_odd (decide (X < 0)) X.natAbs Y.natAbs hB h
      rw [hx, ← hne, hy] at e1
      rw [e1, natAbs_sv]; omega

theorem len_fdiv {X Y : Int} (h : (limbs X.natAbs).length ≤ 10) (hY : Y ≠ 0) : (limbs (X.fdiv Y).natAbs).length ≤ 11 :=
  len_le (natAbs_fdiv X Y hY) (len_add h (limbs_small 1 10 (by omega) (by omega)))

end Go.Proofs.Ytbapgkjkhdlngaa
