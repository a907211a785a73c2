/- Quotients and rests: how long they are. -/
import Derived.Test.YtkcgikoploohkaaGreatDoorIC
namespace Go.Proofs.YtkcgikoploohkaaGreatDoor
set_option linter.unusedVariables false
set_option linter.unusedSimpArgs false
set_option maxRecDepth 100000
open Go.RowKit Nums

theorem natAbs_fmod (X Y : Int) (hY : Y ≠ 0) : (X.fmod Y).natAbs ≤ Y.natAbs := by
  rcases Int.lt_or_gt_of_ne hY with h | h
  · have := ((Int.fdiv_fmod_unique' (a := X) (q := X.fdiv Y) (r := X.fmod Y) h).1 ⟨rfl, rfl⟩).2
    omega
  · have := ((Int.fdiv_fmod_unique (a := X) (q := X.fdiv Y) (r := X.fmod Y) h).1 ⟨rfl, rfl⟩).2
    omega

theorem len_fmod {X Y : Int} {k : Nat} (h : (limbs Y.natAbs).length ≤ k) (hY : Y ≠ 0) : (limbs (X.fmod Y).natAbs).length ≤ k := len_le (natAbs_fmod X Y hY) h

theorem natAbs_fdiv (X Y : Int) (hY : Y ≠ 0) : (X.fdiv Y).natAbs ≤ X.natAbs + 1 := by
  have hB : 0 < Y.natAbs := by omega
  have hx := sv_told X
  have hy := sv_told Y
  have hd := Nat.div_le_self X.natAbs Y.natAbs
  by_cases hst : decide (Y < 0) = decide (X < 0)
  · obtain ⟨e1, -⟩ := fdiv_same (decide (X < 0)) X.natAbs Y.natAbs hB
    rw [hx, ← hst, hy] at e1
    rw [e1, natAbs_sv]; omega
  · have hne : decide (Y < 0) = !decide (X < 0) := by
      cases h1 : decide (X < 0) <;> cases h2 : decide (Y < 0) <;> simp_all
    rcases Nat.eq_zero_or_pos (X.natAbs % Y.natAbs) with h | h
    · obtain ⟨e1, -⟩ := fdiv_even (decide (X < 0)) X.natAbs Y.natAbs hB h
      rw [hx, ← hne, hy] at e1
      rw [e1, natAbs_sv]; omega
    · obtain ⟨e1, -⟩ := fdiv_odd (decide (X < 0)) X.natAbs Y.natAbs hB h
      rw [hx, ← hne, hy] at e1
      rw [e1, natAbs_sv]; omega

theorem len_fdiv {X Y : Int} (h : (limbs X.natAbs).length ≤ 10) (hY : Y ≠ 0) : (limbs (X.fdiv Y).natAbs).length ≤ 11 :=
  len_le (natAbs_fdiv X Y hY) (len_add h (limbs_small 1 10 (by omega) (by omega)))

end Go.Proofs.YtkcgikoploohkaaGreatDoor
/- What is kept: boxes, rows, and all that is older. -/
namespace Go.Proofs.YtkcgikoploohkaaGreatDoor
set_option linter.unusedVariables false
set_option linter.unusedSimpArgs false
set_option maxRecDepth 100000
open Go.RowKit Nums

/-- The boxes bs and the rows rs are as they are told, and below w nothing has changed. -/
def Keep (w : World) (bs : List (Nat × Value × Value)) (rs : List (Option Addr × Nat × Nat × List Nat)) (W : World) : Prop :=
  (∀ b ∈ bs, Box W b.1 b.2.1 b.2.2) ∧ (∀ r ∈ rs, Row W r.1 r.2.1 r.2.2.1 r.2.2.2) ∧ Below w.heap.size w W

theorem bal (w : World) (o : Obj) : Below w.drew.heap.size w.drew (w.alloc o).drew := by
  have h := (below_one w o).drew
  exact ⟨h.os, h.tape, h.output, h.size, h.block⟩

section
variable {w W W' : World} {bs : List (Nat × Value × Value)} {rs : List (Option Addr × Nat × Nat × List Nat)}
theorem Keep.later (h : Keep w bs rs W) (hb : Below W.heap.size W W') : Keep w bs rs W' :=
  ⟨fun b hm => (h.1 b hm).later hb, fun r hm => (h.2.1 r hm).later hb, bthen h.2.2 hb⟩
theorem Keep.box {g : Nat} {u v : Value} (h : Keep w bs rs W) (hm : (g, u, v) ∈ bs) : Box W g u v := h.1 _ hm
theorem Keep.row {a : Option Addr} {n c : Nat} {xs : List Nat} (h : Keep w bs rs W) (hm : (a, n, c, xs) ∈ rs) : Row W a n c xs := h.2.1 _ hm
theorem Keep.put {g n c : Nat} {s : Bool} {a : Option Addr} (h : Keep w bs rs W) (x : Box W g (.bool s) (.slice a n c)) (hg : ∀ b ∈ bs, g ≠ b.1) (hw : w.heap.size ≤ g) (p q : Value) :
    Keep w bs rs ((W.setCell ⟨g, 0, none⟩ p).setCell ⟨g, 1, none⟩ q) :=
  ⟨fun b hm => (h.1 b hm).far (hg b hm) _ _, fun r hm => (h.2.1 r hm).put x.1 x.2.1 _ _, below_put h.2.2 hw _ _⟩
end

theorem keep_six {W : World} {g1 g2 g3 h : Nat} {u1 u2 u3 u4 u5 u6 p q : Value} (H : W.cell? ⟨g1, 0, none⟩ = some u1 ∧ W.cell? ⟨g1, 1, none⟩ = some u2 ∧ W.cell? ⟨g2, 0, none⟩ = some u3 ∧ W.cell? ⟨g2, 1, none⟩ = some u4 ∧ W.cell? ⟨g3, 0, none⟩ = some u5 ∧ W.cell? ⟨g3, 1, none⟩ = some u6)
    (n1 : h ≠ g1) (n2 : h ≠ g2) (n3 : h ≠ g3) :
    ((W.setCell ⟨h, 0, none⟩ p).setCell ⟨h, 1, none⟩ q).cell? ⟨g1, 0, none⟩ = some u1 ∧ ((W.setCell ⟨h, 0, none⟩ p).setCell ⟨h, 1, none⟩ q).cell? ⟨g1, 1, none⟩ = some u2 ∧ ((W.setCell ⟨h, 0, none⟩ p).setCell ⟨h, 1, none⟩ q).cell? ⟨g2, 0, none⟩ = some u3 ∧ ((W.setCell ⟨h, 0, none⟩ p).setCell ⟨h, 1, none⟩ q).cell? ⟨g2, 1, none⟩ = some u4 ∧ ((W.setCell ⟨h, 0, none⟩ p).setCell ⟨h, 1, none⟩ q).cell? ⟨g3, 0, none⟩ = some u5 ∧ ((W.setCell ⟨h, 0, none⟩ p).setCell ⟨h, 1, none⟩ q).cell? ⟨g3, 1, none⟩ = some u6 := by
  obtain ⟨h1, h2, h3, h4, h5, h6⟩ := H
  refine ⟨?_, ?_, ?_, ?_, ?_, ?_⟩
  · rw [cell_other (by simp), cell_other (by simp)]; exact h1
  · rw [cell_other (by simp), cell_other (by simp)]; exact h2
  · rw [cell_other (by simp), cell_other (by simp)]; exact h3
  · rw [cell_other (by simp), cell_other (by simp)]; exact h4
  · rw [cell_other (by simp), cell_other (by simp)]; exact h5
  · rw [cell_other (by simp), cell_other (by simp)]; exact h6

/-- What a region leaves that makes one integer: its box, its row, and what is kept. -/
def Made (w : World) (bs : List (Nat × Value × Value)) (rs : List (Option Addr × Nat × Nat × List Nat)) (k : Nat) (Z : Int) (g : Nat) (a : Option Addr) (m c : Nat) (W : World) : Prop :=
  Box W g (.bool (decide (Z < 0))) (.slice a m c) ∧ m ≤ k ∧ Row W a m c (limbs Z.natAbs) ∧ Keep w bs rs W
end Go.Proofs.YtkcgikoploohkaaGreatDoor
