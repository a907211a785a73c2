import Derived.Test.YtkcgikoploohkaaGreatDoorIC
namespace Go.Proofs.YtkcgikoploohkaaGreatDoor
set_option linter.unusedVariables false
set_option linter.unusedSimpArgs false
set_option maxRecDepth 100000
open Go.RowKit Nums
end Go.Proofs.YtkcgikoploohkaaGreatDoor
/- What is kept: boxes, rows, and all that is older. -/
namespace Go.Proofs.YtkcgikoploohkaaGreatDoor
set_option linter.unusedVariables false
set_option linter.unusedSimpArgs false
set_option maxRecDepth 100000
open Go.RowKit Nums
def Keep (w : World) (bs : List (Nat × Value × Value)) (rs : List (Option Addr × Nat × Nat × List Nat)) (W : World) : Prop :=
  (∀ b∈bs,Box W b.1 b.2.1 b.2.2)∧(∀ r∈rs,Row W r.1 r.2.1 r.2.2.1 r.2.2.2)∧Below w.heap.size w W
section
variable {w W W' : World} {bs : List (Nat × Value × Value)} {rs : List (Option Addr × Nat × Nat × List Nat)}
theorem Keep.later (h : Keep w bs rs W) (hb : Below W.heap.size W W') : Keep w bs rs W' :=
  ⟨fun b hm => (h.1 b hm).later hb,fun r hm => (h.2.1 r hm).later hb,bthen h.2.2 hb⟩
theorem Keep.box {g : Nat} {u v : Value} (h : Keep w bs rs W) (hm : (g,u,v)∈bs) : Box W g u v := h.1 _ hm
theorem Keep.row {a : Option Addr} {n c : Nat} {xs : List Nat} (h : Keep w bs rs W) (hm : (a,n,c,xs)∈rs) : Row W a n c xs := h.2.1 _ hm
theorem Keep.put {g n c : Nat} {s : Bool} {a : Option Addr} (h : Keep w bs rs W) (x : Box W g (.bool s) (.slice a n c)) (hg : ∀ b∈bs,g≠b.1) (hw : w.heap.size≤g) (p q : Value) :
    Keep w bs rs ((W.setCell ⟨g,0,none⟩ p).setCell ⟨g,1,none⟩ q) :=
  ⟨fun b hm => (h.1 b hm).far (hg b hm) _ _,fun r hm => (h.2.1 r hm).put x.1 x.2.1 _ _,below_put h.2.2 hw _ _⟩
end
theorem keep_six {W : World} {g1 g2 g3 h : Nat} {u1 u2 u3 u4 u5 u6 p q : Value} (H : W.cell? ⟨g1,0,none⟩ = some u1∧W.cell? ⟨g1,1,none⟩ = some u2∧W.cell? ⟨g2,0,none⟩ = some u3∧W.cell? ⟨g2,1,none⟩ = some u4∧W.cell? ⟨g3,0,none⟩ = some u5∧W.cell? ⟨g3,1,none⟩ = some u6)
    (n1 : h≠g1) (n2 : h≠g2) (n3 : h≠g3) :
    ((W.setCell ⟨h,0,none⟩ p).setCell ⟨h,1,none⟩ q).cell? ⟨g1,0,none⟩ = some u1∧((W.setCell ⟨h,0,none⟩ p).setCell ⟨h,1,none⟩ q).cell? ⟨g1,1,none⟩ = some u2∧((W.setCell ⟨h,0,none⟩ p).setCell ⟨h,1,none⟩ q).cell? ⟨g2,0,none⟩ = some u3∧((W.setCell ⟨h,0,none⟩ p).setCell ⟨h,1,none⟩ q).cell? ⟨g2,1,none⟩ = some u4∧((W.setCell ⟨h,0,none⟩ p).setCell ⟨h,1,none⟩ q).cell? ⟨g3,0,none⟩ = some u5∧((W.setCell ⟨h,0,none⟩ p).setCell ⟨h,1,none⟩ q).cell? ⟨g3,1,none⟩ = some u6 := by
  obtain ⟨h1,h2,h3,h4,h5,h6⟩ := H
  refine ⟨?_, ?_, ?_, ?_, ?_, ?_⟩
  · rw [cell_other (by simp),cell_other (by simp)];exact h1
  · rw [cell_other (by simp),cell_other (by simp)];exact h2
  · rw [cell_other (by simp),cell_other (by simp)];exact h3
  · rw [cell_other (by simp),cell_other (by simp)];exact h4
  · rw [cell_other (by simp),cell_other (by simp)];exact h5
  · rw [cell_other (by simp),cell_other (by simp)];exact h6
end Go.Proofs.YtkcgikoploohkaaGreatDoor
