/- Two numbers with one text are one. -/
import Derived.Test.YtkcgikoploohkaaGreatDoorQG
import Derived.Test.YtkcgikoploohkaaGreatDoorQC
import Derived.Test.YtkcgikoploohkaaGreatDoorQD
import Derived.Deep.RegionHeld3
import Derived.Deep.DeepCutAuto
import Derived.Test.YtkcgikoploohkaaGreatDoorIF
namespace Go.Proofs.YtkcgikoploohkaaGreatDoor
set_option linter.unusedVariables false
set_option linter.unusedSimpArgs false
set_option maxRecDepth 100000
open Go.RowKit Nums

theorem Row.alloc {w : World} {a : Option Addr} {n c : Nat} {xs : List Nat} (h : Row w a n c xs) (o : Obj) : Row (w.alloc o) a n c xs := h.later (below_one w o)

theorem tri_next (w : World) (o : Obj) (u v x : Value) : Tri ((w.alloc o).alloc (.cells #[u, v, x] 27)) (w.heap.size + 1) u v x := by
  have h := tri_new (w.alloc o) u v x
  rw [show (w.alloc o).heap.size = w.heap.size + 1 from by simp] at h
  exact h

theorem tri_cells2 {W : World} {g g' : Nat} {u v x u' v' x' : Value} (h : Tri W g u v x) (h' : Tri W g' u' v' x') : W.cell? ⟨g, 0, none⟩ = some u ∧ W.cell? ⟨g, 1, none⟩ = some v ∧ W.cell? ⟨g, 2, none⟩ = some x ∧ W.cell? ⟨g', 0, none⟩ = some u' ∧ W.cell? ⟨g', 1, none⟩ = some v' ∧ W.cell? ⟨g', 2, none⟩ = some x' := ⟨h.1, h.2.1, h.2.2.1, h'.1, h'.2.1, h'.2.2.1⟩

theorem bytes_beq2 {s t : ByteArray} (h : s ≠ t) : (s.toList == t.toList) = false := by
  rw [beq_eq_false_iff_ne, Lib.toList_data, Lib.toList_data]
  intro e
  exact h (ByteArray.ext (Array.toList_inj.1 e))

theorem cons_split {l1 l2 r1 r2 : List UInt8} {c : UInt8} (h1 : c ∉ l1) (h2 : c ∉ l2) (h : l1 ++ c :: r1 = l2 ++ c :: r2) : l1 = l2 ∧ r1 = r2 := by
  induction l1 generalizing l2 with
  | nil =>
    cases l2 with
    | nil => simpa using h
    | cons x l2 =>
      simp only [List.nil_append, List.cons_append, List.cons.injEq] at h
      exact absurd (by rw [h.1]; simp) h2
  | cons x l1 ih =>
    cases l2 with
    | nil =>
      simp only [List.nil_append, List.cons_append, List.cons.injEq] at h
      exact absurd (by rw [h.1]; simp) h1
    | cons y l2 =>
      simp only [List.cons_append, List.cons.injEq] at h
      simp only [List.mem_cons, not_or] at h1 h2
      obtain ⟨e1, e2⟩ := ih h1.2 h2.2 h.2
      exact ⟨by rw [h.1, e1], e2⟩

theorem decI_inj {X Y : Int} (h : decI X = decI Y) : X = Y := by
  have hX := signed_dec X
  have hY := signed_dec Y
  rw [h] at hX
  rcases hX with ⟨a1, a2⟩ | ⟨a1, a2, a3⟩ <;> rcases hY with ⟨b1, b2⟩ | ⟨b1, b2, b3⟩
  · have e : decStr X.natAbs = decStr Y.natAbs := by
      rw [a2] at b2
      exact ByteArray.ext (Array.toList_inj.1 (List.cons.inj b2).2)
    have := decStr_inj e
    have h1 : X < 0 := by simpa using a1
    have h2 : Y < 0 := by simpa using b1
    omega
  · rw [a2] at b3; exact absurd rfl b3
  · rw [b2] at a3; exact absurd rfl a3
  · have e : decStr X.natAbs = decStr Y.natAbs := by rw [← a2, ← b2]
    have := decStr_inj e
    have h1 : ¬ X < 0 := by simpa using a1
    have h2 : ¬ Y < 0 := by simpa using b1
    omega

theorem str_list {q : Rat} (h : q.den ≠ 1) : (ratStr q).data.toList = (decI q.num).data.toList ++ 47 :: (decStr q.den).data.toList := by
  rw [ratStr, if_neg h, ByteArray.data_append, Array.toList_append, ByteArray.data_append, Array.toList_append]
  rfl

theorem ratStr_inj {p q : Rat} (h : ratStr p = ratStr q) : p = q := by
  by_cases hp : p.den = 1 <;> by_cases hq : q.den = 1
  · rw [ratStr, if_pos hp, ratStr, if_pos hq] at h
    exact Rat.ext (decI_inj h) (by rw [hp, hq])
  · have e := str_list hq
    rw [← h, ratStr, if_pos hp] at e
    exact absurd (by rw [e]; simp) (decI_not p.num (c := 47) (Or.inl rfl))
  · have e := str_list hp
    rw [h, ratStr, if_pos hq] at e
    exact absurd (by rw [e]; simp) (decI_not q.num (c := 47) (Or.inl rfl))
  · have e1 := str_list hp
    rw [h, str_list hq] at e1
    obtain ⟨a, b⟩ := cons_split (decI_not q.num (c := 47) (Or.inl rfl)) (decI_not p.num (c := 47) (Or.inl rfl)) e1
    exact Rat.ext (decI_inj (ByteArray.ext (Array.toList_inj.1 a))).symm (decStr_inj (ByteArray.ext (Array.toList_inj.1 b))).symm

end Go.Proofs.YtkcgikoploohkaaGreatDoor
/- How numbers compare. -/
namespace Go.Proofs.YtkcgikoploohkaaGreatDoor
set_option linter.unusedVariables false
set_option linter.unusedSimpArgs false
set_option maxRecDepth 100000
open Go.RowKit Nums

theorem num_pos' {q : Rat} (h : 0 < q) : 0 < q.num := by
  have h1 : 0 ≤ q.num := Rat.num_nonneg.2 (Rat.le_of_lt h)
  have h2 : q.num ≠ 0 := fun e => by rw [Rat.num_eq_zero] at e; subst e; exact absurd h (by decide)
  omega
theorem num_neg' {q : Rat} (h : q < 0) : q.num < 0 := by
  have h1 : ¬ 0 ≤ q.num := fun e => by rw [Rat.num_nonneg] at e; exact (Rat.not_le.2 h) e
  omega
theorem sgn_zero_num {q : Rat} : sgn q.num = 0 ↔ q = 0 := by
  rw [← Rat.num_eq_zero]; unfold sgn; split <;> (try split) <;> omega
theorem sgn_cmp (p q : Rat) : sgn (p - q).num = cmpR p q := by
  rcases rat_tri p q with h | h | h
  · rw [cmpR_lt h]
    have : p - q < 0 := by rw [Rat.sub_lt_iff, Rat.zero_add]; exact h
    have : (p - q).num < 0 := num_neg' this
    rw [sgn, if_pos this]
  · subst h; rw [cmpR_eq rfl, Rat.sub_self]; rfl
  · rw [cmpR_gt h]
    have : 0 < p - q := (Rat.lt_iff_sub_pos q p).1 h
    have : 0 < (p - q).num := num_pos' this
    rw [sgn, if_neg (by omega), if_pos this]
theorem cmpR_swap (p q : Rat) : cmpR q p = -cmpR p q := cmpZ_swap _ _
theorem cmpR_add (p q r : Rat) : cmpR (p + r) (q + r) = cmpR p q := by
  rcases rat_tri p q with h | h | h
  · rw [cmpR_lt h, cmpR_lt (Rat.add_lt_add_right.2 h)]
  · subst h; rw [cmpR_eq rfl, cmpR_eq rfl]
  · rw [cmpR_gt h, cmpR_gt (Rat.add_lt_add_right.2 h)]
theorem cmpR_mul (p q u : Rat) (hu : 0 < u) : cmpR (p * u) (q * u) = cmpR p q := by
  rcases rat_tri p q with h | h | h
  · rw [cmpR_lt h, cmpR_lt (Rat.mul_lt_mul_of_pos_right h hu)]
  · subst h; rw [cmpR_eq rfl, cmpR_eq rfl]
  · rw [cmpR_gt h, cmpR_gt (Rat.mul_lt_mul_of_pos_right h hu)]
theorem square_sgn (r : Rat) : (sgn (r * r).num = 0 ∧ r * r = 0) ∨ (sgn (r * r).num = 1 ∧ 0 < r * r) := by
  rcases rat_tri r 0 with h | h | h
  · right
    have h1 : 0 < -r := by rw [Rat.lt_neg_iff]; simpa using h
    have h2 : 0 < -r * -r := Rat.mul_pos h1 h1
    rw [Rat.neg_mul, Rat.mul_neg, Rat.neg_neg] at h2
    have : 0 < (r * r).num := num_pos' h2
    exact ⟨by rw [sgn, if_neg (by omega), if_pos this], h2⟩
  · left; subst h; exact ⟨by rw [Rat.zero_mul]; rfl, Rat.zero_mul _⟩
  · right
    have h2 := Rat.mul_pos h h
    have : 0 < (r * r).num := num_pos' h2
    exact ⟨by rw [sgn, if_neg (by omega), if_pos this], h2⟩
theorem cmpR_any (p q : Rat) : cmpR p q = 0 ∨ cmpR p q = 1 ∨ cmpR p q = -1 := by
  rcases rat_tri p q with h | h | h
  · exact Or.inr (Or.inr (cmpR_lt h))
  · exact Or.inl (cmpR_eq h)
  · exact Or.inr (Or.inl (cmpR_gt h))

end Go.Proofs.YtkcgikoploohkaaGreatDoor
/- RatioOne, where a number is long. -/
namespace Go.Proofs.YtkcgikoploohkaaGreatDoor
set_option linter.unusedVariables false
set_option linter.unusedSimpArgs false
set_option maxRecDepth 100000
open Go.RowKit Nums

end Go.Proofs.YtkcgikoploohkaaGreatDoor
/- RatioOne, two numbers that are one. -/
namespace Go.Proofs.YtkcgikoploohkaaGreatDoor
set_option linter.unusedVariables false
set_option linter.unusedSimpArgs false
set_option maxRecDepth 100000
open Go.RowKit Nums

end Go.Proofs.YtkcgikoploohkaaGreatDoor
