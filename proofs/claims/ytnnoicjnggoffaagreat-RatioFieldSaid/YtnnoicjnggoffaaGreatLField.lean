/- RatioField holds: sums and products do not hang on their order, and are parted, and what is divided by may be multiplied with again. No condition. -/
import Derived.Test.YtnnoicjnggoffaaGreatQC
import Derived.Test.YtnnoicjnggoffaaGreatQG
import Derived.Test.YtnnoicjnggoffaaGreatQD
import Derived.Deep.RegionHeld3
import Derived.Deep.DeepCutAuto
import Derived.ProofKit
import Derived.OpenShut
import Derived.ShutString
import Derived.ChangeOld
namespace Go.Proofs.YtnnoicjnggoffaaGreat
set_option linter.unusedVariables false
set_option linter.unusedSimpArgs false
set_option maxRecDepth 100000
open Go.RowKit Nums

theorem num_pos' {q : Rat} (h : 0 < q) : 0 < q.num := by
  have h1 : 0 ≤ q.num := Rat.num_nonneg.2 (Rat.le_of_lt h)
  have h2 : q.num ≠ 0 := fun e => by rw [Rat.num_eq_zero] at e; subst e; exact absurd h (by decide)
  omega
theorem num_neg' {q : Rat} (h : q < 0) : q.num < 0 := by
  have h1 : ¬ 0 ≤ q.num := fun e => by rw [Rat.num_nonneg] at e; exact (Rat.not_le.2 h) e
  omega
theorem sgn_zero_num {q : Rat} : sgn q.num = 0 ↔ q = 0 := by
  rw [← Rat.num_eq_zero]; unfold sgn; split <;> (try split) <;> omega
theorem sgn_cmp (p q : Rat) : sgn (p - q).num = cmpR p q := by
  rcases rat_tri p q with h | h | h
  · rw [cmpR_lt h]
    have : p - q < 0 := by rw [Rat.sub_lt_iff, Rat.zero_add]; exact h
    have : (p - q).num < 0 := num_neg' this
    rw [sgn, if_pos this]
  · subst h; rw [cmpR_eq rfl, Rat.sub_self]; rfl
  · rw [cmpR_gt h]
    have : 0 < p - q := (Rat.lt_iff_sub_pos q p).1 h
    have : 0 < (p - q).num := num_pos' this
    rw [sgn, if_neg (by omega), if_pos this]
theorem cmpR_swap (p q : Rat) : cmpR q p = -cmpR p q := cmpZ_swap _ _
theorem cmpR_add (p q r : Rat) : cmpR (p + r) (q + r) = cmpR p q := by
  rcases rat_tri p q with h | h | h
  · rw [cmpR_lt h, cmpR_lt (Rat.add_lt_add_right.2 h)]
  · subst h; rw [cmpR_eq rfl, cmpR_eq rfl]
  · rw [cmpR_gt h, cmpR_gt (Rat.add_lt_add_right.2 h)]
theorem cmpR_mul (p q u : Rat) (hu : 0 < u) : cmpR (p * u) (q * u) = cmpR p q := by
  rcases rat_tri p q with h | h | h
  · rw [cmpR_lt h, cmpR_lt (Rat.mul_lt_mul_of_pos_right h hu)]
  · subst h; rw [cmpR_eq rfl, cmpR_eq rfl]
  · rw [cmpR_gt h, cmpR_gt (Rat.mul_lt_mul_of_pos_right h hu)]
theorem square_sgn (r : Rat) : (sgn (r * r).num = 0 ∧ r * r = 0) ∨ (sgn (r * r).num = 1 ∧ 0 < r * r) := by
  rcases rat_tri r 0 with h | h | h
  · right
    have h1 : 0 < -r := by rw [Rat.lt_neg_iff]; simpa using h
    have h2 : 0 < -r * -r := Rat.mul_pos h1 h1
    rw [Rat.neg_mul, Rat.mul_neg, Rat.neg_neg] at h2
    have : 0 < (r * r).num := num_pos' h2
    exact ⟨by rw [sgn, if_neg (by omega), if_pos this], h2⟩
  · left; subst h; exact ⟨by rw [Rat.zero_mul]; rfl, Rat.zero_mul _⟩
  · right
    have h2 := Rat.mul_pos h h
    have : 0 < (r * r).num := num_pos' h2
    exact ⟨by rw [sgn, if_neg (by omega), if_pos this], h2⟩
theorem cmpR_any (p q : Rat) : cmpR p q = 0 ∨ cmpR p q = 1 ∨ cmpR p q = -1 := by
  rcases rat_tri p q with h | h | h
  · exact Or.inr (Or.inr (cmpR_lt h))
  · exact Or.inl (cmpR_eq h)
  · exact Or.inr (Or.inl (cmpR_gt h))

end Go.Proofs.YtnnoicjnggoffaaGreat
/- Two numbers with one text are one. -/
namespace Go.Proofs.YtnnoicjnggoffaaGreat
set_option linter.unusedVariables false
set_option linter.unusedSimpArgs false
set_option maxRecDepth 100000
open Go.RowKit Nums

theorem Row.alloc {w : World} {a : Option Addr} {n c : Nat} {xs : List Nat} (h : Row w a n c xs) (o : Obj) : Row (w.alloc o) a n c xs := h.later (below_one w o)

theorem tri_next (w : World) (o : Obj) (u v x : Value) : Tri ((w.alloc o).alloc (.cells #[u, v, x] 26)) (w.heap.size + 1) u v x := by
  have h := tri_new (w.alloc o) u v x
  rw [show (w.alloc o).heap.size = w.heap.size + 1 from by simp] at h
  exact h

theorem tri_cells2 {W : World} {g g' : Nat} {u v x u' v' x' : Value} (h : Tri W g u v x) (h' : Tri W g' u' v' x') : W.cell? ⟨g, 0, none⟩ = some u ∧ W.cell? ⟨g, 1, none⟩ = some v ∧ W.cell? ⟨g, 2, none⟩ = some x ∧ W.cell? ⟨g', 0, none⟩ = some u' ∧ W.cell? ⟨g', 1, none⟩ = some v' ∧ W.cell? ⟨g', 2, none⟩ = some x' := ⟨h.1, h.2.1, h.2.2.1, h'.1, h'.2.1, h'.2.2.1⟩

theorem bytes_beq2 {s t : ByteArray} (h : s ≠ t) : (s.toList == t.toList) = false := by
  rw [beq_eq_false_iff_ne, Lib.toList_data, Lib.toList_data]
  intro e
  exact h (ByteArray.ext (Array.toList_inj.1 e))

theorem cons_split {l1 l2 r1 r2 : List UInt8} {c : UInt8} (h1 : c ∉ l1) (h2 : c ∉ l2) (h : l1 ++ c :: r1 = l2 ++ c :: r2) : l1 = l2 ∧ r1 = r2 := by
  induction l1 generalizing l2 with
  | nil =>
    cases l2 with
    | nil => simpa using h
    | cons x l2 =>
      simp only [List.nil_append, List.cons_append, List.cons.injEq] at h
      exact absurd (by rw [h.1]; simp) h2
  | cons x l1 ih =>
    cases l2 with
    | nil =>
      simp only [List.nil_append, List.cons_append, List.cons.injEq] at h
      exact absurd (by rw [h.1]; simp) h1
    | cons y l2 =>
      simp only [List.cons_append, List.cons.injEq] at h
      simp only [List.mem_cons, not_or] at h1 h2
      obtain ⟨e1, e2⟩ := ih h1.2 h2.2 h.2
      exact ⟨by rw [h.1, e1], e2⟩

theorem decI_inj {X Y : Int} (h : decI X = decI Y) : X = Y := by
  have hX := signed_dec X
  have hY := signed_dec Y
  rw [h] at hX
  rcases hX with ⟨a1, a2⟩ | ⟨a1, a2, a3⟩ <;> rcases hY with ⟨b1, b2⟩ | ⟨b1, b2, b3⟩
  · have e : decStr X.natAbs = decStr Y.natAbs := by
      rw [a2] at b2
      exact ByteArray.ext (Array.toList_inj.1 (List.cons.inj b2).2)
    have := decStr_inj e
    have h1 : X < 0 := by simpa using a1
    have h2 : Y < 0 := by simpa using b1
    omega
  · rw [a2] at b3; exact absurd rfl b3
  · rw [b2] at a3; exact absurd rfl a3
  · have e : decStr X.natAbs = decStr Y.natAbs := by rw [← a2, ← b2]
    have := decStr_inj e
    have h1 : ¬ X < 0 := by simpa using a1
    have h2 : ¬ Y < 0 := by simpa using b1
    omega

theorem str_list {q : Rat} (h : q.den ≠ 1) : (ratStr q).data.toList = (decI q.num).data.toList ++ 47 :: (decStr q.den).data.toList := by
  rw [ratStr, if_neg h, ByteArray.data_append, Array.toList_append, ByteArray.data_append, Array.toList_append]
  rfl

theorem ratStr_inj {p q : Rat} (h : ratStr p = ratStr q) : p = q := by
  by_cases hp : p.den = 1 <;> by_cases hq : q.den = 1
  · rw [ratStr, if_pos hp, ratStr, if_pos hq] at h
    exact Rat.ext (decI_inj h) (by rw [hp, hq])
  · have e := str_list hq
    rw [← h, ratStr, if_pos hp] at e
    exact absurd (by rw [e]; simp) (decI_not p.num (c := 47) (Or.inl rfl))
  · have e := str_list hp
    rw [h, ratStr, if_pos hq] at e
    exact absurd (by rw [e]; simp) (decI_not q.num (c := 47) (Or.inl rfl))
  · have e1 := str_list hp
    rw [h, str_list hq] at e1
    obtain ⟨a, b⟩ := cons_split (decI_not q.num (c := 47) (Or.inl rfl)) (decI_not p.num (c := 47) (Or.inl rfl)) e1
    exact Rat.ext (decI_inj (ByteArray.ext (Array.toList_inj.1 a))).symm (decStr_inj (ByteArray.ext (Array.toList_inj.1 b))).symm

end Go.Proofs.YtnnoicjnggoffaaGreat
/- RatioField, where a number is long. -/
namespace Go.Proofs.YtnnoicjnggoffaaGreat
set_option linter.unusedVariables false
set_option linter.unusedSimpArgs false
set_option maxRecDepth 100000
open Go.RowKit Nums

set_option maxHeartbeats 4000000 in
theorem ratioField_out0n (s0 s1 s2 : Bool) (a0 b0 a1 b1 a2 b2 : Option Addr) (n0 c0 m0 d0 n1 c1 m1 d1 n2 c2 m2 d2 : Nat) (w : World) (hbad : 4 < n0) :
    Calls Tryz.prog 6 #[.agg #[.bool s0, .slice a0 n0 c0, .slice b0 m0 d0], .agg #[.bool s1, .slice a1 n1 c1, .slice b1 m1 d1], .agg #[.bool s2, .slice a2 n2 c2, .slice b2 m2 d2]] w fun e w' => e = .returned (.bool true) ∧ Below w.heap.size w w' := by
  have HB := Lib.hid (below_four w (.cells #[.bool s0, .slice a0 n0 c0, .slice b0 m0 d0] 26) (.cells #[.bool s1, .slice a1 n1 c1, .slice b1 m1 d1] 26) (.cells #[.bool s2, .slice a2 n2 c2, .slice b2 m2 d2] 26) (.cells #[.bool s0, .slice a0 n0 c0, .slice b0 m0 d0, .bool s1, .slice a1 n1 c1, .slice b1 m1 d1, .bool s2, .slice a2 n2 c2, .slice b2 m2 d2] 26))
  have ka0 := cell_new (((w.alloc (.cells #[.bool s0, .slice a0 n0 c0, .slice b0 m0 d0] 26)).alloc (.cells #[.bool s1, .slice a1 n1 c1, .slice b1 m1 d1] 26)).alloc (.cells #[.bool s2, .slice a2 n2 c2, .slice b2 m2 d2] 26)) #[.bool s0, .slice a0 n0 c0, .slice b0 m0 d0, .bool s1, .slice a1 n1 c1, .slice b1 m1 d1, .bool s2, .slice a2 n2 c2, .slice b2 m2 d2] 26 1
  have kb0 := cell_new (((w.alloc (.cells #[.bool s0, .slice a0 n0 c0, .slice b0 m0 d0] 26)).alloc (.cells #[.bool s1, .slice a1 n1 c1, .slice b1 m1 d1] 26)).alloc (.cells #[.bool s2, .slice a2 n2 c2, .slice b2 m2 d2] 26)) #[.bool s0, .slice a0 n0 c0, .slice b0 m0 d0, .bool s1, .slice a1 n1 c1, .slice b1 m1 d1, .bool s2, .slice a2 n2 c2, .slice b2 m2 d2] 26 2
  have ka1 := cell_new (((w.alloc (.cells #[.bool s0, .slice a0 n0 c0, .slice b0 m0 d0] 26)).alloc (.cells #[.bool s1, .slice a1 n1 c1, .slice b1 m1 d1] 26)).alloc (.cells #[.bool s2, .slice a2 n2 c2, .slice b2 m2 d2] 26)) #[.bool s0, .slice a0 n0 c0, .slice b0 m0 d0, .bool s1, .slice a1 n1 c1, .slice b1 m1 d1, .bool s2, .slice a2 n2 c2, .slice b2 m2 d2] 26 4
  have kb1 := cell_new (((w.alloc (.cells #[.bool s0, .slice a0 n0 c0, .slice b0 m0 d0] 26)).alloc (.cells #[.bool s1, .slice a1 n1 c1, .slice b1 m1 d1] 26)).alloc (.cells #[.bool s2, .slice a2 n2 c2, .slice b2 m2 d2] 26)) #[.bool s0, .slice a0 n0 c0, .slice b0 m0 d0, .bool s1, .slice a1 n1 c1, .slice b1 m1 d1, .bool s2, .slice a2 n2 c2, .slice b2 m2 d2] 26 5
  have ka2 := cell_new (((w.alloc (.cells #[.bool s0, .slice a0 n0 c0, .slice b0 m0 d0] 26)).alloc (.cells #[.bool s1, .slice a1 n1 c1, .slice b1 m1 d1] 26)).alloc (.cells #[.bool s2, .slice a2 n2 c2, .slice b2 m2 d2] 26)) #[.bool s0, .slice a0 n0 c0, .slice b0 m0 d0, .bool s1, .slice a1 n1 c1, .slice b1 m1 d1, .bool s2, .slice a2 n2 c2, .slice b2 m2 d2] 26 7
  have kb2 := cell_new (((w.alloc (.cells #[.bool s0, .slice a0 n0 c0, .slice b0 m0 d0] 26)).alloc (.cells #[.bool s1, .slice a1 n1 c1, .slice b1 m1 d1] 26)).alloc (.cells #[.bool s2, .slice a2 n2 c2, .slice b2 m2 d2] 26)) #[.bool s0, .slice a0 n0 c0, .slice b0 m0 d0, .bool s1, .slice a1 n1 c1, .slice b1 m1 d1, .bool s2, .slice a2 n2 c2, .slice b2 m2 d2] 26 8
  rw [show (((w.alloc (.cells #[.bool s0, .slice a0 n0 c0, .slice b0 m0 d0] 26)).alloc (.cells #[.bool s1, .slice a1 n1 c1, .slice b1 m1 d1] 26)).alloc (.cells #[.bool s2, .slice a2 n2 c2, .slice b2 m2 d2] 26)).heap.size = w.heap.size + 1 + 1 + 1 from by simp] at ka0 kb0 ka1 kb1 ka2 kb2
  go_enter Tryz.func6, Tryz.ntmps6
  go_wp2_with fail
  refine (few3_no0n (w.heap.size + 1 + 1 + 1) a0 b0 n0 c0 m0 d0 a1 b1 n1 c1 m1 d1 a2 b2 n2 c2 m2 d2 _ ka0 kb0 ka1 kb1 ka2 kb2 hbad).mono ?_
  rintro e w' ⟨rfl, rfl⟩
  go_wp2
  go_ret
  exact ⟨rfl, HB.out⟩

set_option maxHeartbeats 4000000 in
theorem ratioField_out0m (s0 s1 s2 : Bool) (a0 b0 a1 b1 a2 b2 : Option Addr) (n0 c0 m0 d0 n1 c1 m1 d1 n2 c2 m2 d2 : Nat) (w : World) (hn0 : n0 ≤ 4) (hbad : 4 < m0) :
    Calls Tryz.prog 6 #[.agg #[.bool s0, .slice a0 n0 c0, .slice b0 m0 d0], .agg #[.bool s1, .slice a1 n1 c1, .slice b1 m1 d1], .agg #[.bool s2, .slice a2 n2 c2, .slice b2 m2 d2]] w fun e w' => e = .returned (.bool true) ∧ Below w.heap.size w w' := by
  have HB := Lib.hid (below_four w (.cells #[.bool s0, .slice a0 n0 c0, .slice b0 m0 d0] 26) (.cells #[.bool s1, .slice a1 n1 c1, .slice b1 m1 d1] 26) (.cells #[.bool s2, .slice a2 n2 c2, .slice b2 m2 d2] 26) (.cells #[.bool s0, .slice a0 n0 c0, .slice b0 m0 d0, .bool s1, .slice a1 n1 c1, .slice b1 m1 d1, .bool s2, .slice a2 n2 c2, .slice b2 m2 d2] 26))
  have ka0 := cell_new (((w.alloc (.cells #[.bool s0, .slice a0 n0 c0, .slice b0 m0 d0] 26)).alloc (.cells #[.bool s1, .slice a1 n1 c1, .slice b1 m1 d1] 26)).alloc (.cells #[.bool s2, .slice a2 n2 c2, .slice b2 m2 d2] 26)) #[.bool s0, .slice a0 n0 c0, .slice b0 m0 d0, .bool s1, .slice a1 n1 c1, .slice b1 m1 d1, .bool s2, .slice a2 n2 c2, .slice b2 m2 d2] 26 1
  have kb0 := cell_new (((w.alloc (.cells #[.bool s0, .slice a0 n0 c0, .slice b0 m0 d0] 26)).alloc (.cells #[.bool s1, .slice a1 n1 c1, .slice b1 m1 d1] 26)).alloc (.cells #[.bool s2, .slice a2 n2 c2, .slice b2 m2 d2] 26)) #[.bool s0, .slice a0 n0 c0, .slice b0 m0 d0, .bool s1, .slice a1 n1 c1, .slice b1 m1 d1, .bool s2, .slice a2 n2 c2, .slice b2 m2 d2] 26 2
  have ka1 := cell_new (((w.alloc (.cells #[.bool s0, .slice a0 n0 c0, .slice b0 m0 d0] 26)).alloc (.cells #[.bool s1, .slice a1 n1 c1, .slice b1 m1 d1] 26)).alloc (.cells #[.bool s2, .slice a2 n2 c2, .slice b2 m2 d2] 26)) #[.bool s0, .slice a0 n0 c0, .slice b0 m0 d0, .bool s1, .slice a1 n1 c1, .slice b1 m1 d1, .bool s2, .slice a2 n2 c2, .slice b2 m2 d2] 26 4
  have kb1 := cell_new (((w.alloc (.cells #[.bool s0, .slice a0 n0 c0, .slice b0 m0 d0] 26)).alloc (.cells #[.bool s1, .slice a1 n1 c1, .slice b1 m1 d1] 26)).alloc (.cells #[.bool s2, .slice a2 n2 c2, .slice b2 m2 d2] 26)) #[.bool s0, .slice a0 n0 c0, .slice b0 m0 d0, .bool s1, .slice a1 n1 c1, .slice b1 m1 d1, .bool s2, .slice a2 n2 c2, .slice b2 m2 d2] 26 5
  have ka2 := cell_new (((w.alloc (.cells #[.bool s0, .slice a0 n0 c0, .slice b0 m0 d0] 26)).alloc (.cells #[.bool s1, .slice a1 n1 c1, .slice b1 m1 d1] 26)).alloc (.cells #[.bool s2, .slice a2 n2 c2, .slice b2 m2 d2] 26)) #[.bool s0, .slice a0 n0 c0, .slice b0 m0 d0, .bool s1, .slice a1 n1 c1, .slice b1 m1 d1, .bool s2, .slice a2 n2 c2, .slice b2 m2 d2] 26 7
  have kb2 := cell_new (((w.alloc (.cells #[.bool s0, .slice a0 n0 c0, .slice b0 m0 d0] 26)).alloc (.cells #[.bool s1, .slice a1 n1 c1, .slice b1 m1 d1] 26)).alloc (.cells #[.bool s2, .slice a2 n2 c2, .slice b2 m2 d2] 26)) #[.bool s0, .slice a0 n0 c0, .slice b0 m0 d0, .bool s1, .slice a1 n1 c1, .slice b1 m1 d1, .bool s2, .slice a2 n2 c2, .slice b2 m2 d2] 26 8
  rw [show (((w.alloc (.cells #[.bool s0, .slice a0 n0 c0, .slice b0 m0 d0] 26)).alloc (.cells #[.bool s1, .slice a1 n1 c1, .slice b1 m1 d1] 26)).alloc (.cells #[.bool s2, .slice a2 n2 c2, .slice b2 m2 d2] 26)).heap.size = w.heap.size + 1 + 1 + 1 from by simp] at ka0 kb0 ka1 kb1 ka2 kb2
  go_enter Tryz.func6, Tryz.ntmps6
  go_wp2_with fail
  refine (few3_no0m (w.heap.size + 1 + 1 + 1) a0 b0 n0 c0 m0 d0 a1 b1 n1 c1 m1 d1 a2 b2 n2 c2 m2 d2 _ ka0 kb0 ka1 kb1 ka2 kb2 hn0 hbad).mono ?_
  rintro e w' ⟨rfl, rfl⟩
  go_wp2
  go_ret
  exact ⟨rfl, HB.out⟩

set_option maxHeartbeats 4000000 in
theorem ratioField_out1n (s0 s1 s2 : Bool) (a0 b0 a1 b1 a2 b2 : Option Addr) (n0 c0 m0 d0 n1 c1 m1 d1 n2 c2 m2 d2 : Nat) (w : World) (hn0 : n0 ≤ 4) (hm0 : m0 ≤ 4) (hbad : 4 < n1) :
    Calls Tryz.prog 6 #[.agg #[.bool s0, .slice a0 n0 c0, .slice b0 m0 d0], .agg #[.bool s1, .slice a1 n1 c1, .slice b1 m1 d1], .agg #[.bool s2, .slice a2 n2 c2, .slice b2 m2 d2]] w fun e w' => e = .returned (.bool true) ∧ Below w.heap.size w w' := by
  have HB := Lib.hid (below_four w (.cells #[.bool s0, .slice a0 n0 c0, .slice b0 m0 d0] 26) (.cells #[.bool s1, .slice a1 n1 c1, .slice b1 m1 d1] 26) (.cells #[.bool s2, .slice a2 n2 c2, .slice b2 m2 d2] 26) (.cells #[.bool s0, .slice a0 n0 c0, .slice b0 m0 d0, .bool s1, .slice a1 n1 c1, .slice b1 m1 d1, .bool s2, .slice a2 n2 c2, .slice b2 m2 d2] 26))
  have ka0 := cell_new (((w.alloc (.cells #[.bool s0, .slice a0 n0 c0, .slice b0 m0 d0] 26)).alloc (.cells #[.bool s1, .slice a1 n1 c1, .slice b1 m1 d1] 26)).alloc (.cells #[.bool s2, .slice a2 n2 c2, .slice b2 m2 d2] 26)) #[.bool s0, .slice a0 n0 c0, .slice b0 m0 d0, .bool s1, .slice a1 n1 c1, .slice b1 m1 d1, .bool s2, .slice a2 n2 c2, .slice b2 m2 d2] 26 1
  have kb0 := cell_new (((w.alloc (.cells #[.bool s0, .slice a0 n0 c0, .slice b0 m0 d0] 26)).alloc (.cells #[.bool s1, .slice a1 n1 c1, .slice b1 m1 d1] 26)).alloc (.cells #[.bool s2, .slice a2 n2 c2, .slice b2 m2 d2] 26)) #[.bool s0, .slice a0 n0 c0, .slice b0 m0 d0, .bool s1, .slice a1 n1 c1, .slice b1 m1 d1, .bool s2, .slice a2 n2 c2, .slice b2 m2 d2] 26 2
  have ka1 := cell_new (((w.alloc (.cells #[.bool s0, .slice a0 n0 c0, .slice b0 m0 d0] 26)).alloc (.cells #[.bool s1, .slice a1 n1 c1, .slice b1 m1 d1] 26)).alloc (.cells #[.bool s2, .slice a2 n2 c2, .slice b2 m2 d2] 26)) #[.bool s0, .slice a0 n0 c0, .slice b0 m0 d0, .bool s1, .slice a1 n1 c1, .slice b1 m1 d1, .bool s2, .slice a2 n2 c2, .slice b2 m2 d2] 26 4
  have kb1 := cell_new (((w.alloc (.cells #[.bool s0, .slice a0 n0 c0, .slice b0 m0 d0] 26)).alloc (.cells #[.bool s1, .slice a1 n1 c1, .slice b1 m1 d1] 26)).alloc (.cells #[.bool s2, .slice a2 n2 c2, .slice b2 m2 d2] 26)) #[.bool s0, .slice a0 n0 c0, .slice b0 m0 d0, .bool s1, .slice a1 n1 c1, .slice b1 m1 d1, .bool s2, .slice a2 n2 c2, .slice b2 m2 d2] 26 5
  have ka2 := cell_new (((w.alloc (.cells #[.bool s0, .slice a0 n0 c0, .slice b0 m0 d0] 26)).alloc (.cells #[.bool s1, .slice a1 n1 c1, .slice b1 m1 d1] 26)).alloc (.cells #[.bool s2, .slice a2 n2 c2, .slice b2 m2 d2] 26)) #[.bool s0, .slice a0 n0 c0, .slice b0 m0 d0, .bool s1, .slice a1 n1 c1, .slice b1 m1 d1, .bool s2, .slice a2 n2 c2, .slice b2 m2 d2] 26 7
  have kb2 := cell_new (((w.alloc (.cells #[.bool s0, .slice a0 n0 c0, .slice b0 m0 d0] 26)).alloc (.cells #[.bool s1, .slice a1 n1 c1, .slice b1 m1 d1] 26)).alloc (.cells #[.bool s2, .slice a2 n2 c2, .slice b2 m2 d2] 26)) #[.bool s0, .slice a0 n0 c0, .slice b0 m0 d0, .bool s1, .slice a1 n1 c1, .slice b1 m1 d1, .bool s2, .slice a2 n2 c2, .slice b2 m2 d2] 26 8
  rw [show (((w.alloc (.cells #[.bool s0, .slice a0 n0 c0, .slice b0 m0 d0] 26)).alloc (.cells #[.bool s1, .slice a1 n1 c1, .slice b1 m1 d1] 26)).alloc (.cells #[.bool s2, .slice a2 n2 c2, .slice b2 m2 d2] 26)).heap.size = w.heap.size + 1 + 1 + 1 from by simp] at ka0 kb0 ka1 kb1 ka2 kb2
  go_enter Tryz.func6, Tryz.ntmps6
  go_wp2_with fail
  refine (few3_no1n (w.heap.size + 1 + 1 + 1) a0 b0 n0 c0 m0 d0 a1 b1 n1 c1 m1 d1 a2 b2 n2 c2 m2 d2 _ ka0 kb0 ka1 kb1 ka2 kb2 hn0 hm0 hbad).mono ?_
  rintro e w' ⟨rfl, rfl⟩
  go_wp2
  go_ret
  exact ⟨rfl, HB.out⟩

set_option maxHeartbeats 4000000 in
theorem ratioField_out1m (s0 s1 s2 : Bool) (a0 b0 a1 b1 a2 b2 : Option Addr) (n0 c0 m0 d0 n1 c1 m1 d1 n2 c2 m2 d2 : Nat) (w : World) (hn0 : n0 ≤ 4) (hm0 : m0 ≤ 4) (hn1 : n1 ≤ 4) (hbad : 4 < m1) :
    Calls Tryz.prog 6 #[.agg #[.bool s0, .slice a0 n0 c0, .slice b0 m0 d0], .agg #[.bool s1, .slice a1 n1 c1, .slice b1 m1 d1], .agg #[.bool s2, .slice a2 n2 c2, .slice b2 m2 d2]] w fun e w' => e = .returned (.bool true) ∧ Below w.heap.size w w' := by
  have HB := Lib.hid (below_four w (.cells #[.bool s0, .slice a0 n0 c0, .slice b0 m0 d0] 26) (.cells #[.bool s1, .slice a1 n1 c1, .slice b1 m1 d1] 26) (.cells #[.bool s2, .slice a2 n2 c2, .slice b2 m2 d2] 26) (.cells #[.bool s0, .slice a0 n0 c0, .slice b0 m0 d0, .bool s1, .slice a1 n1 c1, .slice b1 m1 d1, .bool s2, .slice a2 n2 c2, .slice b2 m2 d2] 26))
  have ka0 := cell_new (((w.alloc (.cells #[.bool s0, .slice a0 n0 c0, .slice b0 m0 d0] 26)).alloc (.cells #[.bool s1, .slice a1 n1 c1, .slice b1 m1 d1] 26)).alloc (.cells #[.bool s2, .slice a2 n2 c2, .slice b2 m2 d2] 26)) #[.bool s0, .slice a0 n0 c0, .slice b0 m0 d0, .bool s1, .slice a1 n1 c1, .slice b1 m1 d1, .bool s2, .slice a2 n2 c2, .slice b2 m2 d2] 26 1
  have kb0 := cell_new (((w.alloc (.cells #[.bool s0, .slice a0 n0 c0, .slice b0 m0 d0] 26)).alloc (.cells #[.bool s1, .slice a1 n1 c1, .slice b1 m1 d1] 26)).alloc (.cells #[.bool s2, .slice a2 n2 c2, .slice b2 m2 d2] 26)) #[.bool s0, .slice a0 n0 c0, .slice b0 m0 d0, .bool s1, .slice a1 n1 c1, .slice b1 m1 d1, .bool s2, .slice a2 n2 c2, .slice b2 m2 d2] 26 2
  have ka1 := cell_new (((w.alloc (.cells #[.bool s0, .slice a0 n0 c0, .slice b0 m0 d0] 26)).alloc (.cells #[.bool s1, .slice a1 n1 c1, .slice b1 m1 d1] 26)).alloc (.cells #[.bool s2, .slice a2 n2 c2, .slice b2 m2 d2] 26)) #[.bool s0, .slice a0 n0 c0, .slice b0 m0 d0, .bool s1, .slice a1 n1 c1, .slice b1 m1 d1, .bool s2, .slice a2 n2 c2, .slice b2 m2 d2] 26 4
  have kb1 := cell_new (((w.alloc (.cells #[.bool s0, .slice a0 n0 c0, .slice b0 m0 d0] 26)).alloc (.cells #[.bool s1, .slice a1 n1 c1, .slice b1 m1 d1] 26)).alloc (.cells #[.bool s2, .slice a2 n2 c2, .slice b2 m2 d2] 26)) #[.bool s0, .slice a0 n0 c0, .slice b0 m0 d0, .bool s1, .slice a1 n1 c1, .slice b1 m1 d1, .bool s2, .slice a2 n2 c2, .slice b2 m2 d2] 26 5
  have ka2 := cell_new (((w.alloc (.cells #[.bool s0, .slice a0 n0 c0, .slice b0 m0 d0] 26)).alloc (.cells #[.bool s1, .slice a1 n1 c1, .slice b1 m1 d1] 26)).alloc (.cells #[.bool s2, .slice a2 n2 c2, .slice b2 m2 d2] 26)) #[.bool s0, .slice a0 n0 c0, .slice b0 m0 d0, .bool s1, .slice a1 n1 c1, .slice b1 m1 d1, .bool s2, .slice a2 n2 c2, .slice b2 m2 d2] 26 7
  have kb2 := cell_new (((w.alloc (.cells #[.bool s0, .slice a0 n0 c0, .slice b0 m0 d0] 26)).alloc (.cells #[.bool s1, .slice a1 n1 c1, .slice b1 m1 d1] 26)).alloc (.cells #[.bool s2, .slice a2 n2 c2, .slice b2 m2 d2] 26)) #[.bool s0, .slice a0 n0 c0, .slice b0 m0 d0, .bool s1, .slice a1 n1 c1, .slice b1 m1 d1, .bool s2, .slice a2 n2 c2, .slice b2 m2 d2] 26 8
  rw [show (((w.alloc (.cells #[.bool s0, .slice a0 n0 c0, .slice b0 m0 d0] 26)).alloc (.cells #[.bool s1, .slice a1 n1 c1, .slice b1 m1 d1] 26)).alloc (.cells #[.bool s2, .slice a2 n2 c2, .slice b2 m2 d2] 26)).heap.size = w.heap.size + 1 + 1 + 1 from by simp] at ka0 kb0 ka1 kb1 ka2 kb2
  go_enter Tryz.func6, Tryz.ntmps6
  go_wp2_with fail
  refine (few3_no1m (w.heap.size + 1 + 1 + 1) a0 b0 n0 c0 m0 d0 a1 b1 n1 c1 m1 d1 a2 b2 n2 c2 m2 d2 _ ka0 kb0 ka1 kb1 ka2 kb2 hn0 hm0 hn1 hbad).mono ?_
  rintro e w' ⟨rfl, rfl⟩
  go_wp2
  go_ret
  exact ⟨rfl, HB.out⟩

set_option maxHeartbeats 4000000 in
theorem ratioField_out2n (s0 s1 s2 : Bool) (a0 b0 a1 b1 a2 b2 : Option Addr) (n0 c0 m0 d0 n1 c1 m1 d1 n2 c2 m2 d2 : Nat) (w : World) (hn0 : n0 ≤ 4) (hm0 : m0 ≤ 4) (hn1 : n1 ≤ 4) (hm1 : m1 ≤ 4) (hbad : 4 < n2) :
    Calls Tryz.prog 6 #[.agg #[.bool s0, .slice a0 n0 c0, .slice b0 m0 d0], .agg #[.bool s1, .slice a1 n1 c1, .slice b1 m1 d1], .agg #[.bool s2, .slice a2 n2 c2, .slice b2 m2 d2]] w fun e w' => e = .returned (.bool true) ∧ Below w.heap.size w w' := by
  have HB := Lib.hid (below_four w (.cells #[.bool s0, .slice a0 n0 c0, .slice b0 m0 d0] 26) (.cells #[.bool s1, .slice a1 n1 c1, .slice b1 m1 d1] 26) (.cells #[.bool s2, .slice a2 n2 c2, .slice b2 m2 d2] 26) (.cells #[.bool s0, .slice a0 n0 c0, .slice b0 m0 d0, .bool s1, .slice a1 n1 c1, .slice b1 m1 d1, .bool s2, .slice a2 n2 c2, .slice b2 m2 d2] 26))
  have ka0 := cell_new (((w.alloc (.cells #[.bool s0, .slice a0 n0 c0, .slice b0 m0 d0] 26)).alloc (.cells #[.bool s1, .slice a1 n1 c1, .slice b1 m1 d1] 26)).alloc (.cells #[.bool s2, .slice a2 n2 c2, .slice b2 m2 d2] 26)) #[.bool s0, .slice a0 n0 c0, .slice b0 m0 d0, .bool s1, .slice a1 n1 c1, .slice b1 m1 d1, .bool s2, .slice a2 n2 c2, .slice b2 m2 d2] 26 1
  have kb0 := cell_new (((w.alloc (.cells #[.bool s0, .slice a0 n0 c0, .slice b0 m0 d0] 26)).alloc (.cells #[.bool s1, .slice a1 n1 c1, .slice b1 m1 d1] 26)).alloc (.cells #[.bool s2, .slice a2 n2 c2, .slice b2 m2 d2] 26)) #[.bool s0, .slice a0 n0 c0, .slice b0 m0 d0, .bool s1, .slice a1 n1 c1, .slice b1 m1 d1, .bool s2, .slice a2 n2 c2, .slice b2 m2 d2] 26 2
  have ka1 := cell_new (((w.alloc (.cells #[.bool s0, .slice a0 n0 c0, .slice b0 m0 d0] 26)).alloc (.cells #[.bool s1, .slice a1 n1 c1, .slice b1 m1 d1] 26)).alloc (.cells #[.bool s2, .slice a2 n2 c2, .slice b2 m2 d2] 26)) #[.bool s0, .slice a0 n0 c0, .slice b0 m0 d0, .bool s1, .slice a1 n1 c1, .slice b1 m1 d1, .bool s2, .slice a2 n2 c2, .slice b2 m2 d2] 26 4
  have kb1 := cell_new (((w.alloc (.cells #[.bool s0, .slice a0 n0 c0, .slice b0 m0 d0] 26)).alloc (.cells #[.bool s1, .slice a1 n1 c1, .slice b1 m1 d1] 26)).alloc (.cells #[.bool s2, .slice a2 n2 c2, .slice b2 m2 d2] 26)) #[.bool s0, .slice a0 n0 c0, .slice b0 m0 d0, .bool s1, .slice a1 n1 c1, .slice b1 m1 d1, .bool s2, .slice a2 n2 c2, .slice b2 m2 d2] 26 5
  have ka2 := cell_new (((w.alloc (.cells #[.bool s0, .slice a0 n0 c0, .slice b0 m0 d0] 26)).alloc (.cells #[.bool s1, .slice a1 n1 c1, .slice b1 m1 d1] 26)).alloc (.cells #[.bool s2, .slice a2 n2 c2, .slice b2 m2 d2] 26)) #[.bool s0, .slice a0 n0 c0, .slice b0 m0 d0, .bool s1, .slice a1 n1 c1, .slice b1 m1 d1, .bool s2, .slice a2 n2 c2, .slice b2 m2 d2] 26 7
  have kb2 := cell_new (((w.alloc (.cells #[.bool s0, .slice a0 n0 c0, .slice b0 m0 d0] 26)).alloc (.cells #[.bool s1, .slice a1 n1 c1, .slice b1 m1 d1] 26)).alloc (.cells #[.bool s2, .slice a2 n2 c2, .slice b2 m2 d2] 26)) #[.bool s0, .slice a0 n0 c0, .slice b0 m0 d0, .bool s1, .slice a1 n1 c1, .slice b1 m1 d1, .bool s2, .slice a2 n2 c2, .slice b2 m2 d2] 26 8
  rw [show (((w.alloc (.cells #[.bool s0, .slice a0 n0 c0, .slice b0 m0 d0] 26)).alloc (.cells #[.bool s1, .slice a1 n1 c1, .slice b1 m1 d1] 26)).alloc (.cells #[.bool s2, .slice a2 n2 c2, .slice b2 m2 d2] 26)).heap.size = w.heap.size + 1 + 1 + 1 from by simp] at ka0 kb0 ka1 kb1 ka2 kb2
  go_enter Tryz.func6, Tryz.ntmps6
  go_wp2_with fail
  refine (few3_no2n (w.heap.size + 1 + 1 + 1) a0 b0 n0 c0 m0 d0 a1 b1 n1 c1 m1 d1 a2 b2 n2 c2 m2 d2 _ ka0 kb0 ka1 kb1 ka2 kb2 hn0 hm0 hn1 hm1 hbad).mono ?_
  rintro e w' ⟨rfl, rfl⟩
  go_wp2
  go_ret
  exact ⟨rfl, HB.out⟩

set_option maxHeartbeats 4000000 in
theorem ratioField_out2m (s0 s1 s2 : Bool) (a0 b0 a1 b1 a2 b2 : Option Addr) (n0 c0 m0 d0 n1 c1 m1 d1 n2 c2 m2 d2 : Nat) (w : World) (hn0 : n0 ≤ 4) (hm0 : m0 ≤ 4) (hn1 : n1 ≤ 4) (hm1 : m1 ≤ 4) (hn2 : n2 ≤ 4) (hbad : 4 < m2) :
    Calls Tryz.prog 6 #[.agg #[.bool s0, .slice a0 n0 c0, .slice b0 m0 d0], .agg #[.bool s1, .slice a1 n1 c1, .slice b1 m1 d1], .agg #[.bool s2, .slice a2 n2 c2, .slice b2 m2 d2]] w fun e w' => e = .returned (.bool true) ∧ Below w.heap.size w w' := by
  have HB := Lib.hid (below_four w (.cells #[.bool s0, .slice a0 n0 c0, .slice b0 m0 d0] 26) (.cells #[.bool s1, .slice a1 n1 c1, .slice b1 m1 d1] 26) (.cells #[.bool s2, .slice a2 n2 c2, .slice b2 m2 d2] 26) (.cells #[.bool s0, .slice a0 n0 c0, .slice b0 m0 d0, .bool s1, .slice a1 n1 c1, .slice b1 m1 d1, .bool s2, .slice a2 n2 c2, .slice b2 m2 d2] 26))
  have ka0 := cell_new (((w.alloc (.cells #[.bool s0, .slice a0 n0 c0, .slice b0 m0 d0] 26)).alloc (.cells #[.bool s1, .slice a1 n1 c1, .slice b1 m1 d1] 26)).alloc (.cells #[.bool s2, .slice a2 n2 c2, .slice b2 m2 d2] 26)) #[.bool s0, .slice a0 n0 c0, .slice b0 m0 d0, .bool s1, .slice a1 n1 c1, .slice b1 m1 d1, .bool s2, .slice a2 n2 c2, .slice b2 m2 d2] 26 1
  have kb0 := cell_new (((w.alloc (.cells #[.bool s0, .slice a0 n0 c0, .slice b0 m0 d0] 26)).alloc (.cells #[.bool s1, .slice a1 n1 c1, .slice b1 m1 d1] 26)).alloc (.cells #[.bool s2, .slice a2 n2 c2, .slice b2 m2 d2] 26)) #[.bool s0, .slice a0 n0 c0, .slice b0 m0 d0, .bool s1, .slice a1 n1 c1, .slice b1 m1 d1, .bool s2, .slice a2 n2 c2, .slice b2 m2 d2] 26 2
  have ka1 := cell_new (((w.alloc (.cells #[.bool s0, .slice a0 n0 c0, .slice b0 m0 d0] 26)).alloc (.cells #[.bool s1, .slice a1 n1 c1, .slice b1 m1 d1] 26)).alloc (.cells #[.bool s2, .slice a2 n2 c2, .slice b2 m2 d2] 26)) #[.bool s0, .slice a0 n0 c0, .slice b0 m0 d0, .bool s1, .slice a1 n1 c1, .slice b1 m1 d1, .bool s2, .slice a2 n2 c2, .slice b2 m2 d2] 26 4
  have kb1 := cell_new (((w.alloc (.cells #[.bool s0, .slice a0 n0 c0, .slice b0 m0 d0] 26)).alloc (.cells #[.bool s1, .slice a1 n1 c1, .slice b1 m1 d1] 26)).alloc (.cells #[.bool s2, .slice a2 n2 c2, .slice b2 m2 d2] 26)) #[.bool s0, .slice a0 n0 c0, .slice b0 m0 d0, .bool s1, .slice a1 n1 c1, .slice b1 m1 d1, .bool s2, .slice a2 n2 c2, .slice b2 m2 d2] 26 5
  have ka2 := cell_new (((w.alloc (.cells #[.bool s0, .slice a0 n0 c0, .slice b0 m0 d0] 26)).alloc (.cells #[.bool s1, .slice a1 n1 c1, .slice b1 m1 d1] 26)).alloc (.cells #[.bool s2, .slice a2 n2 c2, .slice b2 m2 d2] 26)) #[.bool s0, .slice a0 n0 c0, .slice b0 m0 d0, .bool s1, .slice a1 n1 c1, .slice b1 m1 d1, .bool s2, .slice a2 n2 c2, .slice b2 m2 d2] 26 7
  have kb2 := cell_new (((w.alloc (.cells #[.bool s0, .slice a0 n0 c0, .slice b0 m0 d0] 26)).alloc (.cells #[.bool s1, .slice a1 n1 c1, .slice b1 m1 d1] 26)).alloc (.cells #[.bool s2, .slice a2 n2 c2, .slice b2 m2 d2] 26)) #[.bool s0, .slice a0 n0 c0, .slice b0 m0 d0, .bool s1, .slice a1 n1 c1, .slice b1 m1 d1, .bool s2, .slice a2 n2 c2, .slice b2 m2 d2] 26 8
  rw [show (((w.alloc (.cells #[.bool s0, .slice a0 n0 c0, .slice b0 m0 d0] 26)).alloc (.cells #[.bool s1, .slice a1 n1 c1, .slice b1 m1 d1] 26)).alloc (.cells #[.bool s2, .slice a2 n2 c2, .slice b2 m2 d2] 26)).heap.size = w.heap.size + 1 + 1 + 1 from by simp] at ka0 kb0 ka1 kb1 ka2 kb2
  go_enter Tryz.func6, Tryz.ntmps6
  go_wp2_with fail
  refine (few3_no2m (w.heap.size + 1 + 1 + 1) a0 b0 n0 c0 m0 d0 a1 b1 n1 c1 m1 d1 a2 b2 n2 c2 m2 d2 _ ka0 kb0 ka1 kb1 ka2 kb2 hn0 hm0 hn1 hm1 hn2 hbad).mono ?_
  rintro e w' ⟨rfl, rfl⟩
  go_wp2
  go_ret
  exact ⟨rfl, HB.out⟩

end Go.Proofs.YtnnoicjnggoffaaGreat
/- RatioField, by nought. -/
namespace Go.Proofs.YtnnoicjnggoffaaGreat
set_option linter.unusedVariables false
set_option linter.unusedSimpArgs false
set_option maxRecDepth 100000
open Go.RowKit Nums

set_option maxHeartbeats 16000000 in
theorem ratioField_z (p q r : Rat) {s0 s1 s2 : Bool} {a0 b0 a1 b1 a2 b2 : Option Addr} {n0 c0 m0 d0 n1 c1 m1 d1 n2 c2 m2 d2 : Nat} {xs0 ys0 xs1 ys1 xs2 ys2 : List Nat} {w : World} (h00 : Row w a0 n0 c0 xs0) (h01 : Row w b0 m0 d0 ys0) (hq0 : mkRat (sv s0 (val xs0)) (val ys0) = p) (hn0 : n0 ≤ 4) (hm0 : m0 ≤ 4) (h10 : Row w a1 n1 c1 xs1) (h11 : Row w b1 m1 d1 ys1) (hq1 : mkRat (sv s1 (val xs1)) (val ys1) = q) (hn1 : n1 ≤ 4) (hm1 : m1 ≤ 4) (h20 : Row w a2 n2 c2 xs2) (h21 : Row w b2 m2 d2 ys2) (hq2 : mkRat (sv s2 (val xs2)) (val ys2) = r) (hn2 : n2 ≤ 4) (hm2 : m2 ≤ 4) (hz : q = 0) :
    Calls Tryz.prog 6 #[.agg #[.bool s0, .slice a0 n0 c0, .slice b0 m0 d0], .agg #[.bool s1, .slice a1 n1 c1, .slice b1 m1 d1], .agg #[.bool s2, .slice a2 n2 c2, .slice b2 m2 d2]] w fun e w' => e = .returned (.bool true) ∧ Below w.heap.size w w' := by
  obtain ⟨sm, esm⟩ : ∃ z : Rat, p + q = z := ⟨_, rfl⟩
  obtain ⟨pm, epm⟩ : ∃ z : Rat, p * q = z := ⟨_, rfl⟩
  obtain ⟨sc, esc⟩ : ∃ z : Rat, sm * r = z := ⟨_, rfl⟩
  obtain ⟨ac, eac⟩ : ∃ z : Rat, p * r = z := ⟨_, rfl⟩
  obtain ⟨bc, ebc⟩ : ∃ z : Rat, q * r = z := ⟨_, rfl⟩
  obtain ⟨sd, esd⟩ : ∃ z : Rat, sm + r = z := ⟨_, rfl⟩
  obtain ⟨bd, ebd⟩ : ∃ z : Rat, q + r = z := ⟨_, rfl⟩
  have esm2 : q + p = sm := by rw [← esm]; exact Rat.add_comm _ _
  have epm2 : q * p = pm := by rw [← epm]; exact Rat.mul_comm _ _
  have esc2 : ac + bc = sc := by rw [← eac, ← ebc, ← esc, ← esm]; exact (Rat.add_mul _ _ _).symm
  have esd2 : p + bd = sd := by rw [← ebd, ← esd, ← esm]; exact (Rat.add_assoc _ _ _).symm
  have esb : sm - q = p := by rw [← esm, Rat.sub_eq_add_neg, Rat.add_assoc, ← Rat.sub_eq_add_neg, Rat.sub_self, Rat.add_zero]
  obtain ⟨T, hT⟩ : ∃ T, sgn q.num = T := ⟨_, rfl⟩
  have hT0 : T = 0 := by rw [← hT, hz]; rfl
  subst hT0
  have ESM := Lib.hid esm; clear esm
  have EPM := Lib.hid epm; clear epm
  have ESC := Lib.hid esc; clear esc
  have EAC := Lib.hid eac; clear eac
  have EBC := Lib.hid ebc; clear ebc
  have ESD := Lib.hid esd; clear esd
  have EBD := Lib.hid ebd; clear ebd
  have ESM2 := Lib.hid esm2; clear esm2
  have EPM2 := Lib.hid epm2; clear epm2
  have ESC2 := Lib.hid esc2; clear esc2
  have ESD2 := Lib.hid esd2; clear esd2
  have ESB := Lib.hid esb; clear esb
  have HT := Lib.hid hT; clear hT
  have HZ := Lib.hid hz; clear hz
  have HB := Lib.hid (below_four w (.cells #[.bool s0, .slice a0 n0 c0, .slice b0 m0 d0] 26) (.cells #[.bool s1, .slice a1 n1 c1, .slice b1 m1 d1] 26) (.cells #[.bool s2, .slice a2 n2 c2, .slice b2 m2 d2] 26) (.cells #[.bool s0, .slice a0 n0 c0, .slice b0 m0 d0, .bool s1, .slice a1 n1 c1, .slice b1 m1 d1, .bool s2, .slice a2 n2 c2, .slice b2 m2 d2] 26))
  have T0 : Hid (Tri ((((w.alloc (.cells #[.bool s0, .slice a0 n0 c0, .slice b0 m0 d0] 26)).alloc (.cells #[.bool s1, .slice a1 n1 c1, .slice b1 m1 d1] 26)).alloc (.cells #[.bool s2, .slice a2 n2 c2, .slice b2 m2 d2] 26)).alloc (.cells #[.bool s0, .slice a0 n0 c0, .slice b0 m0 d0, .bool s1, .slice a1 n1 c1, .slice b1 m1 d1, .bool s2, .slice a2 n2 c2, .slice b2 m2 d2] 26)) (w.heap.size) (.bool s0) (.slice a0 n0 c0) (.slice b0 m0 d0)) := ((((tri_new w (.bool s0) (.slice a0 n0 c0) (.slice b0 m0 d0)).alloc _).alloc _).alloc _)
  have T1 : Hid (Tri ((((w.alloc (.cells #[.bool s0, .slice a0 n0 c0, .slice b0 m0 d0] 26)).alloc (.cells #[.bool s1, .slice a1 n1 c1, .slice b1 m1 d1] 26)).alloc (.cells #[.bool s2, .slice a2 n2 c2, .slice b2 m2 d2] 26)).alloc (.cells #[.bool s0, .slice a0 n0 c0, .slice b0 m0 d0, .bool s1, .slice a1 n1 c1, .slice b1 m1 d1, .bool s2, .slice a2 n2 c2, .slice b2 m2 d2] 26)) (w.heap.size + 1) (.bool s1) (.slice a1 n1 c1) (.slice b1 m1 d1)) := (((tri_newE (by simp)).alloc _).alloc _)
  have T2 : Hid (Tri ((((w.alloc (.cells #[.bool s0, .slice a0 n0 c0, .slice b0 m0 d0] 26)).alloc (.cells #[.bool s1, .slice a1 n1 c1, .slice b1 m1 d1] 26)).alloc (.cells #[.bool s2, .slice a2 n2 c2, .slice b2 m2 d2] 26)).alloc (.cells #[.bool s0, .slice a0 n0 c0, .slice b0 m0 d0, .bool s1, .slice a1 n1 c1, .slice b1 m1 d1, .bool s2, .slice a2 n2 c2, .slice b2 m2 d2] 26)) (w.heap.size + 1 + 1) (.bool s2) (.slice a2 n2 c2) (.slice b2 m2 d2)) := ((tri_newE (by simp)).alloc _)
  have ka0 := cell_new (((w.alloc (.cells #[.bool s0, .slice a0 n0 c0, .slice b0 m0 d0] 26)).alloc (.cells #[.bool s1, .slice a1 n1 c1, .slice b1 m1 d1] 26)).alloc (.cells #[.bool s2, .slice a2 n2 c2, .slice b2 m2 d2] 26)) #[.bool s0, .slice a0 n0 c0, .slice b0 m0 d0, .bool s1, .slice a1 n1 c1, .slice b1 m1 d1, .bool s2, .slice a2 n2 c2, .slice b2 m2 d2] 26 1
  have kb0 := cell_new (((w.alloc (.cells #[.bool s0, .slice a0 n0 c0, .slice b0 m0 d0] 26)).alloc (.cells #[.bool s1, .slice a1 n1 c1, .slice b1 m1 d1] 26)).alloc (.cells #[.bool s2, .slice a2 n2 c2, .slice b2 m2 d2] 26)) #[.bool s0, .slice a0 n0 c0, .slice b0 m0 d0, .bool s1, .slice a1 n1 c1, .slice b1 m1 d1, .bool s2, .slice a2 n2 c2, .slice b2 m2 d2] 26 2
  have ka1 := cell_new (((w.alloc (.cells #[.bool s0, .slice a0 n0 c0, .slice b0 m0 d0] 26)).alloc (.cells #[.bool s1, .slice a1 n1 c1, .slice b1 m1 d1] 26)).alloc (.cells #[.bool s2, .slice a2 n2 c2, .slice b2 m2 d2] 26)) #[.bool s0, .slice a0 n0 c0, .slice b0 m0 d0, .bool s1, .slice a1 n1 c1, .slice b1 m1 d1, .bool s2, .slice a2 n2 c2, .slice b2 m2 d2] 26 4
  have kb1 := cell_new (((w.alloc (.cells #[.bool s0, .slice a0 n0 c0, .slice b0 m0 d0] 26)).alloc (.cells #[.bool s1, .slice a1 n1 c1, .slice b1 m1 d1] 26)).alloc (.cells #[.bool s2, .slice a2 n2 c2, .slice b2 m2 d2] 26)) #[.bool s0, .slice a0 n0 c0, .slice b0 m0 d0, .bool s1, .slice a1 n1 c1, .slice b1 m1 d1, .bool s2, .slice a2 n2 c2, .slice b2 m2 d2] 26 5
  have ka2 := cell_new (((w.alloc (.cells #[.bool s0, .slice a0 n0 c0, .slice b0 m0 d0] 26)).alloc (.cells #[.bool s1, .slice a1 n1 c1, .slice b1 m1 d1] 26)).alloc (.cells #[.bool s2, .slice a2 n2 c2, .slice b2 m2 d2] 26)) #[.bool s0, .slice a0 n0 c0, .slice b0 m0 d0, .bool s1, .slice a1 n1 c1, .slice b1 m1 d1, .bool s2, .slice a2 n2 c2, .slice b2 m2 d2] 26 7
  have kb2 := cell_new (((w.alloc (.cells #[.bool s0, .slice a0 n0 c0, .slice b0 m0 d0] 26)).alloc (.cells #[.bool s1, .slice a1 n1 c1, .slice b1 m1 d1] 26)).alloc (.cells #[.bool s2, .slice a2 n2 c2, .slice b2 m2 d2] 26)) #[.bool s0, .slice a0 n0 c0, .slice b0 m0 d0, .bool s1, .slice a1 n1 c1, .slice b1 m1 d1, .bool s2, .slice a2 n2 c2, .slice b2 m2 d2] 26 8
  rw [show (((w.alloc (.cells #[.bool s0, .slice a0 n0 c0, .slice b0 m0 d0] 26)).alloc (.cells #[.bool s1, .slice a1 n1 c1, .slice b1 m1 d1] 26)).alloc (.cells #[.bool s2, .slice a2 n2 c2, .slice b2 m2 d2] 26)).heap.size = w.heap.size + 1 + 1 + 1 from by simp] at ka0 kb0 ka1 kb1 ka2 kb2
  have R00 := Lib.hid (h00.later HB.out); clear h00
  have R01 := Lib.hid (h01.later HB.out); clear h01
  have HQ0 := Lib.hid hq0; clear hq0
  have R10 := Lib.hid (h10.later HB.out); clear h10
  have R11 := Lib.hid (h11.later HB.out); clear h11
  have HQ1 := Lib.hid hq1; clear hq1
  have R20 := Lib.hid (h20.later HB.out); clear h20
  have R21 := Lib.hid (h21.later HB.out); clear h21
  have HQ2 := Lib.hid hq2; clear hq2
  go_enter Tryz.func6, Tryz.ntmps6
  go_wp2_with fail
  refine (few3_yes (w.heap.size + 1 + 1 + 1) a0 b0 n0 c0 m0 d0 a1 b1 n1 c1 m1 d1 a2 b2 n2 c2 m2 d2 _ ka0 kb0 ka1 kb1 ka2 kb2 hn0 hm0 hn1 hm1 hn2 hm2).mono ?_
  rintro e w0 ⟨rfl, rfl⟩
  clear ka0 kb0 ka1 kb1 ka2 kb2
  go_wp2_with fail
  obtain ⟨W, hW⟩ : ∃ W, ((((w.alloc (.cells #[.bool s0, .slice a0 n0 c0, .slice b0 m0 d0] 26)).alloc (.cells #[.bool s1, .slice a1 n1 c1, .slice b1 m1 d1] 26)).alloc (.cells #[.bool s2, .slice a2 n2 c2, .slice b2 m2 d2] 26)).alloc (.cells #[.bool s0, .slice a0 n0 c0, .slice b0 m0 d0, .bool s1, .slice a1 n1 c1, .slice b1 m1 d1, .bool s2, .slice a2 n2 c2, .slice b2 m2 d2] 26)) = W := ⟨_, rfl⟩
  rw [hW] at R00 R01 R10 R11 R20 R21 T0 T1 T2 HB ⊢
  have lW : w.heap.size + 1 + 1 < W.heap.size := T2.out.2.2.2.2.2.2
  clear hW
  obtain ⟨kT00, kT01, kT02, -, -, -, -⟩ := T0.out
  obtain ⟨kT10, kT11, kT12, -, -, -, -⟩ := T1.out
  obtain ⟨kT20, kT21, kT22, -, -, -, -⟩ := T2.out
  go_upto_region 3 with fail
  go_cut [7, 8] (fun s7 s8 wx => ∃ (g5 g6 : Nat) (asm : Option Addr) (nsm csm : Nat) (bsm : Option Addr) (msm dsm : Nat) (apm : Option Addr) (npm cpm : Nat) (bpm : Option Addr) (mpm dpm : Nat), s7 = .pointer (some ⟨g5, 0, none⟩) ∧ s8 = .pointer (some ⟨g6, 0, none⟩) ∧ Hid (g5 ≠ g6 ∧ w.heap.size + 3 ≤ g5 ∧ w.heap.size + 3 ≤ g6 ∧ nsm ≤ 9 ∧ msm ≤ 8 ∧ npm ≤ 8 ∧ mpm ≤ 8 ∧ Tri wx g5 (.bool (decide (sm.num < 0))) (.slice asm nsm csm) (.slice bsm msm dsm) ∧ Tri wx g6 (.bool (decide (pm.num < 0))) (.slice apm npm cpm) (.slice bpm mpm dpm) ∧ Row wx asm nsm csm (limbs sm.num.natAbs) ∧ Row wx bsm msm dsm (limbs sm.den) ∧ Row wx apm npm cpm (limbs pm.num.natAbs) ∧ Row wx bpm mpm dpm (limbs pm.den) ∧ Tri wx (w.heap.size) (.bool s0) (.slice a0 n0 c0) (.slice b0 m0 d0) ∧ Tri wx (w.heap.size + 1) (.bool s1) (.slice a1 n1 c1) (.slice b1 m1 d1) ∧ Tri wx (w.heap.size + 1 + 1) (.bool s2) (.slice a2 n2 c2) (.slice b2 m2 d2) ∧ Row wx a0 n0 c0 xs0 ∧ Row wx a1 n1 c1 xs1 ∧ Row wx a2 n2 c2 xs2 ∧ Row wx b0 m0 d0 ys0 ∧ Row wx b1 m1 d1 ys1 ∧ Row wx b2 m2 d2 ys2 ∧ Below w.heap.size w wx))
  case first =>
    go_region_held3 (fun w' => w'.cell? ⟨w.heap.size, 0, none⟩ = some (.bool s0) ∧ w'.cell? ⟨w.heap.size, 1, none⟩ = some (.slice a0 n0 c0) ∧ w'.cell? ⟨w.heap.size, 2, none⟩ = some (.slice b0 m0 d0) ∧ w'.cell? ⟨w.heap.size + 1, 0, none⟩ = some (.bool s1) ∧ w'.cell? ⟨w.heap.size + 1, 1, none⟩ = some (.slice a1 n1 c1) ∧ w'.cell? ⟨w.heap.size + 1, 2, none⟩ = some (.slice b1 m1 d1))
      (first | (refine ⟨?_, ?_, ?_, ?_, ?_, ?_⟩ <;> with_reducible assumption) | ((refine tri_cells2 ?_ ?_ <;> repeat' (first | with_reducible exact T0.out | with_reducible exact T1.out | with_reducible refine Tri.far ?_ ?_ _ _ _ | with_reducible refine Tri.alloc ?_ _ | with_reducible refine Tri.drew ?_ | omega)); done) | (go_keep; done))
      (first
          | (have mk := G1; clear mk
             go_at_call 20
             refine (mulR 8 8 pm p q (R00.out.later (by first | exact Below.refl _ _ | exact (Below.refl _ _).drew | exact below_one _ _ | exact (below_one _ _).drew | exact below_two _ _ _ | exact (below_two _ _ _).drew)) (R01.out.later (by first | exact Below.refl _ _ | exact (Below.refl _ _).drew | exact below_one _ _ | exact (below_one _ _).drew | exact below_two _ _ _ | exact (below_two _ _ _).drew)) (R10.out.later (by first | exact Below.refl _ _ | exact (Below.refl _ _).drew | exact below_one _ _ | exact (below_one _ _).drew | exact below_two _ _ _ | exact (below_two _ _ _).drew)) (R11.out.later (by first | exact Below.refl _ _ | exact (Below.refl _ _).drew | exact below_one _ _ | exact (below_one _ _).drew | exact below_two _ _ _ | exact (below_two _ _ _).drew)) HQ0.out HQ1.out (by omega) (by omega) (by omega) (by omega) (by omega) (by omega) (by omega) (by omega) (by omega) EPM.out).mono ?_
             rintro e v2 ⟨apm, npm, cpm, bpm, mpm, dpm, rfl, hnpm, hmpm, hr, hr2, hb⟩
             have hbb : Below v1.heap.size v1 v2 := bthen (by first | exact Below.refl _ _ | exact (Below.refl _ _).drew | exact below_one _ _ | exact (below_one _ _).drew | exact below_two _ _ _ | exact (below_two _ _ _).drew) hb
             replace R00 := Lib.hid (R00.out.later hbb)
             replace R01 := Lib.hid (R01.out.later hbb)
             replace R10 := Lib.hid (R10.out.later hbb)
             replace R11 := Lib.hid (R11.out.later hbb)
             replace R20 := Lib.hid (R20.out.later hbb)
             replace R21 := Lib.hid (R21.out.later hbb)
             replace T0 := Lib.hid (T0.out.later hbb)
             replace T1 := Lib.hid (T1.out.later hbb)
             replace T2 := Lib.hid (T2.out.later hbb)
             replace Rsm0 := Lib.hid (Rsm0.out.later hbb)
             replace Rsm1 := Lib.hid (Rsm1.out.later hbb)
             replace HB := Lib.hid (bthen HB.out hbb)
             (first | (replace Y0 := Lib.hid (Y0.out.later hbb); replace Y1 := Lib.hid (Y1.out.later hbb); clear kY00 kY01 kY02 kY03 kY04 kY05 kY06 kY10 kY11 kY12 kY13 kY14 kY15 kY16; obtain ⟨kY00, kY01, kY02, kY03, kY04, kY05, kY06⟩ := Y0.out; obtain ⟨kY10, kY11, kY12, kY13, kY14, kY15, kY16⟩ := Y1.out) | (replace Y0 := Lib.hid (Y0.out.later hbb); clear kY00 kY01 kY02 kY03 kY04 kY05 kY06; obtain ⟨kY00, kY01, kY02, kY03, kY04, kY05, kY06⟩ := Y0.out) | skip)
             (first | (have U0 : Hid (Tri v2 v1.heap.size (.bool false) (.slice none 0 0) (.slice none 0 0)) := ((tri_new v1 (.bool false) (.slice none 0 0) (.slice none 0 0)).alloc (.cells #[.bool false, .slice none 0 0, .slice none 0 0] 26)).later hb; have U1 : Hid (Tri v2 (v1.heap.size + 1) (.bool false) (.slice none 0 0) (.slice none 0 0)) := (tri_next v1 (.cells #[.bool false, .slice none 0 0, .slice none 0 0] 26) (.bool false) (.slice none 0 0) (.slice none 0 0)).later hb; obtain ⟨kU00, kU01, kU02, kU03, kU04, kU05, kU06⟩ := U0.out; obtain ⟨kU10, kU11, kU12, kU13, kU14, kU15, kU16⟩ := U1.out) | (have U0 : Hid (Tri v2 v1.heap.size (.bool false) (.slice none 0 0) (.slice none 0 0)) := (tri_new v1 (.bool false) (.slice none 0 0) (.slice none 0 0)).later hb; obtain ⟨kU00, kU01, kU02, kU03, kU04, kU05, kU06⟩ := U0.out) | skip)
             (try have lu0 : v1.heap.size < v2.heap.size := U0.out.2.2.2.2.2.2)
             (try have lu1 : v1.heap.size + 1 < v2.heap.size := U1.out.2.2.2.2.2.2)
             have Rpm0 := Lib.hid hr; clear hr
             have Rpm1 := Lib.hid hr2; clear hr2
             have l2 : v1.heap.size ≤ v2.heap.size := hbb.size
             clear hb hbb
             clear kT00 kT01 kT02 kT10 kT11 kT12 kT20 kT21 kT22
             obtain ⟨kT00, kT01, kT02, -, -, -, -⟩ := T0.out
             obtain ⟨kT10, kT11, kT12, -, -, -, -⟩ := T1.out
             obtain ⟨kT20, kT21, kT22, -, -, -, -⟩ := T2.out)
          | (skip
             go_at_call 16
             refine (addR 4 4 4 4 9 8 sm p q (R00.out.later (by first | exact Below.refl _ _ | exact (Below.refl _ _).drew | exact below_one _ _ | exact (below_one _ _).drew | exact below_two _ _ _ | exact (below_two _ _ _).drew)) (R01.out.later (by first | exact Below.refl _ _ | exact (Below.refl _ _).drew | exact below_one _ _ | exact (below_one _ _).drew | exact below_two _ _ _ | exact (below_two _ _ _).drew)) (R10.out.later (by first | exact Below.refl _ _ | exact (Below.refl _ _).drew | exact below_one _ _ | exact (below_one _ _).drew | exact below_two _ _ _ | exact (below_two _ _ _).drew)) (R11.out.later (by first | exact Below.refl _ _ | exact (Below.refl _ _).drew | exact below_one _ _ | exact (below_one _ _).drew | exact below_two _ _ _ | exact (below_two _ _ _).drew)) HQ0.out HQ1.out hn0 hm0 hn1 hm1 (by omega) (by omega) (by omega) (by omega) (by omega) (by omega) (by omega) (by omega) (by omega) (by omega) (by omega) ESM.out).mono ?_
             rintro e v1 ⟨asm, nsm, csm, bsm, msm, dsm, rfl, hnsm, hmsm, hr, hr2, hb⟩
             have hbb : Below W.heap.size W v1 := bthen (by first | exact Below.refl _ _ | exact (Below.refl _ _).drew | exact below_one _ _ | exact (below_one _ _).drew | exact below_two _ _ _ | exact (below_two _ _ _).drew) hb
             replace R00 := Lib.hid (R00.out.later hbb)
             replace R01 := Lib.hid (R01.out.later hbb)
             replace R10 := Lib.hid (R10.out.later hbb)
             replace R11 := Lib.hid (R11.out.later hbb)
             replace R20 := Lib.hid (R20.out.later hbb)
             replace R21 := Lib.hid (R21.out.later hbb)
             replace T0 := Lib.hid (T0.out.later hbb)
             replace T1 := Lib.hid (T1.out.later hbb)
             replace T2 := Lib.hid (T2.out.later hbb)
             replace HB := Lib.hid (bthen HB.out hbb)
             (first | (have Y0 : Hid (Tri v1 W.heap.size (.bool false) (.slice none 0 0) (.slice none 0 0)) := ((tri_new W (.bool false) (.slice none 0 0) (.slice none 0 0)).alloc (.cells #[.bool false, .slice none 0 0, .slice none 0 0] 26)).drew.later hb; have Y1 : Hid (Tri v1 (W.heap.size + 1) (.bool false) (.slice none 0 0) (.slice none 0 0)) := (tri_next W (.cells #[.bool false, .slice none 0 0, .slice none 0 0] 26) (.bool false) (.slice none 0 0) (.slice none 0 0)).drew.later hb; obtain ⟨kY00, kY01, kY02, kY03, kY04, kY05, kY06⟩ := Y0.out; obtain ⟨kY10, kY11, kY12, kY13, kY14, kY15, kY16⟩ := Y1.out) | (have Y0 : Hid (Tri v1 W.heap.size (.bool false) (.slice none 0 0) (.slice none 0 0)) := (tri_new W (.bool false) (.slice none 0 0) (.slice none 0 0)).drew.later hb; obtain ⟨kY00, kY01, kY02, kY03, kY04, kY05, kY06⟩ := Y0.out) | skip)
             (try have ly0 : W.heap.size < v1.heap.size := Y0.out.2.2.2.2.2.2)
             (try have ly1 : W.heap.size + 1 < v1.heap.size := Y1.out.2.2.2.2.2.2)
             have Rsm0 := Lib.hid hr; clear hr
             have Rsm1 := Lib.hid hr2; clear hr2
             have l1 : W.heap.size ≤ v1.heap.size := hbb.size
             clear hb hbb
             clear kT00 kT01 kT02 kT10 kT11 kT12 kT20 kT21 kT22
             obtain ⟨kT00, kT01, kT02, -, -, -, -⟩ := T0.out
             obtain ⟨kT10, kT11, kT12, -, -, -, -⟩ := T1.out
             obtain ⟨kT20, kT21, kT22, -, -, -, -⟩ := T2.out
             have G1 : Hid True := trivial))
    all_goals
      go_wp2_with fail
      go_meet
      refine ⟨_, _, asm, nsm, csm, bsm, msm, dsm, apm, npm, cpm, bpm, mpm, dpm, rfl, rfl, ?_, ?_, ?_, ?_, ?_, ?_, ?_, ?_, ?_, ?_, ?_, ?_, ?_, ?_, ?_, ?_, ?_, ?_, ?_, ?_, ?_, ?_, ?_⟩
      · repeat' (first | omega | (simp; done) | (simp; omega))
      · repeat' (first | omega | (simp; done) | (simp; omega))
      · repeat' (first | omega | (simp; done) | (simp; omega))
      · repeat' (first | with_reducible exact hnsm)
      · repeat' (first | with_reducible exact hmsm)
      · repeat' (first | with_reducible exact hnpm)
      · repeat' (first | with_reducible exact hmpm)
      · repeat' (first | with_reducible exact Y0.out | with_reducible exact Y1.out | with_reducible exact U0.out | with_reducible exact U1.out | with_reducible exact T0.out | with_reducible exact T1.out | with_reducible exact T2.out | with_reducible refine tri_newE ?_ | with_reducible refine Tri.put (u := .bool false) (v := .slice none 0 0) (x := .slice none 0 0) ?_ _ _ _ | with_reducible refine Tri.far ?_ ?_ _ _ _ | with_reducible refine Tri.alloc ?_ _ | omega | (simp; done))
      · repeat' (first | with_reducible exact Y0.out | with_reducible exact Y1.out | with_reducible exact U0.out | with_reducible exact U1.out | with_reducible exact T0.out | with_reducible exact T1.out | with_reducible exact T2.out | with_reducible refine tri_newE ?_ | with_reducible refine Tri.put (u := .bool false) (v := .slice none 0 0) (x := .slice none 0 0) ?_ _ _ _ | with_reducible refine Tri.far ?_ ?_ _ _ _ | with_reducible refine Tri.alloc ?_ _ | omega | (simp; done))
      · repeat' (first | with_reducible exact Rsm0.out | with_reducible refine Row.alloc ?_ _ | with_reducible refine Row.put3 (s := false) (a1 := none) (n1 := 0) (c1 := 0) (a2 := none) (n2 := 0) (c2 := 0) ?_ ?_ _ _ _ | with_reducible exact Y0.out | with_reducible exact Y1.out | with_reducible exact U0.out | with_reducible exact U1.out | with_reducible exact T0.out | with_reducible exact T1.out | with_reducible exact T2.out | with_reducible refine tri_newE ?_ | with_reducible refine Tri.put (u := .bool false) (v := .slice none 0 0) (x := .slice none 0 0) ?_ _ _ _ | with_reducible refine Tri.far ?_ ?_ _ _ _ | with_reducible refine Tri.alloc ?_ _ | omega | (simp; done))
      · repeat' (first | with_reducible exact Rsm1.out | with_reducible refine Row.alloc ?_ _ | with_reducible refine Row.put3 (s := false) (a1 := none) (n1 := 0) (c1 := 0) (a2 := none) (n2 := 0) (c2 := 0) ?_ ?_ _ _ _ | with_reducible exact Y0.out | with_reducible exact Y1.out | with_reducible exact U0.out | with_reducible exact U1.out | with_reducible exact T0.out | with_reducible exact T1.out | with_reducible exact T2.out | with_reducible refine tri_newE ?_ | with_reducible refine Tri.put (u := .bool false) (v := .slice none 0 0) (x := .slice none 0 0) ?_ _ _ _ | with_reducible refine Tri.far ?_ ?_ _ _ _ | with_reducible refine Tri.alloc ?_ _ | omega | (simp; done))
      · repeat' (first | with_reducible exact Rpm0.out | with_reducible refine Row.alloc ?_ _ | with_reducible refine Row.put3 (s := false) (a1 := none) (n1 := 0) (c1 := 0) (a2 := none) (n2 := 0) (c2 := 0) ?_ ?_ _ _ _ | with_reducible exact Y0.out | with_reducible exact Y1.out | with_reducible exact U0.out | with_reducible exact U1.out | with_reducible exact T0.out | with_reducible exact T1.out | with_reducible exact T2.out | with_reducible refine tri_newE ?_ | with_reducible refine Tri.put (u := .bool false) (v := .slice none 0 0) (x := .slice none 0 0) ?_ _ _ _ | with_reducible refine Tri.far ?_ ?_ _ _ _ | with_reducible refine Tri.alloc ?_ _ | omega | (simp; done))
      · repeat' (first | with_reducible exact Rpm1.out | with_reducible refine Row.alloc ?_ _ | with_reducible refine Row.put3 (s := false) (a1 := none) (n1 := 0) (c1 := 0) (a2 := none) (n2 := 0) (c2 := 0) ?_ ?_ _ _ _ | with_reducible exact Y0.out | with_reducible exact Y1.out | with_reducible exact U0.out | with_reducible exact U1.out | with_reducible exact T0.out | with_reducible exact T1.out | with_reducible exact T2.out | with_reducible refine tri_newE ?_ | with_reducible refine Tri.put (u := .bool false) (v := .slice none 0 0) (x := .slice none 0 0) ?_ _ _ _ | with_reducible refine Tri.far ?_ ?_ _ _ _ | with_reducible refine Tri.alloc ?_ _ | omega | (simp; done))
      · repeat' (first | with_reducible exact Y0.out | with_reducible exact Y1.out | with_reducible exact U0.out | with_reducible exact U1.out | with_reducible exact T0.out | with_reducible exact T1.out | with_reducible exact T2.out | with_reducible refine tri_newE ?_ | with_reducible refine Tri.put (u := .bool false) (v := .slice none 0 0) (x := .slice none 0 0) ?_ _ _ _ | with_reducible refine Tri.far ?_ ?_ _ _ _ | with_reducible refine Tri.alloc ?_ _ | omega | (simp; done))
      · repeat' (first | with_reducible exact Y0.out | with_reducible exact Y1.out | with_reducible exact U0.out | with_reducible exact U1.out | with_reducible exact T0.out | with_reducible exact T1.out | with_reducible exact T2.out | with_reducible refine tri_newE ?_ | with_reducible refine Tri.put (u := .bool false) (v := .slice none 0 0) (x := .slice none 0 0) ?_ _ _ _ | with_reducible refine Tri.far ?_ ?_ _ _ _ | with_reducible refine Tri.alloc ?_ _ | omega | (simp; done))
      · repeat' (first | with_reducible exact Y0.out | with_reducible exact Y1.out | with_reducible exact U0.out | with_reducible exact U1.out | with_reducible exact T0.out | with_reducible exact T1.out | with_reducible exact T2.out | with_reducible refine tri_newE ?_ | with_reducible refine Tri.put (u := .bool false) (v := .slice none 0 0) (x := .slice none 0 0) ?_ _ _ _ | with_reducible refine Tri.far ?_ ?_ _ _ _ | with_reducible refine Tri.alloc ?_ _ | omega | (simp; done))
      · repeat' (first | with_reducible exact R00.out | with_reducible refine Row.alloc ?_ _ | with_reducible refine Row.put3 (s := false) (a1 := none) (n1 := 0) (c1 := 0) (a2 := none) (n2 := 0) (c2 := 0) ?_ ?_ _ _ _ | with_reducible exact Y0.out | with_reducible exact Y1.out | with_reducible exact U0.out | with_reducible exact U1.out | with_reducible exact T0.out | with_reducible exact T1.out | with_reducible exact T2.out | with_reducible refine tri_newE ?_ | with_reducible refine Tri.put (u := .bool false) (v := .slice none 0 0) (x := .slice none 0 0) ?_ _ _ _ | with_reducible refine Tri.far ?_ ?_ _ _ _ | with_reducible refine Tri.alloc ?_ _ | omega | (simp; done))
      · repeat' (first | with_reducible exact R10.out | with_reducible refine Row.alloc ?_ _ | with_reducible refine Row.put3 (s := false) (a1 := none) (n1 := 0) (c1 := 0) (a2 := none) (n2 := 0) (c2 := 0) ?_ ?_ _ _ _ | with_reducible exact Y0.out | with_reducible exact Y1.out | with_reducible exact U0.out | with_reducible exact U1.out | with_reducible exact T0.out | with_reducible exact T1.out | with_reducible exact T2.out | with_reducible refine tri_newE ?_ | with_reducible refine Tri.put (u := .bool false) (v := .slice none 0 0) (x := .slice none 0 0) ?_ _ _ _ | with_reducible refine Tri.far ?_ ?_ _ _ _ | with_reducible refine Tri.alloc ?_ _ | omega | (simp; done))
      · repeat' (first | with_reducible exact R20.out | with_reducible refine Row.alloc ?_ _ | with_reducible refine Row.put3 (s := false) (a1 := none) (n1 := 0) (c1 := 0) (a2 := none) (n2 := 0) (c2 := 0) ?_ ?_ _ _ _ | with_reducible exact Y0.out | with_reducible exact Y1.out | with_reducible exact U0.out | with_reducible exact U1.out | with_reducible exact T0.out | with_reducible exact T1.out | with_reducible exact T2.out | with_reducible refine tri_newE ?_ | with_reducible refine Tri.put (u := .bool false) (v := .slice none 0 0) (x := .slice none 0 0) ?_ _ _ _ | with_reducible refine Tri.far ?_ ?_ _ _ _ | with_reducible refine Tri.alloc ?_ _ | omega | (simp; done))
      · repeat' (first | with_reducible exact R01.out | with_reducible refine Row.alloc ?_ _ | with_reducible refine Row.put3 (s := false) (a1 := none) (n1 := 0) (c1 := 0) (a2 := none) (n2 := 0) (c2 := 0) ?_ ?_ _ _ _ | with_reducible exact Y0.out | with_reducible exact Y1.out | with_reducible exact U0.out | with_reducible exact U1.out | with_reducible exact T0.out | with_reducible exact T1.out | with_reducible exact T2.out | with_reducible refine tri_newE ?_ | with_reducible refine Tri.put (u := .bool false) (v := .slice none 0 0) (x := .slice none 0 0) ?_ _ _ _ | with_reducible refine Tri.far ?_ ?_ _ _ _ | with_reducible refine Tri.alloc ?_ _ | omega | (simp; done))
      · repeat' (first | with_reducible exact R11.out | with_reducible refine Row.alloc ?_ _ | with_reducible refine Row.put3 (s := false) (a1 := none) (n1 := 0) (c1 := 0) (a2 := none) (n2 := 0) (c2 := 0) ?_ ?_ _ _ _ | with_reducible exact Y0.out | with_reducible exact Y1.out | with_reducible exact U0.out | with_reducible exact U1.out | with_reducible exact T0.out | with_reducible exact T1.out | with_reducible exact T2.out | with_reducible refine tri_newE ?_ | with_reducible refine Tri.put (u := .bool false) (v := .slice none 0 0) (x := .slice none 0 0) ?_ _ _ _ | with_reducible refine Tri.far ?_ ?_ _ _ _ | with_reducible refine Tri.alloc ?_ _ | omega | (simp; done))
      · repeat' (first | with_reducible exact R21.out | with_reducible refine Row.alloc ?_ _ | with_reducible refine Row.put3 (s := false) (a1 := none) (n1 := 0) (c1 := 0) (a2 := none) (n2 := 0) (c2 := 0) ?_ ?_ _ _ _ | with_reducible exact Y0.out | with_reducible exact Y1.out | with_reducible exact U0.out | with_reducible exact U1.out | with_reducible exact T0.out | with_reducible exact T1.out | with_reducible exact T2.out | with_reducible refine tri_newE ?_ | with_reducible refine Tri.put (u := .bool false) (v := .slice none 0 0) (x := .slice none 0 0) ?_ _ _ _ | with_reducible refine Tri.far ?_ ?_ _ _ _ | with_reducible refine Tri.alloc ?_ _ | omega | (simp; done))
      · repeat' (first | with_reducible exact HB.out | with_reducible refine Below.alloc ?_ ?_ _ | with_reducible refine below_put3 ?_ ?_ _ _ _ | omega | (simp; omega))
  case rest =>
    obtain ⟨g5, g6, asm, nsm, csm, bsm, msm, dsm, apm, npm, cpm, bpm, mpm, dpm, rfl, rfl, hm⟩ := hcut
    clear R00 R01 R10 R11 R20 R21 T0 T1 T2 HB kT00 kT01 kT02 kT10 kT11 kT12 kT20 kT21 kT22
    obtain ⟨ne, lg5, lg6, hnsm, hmsm, hnpm, hmpm, x1, x2, r1, r2, r3, r4, zT0, zT1, zT2, zR00, zR10, zR20, zR01, zR11, zR21, hb⟩ := hm.out
    clear hm
    have Xsm := Lib.hid x1
    have Xpm := Lib.hid x2
    have Rsm0 := Lib.hid r1
    have Rsm1 := Lib.hid r2
    have Rpm0 := Lib.hid r3
    have Rpm1 := Lib.hid r4
    have HB := Lib.hid hb
    have T0 := Lib.hid zT0
    have T1 := Lib.hid zT1
    have T2 := Lib.hid zT2
    have R00 := Lib.hid zR00
    have R10 := Lib.hid zR10
    have R20 := Lib.hid zR20
    have R01 := Lib.hid zR01
    have R11 := Lib.hid zR11
    have R21 := Lib.hid zR21
    clear x1 x2 r1 r2 r3 r4 hb zT0 zT1 zT2 zR00 zR10 zR20 zR01 zR11 zR21
    obtain ⟨kT00, kT01, kT02, -, -, -, -⟩ := T0.out
    obtain ⟨kT10, kT11, kT12, -, -, -, -⟩ := T1.out
    obtain ⟨kT20, kT21, kT22, -, -, -, -⟩ := T2.out
    obtain ⟨kXsm0, kXsm1, kXsm2, -, -, -, -⟩ := Xsm.out
    obtain ⟨kXpm0, kXpm1, kXpm2, -, -, -, -⟩ := Xpm.out
    go_wp2_with fail
    refine (divR_zero p q R00.out R01.out R10.out R11.out HQ0.out HQ1.out (by omega) (by omega) (by omega) (by omega) HZ.out).mono ?_
    rintro e w21 ⟨rfl, hb⟩
    replace R00 := Lib.hid (R00.out.later hb)
    replace R01 := Lib.hid (R01.out.later hb)
    replace R10 := Lib.hid (R10.out.later hb)
    replace R11 := Lib.hid (R11.out.later hb)
    replace R20 := Lib.hid (R20.out.later hb)
    replace R21 := Lib.hid (R21.out.later hb)
    replace Rsm0 := Lib.hid (Rsm0.out.later hb)
    replace Rsm1 := Lib.hid (Rsm1.out.later hb)
    replace Rpm0 := Lib.hid (Rpm0.out.later hb)
    replace Rpm1 := Lib.hid (Rpm1.out.later hb)
    replace T0 := Lib.hid (T0.out.later hb)
    replace T1 := Lib.hid (T1.out.later hb)
    replace T2 := Lib.hid (T2.out.later hb)
    replace Xsm := Lib.hid (Xsm.out.later hb)
    replace Xpm := Lib.hid (Xpm.out.later hb)
    replace HB := Lib.hid (bthen HB.out hb)
    clear hb
    clear kT00 kT01 kT02 kT10 kT11 kT12 kT20 kT21 kT22 kXsm0 kXsm1 kXsm2 kXpm0 kXpm1 kXpm2
    have hb1 := below_one w21 (.cells #[.bool false, .slice none 0 0, .slice none 0 0] 26)
    replace R00 := Lib.hid (R00.out.later hb1)
    replace R01 := Lib.hid (R01.out.later hb1)
    replace R10 := Lib.hid (R10.out.later hb1)
    replace R11 := Lib.hid (R11.out.later hb1)
    replace R20 := Lib.hid (R20.out.later hb1)
    replace R21 := Lib.hid (R21.out.later hb1)
    replace Rsm0 := Lib.hid (Rsm0.out.later hb1)
    replace Rsm1 := Lib.hid (Rsm1.out.later hb1)
    replace Rpm0 := Lib.hid (Rpm0.out.later hb1)
    replace Rpm1 := Lib.hid (Rpm1.out.later hb1)
    replace T0 := Lib.hid (T0.out.later hb1)
    replace T1 := Lib.hid (T1.out.later hb1)
    replace T2 := Lib.hid (T2.out.later hb1)
    replace Xsm := Lib.hid (Xsm.out.later hb1)
    replace Xpm := Lib.hid (Xpm.out.later hb1)
    replace HB := Lib.hid (bthen HB.out hb1)
    clear hb1
    obtain ⟨kT00, kT01, kT02, -, -, -, -⟩ := T0.out
    obtain ⟨kT10, kT11, kT12, -, -, -, -⟩ := T1.out
    obtain ⟨kT20, kT21, kT22, -, -, -, -⟩ := T2.out
    obtain ⟨kXsm0, kXsm1, kXsm2, -, -, -, -⟩ := Xsm.out
    obtain ⟨kXpm0, kXpm1, kXpm2, -, -, -, -⟩ := Xpm.out
    go_wp2_with fail
    refine (signR 0 q R10.out R11.out HQ1.out (by omega) (by omega) HT.out).mono ?_
    rintro e w22 ⟨rfl, hb⟩
    replace R00 := Lib.hid (R00.out.later hb)
    replace R01 := Lib.hid (R01.out.later hb)
    replace R10 := Lib.hid (R10.out.later hb)
    replace R11 := Lib.hid (R11.out.later hb)
    replace R20 := Lib.hid (R20.out.later hb)
    replace R21 := Lib.hid (R21.out.later hb)
    replace Rsm0 := Lib.hid (Rsm0.out.later hb)
    replace Rsm1 := Lib.hid (Rsm1.out.later hb)
    replace Rpm0 := Lib.hid (Rpm0.out.later hb)
    replace Rpm1 := Lib.hid (Rpm1.out.later hb)
    replace T0 := Lib.hid (T0.out.later hb)
    replace T1 := Lib.hid (T1.out.later hb)
    replace T2 := Lib.hid (T2.out.later hb)
    replace Xsm := Lib.hid (Xsm.out.later hb)
    replace Xpm := Lib.hid (Xpm.out.later hb)
    replace HB := Lib.hid (bthen HB.out hb)
    clear hb
    clear kT00 kT01 kT02 kT10 kT11 kT12 kT20 kT21 kT22 kXsm0 kXsm1 kXsm2 kXpm0 kXpm1 kXpm2
    obtain ⟨kT00, kT01, kT02, -, -, -, -⟩ := T0.out
    obtain ⟨kT10, kT11, kT12, -, -, -, -⟩ := T1.out
    obtain ⟨kT20, kT21, kT22, -, -, -, -⟩ := T2.out
    obtain ⟨kXsm0, kXsm1, kXsm2, -, -, -, -⟩ := Xsm.out
    obtain ⟨kXpm0, kXpm1, kXpm2, -, -, -, -⟩ := Xpm.out
    go_wp2_with fail
    clear kT00 kT01 kT02 kT10 kT11 kT12 kT20 kT21 kT22 kXsm0 kXsm1 kXsm2 kXpm0 kXpm1 kXpm2
    obtain ⟨kT00, kT01, kT02, -, -, -, -⟩ := T0.out
    obtain ⟨kT10, kT11, kT12, -, -, -, -⟩ := T1.out
    obtain ⟨kT20, kT21, kT22, -, -, -, -⟩ := T2.out
    obtain ⟨kXsm0, kXsm1, kXsm2, -, -, -, -⟩ := Xsm.out
    obtain ⟨kXpm0, kXpm1, kXpm2, -, -, -, -⟩ := Xpm.out
    replace R00 := Lib.hid R00.out.drew
    replace R01 := Lib.hid R01.out.drew
    replace R10 := Lib.hid R10.out.drew
    replace R11 := Lib.hid R11.out.drew
    replace R20 := Lib.hid R20.out.drew
    replace R21 := Lib.hid R21.out.drew
    replace Rsm0 := Lib.hid Rsm0.out.drew
    replace Rsm1 := Lib.hid Rsm1.out.drew
    replace Rpm0 := Lib.hid Rpm0.out.drew
    replace Rpm1 := Lib.hid Rpm1.out.drew
    replace T0 := Lib.hid T0.out.drew
    replace T1 := Lib.hid T1.out.drew
    replace T2 := Lib.hid T2.out.drew
    replace Xsm := Lib.hid Xsm.out.drew
    replace Xpm := Lib.hid Xpm.out.drew
    replace HB := Lib.hid HB.out.drew
    go_region_held3 (fun w' => w'.cell? ⟨w.heap.size, 0, none⟩ = some (.bool s0) ∧ w'.cell? ⟨w.heap.size, 1, none⟩ = some (.slice a0 n0 c0) ∧ w'.cell? ⟨w.heap.size, 2, none⟩ = some (.slice b0 m0 d0) ∧ w'.cell? ⟨w.heap.size + 1, 0, none⟩ = some (.bool s1) ∧ w'.cell? ⟨w.heap.size + 1, 1, none⟩ = some (.slice a1 n1 c1) ∧ w'.cell? ⟨w.heap.size + 1, 2, none⟩ = some (.slice b1 m1 d1) ∧ w'.cell? ⟨w.heap.size + 1 + 1, 0, none⟩ = some (.bool s2) ∧ w'.cell? ⟨w.heap.size + 1 + 1, 1, none⟩ = some (.slice a2 n2 c2) ∧ w'.cell? ⟨w.heap.size + 1 + 1, 2, none⟩ = some (.slice b2 m2 d2) ∧ w'.cell? ⟨g5, 0, none⟩ = some (.bool (decide (sm.num < 0))) ∧ w'.cell? ⟨g5, 1, none⟩ = some (.slice asm nsm csm) ∧ w'.cell? ⟨g5, 2, none⟩ = some (.slice bsm msm dsm) ∧ w'.cell? ⟨g6, 0, none⟩ = some (.bool (decide (pm.num < 0))) ∧ w'.cell? ⟨g6, 1, none⟩ = some (.slice apm npm cpm) ∧ w'.cell? ⟨g6, 2, none⟩ = some (.slice bpm mpm dpm))
      (first | (refine ⟨?_, ?_, ?_, ?_, ?_, ?_, ?_, ?_, ?_, ?_, ?_, ?_, ?_, ?_, ?_⟩ <;> with_reducible assumption) | (go_keep; done) | (refine ⟨?_, ?_, ?_, ?_, ?_, ?_, ?_, ?_, ?_, ?_, ?_, ?_, ?_, ?_, ?_⟩ <;> (repeat rw [cell_other (by first | (simp; done) | (simp; omega))]) <;> with_reducible assumption))
      (first
        | (have mk := G16; clear mk
           try (rw [if_pos (by rfl)]; go_simp)
           go_at_call 26
           refine (awakeR _).mono ?_
           rintro e v17 ⟨rfl, hb⟩
           replace R00 := Lib.hid (R00.out.later hb)
           replace R01 := Lib.hid (R01.out.later hb)
           replace R10 := Lib.hid (R10.out.later hb)
           replace R11 := Lib.hid (R11.out.later hb)
           replace R20 := Lib.hid (R20.out.later hb)
           replace R21 := Lib.hid (R21.out.later hb)
           replace Rsm0 := Lib.hid (Rsm0.out.later hb)
           replace Rsm1 := Lib.hid (Rsm1.out.later hb)
           replace Rpm0 := Lib.hid (Rpm0.out.later hb)
           replace Rpm1 := Lib.hid (Rpm1.out.later hb)
           replace T0 := Lib.hid (T0.out.later hb)
           replace T1 := Lib.hid (T1.out.later hb)
           replace T2 := Lib.hid (T2.out.later hb)
           replace Xsm := Lib.hid (Xsm.out.later hb)
           replace Xpm := Lib.hid (Xpm.out.later hb)
           replace HB := Lib.hid (bthen HB.out hb); clear hb
           clear kT00 kT01 kT02 kT10 kT11 kT12 kT20 kT21 kT22 kXsm0 kXsm1 kXsm2 kXpm0 kXpm1 kXpm2
           obtain ⟨kT00, kT01, kT02, -, -, -, -⟩ := T0.out
           obtain ⟨kT10, kT11, kT12, -, -, -, -⟩ := T1.out
           obtain ⟨kT20, kT21, kT22, -, -, -, -⟩ := T2.out
           obtain ⟨kXsm0, kXsm1, kXsm2, -, -, -, -⟩ := Xsm.out
           obtain ⟨kXpm0, kXpm1, kXpm2, -, -, -, -⟩ := Xpm.out
           have G17 : Hid True := trivial
           try go_wp2_with fail)
        | (have mk := G15; clear mk
           try (rw [if_pos (by rfl)]; go_simp)
           go_at_call 13
           refine (sameT Rxa0.out Rxa1.out Rxb0.out Rxb1.out rfl (by omega) (by omega) (by omega) (by omega)).mono ?_
           rintro e v16 ⟨rfl, hb⟩
           clear Rxa0
           clear Rxa1
           clear Rxb0
           clear Rxb1
           replace R00 := Lib.hid (R00.out.later hb)
           replace R01 := Lib.hid (R01.out.later hb)
           replace R10 := Lib.hid (R10.out.later hb)
           replace R11 := Lib.hid (R11.out.later hb)
           replace R20 := Lib.hid (R20.out.later hb)
           replace R21 := Lib.hid (R21.out.later hb)
           replace Rsm0 := Lib.hid (Rsm0.out.later hb)
           replace Rsm1 := Lib.hid (Rsm1.out.later hb)
           replace Rpm0 := Lib.hid (Rpm0.out.later hb)
           replace Rpm1 := Lib.hid (Rpm1.out.later hb)
           replace T0 := Lib.hid (T0.out.later hb)
           replace T1 := Lib.hid (T1.out.later hb)
           replace T2 := Lib.hid (T2.out.later hb)
           replace Xsm := Lib.hid (Xsm.out.later hb)
           replace Xpm := Lib.hid (Xpm.out.later hb)
           replace HB := Lib.hid (bthen HB.out hb); clear hb
           clear kT00 kT01 kT02 kT10 kT11 kT12 kT20 kT21 kT22 kXsm0 kXsm1 kXsm2 kXpm0 kXpm1 kXpm2
           obtain ⟨kT00, kT01, kT02, -, -, -, -⟩ := T0.out
           obtain ⟨kT10, kT11, kT12, -, -, -, -⟩ := T1.out
           obtain ⟨kT20, kT21, kT22, -, -, -, -⟩ := T2.out
           obtain ⟨kXsm0, kXsm1, kXsm2, -, -, -, -⟩ := Xsm.out
           obtain ⟨kXpm0, kXpm1, kXpm2, -, -, -, -⟩ := Xpm.out
           have G16 : Hid True := trivial
           try go_wp2_with fail)
        | (have mk := G14; clear mk
           try (rw [if_pos (by rfl)]; go_simp)
           go_at_call 14
           refine (normR 4 4 p R00.out R01.out HQ0.out hn0 hm0 (by omega) (by omega) (by omega)).mono ?_
           rintro e v15 ⟨axb, nxb, cxb, bxb, mxb, dxb, rfl, hnxb, hmxb, hr, hr2, hb⟩
           replace R00 := Lib.hid (R00.out.later hb)
           replace R01 := Lib.hid (R01.out.later hb)
           replace R10 := Lib.hid (R10.out.later hb)
           replace R11 := Lib.hid (R11.out.later hb)
           replace R20 := Lib.hid (R20.out.later hb)
           replace R21 := Lib.hid (R21.out.later hb)
           replace Rsm0 := Lib.hid (Rsm0.out.later hb)
           replace Rsm1 := Lib.hid (Rsm1.out.later hb)
           replace Rpm0 := Lib.hid (Rpm0.out.later hb)
           replace Rpm1 := Lib.hid (Rpm1.out.later hb)
           replace Rxa0 := Lib.hid (Rxa0.out.later hb)
           replace Rxa1 := Lib.hid (Rxa1.out.later hb)
           replace T0 := Lib.hid (T0.out.later hb)
           replace T1 := Lib.hid (T1.out.later hb)
           replace T2 := Lib.hid (T2.out.later hb)
           replace Xsm := Lib.hid (Xsm.out.later hb)
           replace Xpm := Lib.hid (Xpm.out.later hb)
           replace HB := Lib.hid (bthen HB.out hb); clear hb
           clear kT00 kT01 kT02 kT10 kT11 kT12 kT20 kT21 kT22 kXsm0 kXsm1 kXsm2 kXpm0 kXpm1 kXpm2
           obtain ⟨kT00, kT01, kT02, -, -, -, -⟩ := T0.out
           obtain ⟨kT10, kT11, kT12, -, -, -, -⟩ := T1.out
           obtain ⟨kT20, kT21, kT22, -, -, -, -⟩ := T2.out
           obtain ⟨kXsm0, kXsm1, kXsm2, -, -, -, -⟩ := Xsm.out
           obtain ⟨kXpm0, kXpm1, kXpm2, -, -, -, -⟩ := Xpm.out
           have Rxb0 := Lib.hid hr; clear hr
           have Rxb1 := Lib.hid hr2; clear hr2
           have G15 : Hid True := trivial
           try go_wp2_with fail)
        | (have mk := G13; clear mk
           try (rw [if_pos (by rfl)]; go_simp)
           go_at_call 18
           refine (subR 9 8 4 4 14 12 p sm q Rsm0.out Rsm1.out R10.out R11.out (rat_limbs sm) HQ1.out hnsm hmsm hn1 hm1 (by omega) (by omega) (by omega) (by omega) (by omega) (by omega) (by omega) (by omega) (by omega) (by omega) (by omega) ESB.out).mono ?_
           rintro e v14 ⟨axa, nxa, cxa, bxa, mxa, dxa, rfl, hnxa, hmxa, hr, hr2, hb⟩
           replace R00 := Lib.hid (R00.out.later hb)
           replace R01 := Lib.hid (R01.out.later hb)
           replace R10 := Lib.hid (R10.out.later hb)
           replace R11 := Lib.hid (R11.out.later hb)
           replace R20 := Lib.hid (R20.out.later hb)
           replace R21 := Lib.hid (R21.out.later hb)
           replace Rsm0 := Lib.hid (Rsm0.out.later hb)
           replace Rsm1 := Lib.hid (Rsm1.out.later hb)
           replace Rpm0 := Lib.hid (Rpm0.out.later hb)
           replace Rpm1 := Lib.hid (Rpm1.out.later hb)
           replace T0 := Lib.hid (T0.out.later hb)
           replace T1 := Lib.hid (T1.out.later hb)
           replace T2 := Lib.hid (T2.out.later hb)
           replace Xsm := Lib.hid (Xsm.out.later hb)
           replace Xpm := Lib.hid (Xpm.out.later hb)
           replace HB := Lib.hid (bthen HB.out hb); clear hb
           clear kT00 kT01 kT02 kT10 kT11 kT12 kT20 kT21 kT22 kXsm0 kXsm1 kXsm2 kXpm0 kXpm1 kXpm2
           obtain ⟨kT00, kT01, kT02, -, -, -, -⟩ := T0.out
           obtain ⟨kT10, kT11, kT12, -, -, -, -⟩ := T1.out
           obtain ⟨kT20, kT21, kT22, -, -, -, -⟩ := T2.out
           obtain ⟨kXsm0, kXsm1, kXsm2, -, -, -, -⟩ := Xsm.out
           obtain ⟨kXpm0, kXpm1, kXpm2, -, -, -, -⟩ := Xpm.out
           have Rxa0 := Lib.hid hr; clear hr
           have Rxa1 := Lib.hid hr2; clear hr2
           have G14 : Hid True := trivial
           try go_wp2_with fail)
        | (have mk := G12; clear mk
           try (rw [if_pos (by rfl)]; go_simp)
           go_at_call 13
           refine (sameT Rx70.out Rx71.out Rx90.out Rx91.out rfl (by omega) (by omega) (by omega) (by omega)).mono ?_
           rintro e v13 ⟨rfl, hb⟩
           clear Rx70
           clear Rx71
           clear Rx90
           clear Rx91
           replace R00 := Lib.hid (R00.out.later hb)
           replace R01 := Lib.hid (R01.out.later hb)
           replace R10 := Lib.hid (R10.out.later hb)
           replace R11 := Lib.hid (R11.out.later hb)
           replace R20 := Lib.hid (R20.out.later hb)
           replace R21 := Lib.hid (R21.out.later hb)
           replace Rsm0 := Lib.hid (Rsm0.out.later hb)
           replace Rsm1 := Lib.hid (Rsm1.out.later hb)
           replace Rpm0 := Lib.hid (Rpm0.out.later hb)
           replace Rpm1 := Lib.hid (Rpm1.out.later hb)
           replace T0 := Lib.hid (T0.out.later hb)
           replace T1 := Lib.hid (T1.out.later hb)
           replace T2 := Lib.hid (T2.out.later hb)
           replace Xsm := Lib.hid (Xsm.out.later hb)
           replace Xpm := Lib.hid (Xpm.out.later hb)
           replace HB := Lib.hid (bthen HB.out hb); clear hb
           clear kT00 kT01 kT02 kT10 kT11 kT12 kT20 kT21 kT22 kXsm0 kXsm1 kXsm2 kXpm0 kXpm1 kXpm2
           obtain ⟨kT00, kT01, kT02, -, -, -, -⟩ := T0.out
           obtain ⟨kT10, kT11, kT12, -, -, -, -⟩ := T1.out
           obtain ⟨kT20, kT21, kT22, -, -, -, -⟩ := T2.out
           obtain ⟨kXsm0, kXsm1, kXsm2, -, -, -, -⟩ := Xsm.out
           obtain ⟨kXpm0, kXpm1, kXpm2, -, -, -, -⟩ := Xpm.out
           have G13 : Hid True := trivial
           try go_wp2_with fail)
        | (have mk := G11; clear mk
           try (rw [if_pos (by rfl)]; go_simp)
           go_at_call 16
           refine (addR 4 4 9 8 14 12 sd p bd R00.out R01.out Rx80.out Rx81.out HQ0.out (rat_limbs bd) hn0 hm0 hnx8 hmx8 (by omega) (by omega) (by omega) (by omega) (by omega) (by omega) (by omega) (by omega) (by omega) (by omega) (by omega) ESD2.out).mono ?_
           rintro e v12 ⟨ax9, nx9, cx9, bx9, mx9, dx9, rfl, hnx9, hmx9, hr, hr2, hb⟩
           clear Rx80
           clear Rx81
           replace R00 := Lib.hid (R00.out.later hb)
           replace R01 := Lib.hid (R01.out.later hb)
           replace R10 := Lib.hid (R10.out.later hb)
           replace R11 := Lib.hid (R11.out.later hb)
           replace R20 := Lib.hid (R20.out.later hb)
           replace R21 := Lib.hid (R21.out.later hb)
           replace Rsm0 := Lib.hid (Rsm0.out.later hb)
           replace Rsm1 := Lib.hid (Rsm1.out.later hb)
           replace Rpm0 := Lib.hid (Rpm0.out.later hb)
           replace Rpm1 := Lib.hid (Rpm1.out.later hb)
           replace Rx70 := Lib.hid (Rx70.out.later hb)
           replace Rx71 := Lib.hid (Rx71.out.later hb)
           replace T0 := Lib.hid (T0.out.later hb)
           replace T1 := Lib.hid (T1.out.later hb)
           replace T2 := Lib.hid (T2.out.later hb)
           replace Xsm := Lib.hid (Xsm.out.later hb)
           replace Xpm := Lib.hid (Xpm.out.later hb)
           replace HB := Lib.hid (bthen HB.out hb); clear hb
           clear kT00 kT01 kT02 kT10 kT11 kT12 kT20 kT21 kT22 kXsm0 kXsm1 kXsm2 kXpm0 kXpm1 kXpm2
           obtain ⟨kT00, kT01, kT02, -, -, -, -⟩ := T0.out
           obtain ⟨kT10, kT11, kT12, -, -, -, -⟩ := T1.out
           obtain ⟨kT20, kT21, kT22, -, -, -, -⟩ := T2.out
           obtain ⟨kXsm0, kXsm1, kXsm2, -, -, -, -⟩ := Xsm.out
           obtain ⟨kXpm0, kXpm1, kXpm2, -, -, -, -⟩ := Xpm.out
           have Rx90 := Lib.hid hr; clear hr
           have Rx91 := Lib.hid hr2; clear hr2
           have G12 : Hid True := trivial
           try go_wp2_with fail)
        | (have mk := G10; clear mk
           try (rw [if_pos (by rfl)]; go_simp)
           go_at_call 16
           refine (addR 4 4 4 4 9 8 bd q r R10.out R11.out R20.out R21.out HQ1.out HQ2.out hn1 hm1 hn2 hm2 (by omega) (by omega) (by omega) (by omega) (by omega) (by omega) (by omega) (by omega) (by omega) (by omega) (by omega) EBD.out).mono ?_
           rintro e v11 ⟨ax8, nx8, cx8, bx8, mx8, dx8, rfl, hnx8, hmx8, hr, hr2, hb⟩
           replace R00 := Lib.hid (R00.out.later hb)
           replace R01 := Lib.hid (R01.out.later hb)
           replace R10 := Lib.hid (R10.out.later hb)
           replace R11 := Lib.hid (R11.out.later hb)
           replace R20 := Lib.hid (R20.out.later hb)
           replace R21 := Lib.hid (R21.out.later hb)
           replace Rsm0 := Lib.hid (Rsm0.out.later hb)
           replace Rsm1 := Lib.hid (Rsm1.out.later hb)
           replace Rpm0 := Lib.hid (Rpm0.out.later hb)
           replace Rpm1 := Lib.hid (Rpm1.out.later hb)
           replace Rx70 := Lib.hid (Rx70.out.later hb)
           replace Rx71 := Lib.hid (Rx71.out.later hb)
           replace T0 := Lib.hid (T0.out.later hb)
           replace T1 := Lib.hid (T1.out.later hb)
           replace T2 := Lib.hid (T2.out.later hb)
           replace Xsm := Lib.hid (Xsm.out.later hb)
           replace Xpm := Lib.hid (Xpm.out.later hb)
           replace HB := Lib.hid (bthen HB.out hb); clear hb
           clear kT00 kT01 kT02 kT10 kT11 kT12 kT20 kT21 kT22 kXsm0 kXsm1 kXsm2 kXpm0 kXpm1 kXpm2
           obtain ⟨kT00, kT01, kT02, -, -, -, -⟩ := T0.out
           obtain ⟨kT10, kT11, kT12, -, -, -, -⟩ := T1.out
           obtain ⟨kT20, kT21, kT22, -, -, -, -⟩ := T2.out
           obtain ⟨kXsm0, kXsm1, kXsm2, -, -, -, -⟩ := Xsm.out
           obtain ⟨kXpm0, kXpm1, kXpm2, -, -, -, -⟩ := Xpm.out
           have Rx80 := Lib.hid hr; clear hr
           have Rx81 := Lib.hid hr2; clear hr2
           have G11 : Hid True := trivial
           try go_wp2_with fail)
        | (have mk := G9; clear mk
           try (rw [if_pos (by rfl)]; go_simp)
           go_at_call 16
           refine (addR 9 8 4 4 14 12 sd sm r Rsm0.out Rsm1.out R20.out R21.out (rat_limbs sm) HQ2.out hnsm hmsm hn2 hm2 (by omega) (by omega) (by omega) (by omega) (by omega) (by omega) (by omega) (by omega) (by omega) (by omega) (by omega) ESD.out).mono ?_
           rintro e v10 ⟨ax7, nx7, cx7, bx7, mx7, dx7, rfl, hnx7, hmx7, hr, hr2, hb⟩
           replace R00 := Lib.hid (R00.out.later hb)
           replace R01 := Lib.hid (R01.out.later hb)
           replace R10 := Lib.hid (R10.out.later hb)
           replace R11 := Lib.hid (R11.out.later hb)
           replace R20 := Lib.hid (R20.out.later hb)
           replace R21 := Lib.hid (R21.out.later hb)
           replace Rsm0 := Lib.hid (Rsm0.out.later hb)
           replace Rsm1 := Lib.hid (Rsm1.out.later hb)
           replace Rpm0 := Lib.hid (Rpm0.out.later hb)
           replace Rpm1 := Lib.hid (Rpm1.out.later hb)
           replace T0 := Lib.hid (T0.out.later hb)
           replace T1 := Lib.hid (T1.out.later hb)
           replace T2 := Lib.hid (T2.out.later hb)
           replace Xsm := Lib.hid (Xsm.out.later hb)
           replace Xpm := Lib.hid (Xpm.out.later hb)
           replace HB := Lib.hid (bthen HB.out hb); clear hb
           clear kT00 kT01 kT02 kT10 kT11 kT12 kT20 kT21 kT22 kXsm0 kXsm1 kXsm2 kXpm0 kXpm1 kXpm2
           obtain ⟨kT00, kT01, kT02, -, -, -, -⟩ := T0.out
           obtain ⟨kT10, kT11, kT12, -, -, -, -⟩ := T1.out
           obtain ⟨kT20, kT21, kT22, -, -, -, -⟩ := T2.out
           obtain ⟨kXsm0, kXsm1, kXsm2, -, -, -, -⟩ := Xsm.out
           obtain ⟨kXpm0, kXpm1, kXpm2, -, -, -, -⟩ := Xpm.out
           have Rx70 := Lib.hid hr; clear hr
           have Rx71 := Lib.hid hr2; clear hr2
           have G10 : Hid True := trivial
           try go_wp2_with fail)
        | (have mk := G8; clear mk
           try (rw [if_pos (by rfl)]; go_simp)
           go_at_call 13
           refine (sameT Rx30.out Rx31.out Rx60.out Rx61.out rfl (by omega) (by omega) (by omega) (by omega)).mono ?_
           rintro e v9 ⟨rfl, hb⟩
           clear Rx30
           clear Rx31
           clear Rx60
           clear Rx61
           replace R00 := Lib.hid (R00.out.later hb)
           replace R01 := Lib.hid (R01.out.later hb)
           replace R10 := Lib.hid (R10.out.later hb)
           replace R11 := Lib.hid (R11.out.later hb)
           replace R20 := Lib.hid (R20.out.later hb)
           replace R21 := Lib.hid (R21.out.later hb)
           replace Rsm0 := Lib.hid (Rsm0.out.later hb)
           replace Rsm1 := Lib.hid (Rsm1.out.later hb)
           replace Rpm0 := Lib.hid (Rpm0.out.later hb)
           replace Rpm1 := Lib.hid (Rpm1.out.later hb)
           replace T0 := Lib.hid (T0.out.later hb)
           replace T1 := Lib.hid (T1.out.later hb)
           replace T2 := Lib.hid (T2.out.later hb)
           replace Xsm := Lib.hid (Xsm.out.later hb)
           replace Xpm := Lib.hid (Xpm.out.later hb)
           replace HB := Lib.hid (bthen HB.out hb); clear hb
           clear kT00 kT01 kT02 kT10 kT11 kT12 kT20 kT21 kT22 kXsm0 kXsm1 kXsm2 kXpm0 kXpm1 kXpm2
           obtain ⟨kT00, kT01, kT02, -, -, -, -⟩ := T0.out
           obtain ⟨kT10, kT11, kT12, -, -, -, -⟩ := T1.out
           obtain ⟨kT20, kT21, kT22, -, -, -, -⟩ := T2.out
           obtain ⟨kXsm0, kXsm1, kXsm2, -, -, -, -⟩ := Xsm.out
           obtain ⟨kXpm0, kXpm1, kXpm2, -, -, -, -⟩ := Xpm.out
           have G9 : Hid True := trivial
           try go_wp2_with fail)
        | (have mk := G7; clear mk
           try (rw [if_pos (by rfl)]; go_simp)
           go_at_call 16
           refine (addR 8 8 8 8 17 16 sc ac bc Rx40.out Rx41.out Rx50.out Rx51.out (rat_limbs ac) (rat_limbs bc) hnx4 hmx4 hnx5 hmx5 (by omega) (by omega) (by omega) (by omega) (by omega) (by omega) (by omega) (by omega) (by omega) (by omega) (by omega) ESC2.out).mono ?_
           rintro e v8 ⟨ax6, nx6, cx6, bx6, mx6, dx6, rfl, hnx6, hmx6, hr, hr2, hb⟩
           clear Rx40
           clear Rx41
           clear Rx50
           clear Rx51
           replace R00 := Lib.hid (R00.out.later hb)
           replace R01 := Lib.hid (R01.out.later hb)
           replace R10 := Lib.hid (R10.out.later hb)
           replace R11 := Lib.hid (R11.out.later hb)
           replace R20 := Lib.hid (R20.out.later hb)
           replace R21 := Lib.hid (R21.out.later hb)
           replace Rsm0 := Lib.hid (Rsm0.out.later hb)
           replace Rsm1 := Lib.hid (Rsm1.out.later hb)
           replace Rpm0 := Lib.hid (Rpm0.out.later hb)
           replace Rpm1 := Lib.hid (Rpm1.out.later hb)
           replace Rx30 := Lib.hid (Rx30.out.later hb)
           replace Rx31 := Lib.hid (Rx31.out.later hb)
           replace T0 := Lib.hid (T0.out.later hb)
           replace T1 := Lib.hid (T1.out.later hb)
           replace T2 := Lib.hid (T2.out.later hb)
           replace Xsm := Lib.hid (Xsm.out.later hb)
           replace Xpm := Lib.hid (Xpm.out.later hb)
           replace HB := Lib.hid (bthen HB.out hb); clear hb
           clear kT00 kT01 kT02 kT10 kT11 kT12 kT20 kT21 kT22 kXsm0 kXsm1 kXsm2 kXpm0 kXpm1 kXpm2
           obtain ⟨kT00, kT01, kT02, -, -, -, -⟩ := T0.out
           obtain ⟨kT10, kT11, kT12, -, -, -, -⟩ := T1.out
           obtain ⟨kT20, kT21, kT22, -, -, -, -⟩ := T2.out
           obtain ⟨kXsm0, kXsm1, kXsm2, -, -, -, -⟩ := Xsm.out
           obtain ⟨kXpm0, kXpm1, kXpm2, -, -, -, -⟩ := Xpm.out
           have Rx60 := Lib.hid hr; clear hr
           have Rx61 := Lib.hid hr2; clear hr2
           have G8 : Hid True := trivial
           try go_wp2_with fail)
        | (have mk := G6; clear mk
           try (rw [if_pos (by rfl)]; go_simp)
           go_at_call 20
           refine (mulR 8 8 bc q r R10.out R11.out R20.out R21.out HQ1.out HQ2.out (by omega) (by omega) (by omega) (by omega) (by omega) (by omega) (by omega) (by omega) (by omega) EBC.out).mono ?_
           rintro e v7 ⟨ax5, nx5, cx5, bx5, mx5, dx5, rfl, hnx5, hmx5, hr, hr2, hb⟩
           replace R00 := Lib.hid (R00.out.later hb)
           replace R01 := Lib.hid (R01.out.later hb)
           replace R10 := Lib.hid (R10.out.later hb)
           replace R11 := Lib.hid (R11.out.later hb)
           replace R20 := Lib.hid (R20.out.later hb)
           replace R21 := Lib.hid (R21.out.later hb)
           replace Rsm0 := Lib.hid (Rsm0.out.later hb)
           replace Rsm1 := Lib.hid (Rsm1.out.later hb)
           replace Rpm0 := Lib.hid (Rpm0.out.later hb)
           replace Rpm1 := Lib.hid (Rpm1.out.later hb)
           replace Rx30 := Lib.hid (Rx30.out.later hb)
           replace Rx31 := Lib.hid (Rx31.out.later hb)
           replace Rx40 := Lib.hid (Rx40.out.later hb)
           replace Rx41 := Lib.hid (Rx41.out.later hb)
           replace T0 := Lib.hid (T0.out.later hb)
           replace T1 := Lib.hid (T1.out.later hb)
           replace T2 := Lib.hid (T2.out.later hb)
           replace Xsm := Lib.hid (Xsm.out.later hb)
           replace Xpm := Lib.hid (Xpm.out.later hb)
           replace HB := Lib.hid (bthen HB.out hb); clear hb
           clear kT00 kT01 kT02 kT10 kT11 kT12 kT20 kT21 kT22 kXsm0 kXsm1 kXsm2 kXpm0 kXpm1 kXpm2
           obtain ⟨kT00, kT01, kT02, -, -, -, -⟩ := T0.out
           obtain ⟨kT10, kT11, kT12, -, -, -, -⟩ := T1.out
           obtain ⟨kT20, kT21, kT22, -, -, -, -⟩ := T2.out
           obtain ⟨kXsm0, kXsm1, kXsm2, -, -, -, -⟩ := Xsm.out
           obtain ⟨kXpm0, kXpm1, kXpm2, -, -, -, -⟩ := Xpm.out
           have Rx50 := Lib.hid hr; clear hr
           have Rx51 := Lib.hid hr2; clear hr2
           have G7 : Hid True := trivial
           try go_wp2_with fail)
        | (have mk := G5; clear mk
           try (rw [if_pos (by rfl)]; go_simp)
           go_at_call 20
           refine (mulR 8 8 ac p r R00.out R01.out R20.out R21.out HQ0.out HQ2.out (by omega) (by omega) (by omega) (by omega) (by omega) (by omega) (by omega) (by omega) (by omega) EAC.out).mono ?_
           rintro e v6 ⟨ax4, nx4, cx4, bx4, mx4, dx4, rfl, hnx4, hmx4, hr, hr2, hb⟩
           replace R00 := Lib.hid (R00.out.later hb)
           replace R01 := Lib.hid (R01.out.later hb)
           replace R10 := Lib.hid (R10.out.later hb)
           replace R11 := Lib.hid (R11.out.later hb)
           replace R20 := Lib.hid (R20.out.later hb)
           replace R21 := Lib.hid (R21.out.later hb)
           replace Rsm0 := Lib.hid (Rsm0.out.later hb)
           replace Rsm1 := Lib.hid (Rsm1.out.later hb)
           replace Rpm0 := Lib.hid (Rpm0.out.later hb)
           replace Rpm1 := Lib.hid (Rpm1.out.later hb)
           replace Rx30 := Lib.hid (Rx30.out.later hb)
           replace Rx31 := Lib.hid (Rx31.out.later hb)
           replace T0 := Lib.hid (T0.out.later hb)
           replace T1 := Lib.hid (T1.out.later hb)
           replace T2 := Lib.hid (T2.out.later hb)
           replace Xsm := Lib.hid (Xsm.out.later hb)
           replace Xpm := Lib.hid (Xpm.out.later hb)
           replace HB := Lib.hid (bthen HB.out hb); clear hb
           clear kT00 kT01 kT02 kT10 kT11 kT12 kT20 kT21 kT22 kXsm0 kXsm1 kXsm2 kXpm0 kXpm1 kXpm2
           obtain ⟨kT00, kT01, kT02, -, -, -, -⟩ := T0.out
           obtain ⟨kT10, kT11, kT12, -, -, -, -⟩ := T1.out
           obtain ⟨kT20, kT21, kT22, -, -, -, -⟩ := T2.out
           obtain ⟨kXsm0, kXsm1, kXsm2, -, -, -, -⟩ := Xsm.out
           obtain ⟨kXpm0, kXpm1, kXpm2, -, -, -, -⟩ := Xpm.out
           have Rx40 := Lib.hid hr; clear hr
           have Rx41 := Lib.hid hr2; clear hr2
           have G6 : Hid True := trivial
           try go_wp2_with fail)
        | (have mk := G4; clear mk
           try (rw [if_pos (by rfl)]; go_simp)
           go_at_call 20
           refine (mulR 13 12 sc sm r Rsm0.out Rsm1.out R20.out R21.out (rat_limbs sm) HQ2.out (by omega) (by omega) (by omega) (by omega) (by omega) (by omega) (by omega) (by omega) (by omega) ESC.out).mono ?_
           rintro e v5 ⟨ax3, nx3, cx3, bx3, mx3, dx3, rfl, hnx3, hmx3, hr, hr2, hb⟩
           replace R00 := Lib.hid (R00.out.later hb)
           replace R01 := Lib.hid (R01.out.later hb)
           replace R10 := Lib.hid (R10.out.later hb)
           replace R11 := Lib.hid (R11.out.later hb)
           replace R20 := Lib.hid (R20.out.later hb)
           replace R21 := Lib.hid (R21.out.later hb)
           replace Rsm0 := Lib.hid (Rsm0.out.later hb)
           replace Rsm1 := Lib.hid (Rsm1.out.later hb)
           replace Rpm0 := Lib.hid (Rpm0.out.later hb)
           replace Rpm1 := Lib.hid (Rpm1.out.later hb)
           replace T0 := Lib.hid (T0.out.later hb)
           replace T1 := Lib.hid (T1.out.later hb)
           replace T2 := Lib.hid (T2.out.later hb)
           replace Xsm := Lib.hid (Xsm.out.later hb)
           replace Xpm := Lib.hid (Xpm.out.later hb)
           replace HB := Lib.hid (bthen HB.out hb); clear hb
           clear kT00 kT01 kT02 kT10 kT11 kT12 kT20 kT21 kT22 kXsm0 kXsm1 kXsm2 kXpm0 kXpm1 kXpm2
           obtain ⟨kT00, kT01, kT02, -, -, -, -⟩ := T0.out
           obtain ⟨kT10, kT11, kT12, -, -, -, -⟩ := T1.out
           obtain ⟨kT20, kT21, kT22, -, -, -, -⟩ := T2.out
           obtain ⟨kXsm0, kXsm1, kXsm2, -, -, -, -⟩ := Xsm.out
           obtain ⟨kXpm0, kXpm1, kXpm2, -, -, -, -⟩ := Xpm.out
           have Rx30 := Lib.hid hr; clear hr
           have Rx31 := Lib.hid hr2; clear hr2
           have G5 : Hid True := trivial
           try go_wp2_with fail)
        | (have mk := G3; clear mk
           try (rw [if_pos (by rfl)]; go_simp)
           go_at_call 13
           refine (sameT Rpm0.out Rpm1.out Rx20.out Rx21.out rfl (by omega) (by omega) (by omega) (by omega)).mono ?_
           rintro e v4 ⟨rfl, hb⟩
           clear Rx20
           clear Rx21
           replace R00 := Lib.hid (R00.out.later hb)
           replace R01 := Lib.hid (R01.out.later hb)
           replace R10 := Lib.hid (R10.out.later hb)
           replace R11 := Lib.hid (R11.out.later hb)
           replace R20 := Lib.hid (R20.out.later hb)
           replace R21 := Lib.hid (R21.out.later hb)
           replace Rsm0 := Lib.hid (Rsm0.out.later hb)
           replace Rsm1 := Lib.hid (Rsm1.out.later hb)
           replace Rpm0 := Lib.hid (Rpm0.out.later hb)
           replace Rpm1 := Lib.hid (Rpm1.out.later hb)
           replace T0 := Lib.hid (T0.out.later hb)
           replace T1 := Lib.hid (T1.out.later hb)
           replace T2 := Lib.hid (T2.out.later hb)
           replace Xsm := Lib.hid (Xsm.out.later hb)
           replace Xpm := Lib.hid (Xpm.out.later hb)
           replace HB := Lib.hid (bthen HB.out hb); clear hb
           clear kT00 kT01 kT02 kT10 kT11 kT12 kT20 kT21 kT22 kXsm0 kXsm1 kXsm2 kXpm0 kXpm1 kXpm2
           obtain ⟨kT00, kT01, kT02, -, -, -, -⟩ := T0.out
           obtain ⟨kT10, kT11, kT12, -, -, -, -⟩ := T1.out
           obtain ⟨kT20, kT21, kT22, -, -, -, -⟩ := T2.out
           obtain ⟨kXsm0, kXsm1, kXsm2, -, -, -, -⟩ := Xsm.out
           obtain ⟨kXpm0, kXpm1, kXpm2, -, -, -, -⟩ := Xpm.out
           have G4 : Hid True := trivial
           try go_wp2_with fail)
        | (have mk := G2; clear mk
           try (rw [if_pos (by rfl)]; go_simp)
           go_at_call 20
           refine (mulR 8 8 pm q p R10.out R11.out R00.out R01.out HQ1.out HQ0.out (by omega) (by omega) (by omega) (by omega) (by omega) (by omega) (by omega) (by omega) (by omega) EPM2.out).mono ?_
           rintro e v3 ⟨ax2, nx2, cx2, bx2, mx2, dx2, rfl, hnx2, hmx2, hr, hr2, hb⟩
           replace R00 := Lib.hid (R00.out.later hb)
           replace R01 := Lib.hid (R01.out.later hb)
           replace R10 := Lib.hid (R10.out.later hb)
           replace R11 := Lib.hid (R11.out.later hb)
           replace R20 := Lib.hid (R20.out.later hb)
           replace R21 := Lib.hid (R21.out.later hb)
           replace Rsm0 := Lib.hid (Rsm0.out.later hb)
           replace Rsm1 := Lib.hid (Rsm1.out.later hb)
           replace Rpm0 := Lib.hid (Rpm0.out.later hb)
           replace Rpm1 := Lib.hid (Rpm1.out.later hb)
           replace T0 := Lib.hid (T0.out.later hb)
           replace T1 := Lib.hid (T1.out.later hb)
           replace T2 := Lib.hid (T2.out.later hb)
           replace Xsm := Lib.hid (Xsm.out.later hb)
           replace Xpm := Lib.hid (Xpm.out.later hb)
           replace HB := Lib.hid (bthen HB.out hb); clear hb
           clear kT00 kT01 kT02 kT10 kT11 kT12 kT20 kT21 kT22 kXsm0 kXsm1 kXsm2 kXpm0 kXpm1 kXpm2
           obtain ⟨kT00, kT01, kT02, -, -, -, -⟩ := T0.out
           obtain ⟨kT10, kT11, kT12, -, -, -, -⟩ := T1.out
           obtain ⟨kT20, kT21, kT22, -, -, -, -⟩ := T2.out
           obtain ⟨kXsm0, kXsm1, kXsm2, -, -, -, -⟩ := Xsm.out
           obtain ⟨kXpm0, kXpm1, kXpm2, -, -, -, -⟩ := Xpm.out
           have Rx20 := Lib.hid hr; clear hr
           have Rx21 := Lib.hid hr2; clear hr2
           have G3 : Hid True := trivial
           try go_wp2_with fail)
        | (have mk := G1; clear mk
           try (rw [if_pos (by rfl)]; go_simp)
           go_at_call 13
           refine (sameT Rsm0.out Rsm1.out Rx10.out Rx11.out rfl (by omega) (by omega) (by omega) (by omega)).mono ?_
           rintro e v2 ⟨rfl, hb⟩
           clear Rx10
           clear Rx11
           replace R00 := Lib.hid (R00.out.later hb)
           replace R01 := Lib.hid (R01.out.later hb)
           replace R10 := Lib.hid (R10.out.later hb)
           replace R11 := Lib.hid (R11.out.later hb)
           replace R20 := Lib.hid (R20.out.later hb)
           replace R21 := Lib.hid (R21.out.later hb)
           replace Rsm0 := Lib.hid (Rsm0.out.later hb)
           replace Rsm1 := Lib.hid (Rsm1.out.later hb)
           replace Rpm0 := Lib.hid (Rpm0.out.later hb)
           replace Rpm1 := Lib.hid (Rpm1.out.later hb)
           replace T0 := Lib.hid (T0.out.later hb)
           replace T1 := Lib.hid (T1.out.later hb)
           replace T2 := Lib.hid (T2.out.later hb)
           replace Xsm := Lib.hid (Xsm.out.later hb)
           replace Xpm := Lib.hid (Xpm.out.later hb)
           replace HB := Lib.hid (bthen HB.out hb); clear hb
           clear kT00 kT01 kT02 kT10 kT11 kT12 kT20 kT21 kT22 kXsm0 kXsm1 kXsm2 kXpm0 kXpm1 kXpm2
           obtain ⟨kT00, kT01, kT02, -, -, -, -⟩ := T0.out
           obtain ⟨kT10, kT11, kT12, -, -, -, -⟩ := T1.out
           obtain ⟨kT20, kT21, kT22, -, -, -, -⟩ := T2.out
           obtain ⟨kXsm0, kXsm1, kXsm2, -, -, -, -⟩ := Xsm.out
           obtain ⟨kXpm0, kXpm1, kXpm2, -, -, -, -⟩ := Xpm.out
           have G2 : Hid True := trivial
           try go_wp2_with fail)
        | (skip
           try (rw [if_pos (by rfl)]; go_simp)
           go_at_call 16
           refine (addR 4 4 4 4 9 8 sm q p R10.out R11.out R00.out R01.out HQ1.out HQ0.out hn1 hm1 hn0 hm0 (by omega) (by omega) (by omega) (by omega) (by omega) (by omega) (by omega) (by omega) (by omega) (by omega) (by omega) ESM2.out).mono ?_
           rintro e v1 ⟨ax1, nx1, cx1, bx1, mx1, dx1, rfl, hnx1, hmx1, hr, hr2, hb⟩
           replace R00 := Lib.hid (R00.out.later hb)
           replace R01 := Lib.hid (R01.out.later hb)
           replace R10 := Lib.hid (R10.out.later hb)
           replace R11 := Lib.hid (R11.out.later hb)
           replace R20 := Lib.hid (R20.out.later hb)
           replace R21 := Lib.hid (R21.out.later hb)
           replace Rsm0 := Lib.hid (Rsm0.out.later hb)
           replace Rsm1 := Lib.hid (Rsm1.out.later hb)
           replace Rpm0 := Lib.hid (Rpm0.out.later hb)
           replace Rpm1 := Lib.hid (Rpm1.out.later hb)
           replace T0 := Lib.hid (T0.out.later hb)
           replace T1 := Lib.hid (T1.out.later hb)
           replace T2 := Lib.hid (T2.out.later hb)
           replace Xsm := Lib.hid (Xsm.out.later hb)
           replace Xpm := Lib.hid (Xpm.out.later hb)
           replace HB := Lib.hid (bthen HB.out hb); clear hb
           clear kT00 kT01 kT02 kT10 kT11 kT12 kT20 kT21 kT22 kXsm0 kXsm1 kXsm2 kXpm0 kXpm1 kXpm2
           obtain ⟨kT00, kT01, kT02, -, -, -, -⟩ := T0.out
           obtain ⟨kT10, kT11, kT12, -, -, -, -⟩ := T1.out
           obtain ⟨kT20, kT21, kT22, -, -, -, -⟩ := T2.out
           obtain ⟨kXsm0, kXsm1, kXsm2, -, -, -, -⟩ := Xsm.out
           obtain ⟨kXpm0, kXpm1, kXpm2, -, -, -, -⟩ := Xpm.out
           have Rx10 := Lib.hid hr; clear hr
           have Rx11 := Lib.hid hr2; clear hr2
           have G1 : Hid True := trivial
           try go_wp2_with fail))
    go_wp2
    go_ret
    exact ⟨rfl, HB.out⟩

end Go.Proofs.YtnnoicjnggoffaaGreat
/- RatioField, by what is not nought. -/
namespace Go.Proofs.YtnnoicjnggoffaaGreat
set_option linter.unusedVariables false
set_option linter.unusedSimpArgs false
set_option maxRecDepth 100000
open Go.RowKit Nums

set_option maxHeartbeats 16000000 in
theorem ratioField_n (p q r : Rat) {s0 s1 s2 : Bool} {a0 b0 a1 b1 a2 b2 : Option Addr} {n0 c0 m0 d0 n1 c1 m1 d1 n2 c2 m2 d2 : Nat} {xs0 ys0 xs1 ys1 xs2 ys2 : List Nat} {w : World} (h00 : Row w a0 n0 c0 xs0) (h01 : Row w b0 m0 d0 ys0) (hq0 : mkRat (sv s0 (val xs0)) (val ys0) = p) (hn0 : n0 ≤ 4) (hm0 : m0 ≤ 4) (h10 : Row w a1 n1 c1 xs1) (h11 : Row w b1 m1 d1 ys1) (hq1 : mkRat (sv s1 (val xs1)) (val ys1) = q) (hn1 : n1 ≤ 4) (hm1 : m1 ≤ 4) (h20 : Row w a2 n2 c2 xs2) (h21 : Row w b2 m2 d2 ys2) (hq2 : mkRat (sv s2 (val xs2)) (val ys2) = r) (hn2 : n2 ≤ 4) (hm2 : m2 ≤ 4) (hz : q ≠ 0) :
    Calls Tryz.prog 6 #[.agg #[.bool s0, .slice a0 n0 c0, .slice b0 m0 d0], .agg #[.bool s1, .slice a1 n1 c1, .slice b1 m1 d1], .agg #[.bool s2, .slice a2 n2 c2, .slice b2 m2 d2]] w fun e w' => e = .returned (.bool true) ∧ Below w.heap.size w w' := by
  obtain ⟨sm, esm⟩ : ∃ z : Rat, p + q = z := ⟨_, rfl⟩
  obtain ⟨pm, epm⟩ : ∃ z : Rat, p * q = z := ⟨_, rfl⟩
  obtain ⟨sc, esc⟩ : ∃ z : Rat, sm * r = z := ⟨_, rfl⟩
  obtain ⟨ac, eac⟩ : ∃ z : Rat, p * r = z := ⟨_, rfl⟩
  obtain ⟨bc, ebc⟩ : ∃ z : Rat, q * r = z := ⟨_, rfl⟩
  obtain ⟨sd, esd⟩ : ∃ z : Rat, sm + r = z := ⟨_, rfl⟩
  obtain ⟨bd, ebd⟩ : ∃ z : Rat, q + r = z := ⟨_, rfl⟩
  obtain ⟨dv, edv⟩ : ∃ z : Rat, p / q = z := ⟨_, rfl⟩
  have esm2 : q + p = sm := by rw [← esm]; exact Rat.add_comm _ _
  have epm2 : q * p = pm := by rw [← epm]; exact Rat.mul_comm _ _
  have esc2 : ac + bc = sc := by rw [← eac, ← ebc, ← esc, ← esm]; exact (Rat.add_mul _ _ _).symm
  have esd2 : p + bd = sd := by rw [← ebd, ← esd, ← esm]; exact (Rat.add_assoc _ _ _).symm
  have esb : sm - q = p := by rw [← esm, Rat.sub_eq_add_neg, Rat.add_assoc, ← Rat.sub_eq_add_neg, Rat.sub_self, Rat.add_zero]
  have edb : dv * q = p := by rw [← edv]; exact Rat.div_mul_cancel hz
  obtain ⟨T, hT⟩ : ∃ T, sgn q.num = T := ⟨_, rfl⟩
  have hT0 : (T == 0) = false := by rw [beq_eq_false_iff_ne]; intro h; rw [← hT] at h; exact hz (sgn_zero_num.1 h)
  have ESM := Lib.hid esm; clear esm
  have EPM := Lib.hid epm; clear epm
  have ESC := Lib.hid esc; clear esc
  have EAC := Lib.hid eac; clear eac
  have EBC := Lib.hid ebc; clear ebc
  have ESD := Lib.hid esd; clear esd
  have EBD := Lib.hid ebd; clear ebd
  have EDV := Lib.hid edv; clear edv
  have ESM2 := Lib.hid esm2; clear esm2
  have EPM2 := Lib.hid epm2; clear epm2
  have ESC2 := Lib.hid esc2; clear esc2
  have ESD2 := Lib.hid esd2; clear esd2
  have ESB := Lib.hid esb; clear esb
  have EDB := Lib.hid edb; clear edb
  have HT := Lib.hid hT; clear hT
  have HZ := Lib.hid hz; clear hz
  have HB := Lib.hid (below_four w (.cells #[.bool s0, .slice a0 n0 c0, .slice b0 m0 d0] 26) (.cells #[.bool s1, .slice a1 n1 c1, .slice b1 m1 d1] 26) (.cells #[.bool s2, .slice a2 n2 c2, .slice b2 m2 d2] 26) (.cells #[.bool s0, .slice a0 n0 c0, .slice b0 m0 d0, .bool s1, .slice a1 n1 c1, .slice b1 m1 d1, .bool s2, .slice a2 n2 c2, .slice b2 m2 d2] 26))
  have T0 : Hid (Tri ((((w.alloc (.cells #[.bool s0, .slice a0 n0 c0, .slice b0 m0 d0] 26)).alloc (.cells #[.bool s1, .slice a1 n1 c1, .slice b1 m1 d1] 26)).alloc (.cells #[.bool s2, .slice a2 n2 c2, .slice b2 m2 d2] 26)).alloc (.cells #[.bool s0, .slice a0 n0 c0, .slice b0 m0 d0, .bool s1, .slice a1 n1 c1, .slice b1 m1 d1, .bool s2, .slice a2 n2 c2, .slice b2 m2 d2] 26)) (w.heap.size) (.bool s0) (.slice a0 n0 c0) (.slice b0 m0 d0)) := ((((tri_new w (.bool s0) (.slice a0 n0 c0) (.slice b0 m0 d0)).alloc _).alloc _).alloc _)
  have T1 : Hid (Tri ((((w.alloc (.cells #[.bool s0, .slice a0 n0 c0, .slice b0 m0 d0] 26)).alloc (.cells #[.bool s1, .slice a1 n1 c1, .slice b1 m1 d1] 26)).alloc (.cells #[.bool s2, .slice a2 n2 c2, .slice b2 m2 d2] 26)).alloc (.cells #[.bool s0, .slice a0 n0 c0, .slice b0 m0 d0, .bool s1, .slice a1 n1 c1, .slice b1 m1 d1, .bool s2, .slice a2 n2 c2, .slice b2 m2 d2] 26)) (w.heap.size + 1) (.bool s1) (.slice a1 n1 c1) (.slice b1 m1 d1)) := (((tri_newE (by simp)).alloc _).alloc _)
  have T2 : Hid (Tri ((((w.alloc (.cells #[.bool s0, .slice a0 n0 c0, .slice b0 m0 d0] 26)).alloc (.cells #[.bool s1, .slice a1 n1 c1, .slice b1 m1 d1] 26)).alloc (.cells #[.bool s2, .slice a2 n2 c2, .slice b2 m2 d2] 26)).alloc (.cells #[.bool s0, .slice a0 n0 c0, .slice b0 m0 d0, .bool s1, .slice a1 n1 c1, .slice b1 m1 d1, .bool s2, .slice a2 n2 c2, .slice b2 m2 d2] 26)) (w.heap.size + 1 + 1) (.bool s2) (.slice a2 n2 c2) (.slice b2 m2 d2)) := ((tri_newE (by simp)).alloc _)
  have ka0 := cell_new (((w.alloc (.cells #[.bool s0, .slice a0 n0 c0, .slice b0 m0 d0] 26)).alloc (.cells #[.bool s1, .slice a1 n1 c1, .slice b1 m1 d1] 26)).alloc (.cells #[.bool s2, .slice a2 n2 c2, .slice b2 m2 d2] 26)) #[.bool s0, .slice a0 n0 c0, .slice b0 m0 d0, .bool s1, .slice a1 n1 c1, .slice b1 m1 d1, .bool s2, .slice a2 n2 c2, .slice b2 m2 d2] 26 1
  have kb0 := cell_new (((w.alloc (.cells #[.bool s0, .slice a0 n0 c0, .slice b0 m0 d0] 26)).alloc (.cells #[.bool s1, .slice a1 n1 c1, .slice b1 m1 d1] 26)).alloc (.cells #[.bool s2, .slice a2 n2 c2, .slice b2 m2 d2] 26)) #[.bool s0, .slice a0 n0 c0, .slice b0 m0 d0, .bool s1, .slice a1 n1 c1, .slice b1 m1 d1, .bool s2, .slice a2 n2 c2, .slice b2 m2 d2] 26 2
  have ka1 := cell_new (((w.alloc (.cells #[.bool s0, .slice a0 n0 c0, .slice b0 m0 d0] 26)).alloc (.cells #[.bool s1, .slice a1 n1 c1, .slice b1 m1 d1] 26)).alloc (.cells #[.bool s2, .slice a2 n2 c2, .slice b2 m2 d2] 26)) #[.bool s0, .slice a0 n0 c0, .slice b0 m0 d0, .bool s1, .slice a1 n1 c1, .slice b1 m1 d1, .bool s2, .slice a2 n2 c2, .slice b2 m2 d2] 26 4
  have kb1 := cell_new (((w.alloc (.cells #[.bool s0, .slice a0 n0 c0, .slice b0 m0 d0] 26)).alloc (.cells #[.bool s1, .slice a1 n1 c1, .slice b1 m1 d1] 26)).alloc (.cells #[.bool s2, .slice a2 n2 c2, .slice b2 m2 d2] 26)) #[.bool s0, .slice a0 n0 c0, .slice b0 m0 d0, .bool s1, .slice a1 n1 c1, .slice b1 m1 d1, .bool s2, .slice a2 n2 c2, .slice b2 m2 d2] 26 5
  have ka2 := cell_new (((w.alloc (.cells #[.bool s0, .slice a0 n0 c0, .slice b0 m0 d0] 26)).alloc (.cells #[.bool s1, .slice a1 n1 c1, .slice b1 m1 d1] 26)).alloc (.cells #[.bool s2, .slice a2 n2 c2, .slice b2 m2 d2] 26)) #[.bool s0, .slice a0 n0 c0, .slice b0 m0 d0, .bool s1, .slice a1 n1 c1, .slice b1 m1 d1, .bool s2, .slice a2 n2 c2, .slice b2 m2 d2] 26 7
  have kb2 := cell_new (((w.alloc (.cells #[.bool s0, .slice a0 n0 c0, .slice b0 m0 d0] 26)).alloc (.cells #[.bool s1, .slice a1 n1 c1, .slice b1 m1 d1] 26)).alloc (.cells #[.bool s2, .slice a2 n2 c2, .slice b2 m2 d2] 26)) #[.bool s0, .slice a0 n0 c0, .slice b0 m0 d0, .bool s1, .slice a1 n1 c1, .slice b1 m1 d1, .bool s2, .slice a2 n2 c2, .slice b2 m2 d2] 26 8
  rw [show (((w.alloc (.cells #[.bool s0, .slice a0 n0 c0, .slice b0 m0 d0] 26)).alloc (.cells #[.bool s1, .slice a1 n1 c1, .slice b1 m1 d1] 26)).alloc (.cells #[.bool s2, .slice a2 n2 c2, .slice b2 m2 d2] 26)).heap.size = w.heap.size + 1 + 1 + 1 from by simp] at ka0 kb0 ka1 kb1 ka2 kb2
  have R00 := Lib.hid (h00.later HB.out); clear h00
  have R01 := Lib.hid (h01.later HB.out); clear h01
  have HQ0 := Lib.hid hq0; clear hq0
  have R10 := Lib.hid (h10.later HB.out); clear h10
  have R11 := Lib.hid (h11.later HB.out); clear h11
  have HQ1 := Lib.hid hq1; clear hq1
  have R20 := Lib.hid (h20.later HB.out); clear h20
  have R21 := Lib.hid (h21.later HB.out); clear h21
  have HQ2 := Lib.hid hq2; clear hq2
  go_enter Tryz.func6, Tryz.ntmps6
  go_wp2_with fail
  refine (few3_yes (w.heap.size + 1 + 1 + 1) a0 b0 n0 c0 m0 d0 a1 b1 n1 c1 m1 d1 a2 b2 n2 c2 m2 d2 _ ka0 kb0 ka1 kb1 ka2 kb2 hn0 hm0 hn1 hm1 hn2 hm2).mono ?_
  rintro e w0 ⟨rfl, rfl⟩
  clear ka0 kb0 ka1 kb1 ka2 kb2
  go_wp2_with fail
  obtain ⟨W, hW⟩ : ∃ W, ((((w.alloc (.cells #[.bool s0, .slice a0 n0 c0, .slice b0 m0 d0] 26)).alloc (.cells #[.bool s1, .slice a1 n1 c1, .slice b1 m1 d1] 26)).alloc (.cells #[.bool s2, .slice a2 n2 c2, .slice b2 m2 d2] 26)).alloc (.cells #[.bool s0, .slice a0 n0 c0, .slice b0 m0 d0, .bool s1, .slice a1 n1 c1, .slice b1 m1 d1, .bool s2, .slice a2 n2 c2, .slice b2 m2 d2] 26)) = W := ⟨_, rfl⟩
  rw [hW] at R00 R01 R10 R11 R20 R21 T0 T1 T2 HB ⊢
  have lW : w.heap.size + 1 + 1 < W.heap.size := T2.out.2.2.2.2.2.2
  clear hW
  obtain ⟨kT00, kT01, kT02, -, -, -, -⟩ := T0.out
  obtain ⟨kT10, kT11, kT12, -, -, -, -⟩ := T1.out
  obtain ⟨kT20, kT21, kT22, -, -, -, -⟩ := T2.out
  go_upto_region 3 with fail
  go_cut [7, 8] (fun s7 s8 wx => ∃ (g5 g6 : Nat) (asm : Option Addr) (nsm csm : Nat) (bsm : Option Addr) (msm dsm : Nat) (apm : Option Addr) (npm cpm : Nat) (bpm : Option Addr) (mpm dpm : Nat), s7 = .pointer (some ⟨g5, 0, none⟩) ∧ s8 = .pointer (some ⟨g6, 0, none⟩) ∧ Hid (g5 ≠ g6 ∧ w.heap.size + 3 ≤ g5 ∧ w.heap.size + 3 ≤ g6 ∧ nsm ≤ 9 ∧ msm ≤ 8 ∧ npm ≤ 8 ∧ mpm ≤ 8 ∧ Tri wx g5 (.bool (decide (sm.num < 0))) (.slice asm nsm csm) (.slice bsm msm dsm) ∧ Tri wx g6 (.bool (decide (pm.num < 0))) (.slice apm npm cpm) (.slice bpm mpm dpm) ∧ Row wx asm nsm csm (limbs sm.num.natAbs) ∧ Row wx bsm msm dsm (limbs sm.den) ∧ Row wx apm npm cpm (limbs pm.num.natAbs) ∧ Row wx bpm mpm dpm (limbs pm.den) ∧ Tri wx (w.heap.size) (.bool s0) (.slice a0 n0 c0) (.slice b0 m0 d0) ∧ Tri wx (w.heap.size + 1) (.bool s1) (.slice a1 n1 c1) (.slice b1 m1 d1) ∧ Tri wx (w.heap.size + 1 + 1) (.bool s2) (.slice a2 n2 c2) (.slice b2 m2 d2) ∧ Row wx a0 n0 c0 xs0 ∧ Row wx a1 n1 c1 xs1 ∧ Row wx a2 n2 c2 xs2 ∧ Row wx b0 m0 d0 ys0 ∧ Row wx b1 m1 d1 ys1 ∧ Row wx b2 m2 d2 ys2 ∧ Below w.heap.size w wx))
  case first =>
    go_region_held3 (fun w' => w'.cell? ⟨w.heap.size, 0, none⟩ = some (.bool s0) ∧ w'.cell? ⟨w.heap.size, 1, none⟩ = some (.slice a0 n0 c0) ∧ w'.cell? ⟨w.heap.size, 2, none⟩ = some (.slice b0 m0 d0) ∧ w'.cell? ⟨w.heap.size + 1, 0, none⟩ = some (.bool s1) ∧ w'.cell? ⟨w.heap.size + 1, 1, none⟩ = some (.slice a1 n1 c1) ∧ w'.cell? ⟨w.heap.size + 1, 2, none⟩ = some (.slice b1 m1 d1))
      (first | (refine ⟨?_, ?_, ?_, ?_, ?_, ?_⟩ <;> with_reducible assumption) | ((refine tri_cells2 ?_ ?_ <;> repeat' (first | with_reducible exact T0.out | with_reducible exact T1.out | with_reducible refine Tri.far ?_ ?_ _ _ _ | with_reducible refine Tri.alloc ?_ _ | with_reducible refine Tri.drew ?_ | omega)); done) | (go_keep; done))
      (first
          | (have mk := G1; clear mk
             go_at_call 20
             refine (mulR 8 8 pm p q (R00.out.later (by first | exact Below.refl _ _ | exact (Below.refl _ _).drew | exact below_one _ _ | exact (below_one _ _).drew | exact below_two _ _ _ | exact (below_two _ _ _).drew)) (R01.out.later (by first | exact Below.refl _ _ | exact (Below.refl _ _).drew | exact below_one _ _ | exact (below_one _ _).drew | exact below_two _ _ _ | exact (below_two _ _ _).drew)) (R10.out.later (by first | exact Below.refl _ _ | exact (Below.refl _ _).drew | exact below_one _ _ | exact (below_one _ _).drew | exact below_two _ _ _ | exact (below_two _ _ _).drew)) (R11.out.later (by first | exact Below.refl _ _ | exact (Below.refl _ _).drew | exact below_one _ _ | exact (below_one _ _).drew | exact below_two _ _ _ | exact (below_two _ _ _).drew)) HQ0.out HQ1.out (by omega) (by omega) (by omega) (by omega) (by omega) (by omega) (by omega) (by omega) (by omega) EPM.out).mono ?_
             rintro e v2 ⟨apm, npm, cpm, bpm, mpm, dpm, rfl, hnpm, hmpm, hr, hr2, hb⟩
             have hbb : Below v1.heap.size v1 v2 := bthen (by first | exact Below.refl _ _ | exact (Below.refl _ _).drew | exact below_one _ _ | exact (below_one _ _).drew | exact below_two _ _ _ | exact (below_two _ _ _).drew) hb
             replace R00 := Lib.hid (R00.out.later hbb)
             replace R01 := Lib.hid (R01.out.later hbb)
             replace R10 := Lib.hid (R10.out.later hbb)
             replace R11 := Lib.hid (R11.out.later hbb)
             replace R20 := Lib.hid (R20.out.later hbb)
             replace R21 := Lib.hid (R21.out.later hbb)
             replace T0 := Lib.hid (T0.out.later hbb)
             replace T1 := Lib.hid (T1.out.later hbb)
             replace T2 := Lib.hid (T2.out.later hbb)
             replace Rsm0 := Lib.hid (Rsm0.out.later hbb)
             replace Rsm1 := Lib.hid (Rsm1.out.later hbb)
             replace HB := Lib.hid (bthen HB.out hbb)
             (first | (replace Y0 := Lib.hid (Y0.out.later hbb); replace Y1 := Lib.hid (Y1.out.later hbb); clear kY00 kY01 kY02 kY03 kY04 kY05 kY06 kY10 kY11 kY12 kY13 kY14 kY15 kY16; obtain ⟨kY00, kY01, kY02, kY03, kY04, kY05, kY06⟩ := Y0.out; obtain ⟨kY10, kY11, kY12, kY13, kY14, kY15, kY16⟩ := Y1.out) | (replace Y0 := Lib.hid (Y0.out.later hbb); clear kY00 kY01 kY02 kY03 kY04 kY05 kY06; obtain ⟨kY00, kY01, kY02, kY03, kY04, kY05, kY06⟩ := Y0.out) | skip)
             (first | (have U0 : Hid (Tri v2 v1.heap.size (.bool false) (.slice none 0 0) (.slice none 0 0)) := ((tri_new v1 (.bool false) (.slice none 0 0) (.slice none 0 0)).alloc (.cells #[.bool false, .slice none 0 0, .slice none 0 0] 26)).later hb; have U1 : Hid (Tri v2 (v1.heap.size + 1) (.bool false) (.slice none 0 0) (.slice none 0 0)) := (tri_next v1 (.cells #[.bool false, .slice none 0 0, .slice none 0 0] 26) (.bool false) (.slice none 0 0) (.slice none 0 0)).later hb; obtain ⟨kU00, kU01, kU02, kU03, kU04, kU05, kU06⟩ := U0.out; obtain ⟨kU10, kU11, kU12, kU13, kU14, kU15, kU16⟩ := U1.out) | (have U0 : Hid (Tri v2 v1.heap.size (.bool false) (.slice none 0 0) (.slice none 0 0)) := (tri_new v1 (.bool false) (.slice none 0 0) (.slice none 0 0)).later hb; obtain ⟨kU00, kU01, kU02, kU03, kU04, kU05, kU06⟩ := U0.out) | skip)
             (try have lu0 : v1.heap.size < v2.heap.size := U0.out.2.2.2.2.2.2)
             (try have lu1 : v1.heap.size + 1 < v2.heap.size := U1.out.2.2.2.2.2.2)
             have Rpm0 := Lib.hid hr; clear hr
             have Rpm1 := Lib.hid hr2; clear hr2
             have l2 : v1.heap.size ≤ v2.heap.size := hbb.size
             clear hb hbb
             clear kT00 kT01 kT02 kT10 kT11 kT12 kT20 kT21 kT22
             obtain ⟨kT00, kT01, kT02, -, -, -, -⟩ := T0.out
             obtain ⟨kT10, kT11, kT12, -, -, -, -⟩ := T1.out
             obtain ⟨kT20, kT21, kT22, -, -, -, -⟩ := T2.out)
          | (skip
             go_at_call 16
             refine (addR 4 4 4 4 9 8 sm p q (R00.out.later (by first | exact Below.refl _ _ | exact (Below.refl _ _).drew | exact below_one _ _ | exact (below_one _ _).drew | exact below_two _ _ _ | exact (below_two _ _ _).drew)) (R01.out.later (by first | exact Below.refl _ _ | exact (Below.refl _ _).drew | exact below_one _ _ | exact (below_one _ _).drew | exact below_two _ _ _ | exact (below_two _ _ _).drew)) (R10.out.later (by first | exact Below.refl _ _ | exact (Below.refl _ _).drew | exact below_one _ _ | exact (below_one _ _).drew | exact below_two _ _ _ | exact (below_two _ _ _).drew)) (R11.out.later (by first | exact Below.refl _ _ | exact (Below.refl _ _).drew | exact below_one _ _ | exact (below_one _ _).drew | exact below_two _ _ _ | exact (below_two _ _ _).drew)) HQ0.out HQ1.out hn0 hm0 hn1 hm1 (by omega) (by omega) (by omega) (by omega) (by omega) (by omega) (by omega) (by omega) (by omega) (by omega) (by omega) ESM.out).mono ?_
             rintro e v1 ⟨asm, nsm, csm, bsm, msm, dsm, rfl, hnsm, hmsm, hr, hr2, hb⟩
             have hbb : Below W.heap.size W v1 := bthen (by first | exact Below.refl _ _ | exact (Below.refl _ _).drew | exact below_one _ _ | exact (below_one _ _).drew | exact below_two _ _ _ | exact (below_two _ _ _).drew) hb
             replace R00 := Lib.hid (R00.out.later hbb)
             replace R01 := Lib.hid (R01.out.later hbb)
             replace R10 := Lib.hid (R10.out.later hbb)
             replace R11 := Lib.hid (R11.out.later hbb)
             replace R20 := Lib.hid (R20.out.later hbb)
             replace R21 := Lib.hid (R21.out.later hbb)
             replace T0 := Lib.hid (T0.out.later hbb)
             replace T1 := Lib.hid (T1.out.later hbb)
             replace T2 := Lib.hid (T2.out.later hbb)
             replace HB := Lib.hid (bthen HB.out hbb)
             (first | (have Y0 : Hid (Tri v1 W.heap.size (.bool false) (.slice none 0 0) (.slice none 0 0)) := ((tri_new W (.bool false) (.slice none 0 0) (.slice none 0 0)).alloc (.cells #[.bool false, .slice none 0 0, .slice none 0 0] 26)).drew.later hb; have Y1 : Hid (Tri v1 (W.heap.size + 1) (.bool false) (.slice none 0 0) (.slice none 0 0)) := (tri_next W (.cells #[.bool false, .slice none 0 0, .slice none 0 0] 26) (.bool false) (.slice none 0 0) (.slice none 0 0)).drew.later hb; obtain ⟨kY00, kY01, kY02, kY03, kY04, kY05, kY06⟩ := Y0.out; obtain ⟨kY10, kY11, kY12, kY13, kY14, kY15, kY16⟩ := Y1.out) | (have Y0 : Hid (Tri v1 W.heap.size (.bool false) (.slice none 0 0) (.slice none 0 0)) := (tri_new W (.bool false) (.slice none 0 0) (.slice none 0 0)).drew.later hb; obtain ⟨kY00, kY01, kY02, kY03, kY04, kY05, kY06⟩ := Y0.out) | skip)
             (try have ly0 : W.heap.size < v1.heap.size := Y0.out.2.2.2.2.2.2)
             (try have ly1 : W.heap.size + 1 < v1.heap.size := Y1.out.2.2.2.2.2.2)
             have Rsm0 := Lib.hid hr; clear hr
             have Rsm1 := Lib.hid hr2; clear hr2
             have l1 : W.heap.size ≤ v1.heap.size := hbb.size
             clear hb hbb
             clear kT00 kT01 kT02 kT10 kT11 kT12 kT20 kT21 kT22
             obtain ⟨kT00, kT01, kT02, -, -, -, -⟩ := T0.out
             obtain ⟨kT10, kT11, kT12, -, -, -, -⟩ := T1.out
             obtain ⟨kT20, kT21, kT22, -, -, -, -⟩ := T2.out
             have G1 : Hid True := trivial))
    all_goals
      go_wp2_with fail
      go_meet
      refine ⟨_, _, asm, nsm, csm, bsm, msm, dsm, apm, npm, cpm, bpm, mpm, dpm, rfl, rfl, ?_, ?_, ?_, ?_, ?_, ?_, ?_, ?_, ?_, ?_, ?_, ?_, ?_, ?_, ?_, ?_, ?_, ?_, ?_, ?_, ?_, ?_, ?_⟩
      · repeat' (first | omega | (simp; done) | (simp; omega))
      · repeat' (first | omega | (simp; done) | (simp; omega))
      · repeat' (first | omega | (simp; done) | (simp; omega))
      · repeat' (first | with_reducible exact hnsm)
      · repeat' (first | with_reducible exact hmsm)
      · repeat' (first | with_reducible exact hnpm)
      · repeat' (first | with_reducible exact hmpm)
      · repeat' (first | with_reducible exact Y0.out | with_reducible exact Y1.out | with_reducible exact U0.out | with_reducible exact U1.out | with_reducible exact T0.out | with_reducible exact T1.out | with_reducible exact T2.out | with_reducible refine tri_newE ?_ | with_reducible refine Tri.put (u := .bool false) (v := .slice none 0 0) (x := .slice none 0 0) ?_ _ _ _ | with_reducible refine Tri.far ?_ ?_ _ _ _ | with_reducible refine Tri.alloc ?_ _ | omega | (simp; done))
      · repeat' (first | with_reducible exact Y0.out | with_reducible exact Y1.out | with_reducible exact U0.out | with_reducible exact U1.out | with_reducible exact T0.out | with_reducible exact T1.out | with_reducible exact T2.out | with_reducible refine tri_newE ?_ | with_reducible refine Tri.put (u := .bool false) (v := .slice none 0 0) (x := .slice none 0 0) ?_ _ _ _ | with_reducible refine Tri.far ?_ ?_ _ _ _ | with_reducible refine Tri.alloc ?_ _ | omega | (simp; done))
      · repeat' (first | with_reducible exact Rsm0.out | with_reducible refine Row.alloc ?_ _ | with_reducible refine Row.put3 (s := false) (a1 := none) (n1 := 0) (c1 := 0) (a2 := none) (n2 := 0) (c2 := 0) ?_ ?_ _ _ _ | with_reducible exact Y0.out | with_reducible exact Y1.out | with_reducible exact U0.out | with_reducible exact U1.out | with_reducible exact T0.out | with_reducible exact T1.out | with_reducible exact T2.out | with_reducible refine tri_newE ?_ | with_reducible refine Tri.put (u := .bool false) (v := .slice none 0 0) (x := .slice none 0 0) ?_ _ _ _ | with_reducible refine Tri.far ?_ ?_ _ _ _ | with_reducible refine Tri.alloc ?_ _ | omega | (simp; done))
      · repeat' (first | with_reducible exact Rsm1.out | with_reducible refine Row.alloc ?_ _ | with_reducible refine Row.put3 (s := false) (a1 := none) (n1 := 0) (c1 := 0) (a2 := none) (n2 := 0) (c2 := 0) ?_ ?_ _ _ _ | with_reducible exact Y0.out | with_reducible exact Y1.out | with_reducible exact U0.out | with_reducible exact U1.out | with_reducible exact T0.out | with_reducible exact T1.out | with_reducible exact T2.out | with_reducible refine tri_newE ?_ | with_reducible refine Tri.put (u := .bool false) (v := .slice none 0 0) (x := .slice none 0 0) ?_ _ _ _ | with_reducible refine Tri.far ?_ ?_ _ _ _ | with_reducible refine Tri.alloc ?_ _ | omega | (simp; done))
      · repeat' (first | with_reducible exact Rpm0.out | with_reducible refine Row.alloc ?_ _ | with_reducible refine Row.put3 (s := false) (a1 := none) (n1 := 0) (c1 := 0) (a2 := none) (n2 := 0) (c2 := 0) ?_ ?_ _ _ _ | with_reducible exact Y0.out | with_reducible exact Y1.out | with_reducible exact U0.out | with_reducible exact U1.out | with_reducible exact T0.out | with_reducible exact T1.out | with_reducible exact T2.out | with_reducible refine tri_newE ?_ | with_reducible refine Tri.put (u := .bool false) (v := .slice none 0 0) (x := .slice none 0 0) ?_ _ _ _ | with_reducible refine Tri.far ?_ ?_ _ _ _ | with_reducible refine Tri.alloc ?_ _ | omega | (simp; done))
      · repeat' (first | with_reducible exact Rpm1.out | with_reducible refine Row.alloc ?_ _ | with_reducible refine Row.put3 (s := false) (a1 := none) (n1 := 0) (c1 := 0) (a2 := none) (n2 := 0) (c2 := 0) ?_ ?_ _ _ _ | with_reducible exact Y0.out | with_reducible exact Y1.out | with_reducible exact U0.out | with_reducible exact U1.out | with_reducible exact T0.out | with_reducible exact T1.out | with_reducible exact T2.out | with_reducible refine tri_newE ?_ | with_reducible refine Tri.put (u := .bool false) (v := .slice none 0 0) (x := .slice none 0 0) ?_ _ _ _ | with_reducible refine Tri.far ?_ ?_ _ _ _ | with_reducible refine Tri.alloc ?_ _ | omega | (simp; done))
      · repeat' (first | with_reducible exact Y0.out | with_reducible exact Y1.out | with_reducible exact U0.out | with_reducible exact U1.out | with_reducible exact T0.out | with_reducible exact T1.out | with_reducible exact T2.out | with_reducible refine tri_newE ?_ | with_reducible refine Tri.put (u := .bool false) (v := .slice none 0 0) (x := .slice none 0 0) ?_ _ _ _ | with_reducible refine Tri.far ?_ ?_ _ _ _ | with_reducible refine Tri.alloc ?_ _ | omega | (simp; done))
      · repeat' (first | with_reducible exact Y0.out | with_reducible exact Y1.out | with_reducible exact U0.out | with_reducible exact U1.out | with_reducible exact T0.out | with_reducible exact T1.out | with_reducible exact T2.out | with_reducible refine tri_newE ?_ | with_reducible refine Tri.put (u := .bool false) (v := .slice none 0 0) (x := .slice none 0 0) ?_ _ _ _ | with_reducible refine Tri.far ?_ ?_ _ _ _ | with_reducible refine Tri.alloc ?_ _ | omega | (simp; done))
      · repeat' (first | with_reducible exact Y0.out | with_reducible exact Y1.out | with_reducible exact U0.out | with_reducible exact U1.out | with_reducible exact T0.out | with_reducible exact T1.out | with_reducible exact T2.out | with_reducible refine tri_newE ?_ | with_reducible refine Tri.put (u := .bool false) (v := .slice none 0 0) (x := .slice none 0 0) ?_ _ _ _ | with_reducible refine Tri.far ?_ ?_ _ _ _ | with_reducible refine Tri.alloc ?_ _ | omega | (simp; done))
      · repeat' (first | with_reducible exact R00.out | with_reducible refine Row.alloc ?_ _ | with_reducible refine Row.put3 (s := false) (a1 := none) (n1 := 0) (c1 := 0) (a2 := none) (n2 := 0) (c2 := 0) ?_ ?_ _ _ _ | with_reducible exact Y0.out | with_reducible exact Y1.out | with_reducible exact U0.out | with_reducible exact U1.out | with_reducible exact T0.out | with_reducible exact T1.out | with_reducible exact T2.out | with_reducible refine tri_newE ?_ | with_reducible refine Tri.put (u := .bool false) (v := .slice none 0 0) (x := .slice none 0 0) ?_ _ _ _ | with_reducible refine Tri.far ?_ ?_ _ _ _ | with_reducible refine Tri.alloc ?_ _ | omega | (simp; done))
      · repeat' (first | with_reducible exact R10.out | with_reducible refine Row.alloc ?_ _ | with_reducible refine Row.put3 (s := false) (a1 := none) (n1 := 0) (c1 := 0) (a2 := none) (n2 := 0) (c2 := 0) ?_ ?_ _ _ _ | with_reducible exact Y0.out | with_reducible exact Y1.out | with_reducible exact U0.out | with_reducible exact U1.out | with_reducible exact T0.out | with_reducible exact T1.out | with_reducible exact T2.out | with_reducible refine tri_newE ?_ | with_reducible refine Tri.put (u := .bool false) (v := .slice none 0 0) (x := .slice none 0 0) ?_ _ _ _ | with_reducible refine Tri.far ?_ ?_ _ _ _ | with_reducible refine Tri.alloc ?_ _ | omega | (simp; done))
      · repeat' (first | with_reducible exact R20.out | with_reducible refine Row.alloc ?_ _ | with_reducible refine Row.put3 (s := false) (a1 := none) (n1 := 0) (c1 := 0) (a2 := none) (n2 := 0) (c2 := 0) ?_ ?_ _ _ _ | with_reducible exact Y0.out | with_reducible exact Y1.out | with_reducible exact U0.out | with_reducible exact U1.out | with_reducible exact T0.out | with_reducible exact T1.out | with_reducible exact T2.out | with_reducible refine tri_newE ?_ | with_reducible refine Tri.put (u := .bool false) (v := .slice none 0 0) (x := .slice none 0 0) ?_ _ _ _ | with_reducible refine Tri.far ?_ ?_ _ _ _ | with_reducible refine Tri.alloc ?_ _ | omega | (simp; done))
      · repeat' (first | with_reducible exact R01.out | with_reducible refine Row.alloc ?_ _ | with_reducible refine Row.put3 (s := false) (a1 := none) (n1 := 0) (c1 := 0) (a2 := none) (n2 := 0) (c2 := 0) ?_ ?_ _ _ _ | with_reducible exact Y0.out | with_reducible exact Y1.out | with_reducible exact U0.out | with_reducible exact U1.out | with_reducible exact T0.out | with_reducible exact T1.out | with_reducible exact T2.out | with_reducible refine tri_newE ?_ | with_reducible refine Tri.put (u := .bool false) (v := .slice none 0 0) (x := .slice none 0 0) ?_ _ _ _ | with_reducible refine Tri.far ?_ ?_ _ _ _ | with_reducible refine Tri.alloc ?_ _ | omega | (simp; done))
      · repeat' (first | with_reducible exact R11.out | with_reducible refine Row.alloc ?_ _ | with_reducible refine Row.put3 (s := false) (a1 := none) (n1 := 0) (c1 := 0) (a2 := none) (n2 := 0) (c2 := 0) ?_ ?_ _ _ _ | with_reducible exact Y0.out | with_reducible exact Y1.out | with_reducible exact U0.out | with_reducible exact U1.out | with_reducible exact T0.out | with_reducible exact T1.out | with_reducible exact T2.out | with_reducible refine tri_newE ?_ | with_reducible refine Tri.put (u := .bool false) (v := .slice none 0 0) (x := .slice none 0 0) ?_ _ _ _ | with_reducible refine Tri.far ?_ ?_ _ _ _ | with_reducible refine Tri.alloc ?_ _ | omega | (simp; done))
      · repeat' (first | with_reducible exact R21.out | with_reducible refine Row.alloc ?_ _ | with_reducible refine Row.put3 (s := false) (a1 := none) (n1 := 0) (c1 := 0) (a2 := none) (n2 := 0) (c2 := 0) ?_ ?_ _ _ _ | with_reducible exact Y0.out | with_reducible exact Y1.out | with_reducible exact U0.out | with_reducible exact U1.out | with_reducible exact T0.out | with_reducible exact T1.out | with_reducible exact T2.out | with_reducible refine tri_newE ?_ | with_reducible refine Tri.put (u := .bool false) (v := .slice none 0 0) (x := .slice none 0 0) ?_ _ _ _ | with_reducible refine Tri.far ?_ ?_ _ _ _ | with_reducible refine Tri.alloc ?_ _ | omega | (simp; done))
      · repeat' (first | with_reducible exact HB.out | with_reducible refine Below.alloc ?_ ?_ _ | with_reducible refine below_put3 ?_ ?_ _ _ _ | omega | (simp; omega))
  case rest =>
    obtain ⟨g5, g6, asm, nsm, csm, bsm, msm, dsm, apm, npm, cpm, bpm, mpm, dpm, rfl, rfl, hm⟩ := hcut
    clear R00 R01 R10 R11 R20 R21 T0 T1 T2 HB kT00 kT01 kT02 kT10 kT11 kT12 kT20 kT21 kT22
    obtain ⟨ne, lg5, lg6, hnsm, hmsm, hnpm, hmpm, x1, x2, r1, r2, r3, r4, zT0, zT1, zT2, zR00, zR10, zR20, zR01, zR11, zR21, hb⟩ := hm.out
    clear hm
    have Xsm := Lib.hid x1
    have Xpm := Lib.hid x2
    have Rsm0 := Lib.hid r1
    have Rsm1 := Lib.hid r2
    have Rpm0 := Lib.hid r3
    have Rpm1 := Lib.hid r4
    have HB := Lib.hid hb
    have T0 := Lib.hid zT0
    have T1 := Lib.hid zT1
    have T2 := Lib.hid zT2
    have R00 := Lib.hid zR00
    have R10 := Lib.hid zR10
    have R20 := Lib.hid zR20
    have R01 := Lib.hid zR01
    have R11 := Lib.hid zR11
    have R21 := Lib.hid zR21
    clear x1 x2 r1 r2 r3 r4 hb zT0 zT1 zT2 zR00 zR10 zR20 zR01 zR11 zR21
    obtain ⟨kT00, kT01, kT02, -, -, -, -⟩ := T0.out
    obtain ⟨kT10, kT11, kT12, -, -, -, -⟩ := T1.out
    obtain ⟨kT20, kT21, kT22, -, -, -, -⟩ := T2.out
    obtain ⟨kXsm0, kXsm1, kXsm2, -, -, -, -⟩ := Xsm.out
    obtain ⟨kXpm0, kXpm1, kXpm2, -, -, -, -⟩ := Xpm.out
    go_wp2_with fail
    refine (divR 4 4 4 4 8 8 dv p q R00.out R01.out R10.out R11.out HQ0.out HQ1.out hn0 hm0 hn1 hm1 (by omega) (by omega) (by omega) (by omega) (by omega) (by omega) (by omega) (by omega) (by omega) (by omega) HZ.out EDV.out).mono ?_
    rintro e w21 ⟨ad, nd, cd, bd', md, dd, rfl, hnd, hmd, hr, hr2, hb⟩
    replace R00 := Lib.hid (R00.out.later hb)
    replace R01 := Lib.hid (R01.out.later hb)
    replace R10 := Lib.hid (R10.out.later hb)
    replace R11 := Lib.hid (R11.out.later hb)
    replace R20 := Lib.hid (R20.out.later hb)
    replace R21 := Lib.hid (R21.out.later hb)
    replace Rsm0 := Lib.hid (Rsm0.out.later hb)
    replace Rsm1 := Lib.hid (Rsm1.out.later hb)
    replace Rpm0 := Lib.hid (Rpm0.out.later hb)
    replace Rpm1 := Lib.hid (Rpm1.out.later hb)
    replace T0 := Lib.hid (T0.out.later hb)
    replace T1 := Lib.hid (T1.out.later hb)
    replace T2 := Lib.hid (T2.out.later hb)
    replace Xsm := Lib.hid (Xsm.out.later hb)
    replace Xpm := Lib.hid (Xpm.out.later hb)
    replace HB := Lib.hid (bthen HB.out hb)
    clear hb
    clear kT00 kT01 kT02 kT10 kT11 kT12 kT20 kT21 kT22 kXsm0 kXsm1 kXsm2 kXpm0 kXpm1 kXpm2
    have Rd0 := Lib.hid hr; clear hr
    have Rd1 := Lib.hid hr2; clear hr2
    have hb1 := below_one w21 (.cells #[.bool (decide (dv.num < 0)), .slice ad nd cd, .slice bd' md dd] 26)
    have XD : Hid (Tri (w21.alloc (.cells #[.bool (decide (dv.num < 0)), .slice ad nd cd, .slice bd' md dd] 26)) w21.heap.size (.bool (decide (dv.num < 0))) (.slice ad nd cd) (.slice bd' md dd)) := tri_new w21 _ _ _
    replace Rd0 := Lib.hid (Rd0.out.later hb1)
    replace Rd1 := Lib.hid (Rd1.out.later hb1)
    replace R00 := Lib.hid (R00.out.later hb1)
    replace R01 := Lib.hid (R01.out.later hb1)
    replace R10 := Lib.hid (R10.out.later hb1)
    replace R11 := Lib.hid (R11.out.later hb1)
    replace R20 := Lib.hid (R20.out.later hb1)
    replace R21 := Lib.hid (R21.out.later hb1)
    replace Rsm0 := Lib.hid (Rsm0.out.later hb1)
    replace Rsm1 := Lib.hid (Rsm1.out.later hb1)
    replace Rpm0 := Lib.hid (Rpm0.out.later hb1)
    replace Rpm1 := Lib.hid (Rpm1.out.later hb1)
    replace T0 := Lib.hid (T0.out.later hb1)
    replace T1 := Lib.hid (T1.out.later hb1)
    replace T2 := Lib.hid (T2.out.later hb1)
    replace Xsm := Lib.hid (Xsm.out.later hb1)
    replace Xpm := Lib.hid (Xpm.out.later hb1)
    replace HB := Lib.hid (bthen HB.out hb1)
    clear hb1
    obtain ⟨kT00, kT01, kT02, -, -, -, -⟩ := T0.out
    obtain ⟨kT10, kT11, kT12, -, -, -, -⟩ := T1.out
    obtain ⟨kT20, kT21, kT22, -, -, -, -⟩ := T2.out
    obtain ⟨kXsm0, kXsm1, kXsm2, -, -, -, -⟩ := Xsm.out
    obtain ⟨kXpm0, kXpm1, kXpm2, -, -, -, -⟩ := Xpm.out
    obtain ⟨kXD0, kXD1, kXD2, -, -, -, -⟩ := XD.out
    go_wp2_with fail
    refine (signR T q R10.out R11.out HQ1.out (by omega) (by omega) HT.out).mono ?_
    rintro e w22 ⟨rfl, hb⟩
    replace R00 := Lib.hid (R00.out.later hb)
    replace R01 := Lib.hid (R01.out.later hb)
    replace R10 := Lib.hid (R10.out.later hb)
    replace R11 := Lib.hid (R11.out.later hb)
    replace R20 := Lib.hid (R20.out.later hb)
    replace R21 := Lib.hid (R21.out.later hb)
    replace Rsm0 := Lib.hid (Rsm0.out.later hb)
    replace Rsm1 := Lib.hid (Rsm1.out.later hb)
    replace Rpm0 := Lib.hid (Rpm0.out.later hb)
    replace Rpm1 := Lib.hid (Rpm1.out.later hb)
    replace Rd0 := Lib.hid (Rd0.out.later hb)
    replace Rd1 := Lib.hid (Rd1.out.later hb)
    replace T0 := Lib.hid (T0.out.later hb)
    replace T1 := Lib.hid (T1.out.later hb)
    replace T2 := Lib.hid (T2.out.later hb)
    replace Xsm := Lib.hid (Xsm.out.later hb)
    replace Xpm := Lib.hid (Xpm.out.later hb)
    replace XD := Lib.hid (XD.out.later hb)
    replace HB := Lib.hid (bthen HB.out hb)
    clear hb
    clear kT00 kT01 kT02 kT10 kT11 kT12 kT20 kT21 kT22 kXsm0 kXsm1 kXsm2 kXpm0 kXpm1 kXpm2 kXD0 kXD1 kXD2
    obtain ⟨kT00, kT01, kT02, -, -, -, -⟩ := T0.out
    obtain ⟨kT10, kT11, kT12, -, -, -, -⟩ := T1.out
    obtain ⟨kT20, kT21, kT22, -, -, -, -⟩ := T2.out
    obtain ⟨kXsm0, kXsm1, kXsm2, -, -, -, -⟩ := Xsm.out
    obtain ⟨kXpm0, kXpm1, kXpm2, -, -, -, -⟩ := Xpm.out
    obtain ⟨kXD0, kXD1, kXD2, -, -, -, -⟩ := XD.out
    go_wp2_with fail
    clear kT00 kT01 kT02 kT10 kT11 kT12 kT20 kT21 kT22 kXsm0 kXsm1 kXsm2 kXpm0 kXpm1 kXpm2 kXD0 kXD1 kXD2
    obtain ⟨kT00, kT01, kT02, -, -, -, -⟩ := T0.out
    obtain ⟨kT10, kT11, kT12, -, -, -, -⟩ := T1.out
    obtain ⟨kT20, kT21, kT22, -, -, -, -⟩ := T2.out
    obtain ⟨kXsm0, kXsm1, kXsm2, -, -, -, -⟩ := Xsm.out
    obtain ⟨kXpm0, kXpm1, kXpm2, -, -, -, -⟩ := Xpm.out
    obtain ⟨kXD0, kXD1, kXD2, -, -, -, -⟩ := XD.out
    replace R00 := Lib.hid R00.out.drew
    replace R01 := Lib.hid R01.out.drew
    replace R10 := Lib.hid R10.out.drew
    replace R11 := Lib.hid R11.out.drew
    replace R20 := Lib.hid R20.out.drew
    replace R21 := Lib.hid R21.out.drew
    replace Rsm0 := Lib.hid Rsm0.out.drew
    replace Rsm1 := Lib.hid Rsm1.out.drew
    replace Rpm0 := Lib.hid Rpm0.out.drew
    replace Rpm1 := Lib.hid Rpm1.out.drew
    replace Rd0 := Lib.hid Rd0.out.drew
    replace Rd1 := Lib.hid Rd1.out.drew
    replace T0 := Lib.hid T0.out.drew
    replace T1 := Lib.hid T1.out.drew
    replace T2 := Lib.hid T2.out.drew
    replace Xsm := Lib.hid Xsm.out.drew
    replace Xpm := Lib.hid Xpm.out.drew
    replace XD := Lib.hid XD.out.drew
    replace HB := Lib.hid HB.out.drew
    go_region_held3 (fun w' => w'.cell? ⟨w.heap.size, 0, none⟩ = some (.bool s0) ∧ w'.cell? ⟨w.heap.size, 1, none⟩ = some (.slice a0 n0 c0) ∧ w'.cell? ⟨w.heap.size, 2, none⟩ = some (.slice b0 m0 d0) ∧ w'.cell? ⟨w.heap.size + 1, 0, none⟩ = some (.bool s1) ∧ w'.cell? ⟨w.heap.size + 1, 1, none⟩ = some (.slice a1 n1 c1) ∧ w'.cell? ⟨w.heap.size + 1, 2, none⟩ = some (.slice b1 m1 d1) ∧ w'.cell? ⟨w21.heap.size, 0, none⟩ = some (.bool (decide (dv.num < 0))) ∧ w'.cell? ⟨w21.heap.size, 1, none⟩ = some (.slice ad nd cd) ∧ w'.cell? ⟨w21.heap.size, 2, none⟩ = some (.slice bd' md dd))
      (first | (refine ⟨?_, ?_, ?_, ?_, ?_, ?_, ?_, ?_, ?_⟩ <;> with_reducible assumption) | (go_keep; done) | (refine ⟨?_, ?_, ?_, ?_, ?_, ?_, ?_, ?_, ?_⟩ <;> (repeat rw [cell_other (by first | (simp; done) | (simp; omega))]) <;> with_reducible assumption))
      (first
        | (have mk := G2; clear mk
           try (rw [if_pos (by rfl)]; go_simp)
           go_at_call 13
           refine (sameT Rdb0.out Rdb1.out Rna0.out Rna1.out rfl (by omega) (by omega) (by omega) (by omega)).mono ?_
           rintro e y3 ⟨rfl, hb⟩
           clear Rdb0
           clear Rdb1
           clear Rna0
           clear Rna1
           replace R00 := Lib.hid (R00.out.later hb)
           replace R01 := Lib.hid (R01.out.later hb)
           replace R10 := Lib.hid (R10.out.later hb)
           replace R11 := Lib.hid (R11.out.later hb)
           replace R20 := Lib.hid (R20.out.later hb)
           replace R21 := Lib.hid (R21.out.later hb)
           replace Rsm0 := Lib.hid (Rsm0.out.later hb)
           replace Rsm1 := Lib.hid (Rsm1.out.later hb)
           replace Rpm0 := Lib.hid (Rpm0.out.later hb)
           replace Rpm1 := Lib.hid (Rpm1.out.later hb)
           replace Rd0 := Lib.hid (Rd0.out.later hb)
           replace Rd1 := Lib.hid (Rd1.out.later hb)
           replace T0 := Lib.hid (T0.out.later hb)
           replace T1 := Lib.hid (T1.out.later hb)
           replace T2 := Lib.hid (T2.out.later hb)
           replace Xsm := Lib.hid (Xsm.out.later hb)
           replace Xpm := Lib.hid (Xpm.out.later hb)
           replace XD := Lib.hid (XD.out.later hb)
           replace HB := Lib.hid (bthen HB.out hb); clear hb
           clear kT00 kT01 kT02 kT10 kT11 kT12 kT20 kT21 kT22 kXsm0 kXsm1 kXsm2 kXpm0 kXpm1 kXpm2 kXD0 kXD1 kXD2
           obtain ⟨kT00, kT01, kT02, -, -, -, -⟩ := T0.out
           obtain ⟨kT10, kT11, kT12, -, -, -, -⟩ := T1.out
           obtain ⟨kT20, kT21, kT22, -, -, -, -⟩ := T2.out
           obtain ⟨kXsm0, kXsm1, kXsm2, -, -, -, -⟩ := Xsm.out
           obtain ⟨kXpm0, kXpm1, kXpm2, -, -, -, -⟩ := Xpm.out
           obtain ⟨kXD0, kXD1, kXD2, -, -, -, -⟩ := XD.out
           have G3 : Hid True := trivial
           try go_wp2_with fail)
        | (have mk := G1; clear mk
           try (rw [if_pos (by rfl)]; go_simp)
           go_at_call 14
           refine (normR 4 4 p R00.out R01.out HQ0.out hn0 hm0 (by omega) (by omega) (by omega)).mono ?_
           rintro e y2 ⟨ana, nna, cna, bna, mna, dna, rfl, hnna, hmna, hr, hr2, hb⟩
           replace R00 := Lib.hid (R00.out.later hb)
           replace R01 := Lib.hid (R01.out.later hb)
           replace R10 := Lib.hid (R10.out.later hb)
           replace R11 := Lib.hid (R11.out.later hb)
           replace R20 := Lib.hid (R20.out.later hb)
           replace R21 := Lib.hid (R21.out.later hb)
           replace Rsm0 := Lib.hid (Rsm0.out.later hb)
           replace Rsm1 := Lib.hid (Rsm1.out.later hb)
           replace Rpm0 := Lib.hid (Rpm0.out.later hb)
           replace Rpm1 := Lib.hid (Rpm1.out.later hb)
           replace Rd0 := Lib.hid (Rd0.out.later hb)
           replace Rd1 := Lib.hid (Rd1.out.later hb)
           replace Rdb0 := Lib.hid (Rdb0.out.later hb)
           replace Rdb1 := Lib.hid (Rdb1.out.later hb)
           replace T0 := Lib.hid (T0.out.later hb)
           replace T1 := Lib.hid (T1.out.later hb)
           replace T2 := Lib.hid (T2.out.later hb)
           replace Xsm := Lib.hid (Xsm.out.later hb)
           replace Xpm := Lib.hid (Xpm.out.later hb)
           replace XD := Lib.hid (XD.out.later hb)
           replace HB := Lib.hid (bthen HB.out hb); clear hb
           clear kT00 kT01 kT02 kT10 kT11 kT12 kT20 kT21 kT22 kXsm0 kXsm1 kXsm2 kXpm0 kXpm1 kXpm2 kXD0 kXD1 kXD2
           obtain ⟨kT00, kT01, kT02, -, -, -, -⟩ := T0.out
           obtain ⟨kT10, kT11, kT12, -, -, -, -⟩ := T1.out
           obtain ⟨kT20, kT21, kT22, -, -, -, -⟩ := T2.out
           obtain ⟨kXsm0, kXsm1, kXsm2, -, -, -, -⟩ := Xsm.out
           obtain ⟨kXpm0, kXpm1, kXpm2, -, -, -, -⟩ := Xpm.out
           obtain ⟨kXD0, kXD1, kXD2, -, -, -, -⟩ := XD.out
           have Rna0 := Lib.hid hr; clear hr
           have Rna1 := Lib.hid hr2; clear hr2
           have G2 : Hid True := trivial
           try go_wp2_with fail)
        | (skip
           try (rw [if_pos (by rfl)]; go_simp)
           go_at_call 20
           refine (mulR 12 12 p dv q Rd0.out Rd1.out R10.out R11.out (rat_limbs dv) HQ1.out (by omega) (by omega) (by omega) (by omega) (by omega) (by omega) (by omega) (by omega) (by omega) EDB.out).mono ?_
           rintro e y1 ⟨adb, ndb, cdb, bdb, mdb, ddb, rfl, hndb, hmdb, hr, hr2, hb⟩
           replace R00 := Lib.hid (R00.out.later hb)
           replace R01 := Lib.hid (R01.out.later hb)
           replace R10 := Lib.hid (R10.out.later hb)
           replace R11 := Lib.hid (R11.out.later hb)
           replace R20 := Lib.hid (R20.out.later hb)
           replace R21 := Lib.hid (R21.out.later hb)
           replace Rsm0 := Lib.hid (Rsm0.out.later hb)
           replace Rsm1 := Lib.hid (Rsm1.out.later hb)
           replace Rpm0 := Lib.hid (Rpm0.out.later hb)
           replace Rpm1 := Lib.hid (Rpm1.out.later hb)
           replace Rd0 := Lib.hid (Rd0.out.later hb)
           replace Rd1 := Lib.hid (Rd1.out.later hb)
           replace T0 := Lib.hid (T0.out.later hb)
           replace T1 := Lib.hid (T1.out.later hb)
           replace T2 := Lib.hid (T2.out.later hb)
           replace Xsm := Lib.hid (Xsm.out.later hb)
           replace Xpm := Lib.hid (Xpm.out.later hb)
           replace XD := Lib.hid (XD.out.later hb)
           replace HB := Lib.hid (bthen HB.out hb); clear hb
           clear kT00 kT01 kT02 kT10 kT11 kT12 kT20 kT21 kT22 kXsm0 kXsm1 kXsm2 kXpm0 kXpm1 kXpm2 kXD0 kXD1 kXD2
           obtain ⟨kT00, kT01, kT02, -, -, -, -⟩ := T0.out
           obtain ⟨kT10, kT11, kT12, -, -, -, -⟩ := T1.out
           obtain ⟨kT20, kT21, kT22, -, -, -, -⟩ := T2.out
           obtain ⟨kXsm0, kXsm1, kXsm2, -, -, -, -⟩ := Xsm.out
           obtain ⟨kXpm0, kXpm1, kXpm2, -, -, -, -⟩ := Xpm.out
           obtain ⟨kXD0, kXD1, kXD2, -, -, -, -⟩ := XD.out
           have Rdb0 := Lib.hid hr; clear hr
           have Rdb1 := Lib.hid hr2; clear hr2
           have G1 : Hid True := trivial
           try go_wp2_with fail))
    clear Rd0 Rd1 XD
    clear kXD0 kXD1 kXD2
    go_wp2_with fail
    clear kT00 kT01 kT02 kT10 kT11 kT12 kT20 kT21 kT22 kXsm0 kXsm1 kXsm2 kXpm0 kXpm1 kXpm2
    obtain ⟨kT00, kT01, kT02, -, -, -, -⟩ := T0.out
    obtain ⟨kT10, kT11, kT12, -, -, -, -⟩ := T1.out
    obtain ⟨kT20, kT21, kT22, -, -, -, -⟩ := T2.out
    obtain ⟨kXsm0, kXsm1, kXsm2, -, -, -, -⟩ := Xsm.out
    obtain ⟨kXpm0, kXpm1, kXpm2, -, -, -, -⟩ := Xpm.out
    replace R00 := Lib.hid R00.out.drew
    replace R01 := Lib.hid R01.out.drew
    replace R10 := Lib.hid R10.out.drew
    replace R11 := Lib.hid R11.out.drew
    replace R20 := Lib.hid R20.out.drew
    replace R21 := Lib.hid R21.out.drew
    replace Rsm0 := Lib.hid Rsm0.out.drew
    replace Rsm1 := Lib.hid Rsm1.out.drew
    replace Rpm0 := Lib.hid Rpm0.out.drew
    replace Rpm1 := Lib.hid Rpm1.out.drew
    replace T0 := Lib.hid T0.out.drew
    replace T1 := Lib.hid T1.out.drew
    replace T2 := Lib.hid T2.out.drew
    replace Xsm := Lib.hid Xsm.out.drew
    replace Xpm := Lib.hid Xpm.out.drew
    replace HB := Lib.hid HB.out.drew
    go_region_held3 (fun w' => w'.cell? ⟨w.heap.size, 0, none⟩ = some (.bool s0) ∧ w'.cell? ⟨w.heap.size, 1, none⟩ = some (.slice a0 n0 c0) ∧ w'.cell? ⟨w.heap.size, 2, none⟩ = some (.slice b0 m0 d0) ∧ w'.cell? ⟨w.heap.size + 1, 0, none⟩ = some (.bool s1) ∧ w'.cell? ⟨w.heap.size + 1, 1, none⟩ = some (.slice a1 n1 c1) ∧ w'.cell? ⟨w.heap.size + 1, 2, none⟩ = some (.slice b1 m1 d1) ∧ w'.cell? ⟨w.heap.size + 1 + 1, 0, none⟩ = some (.bool s2) ∧ w'.cell? ⟨w.heap.size + 1 + 1, 1, none⟩ = some (.slice a2 n2 c2) ∧ w'.cell? ⟨w.heap.size + 1 + 1, 2, none⟩ = some (.slice b2 m2 d2) ∧ w'.cell? ⟨g5, 0, none⟩ = some (.bool (decide (sm.num < 0))) ∧ w'.cell? ⟨g5, 1, none⟩ = some (.slice asm nsm csm) ∧ w'.cell? ⟨g5, 2, none⟩ = some (.slice bsm msm dsm) ∧ w'.cell? ⟨g6, 0, none⟩ = some (.bool (decide (pm.num < 0))) ∧ w'.cell? ⟨g6, 1, none⟩ = some (.slice apm npm cpm) ∧ w'.cell? ⟨g6, 2, none⟩ = some (.slice bpm mpm dpm))
      (first | (refine ⟨?_, ?_, ?_, ?_, ?_, ?_, ?_, ?_, ?_, ?_, ?_, ?_, ?_, ?_, ?_⟩ <;> with_reducible assumption) | (go_keep; done) | (refine ⟨?_, ?_, ?_, ?_, ?_, ?_, ?_, ?_, ?_, ?_, ?_, ?_, ?_, ?_, ?_⟩ <;> (repeat rw [cell_other (by first | (simp; done) | (simp; omega))]) <;> with_reducible assumption))
      (first
        | (have mk := G16; clear mk
           try (rw [if_pos (by rfl)]; go_simp)
           go_at_call 26
           refine (awakeR _).mono ?_
           rintro e v17 ⟨rfl, hb⟩
           replace R00 := Lib.hid (R00.out.later hb)
           replace R01 := Lib.hid (R01.out.later hb)
           replace R10 := Lib.hid (R10.out.later hb)
           replace R11 := Lib.hid (R11.out.later hb)
           replace R20 := Lib.hid (R20.out.later hb)
           replace R21 := Lib.hid (R21.out.later hb)
           replace Rsm0 := Lib.hid (Rsm0.out.later hb)
           replace Rsm1 := Lib.hid (Rsm1.out.later hb)
           replace Rpm0 := Lib.hid (Rpm0.out.later hb)
           replace Rpm1 := Lib.hid (Rpm1.out.later hb)
           replace T0 := Lib.hid (T0.out.later hb)
           replace T1 := Lib.hid (T1.out.later hb)
           replace T2 := Lib.hid (T2.out.later hb)
           replace Xsm := Lib.hid (Xsm.out.later hb)
           replace Xpm := Lib.hid (Xpm.out.later hb)
           replace HB := Lib.hid (bthen HB.out hb); clear hb
           clear kT00 kT01 kT02 kT10 kT11 kT12 kT20 kT21 kT22 kXsm0 kXsm1 kXsm2 kXpm0 kXpm1 kXpm2
           obtain ⟨kT00, kT01, kT02, -, -, -, -⟩ := T0.out
           obtain ⟨kT10, kT11, kT12, -, -, -, -⟩ := T1.out
           obtain ⟨kT20, kT21, kT22, -, -, -, -⟩ := T2.out
           obtain ⟨kXsm0, kXsm1, kXsm2, -, -, -, -⟩ := Xsm.out
           obtain ⟨kXpm0, kXpm1, kXpm2, -, -, -, -⟩ := Xpm.out
           have G17 : Hid True := trivial
           try go_wp2_with fail)
        | (have mk := G15; clear mk
           try (rw [if_pos (by rfl)]; go_simp)
           go_at_call 13
           refine (sameT Rxa0.out Rxa1.out Rxb0.out Rxb1.out rfl (by omega) (by omega) (by omega) (by omega)).mono ?_
           rintro e v16 ⟨rfl, hb⟩
           clear Rxa0
           clear Rxa1
           clear Rxb0
           clear Rxb1
           replace R00 := Lib.hid (R00.out.later hb)
           replace R01 := Lib.hid (R01.out.later hb)
           replace R10 := Lib.hid (R10.out.later hb)
           replace R11 := Lib.hid (R11.out.later hb)
           replace R20 := Lib.hid (R20.out.later hb)
           replace R21 := Lib.hid (R21.out.later hb)
           replace Rsm0 := Lib.hid (Rsm0.out.later hb)
           replace Rsm1 := Lib.hid (Rsm1.out.later hb)
           replace Rpm0 := Lib.hid (Rpm0.out.later hb)
           replace Rpm1 := Lib.hid (Rpm1.out.later hb)
           replace T0 := Lib.hid (T0.out.later hb)
           replace T1 := Lib.hid (T1.out.later hb)
           replace T2 := Lib.hid (T2.out.later hb)
           replace Xsm := Lib.hid (Xsm.out.later hb)
           replace Xpm := Lib.hid (Xpm.out.later hb)
           replace HB := Lib.hid (bthen HB.out hb); clear hb
           clear kT00 kT01 kT02 kT10 kT11 kT12 kT20 kT21 kT22 kXsm0 kXsm1 kXsm2 kXpm0 kXpm1 kXpm2
           obtain ⟨kT00, kT01, kT02, -, -, -, -⟩ := T0.out
           obtain ⟨kT10, kT11, kT12, -, -, -, -⟩ := T1.out
           obtain ⟨kT20, kT21, kT22, -, -, -, -⟩ := T2.out
           obtain ⟨kXsm0, kXsm1, kXsm2, -, -, -, -⟩ := Xsm.out
           obtain ⟨kXpm0, kXpm1, kXpm2, -, -, -, -⟩ := Xpm.out
           have G16 : Hid True := trivial
           try go_wp2_with fail)
        | (have mk := G14; clear mk
           try (rw [if_pos (by rfl)]; go_simp)
           go_at_call 14
           refine (normR 4 4 p R00.out R01.out HQ0.out hn0 hm0 (by omega) (by omega) (by omega)).mono ?_
           rintro e v15 ⟨axb, nxb, cxb, bxb, mxb, dxb, rfl, hnxb, hmxb, hr, hr2, hb⟩
           replace R00 := Lib.hid (R00.out.later hb)
           replace R01 := Lib.hid (R01.out.later hb)
           replace R10 := Lib.hid (R10.out.later hb)
           replace R11 := Lib.hid (R11.out.later hb)
           replace R20 := Lib.hid (R20.out.later hb)
           replace R21 := Lib.hid (R21.out.later hb)
           replace Rsm0 := Lib.hid (Rsm0.out.later hb)
           replace Rsm1 := Lib.hid (Rsm1.out.later hb)
           replace Rpm0 := Lib.hid (Rpm0.out.later hb)
           replace Rpm1 := Lib.hid (Rpm1.out.later hb)
           replace Rxa0 := Lib.hid (Rxa0.out.later hb)
           replace Rxa1 := Lib.hid (Rxa1.out.later hb)
           replace T0 := Lib.hid (T0.out.later hb)
           replace T1 := Lib.hid (T1.out.later hb)
           replace T2 := Lib.hid (T2.out.later hb)
           replace Xsm := Lib.hid (Xsm.out.later hb)
           replace Xpm := Lib.hid (Xpm.out.later hb)
           replace HB := Lib.hid (bthen HB.out hb); clear hb
           clear kT00 kT01 kT02 kT10 kT11 kT12 kT20 kT21 kT22 kXsm0 kXsm1 kXsm2 kXpm0 kXpm1 kXpm2
           obtain ⟨kT00, kT01, kT02, -, -, -, -⟩ := T0.out
           obtain ⟨kT10, kT11, kT12, -, -, -, -⟩ := T1.out
           obtain ⟨kT20, kT21, kT22, -, -, -, -⟩ := T2.out
           obtain ⟨kXsm0, kXsm1, kXsm2, -, -, -, -⟩ := Xsm.out
           obtain ⟨kXpm0, kXpm1, kXpm2, -, -, -, -⟩ := Xpm.out
           have Rxb0 := Lib.hid hr; clear hr
           have Rxb1 := Lib.hid hr2; clear hr2
           have G15 : Hid True := trivial
           try go_wp2_with fail)
        | (have mk := G13; clear mk
           try (rw [if_pos (by rfl)]; go_simp)
           go_at_call 18
           refine (subR 9 8 4 4 14 12 p sm q Rsm0.out Rsm1.out R10.out R11.out (rat_limbs sm) HQ1.out hnsm hmsm hn1 hm1 (by omega) (by omega) (by omega) (by omega) (by omega) (by omega) (by omega) (by omega) (by omega) (by omega) (by omega) ESB.out).mono ?_
           rintro e v14 ⟨axa, nxa, cxa, bxa, mxa, dxa, rfl, hnxa, hmxa, hr, hr2, hb⟩
           replace R00 := Lib.hid (R00.out.later hb)
           replace R01 := Lib.hid (R01.out.later hb)
           replace R10 := Lib.hid (R10.out.later hb)
           replace R11 := Lib.hid (R11.out.later hb)
           replace R20 := Lib.hid (R20.out.later hb)
           replace R21 := Lib.hid (R21.out.later hb)
           replace Rsm0 := Lib.hid (Rsm0.out.later hb)
           replace Rsm1 := Lib.hid (Rsm1.out.later hb)
           replace Rpm0 := Lib.hid (Rpm0.out.later hb)
           replace Rpm1 := Lib.hid (Rpm1.out.later hb)
           replace T0 := Lib.hid (T0.out.later hb)
           replace T1 := Lib.hid (T1.out.later hb)
           replace T2 := Lib.hid (T2.out.later hb)
           replace Xsm := Lib.hid (Xsm.out.later hb)
           replace Xpm := Lib.hid (Xpm.out.later hb)
           replace HB := Lib.hid (bthen HB.out hb); clear hb
           clear kT00 kT01 kT02 kT10 kT11 kT12 kT20 kT21 kT22 kXsm0 kXsm1 kXsm2 kXpm0 kXpm1 kXpm2
           obtain ⟨kT00, kT01, kT02, -, -, -, -⟩ := T0.out
           obtain ⟨kT10, kT11, kT12, -, -, -, -⟩ := T1.out
           obtain ⟨kT20, kT21, kT22, -, -, -, -⟩ := T2.out
           obtain ⟨kXsm0, kXsm1, kXsm2, -, -, -, -⟩ := Xsm.out
           obtain ⟨kXpm0, kXpm1, kXpm2, -, -, -, -⟩ := Xpm.out
           have Rxa0 := Lib.hid hr; clear hr
           have Rxa1 := Lib.hid hr2; clear hr2
           have G14 : Hid True := trivial
           try go_wp2_with fail)
        | (have mk := G12; clear mk
           try (rw [if_pos (by rfl)]; go_simp)
           go_at_call 13
           refine (sameT Rx70.out Rx71.out Rx90.out Rx91.out rfl (by omega) (by omega) (by omega) (by omega)).mono ?_
           rintro e v13 ⟨rfl, hb⟩
           clear Rx70
           clear Rx71
           clear Rx90
           clear Rx91
           replace R00 := Lib.hid (R00.out.later hb)
           replace R01 := Lib.hid (R01.out.later hb)
           replace R10 := Lib.hid (R10.out.later hb)
           replace R11 := Lib.hid (R11.out.later hb)
           replace R20 := Lib.hid (R20.out.later hb)
           replace R21 := Lib.hid (R21.out.later hb)
           replace Rsm0 := Lib.hid (Rsm0.out.later hb)
           replace Rsm1 := Lib.hid (Rsm1.out.later hb)
           replace Rpm0 := Lib.hid (Rpm0.out.later hb)
           replace Rpm1 := Lib.hid (Rpm1.out.later hb)
           replace T0 := Lib.hid (T0.out.later hb)
           replace T1 := Lib.hid (T1.out.later hb)
           replace T2 := Lib.hid (T2.out.later hb)
           replace Xsm := Lib.hid (Xsm.out.later hb)
           replace Xpm := Lib.hid (Xpm.out.later hb)
           replace HB := Lib.hid (bthen HB.out hb); clear hb
           clear kT00 kT01 kT02 kT10 kT11 kT12 kT20 kT21 kT22 kXsm0 kXsm1 kXsm2 kXpm0 kXpm1 kXpm2
           obtain ⟨kT00, kT01, kT02, -, -, -, -⟩ := T0.out
           obtain ⟨kT10, kT11, kT12, -, -, -, -⟩ := T1.out
           obtain ⟨kT20, kT21, kT22, -, -, -, -⟩ := T2.out
           obtain ⟨kXsm0, kXsm1, kXsm2, -, -, -, -⟩ := Xsm.out
           obtain ⟨kXpm0, kXpm1, kXpm2, -, -, -, -⟩ := Xpm.out
           have G13 : Hid True := trivial
           try go_wp2_with fail)
        | (have mk := G11; clear mk
           try (rw [if_pos (by rfl)]; go_simp)
           go_at_call 16
           refine (addR 4 4 9 8 14 12 sd p bd R00.out R01.out Rx80.out Rx81.out HQ0.out (rat_limbs bd) hn0 hm0 hnx8 hmx8 (by omega) (by omega) (by omega) (by omega) (by omega) (by omega) (by omega) (by omega) (by omega) (by omega) (by omega) ESD2.out).mono ?_
           rintro e v12 ⟨ax9, nx9, cx9, bx9, mx9, dx9, rfl, hnx9, hmx9, hr, hr2, hb⟩
           clear Rx80
           clear Rx81
           replace R00 := Lib.hid (R00.out.later hb)
           replace R01 := Lib.hid (R01.out.later hb)
           replace R10 := Lib.hid (R10.out.later hb)
           replace R11 := Lib.hid (R11.out.later hb)
           replace R20 := Lib.hid (R20.out.later hb)
           replace R21 := Lib.hid (R21.out.later hb)
           replace Rsm0 := Lib.hid (Rsm0.out.later hb)
           replace Rsm1 := Lib.hid (Rsm1.out.later hb)
           replace Rpm0 := Lib.hid (Rpm0.out.later hb)
           replace Rpm1 := Lib.hid (Rpm1.out.later hb)
           replace Rx70 := Lib.hid (Rx70.out.later hb)
           replace Rx71 := Lib.hid (Rx71.out.later hb)
           replace T0 := Lib.hid (T0.out.later hb)
           replace T1 := Lib.hid (T1.out.later hb)
           replace T2 := Lib.hid (T2.out.later hb)
           replace Xsm := Lib.hid (Xsm.out.later hb)
           replace Xpm := Lib.hid (Xpm.out.later hb)
           replace HB := Lib.hid (bthen HB.out hb); clear hb
           clear kT00 kT01 kT02 kT10 kT11 kT12 kT20 kT21 kT22 kXsm0 kXsm1 kXsm2 kXpm0 kXpm1 kXpm2
           obtain ⟨kT00, kT01, kT02, -, -, -, -⟩ := T0.out
           obtain ⟨kT10, kT11, kT12, -, -, -, -⟩ := T1.out
           obtain ⟨kT20, kT21, kT22, -, -, -, -⟩ := T2.out
           obtain ⟨kXsm0, kXsm1, kXsm2, -, -, -, -⟩ := Xsm.out
           obtain ⟨kXpm0, kXpm1, kXpm2, -, -, -, -⟩ := Xpm.out
           have Rx90 := Lib.hid hr; clear hr
           have Rx91 := Lib.hid hr2; clear hr2
           have G12 : Hid True := trivial
           try go_wp2_with fail)
        | (have mk := G10; clear mk
           try (rw [if_pos (by rfl)]; go_simp)
           go_at_call 16
           refine (addR 4 4 4 4 9 8 bd q r R10.out R11.out R20.out R21.out HQ1.out HQ2.out hn1 hm1 hn2 hm2 (by omega) (by omega) (by omega) (by omega) (by omega) (by omega) (by omega) (by omega) (by omega) (by omega) (by omega) EBD.out).mono ?_
           rintro e v11 ⟨ax8, nx8, cx8, bx8, mx8, dx8, rfl, hnx8, hmx8, hr, hr2, hb⟩
           replace R00 := Lib.hid (R00.out.later hb)
           replace R01 := Lib.hid (R01.out.later hb)
           replace R10 := Lib.hid (R10.out.later hb)
           replace R11 := Lib.hid (R11.out.later hb)
           replace R20 := Lib.hid (R20.out.later hb)
           replace R21 := Lib.hid (R21.out.later hb)
           replace Rsm0 := Lib.hid (Rsm0.out.later hb)
           replace Rsm1 := Lib.hid (Rsm1.out.later hb)
           replace Rpm0 := Lib.hid (Rpm0.out.later hb)
           replace Rpm1 := Lib.hid (Rpm1.out.later hb)
           replace Rx70 := Lib.hid (Rx70.out.later hb)
           replace Rx71 := Lib.hid (Rx71.out.later hb)
           replace T0 := Lib.hid (T0.out.later hb)
           replace T1 := Lib.hid (T1.out.later hb)
           replace T2 := Lib.hid (T2.out.later hb)
           replace Xsm := Lib.hid (Xsm.out.later hb)
           replace Xpm := Lib.hid (Xpm.out.later hb)
           replace HB := Lib.hid (bthen HB.out hb); clear hb
           clear kT00 kT01 kT02 kT10 kT11 kT12 kT20 kT21 kT22 kXsm0 kXsm1 kXsm2 kXpm0 kXpm1 kXpm2
           obtain ⟨kT00, kT01, kT02, -, -, -, -⟩ := T0.out
           obtain ⟨kT10, kT11, kT12, -, -, -, -⟩ := T1.out
           obtain ⟨kT20, kT21, kT22, -, -, -, -⟩ := T2.out
           obtain ⟨kXsm0, kXsm1, kXsm2, -, -, -, -⟩ := Xsm.out
           obtain ⟨kXpm0, kXpm1, kXpm2, -, -, -, -⟩ := Xpm.out
           have Rx80 := Lib.hid hr; clear hr
           have Rx81 := Lib.hid hr2; clear hr2
           have G11 : Hid True := trivial
           try go_wp2_with fail)
        | (have mk := G9; clear mk
           try (rw [if_pos (by rfl)]; go_simp)
           go_at_call 16
           refine (addR 9 8 4 4 14 12 sd sm r Rsm0.out Rsm1.out R20.out R21.out (rat_limbs sm) HQ2.out hnsm hmsm hn2 hm2 (by omega) (by omega) (by omega) (by omega) (by omega) (by omega) (by omega) (by omega) (by omega) (by omega) (by omega) ESD.out).mono ?_
           rintro e v10 ⟨ax7, nx7, cx7, bx7, mx7, dx7, rfl, hnx7, hmx7, hr, hr2, hb⟩
           replace R00 := Lib.hid (R00.out.later hb)
           replace R01 := Lib.hid (R01.out.later hb)
           replace R10 := Lib.hid (R10.out.later hb)
           replace R11 := Lib.hid (R11.out.later hb)
           replace R20 := Lib.hid (R20.out.later hb)
           replace R21 := Lib.hid (R21.out.later hb)
           replace Rsm0 := Lib.hid (Rsm0.out.later hb)
           replace Rsm1 := Lib.hid (Rsm1.out.later hb)
           replace Rpm0 := Lib.hid (Rpm0.out.later hb)
           replace Rpm1 := Lib.hid (Rpm1.out.later hb)
           replace T0 := Lib.hid (T0.out.later hb)
           replace T1 := Lib.hid (T1.out.later hb)
           replace T2 := Lib.hid (T2.out.later hb)
           replace Xsm := Lib.hid (Xsm.out.later hb)
           replace Xpm := Lib.hid (Xpm.out.later hb)
           replace HB := Lib.hid (bthen HB.out hb); clear hb
           clear kT00 kT01 kT02 kT10 kT11 kT12 kT20 kT21 kT22 kXsm0 kXsm1 kXsm2 kXpm0 kXpm1 kXpm2
           obtain ⟨kT00, kT01, kT02, -, -, -, -⟩ := T0.out
           obtain ⟨kT10, kT11, kT12, -, -, -, -⟩ := T1.out
           obtain ⟨kT20, kT21, kT22, -, -, -, -⟩ := T2.out
           obtain ⟨kXsm0, kXsm1, kXsm2, -, -, -, -⟩ := Xsm.out
           obtain ⟨kXpm0, kXpm1, kXpm2, -, -, -, -⟩ := Xpm.out
           have Rx70 := Lib.hid hr; clear hr
           have Rx71 := Lib.hid hr2; clear hr2
           have G10 : Hid True := trivial
           try go_wp2_with fail)
        | (have mk := G8; clear mk
           try (rw [if_pos (by rfl)]; go_simp)
           go_at_call 13
           refine (sameT Rx30.out Rx31.out Rx60.out Rx61.out rfl (by omega) (by omega) (by omega) (by omega)).mono ?_
           rintro e v9 ⟨rfl, hb⟩
           clear Rx30
           clear Rx31
           clear Rx60
           clear Rx61
           replace R00 := Lib.hid (R00.out.later hb)
           replace R01 := Lib.hid (R01.out.later hb)
           replace R10 := Lib.hid (R10.out.later hb)
           replace R11 := Lib.hid (R11.out.later hb)
           replace R20 := Lib.hid (R20.out.later hb)
           replace R21 := Lib.hid (R21.out.later hb)
           replace Rsm0 := Lib.hid (Rsm0.out.later hb)
           replace Rsm1 := Lib.hid (Rsm1.out.later hb)
           replace Rpm0 := Lib.hid (Rpm0.out.later hb)
           replace Rpm1 := Lib.hid (Rpm1.out.later hb)
           replace T0 := Lib.hid (T0.out.later hb)
           replace T1 := Lib.hid (T1.out.later hb)
           replace T2 := Lib.hid (T2.out.later hb)
           replace Xsm := Lib.hid (Xsm.out.later hb)
           replace Xpm := Lib.hid (Xpm.out.later hb)
           replace HB := Lib.hid (bthen HB.out hb); clear hb
           clear kT00 kT01 kT02 kT10 kT11 kT12 kT20 kT21 kT22 kXsm0 kXsm1 kXsm2 kXpm0 kXpm1 kXpm2
           obtain ⟨kT00, kT01, kT02, -, -, -, -⟩ := T0.out
           obtain ⟨kT10, kT11, kT12, -, -, -, -⟩ := T1.out
           obtain ⟨kT20, kT21, kT22, -, -, -, -⟩ := T2.out
           obtain ⟨kXsm0, kXsm1, kXsm2, -, -, -, -⟩ := Xsm.out
           obtain ⟨kXpm0, kXpm1, kXpm2, -, -, -, -⟩ := Xpm.out
           have G9 : Hid True := trivial
           try go_wp2_with fail)
        | (have mk := G7; clear mk
           try (rw [if_pos (by rfl)]; go_simp)
           go_at_call 16
           refine (addR 8 8 8 8 17 16 sc ac bc Rx40.out Rx41.out Rx50.out Rx51.out (rat_limbs ac) (rat_limbs bc) hnx4 hmx4 hnx5 hmx5 (by omega) (by omega) (by omega) (by omega) (by omega) (by omega) (by omega) (by omega) (by omega) (by omega) (by omega) ESC2.out).mono ?_
           rintro e v8 ⟨ax6, nx6, cx6, bx6, mx6, dx6, rfl, hnx6, hmx6, hr, hr2, hb⟩
           clear Rx40
           clear Rx41
           clear Rx50
           clear Rx51
           replace R00 := Lib.hid (R00.out.later hb)
           replace R01 := Lib.hid (R01.out.later hb)
           replace R10 := Lib.hid (R10.out.later hb)
           replace R11 := Lib.hid (R11.out.later hb)
           replace R20 := Lib.hid (R20.out.later hb)
           replace R21 := Lib.hid (R21.out.later hb)
           replace Rsm0 := Lib.hid (Rsm0.out.later hb)
           replace Rsm1 := Lib.hid (Rsm1.out.later hb)
           replace Rpm0 := Lib.hid (Rpm0.out.later hb)
           replace Rpm1 := Lib.hid (Rpm1.out.later hb)
           replace Rx30 := Lib.hid (Rx30.out.later hb)
           replace Rx31 := Lib.hid (Rx31.out.later hb)
           replace T0 := Lib.hid (T0.out.later hb)
           replace T1 := Lib.hid (T1.out.later hb)
           replace T2 := Lib.hid (T2.out.later hb)
           replace Xsm := Lib.hid (Xsm.out.later hb)
           replace Xpm := Lib.hid (Xpm.out.later hb)
           replace HB := Lib.hid (bthen HB.out hb); clear hb
           clear kT00 kT01 kT02 kT10 kT11 kT12 kT20 kT21 kT22 kXsm0 kXsm1 kXsm2 kXpm0 kXpm1 kXpm2
           obtain ⟨kT00, kT01, kT02, -, -, -, -⟩ := T0.out
           obtain ⟨kT10, kT11, kT12, -, -, -, -⟩ := T1.out
           obtain ⟨kT20, kT21, kT22, -, -, -, -⟩ := T2.out
           obtain ⟨kXsm0, kXsm1, kXsm2, -, -, -, -⟩ := Xsm.out
           obtain ⟨kXpm0, kXpm1, kXpm2, -, -, -, -⟩ := Xpm.out
           have Rx60 := Lib.hid hr; clear hr
           have Rx61 := Lib.hid hr2; clear hr2
           have G8 : Hid True := trivial
           try go_wp2_with fail)
        | (have mk := G6; clear mk
           try (rw [if_pos (by rfl)]; go_simp)
           go_at_call 20
           refine (mulR 8 8 bc q r R10.out R11.out R20.out R21.out HQ1.out HQ2.out (by omega) (by omega) (by omega) (by omega) (by omega) (by omega) (by omega) (by omega) (by omega) EBC.out).mono ?_
           rintro e v7 ⟨ax5, nx5, cx5, bx5, mx5, dx5, rfl, hnx5, hmx5, hr, hr2, hb⟩
           replace R00 := Lib.hid (R00.out.later hb)
           replace R01 := Lib.hid (R01.out.later hb)
           replace R10 := Lib.hid (R10.out.later hb)
           replace R11 := Lib.hid (R11.out.later hb)
           replace R20 := Lib.hid (R20.out.later hb)
           replace R21 := Lib.hid (R21.out.later hb)
           replace Rsm0 := Lib.hid (Rsm0.out.later hb)
           replace Rsm1 := Lib.hid (Rsm1.out.later hb)
           replace Rpm0 := Lib.hid (Rpm0.out.later hb)
           replace Rpm1 := Lib.hid (Rpm1.out.later hb)
           replace Rx30 := Lib.hid (Rx30.out.later hb)
           replace Rx31 := Lib.hid (Rx31.out.later hb)
           replace Rx40 := Lib.hid (Rx40.out.later hb)
           replace Rx41 := Lib.hid (Rx41.out.later hb)
           replace T0 := Lib.hid (T0.out.later hb)
           replace T1 := Lib.hid (T1.out.later hb)
           replace T2 := Lib.hid (T2.out.later hb)
           replace Xsm := Lib.hid (Xsm.out.later hb)
           replace Xpm := Lib.hid (Xpm.out.later hb)
           replace HB := Lib.hid (bthen HB.out hb); clear hb
           clear kT00 kT01 kT02 kT10 kT11 kT12 kT20 kT21 kT22 kXsm0 kXsm1 kXsm2 kXpm0 kXpm1 kXpm2
           obtain ⟨kT00, kT01, kT02, -, -, -, -⟩ := T0.out
           obtain ⟨kT10, kT11, kT12, -, -, -, -⟩ := T1.out
           obtain ⟨kT20, kT21, kT22, -, -, -, -⟩ := T2.out
           obtain ⟨kXsm0, kXsm1, kXsm2, -, -, -, -⟩ := Xsm.out
           obtain ⟨kXpm0, kXpm1, kXpm2, -, -, -, -⟩ := Xpm.out
           have Rx50 := Lib.hid hr; clear hr
           have Rx51 := Lib.hid hr2; clear hr2
           have G7 : Hid True := trivial
           try go_wp2_with fail)
        | (have mk := G5; clear mk
           try (rw [if_pos (by rfl)]; go_simp)
           go_at_call 20
           refine (mulR 8 8 ac p r R00.out R01.out R20.out R21.out HQ0.out HQ2.out (by omega) (by omega) (by omega) (by omega) (by omega) (by omega) (by omega) (by omega) (by omega) EAC.out).mono ?_
           rintro e v6 ⟨ax4, nx4, cx4, bx4, mx4, dx4, rfl, hnx4, hmx4, hr, hr2, hb⟩
           replace R00 := Lib.hid (R00.out.later hb)
           replace R01 := Lib.hid (R01.out.later hb)
           replace R10 := Lib.hid (R10.out.later hb)
           replace R11 := Lib.hid (R11.out.later hb)
           replace R20 := Lib.hid (R20.out.later hb)
           replace R21 := Lib.hid (R21.out.later hb)
           replace Rsm0 := Lib.hid (Rsm0.out.later hb)
           replace Rsm1 := Lib.hid (Rsm1.out.later hb)
           replace Rpm0 := Lib.hid (Rpm0.out.later hb)
           replace Rpm1 := Lib.hid (Rpm1.out.later hb)
           replace Rx30 := Lib.hid (Rx30.out.later hb)
           replace Rx31 := Lib.hid (Rx31.out.later hb)
           replace T0 := Lib.hid (T0.out.later hb)
           replace T1 := Lib.hid (T1.out.later hb)
           replace T2 := Lib.hid (T2.out.later hb)
           replace Xsm := Lib.hid (Xsm.out.later hb)
           replace Xpm := Lib.hid (Xpm.out.later hb)
           replace HB := Lib.hid (bthen HB.out hb); clear hb
           clear kT00 kT01 kT02 kT10 kT11 kT12 kT20 kT21 kT22 kXsm0 kXsm1 kXsm2 kXpm0 kXpm1 kXpm2
           obtain ⟨kT00, kT01, kT02, -, -, -, -⟩ := T0.out
           obtain ⟨kT10, kT11, kT12, -, -, -, -⟩ := T1.out
           obtain ⟨kT20, kT21, kT22, -, -, -, -⟩ := T2.out
           obtain ⟨kXsm0, kXsm1, kXsm2, -, -, -, -⟩ := Xsm.out
           obtain ⟨kXpm0, kXpm1, kXpm2, -, -, -, -⟩ := Xpm.out
           have Rx40 := Lib.hid hr; clear hr
           have Rx41 := Lib.hid hr2; clear hr2
           have G6 : Hid True := trivial
           try go_wp2_with fail)
        | (have mk := G4; clear mk
           try (rw [if_pos (by rfl)]; go_simp)
           go_at_call 20
           refine (mulR 13 12 sc sm r Rsm0.out Rsm1.out R20.out R21.out (rat_limbs sm) HQ2.out (by omega) (by omega) (by omega) (by omega) (by omega) (by omega) (by omega) (by omega) (by omega) ESC.out).mono ?_
           rintro e v5 ⟨ax3, nx3, cx3, bx3, mx3, dx3, rfl, hnx3, hmx3, hr, hr2, hb⟩
           replace R00 := Lib.hid (R00.out.later hb)
           replace R01 := Lib.hid (R01.out.later hb)
           replace R10 := Lib.hid (R10.out.later hb)
           replace R11 := Lib.hid (R11.out.later hb)
           replace R20 := Lib.hid (R20.out.later hb)
           replace R21 := Lib.hid (R21.out.later hb)
           replace Rsm0 := Lib.hid (Rsm0.out.later hb)
           replace Rsm1 := Lib.hid (Rsm1.out.later hb)
           replace Rpm0 := Lib.hid (Rpm0.out.later hb)
           replace Rpm1 := Lib.hid (Rpm1.out.later hb)
           replace T0 := Lib.hid (T0.out.later hb)
           replace T1 := Lib.hid (T1.out.later hb)
           replace T2 := Lib.hid (T2.out.later hb)
           replace Xsm := Lib.hid (Xsm.out.later hb)
           replace Xpm := Lib.hid (Xpm.out.later hb)
           replace HB := Lib.hid (bthen HB.out hb); clear hb
           clear kT00 kT01 kT02 kT10 kT11 kT12 kT20 kT21 kT22 kXsm0 kXsm1 kXsm2 kXpm0 kXpm1 kXpm2
           obtain ⟨kT00, kT01, kT02, -, -, -, -⟩ := T0.out
           obtain ⟨kT10, kT11, kT12, -, -, -, -⟩ := T1.out
           obtain ⟨kT20, kT21, kT22, -, -, -, -⟩ := T2.out
           obtain ⟨kXsm0, kXsm1, kXsm2, -, -, -, -⟩ := Xsm.out
           obtain ⟨kXpm0, kXpm1, kXpm2, -, -, -, -⟩ := Xpm.out
           have Rx30 := Lib.hid hr; clear hr
           have Rx31 := Lib.hid hr2; clear hr2
           have G5 : Hid True := trivial
           try go_wp2_with fail)
        | (have mk := G3; clear mk
           try (rw [if_pos (by rfl)]; go_simp)
           go_at_call 13
           refine (sameT Rpm0.out Rpm1.out Rx20.out Rx21.out rfl (by omega) (by omega) (by omega) (by omega)).mono ?_
           rintro e v4 ⟨rfl, hb⟩
           clear Rx20
           clear Rx21
           replace R00 := Lib.hid (R00.out.later hb)
           replace R01 := Lib.hid (R01.out.later hb)
           replace R10 := Lib.hid (R10.out.later hb)
           replace R11 := Lib.hid (R11.out.later hb)
           replace R20 := Lib.hid (R20.out.later hb)
           replace R21 := Lib.hid (R21.out.later hb)
           replace Rsm0 := Lib.hid (Rsm0.out.later hb)
           replace Rsm1 := Lib.hid (Rsm1.out.later hb)
           replace Rpm0 := Lib.hid (Rpm0.out.later hb)
           replace Rpm1 := Lib.hid (Rpm1.out.later hb)
           replace T0 := Lib.hid (T0.out.later hb)
           replace T1 := Lib.hid (T1.out.later hb)
           replace T2 := Lib.hid (T2.out.later hb)
           replace Xsm := Lib.hid (Xsm.out.later hb)
           replace Xpm := Lib.hid (Xpm.out.later hb)
           replace HB := Lib.hid (bthen HB.out hb); clear hb
           clear kT00 kT01 kT02 kT10 kT11 kT12 kT20 kT21 kT22 kXsm0 kXsm1 kXsm2 kXpm0 kXpm1 kXpm2
           obtain ⟨kT00, kT01, kT02, -, -, -, -⟩ := T0.out
           obtain ⟨kT10, kT11, kT12, -, -, -, -⟩ := T1.out
           obtain ⟨kT20, kT21, kT22, -, -, -, -⟩ := T2.out
           obtain ⟨kXsm0, kXsm1, kXsm2, -, -, -, -⟩ := Xsm.out
           obtain ⟨kXpm0, kXpm1, kXpm2, -, -, -, -⟩ := Xpm.out
           have G4 : Hid True := trivial
           try go_wp2_with fail)
        | (have mk := G2; clear mk
           try (rw [if_pos (by rfl)]; go_simp)
           go_at_call 20
           refine (mulR 8 8 pm q p R10.out R11.out R00.out R01.out HQ1.out HQ0.out (by omega) (by omega) (by omega) (by omega) (by omega) (by omega) (by omega) (by omega) (by omega) EPM2.out).mono ?_
           rintro e v3 ⟨ax2, nx2, cx2, bx2, mx2, dx2, rfl, hnx2, hmx2, hr, hr2, hb⟩
           replace R00 := Lib.hid (R00.out.later hb)
           replace R01 := Lib.hid (R01.out.later hb)
           replace R10 := Lib.hid (R10.out.later hb)
           replace R11 := Lib.hid (R11.out.later hb)
           replace R20 := Lib.hid (R20.out.later hb)
           replace R21 := Lib.hid (R21.out.later hb)
           replace Rsm0 := Lib.hid (Rsm0.out.later hb)
           replace Rsm1 := Lib.hid (Rsm1.out.later hb)
           replace Rpm0 := Lib.hid (Rpm0.out.later hb)
           replace Rpm1 := Lib.hid (Rpm1.out.later hb)
           replace T0 := Lib.hid (T0.out.later hb)
           replace T1 := Lib.hid (T1.out.later hb)
           replace T2 := Lib.hid (T2.out.later hb)
           replace Xsm := Lib.hid (Xsm.out.later hb)
           replace Xpm := Lib.hid (Xpm.out.later hb)
           replace HB := Lib.hid (bthen HB.out hb); clear hb
           clear kT00 kT01 kT02 kT10 kT11 kT12 kT20 kT21 kT22 kXsm0 kXsm1 kXsm2 kXpm0 kXpm1 kXpm2
           obtain ⟨kT00, kT01, kT02, -, -, -, -⟩ := T0.out
           obtain ⟨kT10, kT11, kT12, -, -, -, -⟩ := T1.out
           obtain ⟨kT20, kT21, kT22, -, -, -, -⟩ := T2.out
           obtain ⟨kXsm0, kXsm1, kXsm2, -, -, -, -⟩ := Xsm.out
           obtain ⟨kXpm0, kXpm1, kXpm2, -, -, -, -⟩ := Xpm.out
           have Rx20 := Lib.hid hr; clear hr
           have Rx21 := Lib.hid hr2; clear hr2
           have G3 : Hid True := trivial
           try go_wp2_with fail)
        | (have mk := G1; clear mk
           try (rw [if_pos (by rfl)]; go_simp)
           go_at_call 13
           refine (sameT Rsm0.out Rsm1.out Rx10.out Rx11.out rfl (by omega) (by omega) (by omega) (by omega)).mono ?_
           rintro e v2 ⟨rfl, hb⟩
           clear Rx10
           clear Rx11
           replace R00 := Lib.hid (R00.out.later hb)
           replace R01 := Lib.hid (R01.out.later hb)
           replace R10 := Lib.hid (R10.out.later hb)
           replace R11 := Lib.hid (R11.out.later hb)
           replace R20 := Lib.hid (R20.out.later hb)
           replace R21 := Lib.hid (R21.out.later hb)
           replace Rsm0 := Lib.hid (Rsm0.out.later hb)
           replace Rsm1 := Lib.hid (Rsm1.out.later hb)
           replace Rpm0 := Lib.hid (Rpm0.out.later hb)
           replace Rpm1 := Lib.hid (Rpm1.out.later hb)
           replace T0 := Lib.hid (T0.out.later hb)
           replace T1 := Lib.hid (T1.out.later hb)
           replace T2 := Lib.hid (T2.out.later hb)
           replace Xsm := Lib.hid (Xsm.out.later hb)
           replace Xpm := Lib.hid (Xpm.out.later hb)
           replace HB := Lib.hid (bthen HB.out hb); clear hb
           clear kT00 kT01 kT02 kT10 kT11 kT12 kT20 kT21 kT22 kXsm0 kXsm1 kXsm2 kXpm0 kXpm1 kXpm2
           obtain ⟨kT00, kT01, kT02, -, -, -, -⟩ := T0.out
           obtain ⟨kT10, kT11, kT12, -, -, -, -⟩ := T1.out
           obtain ⟨kT20, kT21, kT22, -, -, -, -⟩ := T2.out
           obtain ⟨kXsm0, kXsm1, kXsm2, -, -, -, -⟩ := Xsm.out
           obtain ⟨kXpm0, kXpm1, kXpm2, -, -, -, -⟩ := Xpm.out
           have G2 : Hid True := trivial
           try go_wp2_with fail)
        | (skip
           try (rw [if_pos (by rfl)]; go_simp)
           go_at_call 16
           refine (addR 4 4 4 4 9 8 sm q p R10.out R11.out R00.out R01.out HQ1.out HQ0.out hn1 hm1 hn0 hm0 (by omega) (by omega) (by omega) (by omega) (by omega) (by omega) (by omega) (by omega) (by omega) (by omega) (by omega) ESM2.out).mono ?_
           rintro e v1 ⟨ax1, nx1, cx1, bx1, mx1, dx1, rfl, hnx1, hmx1, hr, hr2, hb⟩
           replace R00 := Lib.hid (R00.out.later hb)
           replace R01 := Lib.hid (R01.out.later hb)
           replace R10 := Lib.hid (R10.out.later hb)
           replace R11 := Lib.hid (R11.out.later hb)
           replace R20 := Lib.hid (R20.out.later hb)
           replace R21 := Lib.hid (R21.out.later hb)
           replace Rsm0 := Lib.hid (Rsm0.out.later hb)
           replace Rsm1 := Lib.hid (Rsm1.out.later hb)
           replace Rpm0 := Lib.hid (Rpm0.out.later hb)
           replace Rpm1 := Lib.hid (Rpm1.out.later hb)
           replace T0 := Lib.hid (T0.out.later hb)
           replace T1 := Lib.hid (T1.out.later hb)
           replace T2 := Lib.hid (T2.out.later hb)
           replace Xsm := Lib.hid (Xsm.out.later hb)
           replace Xpm := Lib.hid (Xpm.out.later hb)
           replace HB := Lib.hid (bthen HB.out hb); clear hb
           clear kT00 kT01 kT02 kT10 kT11 kT12 kT20 kT21 kT22 kXsm0 kXsm1 kXsm2 kXpm0 kXpm1 kXpm2
           obtain ⟨kT00, kT01, kT02, -, -, -, -⟩ := T0.out
           obtain ⟨kT10, kT11, kT12, -, -, -, -⟩ := T1.out
           obtain ⟨kT20, kT21, kT22, -, -, -, -⟩ := T2.out
           obtain ⟨kXsm0, kXsm1, kXsm2, -, -, -, -⟩ := Xsm.out
           obtain ⟨kXpm0, kXpm1, kXpm2, -, -, -, -⟩ := Xpm.out
           have Rx10 := Lib.hid hr; clear hr
           have Rx11 := Lib.hid hr2; clear hr2
           have G1 : Hid True := trivial
           try go_wp2_with fail))
    go_wp2
    go_ret
    exact ⟨rfl, HB.out⟩

end Go.Proofs.YtnnoicjnggoffaaGreat
/- RatioField holds: sums and products do not hang on their order, and are parted, and what is divided by may be multiplied with again. No condition. -/
namespace Go.Proofs.YtnnoicjnggoffaaGreat
set_option linter.unusedVariables false
set_option linter.unusedSimpArgs false
set_option maxRecDepth 100000
open Go.ChangeShapes Go.WideShapes Go.ChangeAt Go.RowKit Nums Go.Joins

theorem ratioField_walk (s0 s1 s2 : Bool) (a0 b0 a1 b1 a2 b2 : Option Addr) (n0 c0 m0 d0 n1 c1 m1 d1 n2 c2 m2 d2 : Nat) (xs0 ys0 xs1 ys1 xs2 ys2 : List Nat) (w : World) (h00 : Row w a0 n0 c0 xs0) (h01 : Row w b0 m0 d0 ys0) (h10 : Row w a1 n1 c1 xs1) (h11 : Row w b1 m1 d1 ys1) (h20 : Row w a2 n2 c2 xs2) (h21 : Row w b2 m2 d2 ys2) :
    Calls Tryz.prog 6 #[.agg #[.bool s0, .slice a0 n0 c0, .slice b0 m0 d0], .agg #[.bool s1, .slice a1 n1 c1, .slice b1 m1 d1], .agg #[.bool s2, .slice a2 n2 c2, .slice b2 m2 d2]] w fun e w' => e = .returned (.bool true) ∧ Below w.heap.size w w' := by
  by_cases hn0 : n0 ≤ 4
  · by_cases hm0 : m0 ≤ 4
    · by_cases hn1 : n1 ≤ 4
      · by_cases hm1 : m1 ≤ 4
        · by_cases hn2 : n2 ≤ 4
          · by_cases hm2 : m2 ≤ 4
            · by_cases hz : mkRat (sv s1 (val xs1)) (val ys1) = 0
              · exact ratioField_z _ _ _ h00 h01 rfl hn0 hm0 h10 h11 rfl hn1 hm1 h20 h21 rfl hn2 hm2 hz
              · exact ratioField_n _ _ _ h00 h01 rfl hn0 hm0 h10 h11 rfl hn1 hm1 h20 h21 rfl hn2 hm2 hz
            · exact ratioField_out2m s0 s1 s2 a0 b0 a1 b1 a2 b2 n0 c0 m0 d0 n1 c1 m1 d1 n2 c2 m2 d2 w hn0 hm0 hn1 hm1 hn2 (by omega)
          · exact ratioField_out2n s0 s1 s2 a0 b0 a1 b1 a2 b2 n0 c0 m0 d0 n1 c1 m1 d1 n2 c2 m2 d2 w hn0 hm0 hn1 hm1 (by omega)
        · exact ratioField_out1m s0 s1 s2 a0 b0 a1 b1 a2 b2 n0 c0 m0 d0 n1 c1 m1 d1 n2 c2 m2 d2 w hn0 hm0 hn1 (by omega)
      · exact ratioField_out1n s0 s1 s2 a0 b0 a1 b1 a2 b2 n0 c0 m0 d0 n1 c1 m1 d1 n2 c2 m2 d2 w hn0 hm0 (by omega)
    · exact ratioField_out0m s0 s1 s2 a0 b0 a1 b1 a2 b2 n0 c0 m0 d0 n1 c1 m1 d1 n2 c2 m2 d2 w  hn0 (by omega)
  · exact ratioField_out0n s0 s1 s2 a0 b0 a1 b1 a2 b2 n0 c0 m0 d0 n1 c1 m1 d1 n2 c2 m2 d2 w  (by omega)

theorem ratioField_lifted (os : Os) (started : os.Started) (H : Type) (enc : TypeId × Value → H) :
    ReturnsInHanded {} Tryz.checked os 6 .any (Rows.ratioFieldSpec.pre6 enc Tryz.prog Tryz.f6 Rows.ratioFieldRow.domain false) (Rows.ratioFieldSpec.post enc Tryz.prog Tryz.f6 false true false false) := by
  refine returnsInHanded_of_change (C := Tryz.checked) Tryz.ownKnob started (by kernel_rfl) Tryz.func6
    (ChangeSpec.witness6 (enc := enc) (C := Tryz.checked) false ⟨#[], #[.agg #[.bool false, .slice none 0 0, .slice none 0 0], .agg #[.bool false, .slice none 0 0, .slice none 0 0], .agg #[.bool false, .slice none 0 0, .slice none 0 0]], []⟩ 8 (by kernel_rfl) (by kernel_rfl) (by kernel_rfl) (by kernel_rfl)) ?_
  intro W base args ds gs before hval0 hW hcnd _
  have hval : ∀ (j : Nat) t v, Tryz.f6.params[j]? = some t → args[j]? = some v → Value.okWide Tryz.prog W .any base t v := hval0
  have hW' := hW
  obtain ⟨p, q, hA0, hV, rfl, hfz, hnd⟩ := hW
  have hA : DataW.TrodAll enc Tryz.prog W 0 (fun _ => true) true Tryz.f6.params.toList args.toList ds p := hA0
  rw [Tryz.params6] at hA hval
  obtain ⟨v0, vs0, d0, ds0, p0, q0, hargs, rfl, rfl, h0, r0⟩ := trodAll_cons hA
  obtain ⟨v1, vs1, d1, ds1, p1, q1, rfl, rfl, rfl, h1, r1⟩ := trodAll_cons r0
  obtain ⟨v2, vs2, d2, ds2, p2, q2, rfl, rfl, rfl, h2, r2⟩ := trodAll_cons r1
  obtain ⟨rfl, rfl, rfl⟩ := trodAll_nil r2
  obtain rfl : args = #[v0, v1, v2] := by cases args; simp_all
  obtain ⟨rfl, rfl⟩ := trodVars_none hV
  have k0 := h0
  have lt0 : ∀ x ∈ p0, x.block < W.heap.size := by obtain ⟨m, hm⟩ := k0; exact DataW.trod_lt m _ _ _ hm
  obtain ⟨s0, a0, n0, c0, b0, m0, e0, xs0, ys0, rfl, w0, u0⟩ := rat_of_trod (hval 0 26 v0 rfl rfl) h0
  have k1 := h1
  have lt1 : ∀ x ∈ p1, x.block < W.heap.size := by obtain ⟨m, hm⟩ := k1; exact DataW.trod_lt m _ _ _ hm
  obtain ⟨s1, a1, n1, c1, b1, m1, e1, xs1, ys1, rfl, w1, u1⟩ := rat_of_trod (hval 1 26 v1 rfl rfl) h1
  have k2 := h2
  have lt2 : ∀ x ∈ p2, x.block < W.heap.size := by obtain ⟨m, hm⟩ := k2; exact DataW.trod_lt m _ _ _ hm
  obtain ⟨s2, a2, n2, c2, b2, m2, e2, xs2, ys2, rfl, w2, u2⟩ := rat_of_trod (hval 2 26 v2 rfl rfl) h2
  clear hA0 hval0
  refine (ratioField_walk s0 s1 s2 a0 b0 a1 b1 a2 b2 n0 c0 m0 e0 n1 c1 m1 e1 n2 c2 m2 e2 xs0 ys0 xs1 ys1 xs2 ys2 W w0 u0 w1 u1 w2 u2).mono fun e W' ⟨he, bel⟩ => ?_
  subst he
  exact ⟨_, rfl, _, _, _, [], _, [], hW', trodAll_mk1 (shut_bool Tryz.underlying4 _), (trodAll_cons_mk (Below.trod Tryz.laidOut (by kernel_rfl) (of_decide_eq_true (by kernel_rfl)) k0 bel lt0) (trodAll_cons_mk (Below.trod Tryz.laidOut (by kernel_rfl) (of_decide_eq_true (by kernel_rfl)) k1 bel lt1) (trodAll_cons_mk (Below.trod Tryz.laidOut (by kernel_rfl) (of_decide_eq_true (by kernel_rfl)) k2 bel lt2) trodAll_mk0))), rfl, bel.frame _, fun h => by cases h⟩

theorem ratioField_over : Rows.ratioFieldRow.holds Tryz.pinned (OpenSpec.ofChange Rows.ratioFieldSpec) :=
  OpenClaim.holds_of_wide 6 Tryz.f6 rfl rfl rfl rfl rfl rfl rfl ⟨rfl, rfl, rfl, rfl, rfl⟩ rfl rfl rfl rfl rfl (by kernel_rfl) Tryz.func6 (by kernel_rfl)
    (of_decide_eq_true (by kernel_rfl)) (by unfold Func.isWrapper; first | (rw [if_pos (by decide +kernel)]; kernel_rfl) | (rw [if_neg (by decide +kernel)]; exact ⟨rfl, rfl⟩))
    (fun os started H enc _ => ratioField_lifted os started H enc)

theorem ratioField_holds : Rows.RatioFieldSaid := ratioField_over
#print axioms ratioField_holds
end Go.Proofs.YtnnoicjnggoffaaGreat
