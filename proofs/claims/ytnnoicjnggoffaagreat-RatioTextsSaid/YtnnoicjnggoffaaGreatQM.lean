/- Two numbers with one text are one. -/
import Derived.Test.YtnnoicjnggoffaaGreatQG
import Derived.Test.YtnnoicjnggoffaaGreatQC
import Derived.Test.YtnnoicjnggoffaaGreatQD
import Derived.Deep.RegionHeld3
import Derived.Deep.DeepCutAuto
import Derived.Test.YtnnoicjnggoffaaGreatIF
namespace Go.Proofs.YtnnoicjnggoffaaGreat
set_option linter.unusedVariables false
set_option linter.unusedSimpArgs false
set_option maxRecDepth 100000
open Go.RowKit Nums

theorem Row.alloc {w : World} {a : Option Addr} {n c : Nat} {xs : List Nat} (h : Row w a n c xs) (o : Obj) : Row (w.alloc o) a n c xs := h.later (below_one w o)

theorem tri_next (w : World) (o : Obj) (u v x : Value) : Tri ((w.alloc o).alloc (.cells #[u, v, x] 26)) (w.heap.size + 1) u v x := by
  have h := tri_new (w.alloc o) u v x
  rw [show (w.alloc o).heap.size = w.heap.size + 1 from by simp] at h
  exact h

theorem tri_cells2 {W : World} {g g' : Nat} {u v x u' v' x' : Value} (h : Tri W g u v x) (h' : Tri W g' u' v' x') : W.cell? ⟨g, 0, none⟩ = some u ∧ W.cell? ⟨g, 1, none⟩ = some v ∧ W.cell? ⟨g, 2, none⟩ = some x ∧ W.cell? ⟨g', 0, none⟩ = some u' ∧ W.cell? ⟨g', 1, none⟩ = some v' ∧ W.cell? ⟨g', 2, none⟩ = some x' := ⟨h.1, h.2.1, h.2.2.1, h'.1, h'.2.1, h'.2.2.1⟩

theorem bytes_beq2 {s t : ByteArray} (h : s ≠ t) : (s.toList == t.toList) = false := by
  rw [beq_eq_false_iff_ne, Lib.toList_data, Lib.toList_data]
  intro e
  exact h (ByteArray.ext (Array.toList_inj.1 e))

theorem cons_split {l1 l2 r1 r2 : List UInt8} {c : UInt8} (h1 : c ∉ l1) (h2 : c ∉ l2) (h : l1 ++ c :: r1 = l2 ++ c :: r2) : l1 = l2 ∧ r1 = r2 := by
  induction l1 generalizing l2 with
  | nil =>
    cases l2 with
    | nil => simpa using h
    | cons x l2 =>
      simp only [List.nil_append, List.cons_append, List.cons.injEq] at h
      exact absurd (by rw [h.1]; simp) h2
  | cons x l1 ih =>
    cases l2 with
    | nil =>
      simp only [List.nil_append, List.cons_append, List.cons.injEq] at h
      exact absurd (by rw [h.1]; simp) h1
    | cons y l2 =>
      simp only [List.cons_append, List.cons.injEq] at h
      simp only [List.mem_cons, not_or] at h1 h2
      obtain ⟨e1, e2⟩ := ih h1.2 h2.2 h.2
      exact ⟨by rw [h.1, e1], e2⟩

theorem decI_inj {X Y : Int} (h : decI X = decI Y) : X = Y := by
  have hX := signed_dec X
  have hY := signed_dec Y
  rw [h] at hX
  rcases hX with ⟨a1, a2⟩ | ⟨a1, a2, a3⟩ <;> rcases hY with ⟨b1, b2⟩ | ⟨b1, b2, b3⟩
  · have e : decStr X.natAbs = decStr Y.natAbs := by
      rw [a2] at b2
      exact ByteArray.ext (Array.toList_inj.1 (List.cons.inj b2).2)
    have := decStr_inj e
    have h1 : X < 0 := by simpa using a1
    have h2 : Y < 0 := by simpa using b1
    omega
  · rw [a2] at b3; exact absurd rfl b3
  · rw [b2] at a3; exact absurd rfl a3
  · have e : decStr X.natAbs = decStr Y.natAbs := by rw [← a2, ← b2]
    have := decStr_inj e
    have h1 : ¬ X < 0 := by simpa using a1
    have h2 : ¬ Y < 0 := by simpa using b1
    omega

theorem str_list {q : Rat} (h : q.den ≠ 1) : (ratStr q).data.toList = (decI q.num).data.toList ++ 47 :: (decStr q.den).data.toList := by
  rw [ratStr, if_neg h, ByteArray.data_append, Array.toList_append, ByteArray.data_append, Array.toList_append]
  rfl

theorem ratStr_inj {p q : Rat} (h : ratStr p = ratStr q) : p = q := by
  by_cases hp : p.den = 1 <;> by_cases hq : q.den = 1
  · rw [ratStr, if_pos hp, ratStr, if_pos hq] at h
    exact Rat.ext (decI_inj h) (by rw [hp, hq])
  · have e := str_list hq
    rw [← h, ratStr, if_pos hp] at e
    exact absurd (by rw [e]; simp) (decI_not p.num (c := 47) (Or.inl rfl))
  · have e := str_list hp
    rw [h, ratStr, if_pos hq] at e
    exact absurd (by rw [e]; simp) (decI_not q.num (c := 47) (Or.inl rfl))
  · have e1 := str_list hp
    rw [h, str_list hq] at e1
    obtain ⟨a, b⟩ := cons_split (decI_not q.num (c := 47) (Or.inl rfl)) (decI_not p.num (c := 47) (Or.inl rfl)) e1
    exact Rat.ext (decI_inj (ByteArray.ext (Array.toList_inj.1 a))).symm (decStr_inj (ByteArray.ext (Array.toList_inj.1 b))).symm

end Go.Proofs.YtnnoicjnggoffaaGreat
/- How numbers compare. -/
namespace Go.Proofs.YtnnoicjnggoffaaGreat
set_option linter.unusedVariables false
set_option linter.unusedSimpArgs false
set_option maxRecDepth 100000
open Go.RowKit Nums

theorem num_pos' {q : Rat} (h : 0 < q) : 0 < q.num := by
  have h1 : 0 ≤ q.num := Rat.num_nonneg.2 (Rat.le_of_lt h)
  have h2 : q.num ≠ 0 := fun e => by rw [Rat.num_eq_zero] at e; subst e; exact absurd h (by decide)
  omega
theorem num_neg' {q : Rat} (h : q < 0) : q.num < 0 := by
  have h1 : ¬ 0 ≤ q.num := fun e => by rw [Rat.num_nonneg] at e; exact (Rat.not_le.2 h) e
  omega
theorem sgn_zero_num {q : Rat} : sgn q.num = 0 ↔ q = 0 := by
  rw [← Rat.num_eq_zero]; unfold sgn; split <;> (try split) <;> omega
theorem sgn_cmp (p q : Rat) : sgn (p - q).num = cmpR p q := by
  rcases rat_tri p q with h | h | h
  · rw [cmpR_lt h]
    have : p - q < 0 := by rw [Rat.sub_lt_iff, Rat.zero_add]; exact h
    have : (p - q).num < 0 := num_neg' this
    rw [sgn, if_pos this]
  · subst h; rw [cmpR_eq rfl, Rat.sub_self]; rfl
  · rw [cmpR_gt h]
    have : 0 < p - q := (Rat.lt_iff_sub_pos q p).1 h
    have : 0 < (p - q).num := num_pos' this
    rw [sgn, if_neg (by omega), if_pos this]
theorem cmpR_swap (p q : Rat) : cmpR q p = -cmpR p q := cmpZ_swap _ _
theorem cmpR_add (p q r : Rat) : cmpR (p + r) (q + r) = cmpR p q := by
  rcases rat_tri p q with h | h | h
  · rw [cmpR_lt h, cmpR_lt (Rat.add_lt_add_right.2 h)]
  · subst h; rw [cmpR_eq rfl, cmpR_eq rfl]
  · rw [cmpR_gt h, cmpR_gt (Rat.add_lt_add_right.2 h)]
theorem cmpR_mul (p q u : Rat) (hu : 0 < u) : cmpR (p * u) (q * u) = cmpR p q := by
  rcases rat_tri p q with h | h | h
  · rw [cmpR_lt h, cmpR_lt (Rat.mul_lt_mul_of_pos_right h hu)]
  · subst h; rw [cmpR_eq rfl, cmpR_eq rfl]
  · rw [cmpR_gt h, cmpR_gt (Rat.mul_lt_mul_of_pos_right h hu)]
theorem square_sgn (r : Rat) : (sgn (r * r).num = 0 ∧ r * r = 0) ∨ (sgn (r * r).num = 1 ∧ 0 < r * r) := by
  rcases rat_tri r 0 with h | h | h
  · right
    have h1 : 0 < -r := by rw [Rat.lt_neg_iff]; simpa using h
    have h2 : 0 < -r * -r := Rat.mul_pos h1 h1
    rw [Rat.neg_mul, Rat.mul_neg, Rat.neg_neg] at h2
    have : 0 < (r * r).num := num_pos' h2
    exact ⟨by rw [sgn, if_neg (by omega), if_pos this], h2⟩
  · left; subst h; exact ⟨by rw [Rat.zero_mul]; rfl, Rat.zero_mul _⟩
  · right
    have h2 := Rat.mul_pos h h
    have : 0 < (r * r).num := num_pos' h2
    exact ⟨by rw [sgn, if_neg (by omega), if_pos this], h2⟩
theorem cmpR_any (p q : Rat) : cmpR p q = 0 ∨ cmpR p q = 1 ∨ cmpR p q = -1 := by
  rcases rat_tri p q with h | h | h
  · exact Or.inr (Or.inr (cmpR_lt h))
  · exact Or.inl (cmpR_eq h)
  · exact Or.inr (Or.inl (cmpR_gt h))

end Go.Proofs.YtnnoicjnggoffaaGreat
/- RatioOne, where a number is long. -/
namespace Go.Proofs.YtnnoicjnggoffaaGreat
set_option linter.unusedVariables false
set_option linter.unusedSimpArgs false
set_option maxRecDepth 100000
open Go.RowKit Nums

set_option maxHeartbeats 4000000 in
theorem ratioOne_out0n (s0 s1 : Bool) (a0 b0 a1 b1 : Option Addr) (n0 c0 m0 d0 n1 c1 m1 d1 : Nat) (w : World) (hbad : 4 < n0) :
    Calls Tryz.prog 7 #[.agg #[.bool s0, .slice a0 n0 c0, .slice b0 m0 d0], .agg #[.bool s1, .slice a1 n1 c1, .slice b1 m1 d1]] w fun e w' => e = .returned (.bool true) ∧ Below w.heap.size w w' := by
  have HB := Lib.hid (below_three w (.cells #[.bool s0, .slice a0 n0 c0, .slice b0 m0 d0] 26) (.cells #[.bool s1, .slice a1 n1 c1, .slice b1 m1 d1] 26) (.cells #[.bool s0, .slice a0 n0 c0, .slice b0 m0 d0, .bool s1, .slice a1 n1 c1, .slice b1 m1 d1] 26))
  have ka0 := cell_new ((w.alloc (.cells #[.bool s0, .slice a0 n0 c0, .slice b0 m0 d0] 26)).alloc (.cells #[.bool s1, .slice a1 n1 c1, .slice b1 m1 d1] 26)) #[.bool s0, .slice a0 n0 c0, .slice b0 m0 d0, .bool s1, .slice a1 n1 c1, .slice b1 m1 d1] 26 1
  have kb0 := cell_new ((w.alloc (.cells #[.bool s0, .slice a0 n0 c0, .slice b0 m0 d0] 26)).alloc (.cells #[.bool s1, .slice a1 n1 c1, .slice b1 m1 d1] 26)) #[.bool s0, .slice a0 n0 c0, .slice b0 m0 d0, .bool s1, .slice a1 n1 c1, .slice b1 m1 d1] 26 2
  have ka1 := cell_new ((w.alloc (.cells #[.bool s0, .slice a0 n0 c0, .slice b0 m0 d0] 26)).alloc (.cells #[.bool s1, .slice a1 n1 c1, .slice b1 m1 d1] 26)) #[.bool s0, .slice a0 n0 c0, .slice b0 m0 d0, .bool s1, .slice a1 n1 c1, .slice b1 m1 d1] 26 4
  have kb1 := cell_new ((w.alloc (.cells #[.bool s0, .slice a0 n0 c0, .slice b0 m0 d0] 26)).alloc (.cells #[.bool s1, .slice a1 n1 c1, .slice b1 m1 d1] 26)) #[.bool s0, .slice a0 n0 c0, .slice b0 m0 d0, .bool s1, .slice a1 n1 c1, .slice b1 m1 d1] 26 5
  rw [show ((w.alloc (.cells #[.bool s0, .slice a0 n0 c0, .slice b0 m0 d0] 26)).alloc (.cells #[.bool s1, .slice a1 n1 c1, .slice b1 m1 d1] 26)).heap.size = w.heap.size + 1 + 1 from by simp] at ka0 kb0 ka1 kb1
  go_enter Tryz.func7, Tryz.ntmps7
  go_wp2_with fail
  refine (few2_no0n (w.heap.size + 1 + 1) a0 b0 n0 c0 m0 d0 a1 b1 n1 c1 m1 d1 _ ka0 kb0 ka1 kb1 hbad).mono ?_
  rintro e w' ⟨rfl, rfl⟩
  go_wp2
  go_ret
  exact ⟨rfl, HB.out⟩

set_option maxHeartbeats 4000000 in
theorem ratioOne_out0m (s0 s1 : Bool) (a0 b0 a1 b1 : Option Addr) (n0 c0 m0 d0 n1 c1 m1 d1 : Nat) (w : World) (hn0 : n0 ≤ 4) (hbad : 4 < m0) :
    Calls Tryz.prog 7 #[.agg #[.bool s0, .slice a0 n0 c0, .slice b0 m0 d0], .agg #[.bool s1, .slice a1 n1 c1, .slice b1 m1 d1]] w fun e w' => e = .returned (.bool true) ∧ Below w.heap.size w w' := by
  have HB := Lib.hid (below_three w (.cells #[.bool s0, .slice a0 n0 c0, .slice b0 m0 d0] 26) (.cells #[.bool s1, .slice a1 n1 c1, .slice b1 m1 d1] 26) (.cells #[.bool s0, .slice a0 n0 c0, .slice b0 m0 d0, .bool s1, .slice a1 n1 c1, .slice b1 m1 d1] 26))
  have ka0 := cell_new ((w.alloc (.cells #[.bool s0, .slice a0 n0 c0, .slice b0 m0 d0] 26)).alloc (.cells #[.bool s1, .slice a1 n1 c1, .slice b1 m1 d1] 26)) #[.bool s0, .slice a0 n0 c0, .slice b0 m0 d0, .bool s1, .slice a1 n1 c1, .slice b1 m1 d1] 26 1
  have kb0 := cell_new ((w.alloc (.cells #[.bool s0, .slice a0 n0 c0, .slice b0 m0 d0] 26)).alloc (.cells #[.bool s1, .slice a1 n1 c1, .slice b1 m1 d1] 26)) #[.bool s0, .slice a0 n0 c0, .slice b0 m0 d0, .bool s1, .slice a1 n1 c1, .slice b1 m1 d1] 26 2
  have ka1 := cell_new ((w.alloc (.cells #[.bool s0, .slice a0 n0 c0, .slice b0 m0 d0] 26)).alloc (.cells #[.bool s1, .slice a1 n1 c1, .slice b1 m1 d1] 26)) #[.bool s0, .slice a0 n0 c0, .slice b0 m0 d0, .bool s1, .slice a1 n1 c1, .slice b1 m1 d1] 26 4
  have kb1 := cell_new ((w.alloc (.cells #[.bool s0, .slice a0 n0 c0, .slice b0 m0 d0] 26)).alloc (.cells #[.bool s1, .slice a1 n1 c1, .slice b1 m1 d1] 26)) #[.bool s0, .slice a0 n0 c0, .slice b0 m0 d0, .bool s1, .slice a1 n1 c1, .slice b1 m1 d1] 26 5
  rw [show ((w.alloc (.cells #[.bool s0, .slice a0 n0 c0, .slice b0 m0 d0] 26)).alloc (.cells #[.bool s1, .slice a1 n1 c1, .slice b1 m1 d1] 26)).heap.size = w.heap.size + 1 + 1 from by simp] at ka0 kb0 ka1 kb1
  go_enter Tryz.func7, Tryz.ntmps7
  go_wp2_with fail
  refine (few2_no0m (w.heap.size + 1 + 1) a0 b0 n0 c0 m0 d0 a1 b1 n1 c1 m1 d1 _ ka0 kb0 ka1 kb1 hn0 hbad).mono ?_
  rintro e w' ⟨rfl, rfl⟩
  go_wp2
  go_ret
  exact ⟨rfl, HB.out⟩

set_option maxHeartbeats 4000000 in
theorem ratioOne_out1n (s0 s1 : Bool) (a0 b0 a1 b1 : Option Addr) (n0 c0 m0 d0 n1 c1 m1 d1 : Nat) (w : World) (hn0 : n0 ≤ 4) (hm0 : m0 ≤ 4) (hbad : 4 < n1) :
    Calls Tryz.prog 7 #[.agg #[.bool s0, .slice a0 n0 c0, .slice b0 m0 d0], .agg #[.bool s1, .slice a1 n1 c1, .slice b1 m1 d1]] w fun e w' => e = .returned (.bool true) ∧ Below w.heap.size w w' := by
  have HB := Lib.hid (below_three w (.cells #[.bool s0, .slice a0 n0 c0, .slice b0 m0 d0] 26) (.cells #[.bool s1, .slice a1 n1 c1, .slice b1 m1 d1] 26) (.cells #[.bool s0, .slice a0 n0 c0, .slice b0 m0 d0, .bool s1, .slice a1 n1 c1, .slice b1 m1 d1] 26))
  have ka0 := cell_new ((w.alloc (.cells #[.bool s0, .slice a0 n0 c0, .slice b0 m0 d0] 26)).alloc (.cells #[.bool s1, .slice a1 n1 c1, .slice b1 m1 d1] 26)) #[.bool s0, .slice a0 n0 c0, .slice b0 m0 d0, .bool s1, .slice a1 n1 c1, .slice b1 m1 d1] 26 1
  have kb0 := cell_new ((w.alloc (.cells #[.bool s0, .slice a0 n0 c0, .slice b0 m0 d0] 26)).alloc (.cells #[.bool s1, .slice a1 n1 c1, .slice b1 m1 d1] 26)) #[.bool s0, .slice a0 n0 c0, .slice b0 m0 d0, .bool s1, .slice a1 n1 c1, .slice b1 m1 d1] 26 2
  have ka1 := cell_new ((w.alloc (.cells #[.bool s0, .slice a0 n0 c0, .slice b0 m0 d0] 26)).alloc (.cells #[.bool s1, .slice a1 n1 c1, .slice b1 m1 d1] 26)) #[.bool s0, .slice a0 n0 c0, .slice b0 m0 d0, .bool s1, .slice a1 n1 c1, .slice b1 m1 d1] 26 4
  have kb1 := cell_new ((w.alloc (.cells #[.bool s0, .slice a0 n0 c0, .slice b0 m0 d0] 26)).alloc (.cells #[.bool s1, .slice a1 n1 c1, .slice b1 m1 d1] 26)) #[.bool s0, .slice a0 n0 c0, .slice b0 m0 d0, .bool s1, .slice a1 n1 c1, .slice b1 m1 d1] 26 5
  rw [show ((w.alloc (.cells #[.bool s0, .slice a0 n0 c0, .slice b0 m0 d0] 26)).alloc (.cells #[.bool s1, .slice a1 n1 c1, .slice b1 m1 d1] 26)).heap.size = w.heap.size + 1 + 1 from by simp] at ka0 kb0 ka1 kb1
  go_enter Tryz.func7, Tryz.ntmps7
  go_wp2_with fail
  refine (few2_no1n (w.heap.size + 1 + 1) a0 b0 n0 c0 m0 d0 a1 b1 n1 c1 m1 d1 _ ka0 kb0 ka1 kb1 hn0 hm0 hbad).mono ?_
  rintro e w' ⟨rfl, rfl⟩
  go_wp2
  go_ret
  exact ⟨rfl, HB.out⟩

set_option maxHeartbeats 4000000 in
theorem ratioOne_out1m (s0 s1 : Bool) (a0 b0 a1 b1 : Option Addr) (n0 c0 m0 d0 n1 c1 m1 d1 : Nat) (w : World) (hn0 : n0 ≤ 4) (hm0 : m0 ≤ 4) (hn1 : n1 ≤ 4) (hbad : 4 < m1) :
    Calls Tryz.prog 7 #[.agg #[.bool s0, .slice a0 n0 c0, .slice b0 m0 d0], .agg #[.bool s1, .slice a1 n1 c1, .slice b1 m1 d1]] w fun e w' => e = .returned (.bool true) ∧ Below w.heap.size w w' := by
  have HB := Lib.hid (below_three w (.cells #[.bool s0, .slice a0 n0 c0, .slice b0 m0 d0] 26) (.cells #[.bool s1, .slice a1 n1 c1, .slice b1 m1 d1] 26) (.cells #[.bool s0, .slice a0 n0 c0, .slice b0 m0 d0, .bool s1, .slice a1 n1 c1, .slice b1 m1 d1] 26))
  have ka0 := cell_new ((w.alloc (.cells #[.bool s0, .slice a0 n0 c0, .slice b0 m0 d0] 26)).alloc (.cells #[.bool s1, .slice a1 n1 c1, .slice b1 m1 d1] 26)) #[.bool s0, .slice a0 n0 c0, .slice b0 m0 d0, .bool s1, .slice a1 n1 c1, .slice b1 m1 d1] 26 1
  have kb0 := cell_new ((w.alloc (.cells #[.bool s0, .slice a0 n0 c0, .slice b0 m0 d0] 26)).alloc (.cells #[.bool s1, .slice a1 n1 c1, .slice b1 m1 d1] 26)) #[.bool s0, .slice a0 n0 c0, .slice b0 m0 d0, .bool s1, .slice a1 n1 c1, .slice b1 m1 d1] 26 2
  have ka1 := cell_new ((w.alloc (.cells #[.bool s0, .slice a0 n0 c0, .slice b0 m0 d0] 26)).alloc (.cells #[.bool s1, .slice a1 n1 c1, .slice b1 m1 d1] 26)) #[.bool s0, .slice a0 n0 c0, .slice b0 m0 d0, .bool s1, .slice a1 n1 c1, .slice b1 m1 d1] 26 4
  have kb1 := cell_new ((w.alloc (.cells #[.bool s0, .slice a0 n0 c0, .slice b0 m0 d0] 26)).alloc (.cells #[.bool s1, .slice a1 n1 c1, .slice b1 m1 d1] 26)) #[.bool s0, .slice a0 n0 c0, .slice b0 m0 d0, .bool s1, .slice a1 n1 c1, .slice b1 m1 d1] 26 5
  rw [show ((w.alloc (.cells #[.bool s0, .slice a0 n0 c0, .slice b0 m0 d0] 26)).alloc (.cells #[.bool s1, .slice a1 n1 c1, .slice b1 m1 d1] 26)).heap.size = w.heap.size + 1 + 1 from by simp] at ka0 kb0 ka1 kb1
  go_enter Tryz.func7, Tryz.ntmps7
  go_wp2_with fail
  refine (few2_no1m (w.heap.size + 1 + 1) a0 b0 n0 c0 m0 d0 a1 b1 n1 c1 m1 d1 _ ka0 kb0 ka1 kb1 hn0 hm0 hn1 hbad).mono ?_
  rintro e w' ⟨rfl, rfl⟩
  go_wp2
  go_ret
  exact ⟨rfl, HB.out⟩

end Go.Proofs.YtnnoicjnggoffaaGreat
/- RatioOne, two numbers that are one. -/
namespace Go.Proofs.YtnnoicjnggoffaaGreat
set_option linter.unusedVariables false
set_option linter.unusedSimpArgs false
set_option maxRecDepth 100000
open Go.RowKit Nums

set_option maxHeartbeats 16000000 in
theorem ratioOne_e (p q : Rat) {s0 s1 : Bool} {a0 b0 a1 b1 : Option Addr} {n0 c0 m0 d0 n1 c1 m1 d1 : Nat} {xs0 ys0 xs1 ys1 : List Nat} {w : World} (h00 : Row w a0 n0 c0 xs0) (h01 : Row w b0 m0 d0 ys0) (hq0 : mkRat (sv s0 (val xs0)) (val ys0) = p) (hn0 : n0 ≤ 4) (hm0 : m0 ≤ 4) (h10 : Row w a1 n1 c1 xs1) (h11 : Row w b1 m1 d1 ys1) (hq1 : mkRat (sv s1 (val xs1)) (val ys1) = q) (hn1 : n1 ≤ 4) (hm1 : m1 ≤ 4) (hT : cmpR p q = 0) (he : p = q) :
    Calls Tryz.prog 7 #[.agg #[.bool s0, .slice a0 n0 c0, .slice b0 m0 d0], .agg #[.bool s1, .slice a1 n1 c1, .slice b1 m1 d1]] w fun e w' => e = .returned (.bool true) ∧ Below w.heap.size w w' := by
  have gp : Nat.gcd p.num.natAbs p.den = 1 := p.reduced
  have GP := Lib.hid gp; clear gp
  have HT := Lib.hid hT; clear hT
  have HE := Lib.hid he; clear he
  obtain ⟨S, hS⟩ : ∃ S, ratStr p = S := ⟨_, rfl⟩
  have SP := Lib.hid hS
  have SQ := Lib.hid (show ratStr q = S by rw [← HE.out]; exact hS)
  clear hS
  have HB := Lib.hid (below_three w (.cells #[.bool s0, .slice a0 n0 c0, .slice b0 m0 d0] 26) (.cells #[.bool s1, .slice a1 n1 c1, .slice b1 m1 d1] 26) (.cells #[.bool s0, .slice a0 n0 c0, .slice b0 m0 d0, .bool s1, .slice a1 n1 c1, .slice b1 m1 d1] 26))
  have T0 : Hid (Tri (((w.alloc (.cells #[.bool s0, .slice a0 n0 c0, .slice b0 m0 d0] 26)).alloc (.cells #[.bool s1, .slice a1 n1 c1, .slice b1 m1 d1] 26)).alloc (.cells #[.bool s0, .slice a0 n0 c0, .slice b0 m0 d0, .bool s1, .slice a1 n1 c1, .slice b1 m1 d1] 26)) (w.heap.size) (.bool s0) (.slice a0 n0 c0) (.slice b0 m0 d0)) := (((tri_new w (.bool s0) (.slice a0 n0 c0) (.slice b0 m0 d0)).alloc _).alloc _)
  have T1 : Hid (Tri (((w.alloc (.cells #[.bool s0, .slice a0 n0 c0, .slice b0 m0 d0] 26)).alloc (.cells #[.bool s1, .slice a1 n1 c1, .slice b1 m1 d1] 26)).alloc (.cells #[.bool s0, .slice a0 n0 c0, .slice b0 m0 d0, .bool s1, .slice a1 n1 c1, .slice b1 m1 d1] 26)) (w.heap.size + 1) (.bool s1) (.slice a1 n1 c1) (.slice b1 m1 d1)) := ((tri_newE (by simp)).alloc _)
  have ka0 := cell_new ((w.alloc (.cells #[.bool s0, .slice a0 n0 c0, .slice b0 m0 d0] 26)).alloc (.cells #[.bool s1, .slice a1 n1 c1, .slice b1 m1 d1] 26)) #[.bool s0, .slice a0 n0 c0, .slice b0 m0 d0, .bool s1, .slice a1 n1 c1, .slice b1 m1 d1] 26 1
  have kb0 := cell_new ((w.alloc (.cells #[.bool s0, .slice a0 n0 c0, .slice b0 m0 d0] 26)).alloc (.cells #[.bool s1, .slice a1 n1 c1, .slice b1 m1 d1] 26)) #[.bool s0, .slice a0 n0 c0, .slice b0 m0 d0, .bool s1, .slice a1 n1 c1, .slice b1 m1 d1] 26 2
  have ka1 := cell_new ((w.alloc (.cells #[.bool s0, .slice a0 n0 c0, .slice b0 m0 d0] 26)).alloc (.cells #[.bool s1, .slice a1 n1 c1, .slice b1 m1 d1] 26)) #[.bool s0, .slice a0 n0 c0, .slice b0 m0 d0, .bool s1, .slice a1 n1 c1, .slice b1 m1 d1] 26 4
  have kb1 := cell_new ((w.alloc (.cells #[.bool s0, .slice a0 n0 c0, .slice b0 m0 d0] 26)).alloc (.cells #[.bool s1, .slice a1 n1 c1, .slice b1 m1 d1] 26)) #[.bool s0, .slice a0 n0 c0, .slice b0 m0 d0, .bool s1, .slice a1 n1 c1, .slice b1 m1 d1] 26 5
  rw [show ((w.alloc (.cells #[.bool s0, .slice a0 n0 c0, .slice b0 m0 d0] 26)).alloc (.cells #[.bool s1, .slice a1 n1 c1, .slice b1 m1 d1] 26)).heap.size = w.heap.size + 1 + 1 from by simp] at ka0 kb0 ka1 kb1
  have R00 := Lib.hid (h00.later HB.out); clear h00
  have R01 := Lib.hid (h01.later HB.out); clear h01
  have HQ0 := Lib.hid hq0; clear hq0
  have R10 := Lib.hid (h10.later HB.out); clear h10
  have R11 := Lib.hid (h11.later HB.out); clear h11
  have HQ1 := Lib.hid hq1; clear hq1
  go_enter Tryz.func7, Tryz.ntmps7
  go_wp2_with fail
  refine (few2_yes (w.heap.size + 1 + 1) a0 b0 n0 c0 m0 d0 a1 b1 n1 c1 m1 d1 _ ka0 kb0 ka1 kb1 hn0 hm0 hn1 hm1).mono ?_
  rintro e w0 ⟨rfl, rfl⟩
  clear ka0 kb0 ka1 kb1
  go_wp2_with fail
  obtain ⟨W, hW⟩ : ∃ W, (((w.alloc (.cells #[.bool s0, .slice a0 n0 c0, .slice b0 m0 d0] 26)).alloc (.cells #[.bool s1, .slice a1 n1 c1, .slice b1 m1 d1] 26)).alloc (.cells #[.bool s0, .slice a0 n0 c0, .slice b0 m0 d0, .bool s1, .slice a1 n1 c1, .slice b1 m1 d1] 26)) = W := ⟨_, rfl⟩
  rw [hW] at R00 R01 R10 R11 T0 T1 HB ⊢
  have lW : w.heap.size + 1 < W.heap.size := T1.out.2.2.2.2.2.2
  clear hW
  obtain ⟨kT00, kT01, kT02, -, -, -, -⟩ := T0.out
  obtain ⟨kT10, kT11, kT12, -, -, -, -⟩ := T1.out
  go_upto_region 3 with fail
  go_cut [5, 6] (fun s5 s6 wx => ∃ (g5 g6 : Nat) (ap : Option Addr) (np cp : Nat) (bp : Option Addr) (mp dp : Nat) (aq : Option Addr) (nq cq : Nat) (bq : Option Addr) (mq dq : Nat), s5 = .pointer (some ⟨g5, 0, none⟩) ∧ s6 = .pointer (some ⟨g6, 0, none⟩) ∧ Hid (g5 ≠ g6 ∧ w.heap.size + 2 ≤ g5 ∧ w.heap.size + 2 ≤ g6 ∧ np ≤ 4 ∧ mp ≤ 4 ∧ nq ≤ 4 ∧ mq ≤ 4 ∧ Tri wx g5 (.bool (decide (p.num < 0))) (.slice ap np cp) (.slice bp mp dp) ∧ Tri wx g6 (.bool (decide (q.num < 0))) (.slice aq nq cq) (.slice bq mq dq) ∧ Row wx ap np cp (limbs p.num.natAbs) ∧ Row wx bp mp dp (limbs p.den) ∧ Row wx aq nq cq (limbs q.num.natAbs) ∧ Row wx bq mq dq (limbs q.den) ∧ Tri wx (w.heap.size) (.bool s0) (.slice a0 n0 c0) (.slice b0 m0 d0) ∧ Tri wx (w.heap.size + 1) (.bool s1) (.slice a1 n1 c1) (.slice b1 m1 d1) ∧ Row wx a0 n0 c0 xs0 ∧ Row wx a1 n1 c1 xs1 ∧ Row wx b0 m0 d0 ys0 ∧ Row wx b1 m1 d1 ys1 ∧ Below w.heap.size w wx))
  case first =>
    go_region_held3 (fun w' => w'.cell? ⟨w.heap.size, 0, none⟩ = some (.bool s0) ∧ w'.cell? ⟨w.heap.size, 1, none⟩ = some (.slice a0 n0 c0) ∧ w'.cell? ⟨w.heap.size, 2, none⟩ = some (.slice b0 m0 d0) ∧ w'.cell? ⟨w.heap.size + 1, 0, none⟩ = some (.bool s1) ∧ w'.cell? ⟨w.heap.size + 1, 1, none⟩ = some (.slice a1 n1 c1) ∧ w'.cell? ⟨w.heap.size + 1, 2, none⟩ = some (.slice b1 m1 d1))
      (first | (refine ⟨?_, ?_, ?_, ?_, ?_, ?_⟩ <;> with_reducible assumption) | ((refine tri_cells2 ?_ ?_ <;> repeat' (first | with_reducible exact T0.out | with_reducible exact T1.out | with_reducible refine Tri.far ?_ ?_ _ _ _ | with_reducible refine Tri.alloc ?_ _ | with_reducible refine Tri.drew ?_ | omega)); done) | (go_keep; done))
      (first
          | (have mk := G1; clear mk
             go_at_call 14
             refine (normR 4 4 q (R10.out.later (by first | exact Below.refl _ _ | exact (Below.refl _ _).drew | exact below_one _ _ | exact (below_one _ _).drew | exact below_two _ _ _ | exact (below_two _ _ _).drew)) (R11.out.later (by first | exact Below.refl _ _ | exact (Below.refl _ _).drew | exact below_one _ _ | exact (below_one _ _).drew | exact below_two _ _ _ | exact (below_two _ _ _).drew)) HQ1.out hn1 hm1 (by omega) (by omega) (by omega)).mono ?_
             rintro e v2 ⟨aq, nq, cq, bq, mq, dq, rfl, hnq, hmq, hr, hr2, hb⟩
             have hbb : Below v1.heap.size v1 v2 := bthen (by first | exact Below.refl _ _ | exact (Below.refl _ _).drew | exact below_one _ _ | exact (below_one _ _).drew | exact below_two _ _ _ | exact (below_two _ _ _).drew) hb
             replace R00 := Lib.hid (R00.out.later hbb)
             replace R01 := Lib.hid (R01.out.later hbb)
             replace R10 := Lib.hid (R10.out.later hbb)
             replace R11 := Lib.hid (R11.out.later hbb)
             replace T0 := Lib.hid (T0.out.later hbb)
             replace T1 := Lib.hid (T1.out.later hbb)
             replace Rp0 := Lib.hid (Rp0.out.later hbb)
             replace Rp1 := Lib.hid (Rp1.out.later hbb)
             replace HB := Lib.hid (bthen HB.out hbb)
             (first | (replace Y0 := Lib.hid (Y0.out.later hbb); replace Y1 := Lib.hid (Y1.out.later hbb); clear kY00 kY01 kY02 kY03 kY04 kY05 kY06 kY10 kY11 kY12 kY13 kY14 kY15 kY16; obtain ⟨kY00, kY01, kY02, kY03, kY04, kY05, kY06⟩ := Y0.out; obtain ⟨kY10, kY11, kY12, kY13, kY14, kY15, kY16⟩ := Y1.out) | (replace Y0 := Lib.hid (Y0.out.later hbb); clear kY00 kY01 kY02 kY03 kY04 kY05 kY06; obtain ⟨kY00, kY01, kY02, kY03, kY04, kY05, kY06⟩ := Y0.out) | skip)
             (first | (have U0 : Hid (Tri v2 v1.heap.size (.bool false) (.slice none 0 0) (.slice none 0 0)) := ((tri_new v1 (.bool false) (.slice none 0 0) (.slice none 0 0)).alloc (.cells #[.bool false, .slice none 0 0, .slice none 0 0] 26)).later hb; have U1 : Hid (Tri v2 (v1.heap.size + 1) (.bool false) (.slice none 0 0) (.slice none 0 0)) := (tri_next v1 (.cells #[.bool false, .slice none 0 0, .slice none 0 0] 26) (.bool false) (.slice none 0 0) (.slice none 0 0)).later hb; obtain ⟨kU00, kU01, kU02, kU03, kU04, kU05, kU06⟩ := U0.out; obtain ⟨kU10, kU11, kU12, kU13, kU14, kU15, kU16⟩ := U1.out) | (have U0 : Hid (Tri v2 v1.heap.size (.bool false) (.slice none 0 0) (.slice none 0 0)) := (tri_new v1 (.bool false) (.slice none 0 0) (.slice none 0 0)).later hb; obtain ⟨kU00, kU01, kU02, kU03, kU04, kU05, kU06⟩ := U0.out) | skip)
             (try have lu0 : v1.heap.size < v2.heap.size := U0.out.2.2.2.2.2.2)
             (try have lu1 : v1.heap.size + 1 < v2.heap.size := U1.out.2.2.2.2.2.2)
             have Rq0 := Lib.hid hr; clear hr
             have Rq1 := Lib.hid hr2; clear hr2
             have l2 : v1.heap.size ≤ v2.heap.size := hbb.size
             clear hb hbb
             clear kT00 kT01 kT02 kT10 kT11 kT12
             obtain ⟨kT00, kT01, kT02, -, -, -, -⟩ := T0.out
             obtain ⟨kT10, kT11, kT12, -, -, -, -⟩ := T1.out)
          | (skip
             go_at_call 14
             refine (normR 4 4 p (R00.out.later (by first | exact Below.refl _ _ | exact (Below.refl _ _).drew | exact below_one _ _ | exact (below_one _ _).drew | exact below_two _ _ _ | exact (below_two _ _ _).drew)) (R01.out.later (by first | exact Below.refl _ _ | exact (Below.refl _ _).drew | exact below_one _ _ | exact (below_one _ _).drew | exact below_two _ _ _ | exact (below_two _ _ _).drew)) HQ0.out hn0 hm0 (by omega) (by omega) (by omega)).mono ?_
             rintro e v1 ⟨ap, np, cp, bp, mp, dp, rfl, hnp, hmp, hr, hr2, hb⟩
             have hbb : Below W.heap.size W v1 := bthen (by first | exact Below.refl _ _ | exact (Below.refl _ _).drew | exact below_one _ _ | exact (below_one _ _).drew | exact below_two _ _ _ | exact (below_two _ _ _).drew) hb
             replace R00 := Lib.hid (R00.out.later hbb)
             replace R01 := Lib.hid (R01.out.later hbb)
             replace R10 := Lib.hid (R10.out.later hbb)
             replace R11 := Lib.hid (R11.out.later hbb)
             replace T0 := Lib.hid (T0.out.later hbb)
             replace T1 := Lib.hid (T1.out.later hbb)
             replace HB := Lib.hid (bthen HB.out hbb)
             (first | (have Y0 : Hid (Tri v1 W.heap.size (.bool false) (.slice none 0 0) (.slice none 0 0)) := ((tri_new W (.bool false) (.slice none 0 0) (.slice none 0 0)).alloc (.cells #[.bool false, .slice none 0 0, .slice none 0 0] 26)).drew.later hb; have Y1 : Hid (Tri v1 (W.heap.size + 1) (.bool false) (.slice none 0 0) (.slice none 0 0)) := (tri_next W (.cells #[.bool false, .slice none 0 0, .slice none 0 0] 26) (.bool false) (.slice none 0 0) (.slice none 0 0)).drew.later hb; obtain ⟨kY00, kY01, kY02, kY03, kY04, kY05, kY06⟩ := Y0.out; obtain ⟨kY10, kY11, kY12, kY13, kY14, kY15, kY16⟩ := Y1.out) | (have Y0 : Hid (Tri v1 W.heap.size (.bool false) (.slice none 0 0) (.slice none 0 0)) := (tri_new W (.bool false) (.slice none 0 0) (.slice none 0 0)).drew.later hb; obtain ⟨kY00, kY01, kY02, kY03, kY04, kY05, kY06⟩ := Y0.out) | skip)
             (try have ly0 : W.heap.size < v1.heap.size := Y0.out.2.2.2.2.2.2)
             (try have ly1 : W.heap.size + 1 < v1.heap.size := Y1.out.2.2.2.2.2.2)
             have Rp0 := Lib.hid hr; clear hr
             have Rp1 := Lib.hid hr2; clear hr2
             have l1 : W.heap.size ≤ v1.heap.size := hbb.size
             clear hb hbb
             clear kT00 kT01 kT02 kT10 kT11 kT12
             obtain ⟨kT00, kT01, kT02, -, -, -, -⟩ := T0.out
             obtain ⟨kT10, kT11, kT12, -, -, -, -⟩ := T1.out
             have G1 : Hid True := trivial))
    all_goals
      go_wp2_with fail
      go_meet
      refine ⟨_, _, ap, np, cp, bp, mp, dp, aq, nq, cq, bq, mq, dq, rfl, rfl, ?_, ?_, ?_, ?_, ?_, ?_, ?_, ?_, ?_, ?_, ?_, ?_, ?_, ?_, ?_, ?_, ?_, ?_, ?_, ?_⟩
      · repeat' (first | omega | (simp; done) | (simp; omega))
      · repeat' (first | omega | (simp; done) | (simp; omega))
      · repeat' (first | omega | (simp; done) | (simp; omega))
      · repeat' (first | with_reducible exact hnp)
      · repeat' (first | with_reducible exact hmp)
      · repeat' (first | with_reducible exact hnq)
      · repeat' (first | with_reducible exact hmq)
      · repeat' (first | with_reducible exact Y0.out | with_reducible exact Y1.out | with_reducible exact U0.out | with_reducible exact U1.out | with_reducible exact T0.out | with_reducible exact T1.out | with_reducible refine tri_newE ?_ | with_reducible refine Tri.put (u := .bool false) (v := .slice none 0 0) (x := .slice none 0 0) ?_ _ _ _ | with_reducible refine Tri.far ?_ ?_ _ _ _ | with_reducible refine Tri.alloc ?_ _ | omega | (simp; done))
      · repeat' (first | with_reducible exact Y0.out | with_reducible exact Y1.out | with_reducible exact U0.out | with_reducible exact U1.out | with_reducible exact T0.out | with_reducible exact T1.out | with_reducible refine tri_newE ?_ | with_reducible refine Tri.put (u := .bool false) (v := .slice none 0 0) (x := .slice none 0 0) ?_ _ _ _ | with_reducible refine Tri.far ?_ ?_ _ _ _ | with_reducible refine Tri.alloc ?_ _ | omega | (simp; done))
      · repeat' (first | with_reducible exact Rp0.out | with_reducible refine Row.alloc ?_ _ | with_reducible refine Row.put3 (s := false) (a1 := none) (n1 := 0) (c1 := 0) (a2 := none) (n2 := 0) (c2 := 0) ?_ ?_ _ _ _ | with_reducible exact Y0.out | with_reducible exact Y1.out | with_reducible exact U0.out | with_reducible exact U1.out | with_reducible exact T0.out | with_reducible exact T1.out | with_reducible refine tri_newE ?_ | with_reducible refine Tri.put (u := .bool false) (v := .slice none 0 0) (x := .slice none 0 0) ?_ _ _ _ | with_reducible refine Tri.far ?_ ?_ _ _ _ | with_reducible refine Tri.alloc ?_ _ | omega | (simp; done))
      · repeat' (first | with_reducible exact Rp1.out | with_reducible refine Row.alloc ?_ _ | with_reducible refine Row.put3 (s := false) (a1 := none) (n1 := 0) (c1 := 0) (a2 := none) (n2 := 0) (c2 := 0) ?_ ?_ _ _ _ | with_reducible exact Y0.out | with_reducible exact Y1.out | with_reducible exact U0.out | with_reducible exact U1.out | with_reducible exact T0.out | with_reducible exact T1.out | with_reducible refine tri_newE ?_ | with_reducible refine Tri.put (u := .bool false) (v := .slice none 0 0) (x := .slice none 0 0) ?_ _ _ _ | with_reducible refine Tri.far ?_ ?_ _ _ _ | with_reducible refine Tri.alloc ?_ _ | omega | (simp; done))
      · repeat' (first | with_reducible exact Rq0.out | with_reducible refine Row.alloc ?_ _ | with_reducible refine Row.put3 (s := false) (a1 := none) (n1 := 0) (c1 := 0) (a2 := none) (n2 := 0) (c2 := 0) ?_ ?_ _ _ _ | with_reducible exact Y0.out | with_reducible exact Y1.out | with_reducible exact U0.out | with_reducible exact U1.out | with_reducible exact T0.out | with_reducible exact T1.out | with_reducible refine tri_newE ?_ | with_reducible refine Tri.put (u := .bool false) (v := .slice none 0 0) (x := .slice none 0 0) ?_ _ _ _ | with_reducible refine Tri.far ?_ ?_ _ _ _ | with_reducible refine Tri.alloc ?_ _ | omega | (simp; done))
      · repeat' (first | with_reducible exact Rq1.out | with_reducible refine Row.alloc ?_ _ | with_reducible refine Row.put3 (s := false) (a1 := none) (n1 := 0) (c1 := 0) (a2 := none) (n2 := 0) (c2 := 0) ?_ ?_ _ _ _ | with_reducible exact Y0.out | with_reducible exact Y1.out | with_reducible exact U0.out | with_reducible exact U1.out | with_reducible exact T0.out | with_reducible exact T1.out | with_reducible refine tri_newE ?_ | with_reducible refine Tri.put (u := .bool false) (v := .slice none 0 0) (x := .slice none 0 0) ?_ _ _ _ | with_reducible refine Tri.far ?_ ?_ _ _ _ | with_reducible refine Tri.alloc ?_ _ | omega | (simp; done))
      · repeat' (first | with_reducible exact Y0.out | with_reducible exact Y1.out | with_reducible exact U0.out | with_reducible exact U1.out | with_reducible exact T0.out | with_reducible exact T1.out | with_reducible refine tri_newE ?_ | with_reducible refine Tri.put (u := .bool false) (v := .slice none 0 0) (x := .slice none 0 0) ?_ _ _ _ | with_reducible refine Tri.far ?_ ?_ _ _ _ | with_reducible refine Tri.alloc ?_ _ | omega | (simp; done))
      · repeat' (first | with_reducible exact Y0.out | with_reducible exact Y1.out | with_reducible exact U0.out | with_reducible exact U1.out | with_reducible exact T0.out | with_reducible exact T1.out | with_reducible refine tri_newE ?_ | with_reducible refine Tri.put (u := .bool false) (v := .slice none 0 0) (x := .slice none 0 0) ?_ _ _ _ | with_reducible refine Tri.far ?_ ?_ _ _ _ | with_reducible refine Tri.alloc ?_ _ | omega | (simp; done))
      · repeat' (first | with_reducible exact R00.out | with_reducible refine Row.alloc ?_ _ | with_reducible refine Row.put3 (s := false) (a1 := none) (n1 := 0) (c1 := 0) (a2 := none) (n2 := 0) (c2 := 0) ?_ ?_ _ _ _ | with_reducible exact Y0.out | with_reducible exact Y1.out | with_reducible exact U0.out | with_reducible exact U1.out | with_reducible exact T0.out | with_reducible exact T1.out | with_reducible refine tri_newE ?_ | with_reducible refine Tri.put (u := .bool false) (v := .slice none 0 0) (x := .slice none 0 0) ?_ _ _ _ | with_reducible refine Tri.far ?_ ?_ _ _ _ | with_reducible refine Tri.alloc ?_ _ | omega | (simp; done))
      · repeat' (first | with_reducible exact R10.out | with_reducible refine Row.alloc ?_ _ | with_reducible refine Row.put3 (s := false) (a1 := none) (n1 := 0) (c1 := 0) (a2 := none) (n2 := 0) (c2 := 0) ?_ ?_ _ _ _ | with_reducible exact Y0.out | with_reducible exact Y1.out | with_reducible exact U0.out | with_reducible exact U1.out | with_reducible exact T0.out | with_reducible exact T1.out | with_reducible refine tri_newE ?_ | with_reducible refine Tri.put (u := .bool false) (v := .slice none 0 0) (x := .slice none 0 0) ?_ _ _ _ | with_reducible refine Tri.far ?_ ?_ _ _ _ | with_reducible refine Tri.alloc ?_ _ | omega | (simp; done))
      · repeat' (first | with_reducible exact R01.out | with_reducible refine Row.alloc ?_ _ | with_reducible refine Row.put3 (s := false) (a1 := none) (n1 := 0) (c1 := 0) (a2 := none) (n2 := 0) (c2 := 0) ?_ ?_ _ _ _ | with_reducible exact Y0.out | with_reducible exact Y1.out | with_reducible exact U0.out | with_reducible exact U1.out | with_reducible exact T0.out | with_reducible exact T1.out | with_reducible refine tri_newE ?_ | with_reducible refine Tri.put (u := .bool false) (v := .slice none 0 0) (x := .slice none 0 0) ?_ _ _ _ | with_reducible refine Tri.far ?_ ?_ _ _ _ | with_reducible refine Tri.alloc ?_ _ | omega | (simp; done))
      · repeat' (first | with_reducible exact R11.out | with_reducible refine Row.alloc ?_ _ | with_reducible refine Row.put3 (s := false) (a1 := none) (n1 := 0) (c1 := 0) (a2 := none) (n2 := 0) (c2 := 0) ?_ ?_ _ _ _ | with_reducible exact Y0.out | with_reducible exact Y1.out | with_reducible exact U0.out | with_reducible exact U1.out | with_reducible exact T0.out | with_reducible exact T1.out | with_reducible refine tri_newE ?_ | with_reducible refine Tri.put (u := .bool false) (v := .slice none 0 0) (x := .slice none 0 0) ?_ _ _ _ | with_reducible refine Tri.far ?_ ?_ _ _ _ | with_reducible refine Tri.alloc ?_ _ | omega | (simp; done))
      · repeat' (first | with_reducible exact HB.out | with_reducible refine Below.alloc ?_ ?_ _ | with_reducible refine below_put3 ?_ ?_ _ _ _ | omega | (simp; omega))
  case rest =>
    obtain ⟨g5, g6, ap, np, cp, bp, mp, dp, aq, nq, cq, bq, mq, dq, rfl, rfl, hm⟩ := hcut
    clear R00 R01 R10 R11 T0 T1 HB kT00 kT01 kT02 kT10 kT11 kT12
    obtain ⟨ne, lg5, lg6, hnp, hmp, hnq, hmq, x1, x2, r1, r2, r3, r4, zT0, zT1, zR00, zR10, zR01, zR11, hb⟩ := hm.out
    clear hm
    have Xp := Lib.hid x1
    have Xq := Lib.hid x2
    have Rp0 := Lib.hid r1
    have Rp1 := Lib.hid r2
    have Rq0 := Lib.hid r3
    have Rq1 := Lib.hid r4
    have HB := Lib.hid hb
    have T0 := Lib.hid zT0
    have T1 := Lib.hid zT1
    have R00 := Lib.hid zR00
    have R10 := Lib.hid zR10
    have R01 := Lib.hid zR01
    have R11 := Lib.hid zR11
    clear x1 x2 r1 r2 r3 r4 hb zT0 zT1 zR00 zR10 zR01 zR11
    obtain ⟨kT00, kT01, kT02, -, -, -, -⟩ := T0.out
    obtain ⟨kT10, kT11, kT12, -, -, -, -⟩ := T1.out
    obtain ⟨kXp0, kXp1, kXp2, -, -, -, -⟩ := Xp.out
    obtain ⟨kXq0, kXq1, kXq2, -, -, -, -⟩ := Xq.out
    go_wp2_with fail
    refine (rgcdN 1 Rp0.out Rp1.out (val_limbs _) (val_limbs _) (by omega) (by omega) GP.out (by rw [limbs_1]; exact Nat.le_refl _)).mono ?_
    rintro e w21 ⟨ag, ng, cg, rfl, hng, hr, hb⟩
    replace R00 := Lib.hid (R00.out.later hb)
    replace R01 := Lib.hid (R01.out.later hb)
    replace R10 := Lib.hid (R10.out.later hb)
    replace R11 := Lib.hid (R11.out.later hb)
    replace Rp0 := Lib.hid (Rp0.out.later hb)
    replace Rp1 := Lib.hid (Rp1.out.later hb)
    replace Rq0 := Lib.hid (Rq0.out.later hb)
    replace Rq1 := Lib.hid (Rq1.out.later hb)
    replace T0 := Lib.hid (T0.out.later hb)
    replace T1 := Lib.hid (T1.out.later hb)
    replace Xp := Lib.hid (Xp.out.later hb)
    replace Xq := Lib.hid (Xq.out.later hb)
    replace HB := Lib.hid (bthen HB.out hb)
    clear hb
    clear kT00 kT01 kT02 kT10 kT11 kT12 kXp0 kXp1 kXp2 kXq0 kXq1 kXq2
    rw [limbs_1] at hr
    have RG := Lib.hid hr; clear hr
    have hb1 := below_one w21 (.cells #[.int .u32 1] 49)
    replace RG := Lib.hid (RG.out.later hb1)
    have RL := Lib.hid (row_one_here w21)
    replace R00 := Lib.hid (R00.out.later hb1)
    replace R01 := Lib.hid (R01.out.later hb1)
    replace R10 := Lib.hid (R10.out.later hb1)
    replace R11 := Lib.hid (R11.out.later hb1)
    replace Rp0 := Lib.hid (Rp0.out.later hb1)
    replace Rp1 := Lib.hid (Rp1.out.later hb1)
    replace Rq0 := Lib.hid (Rq0.out.later hb1)
    replace Rq1 := Lib.hid (Rq1.out.later hb1)
    replace T0 := Lib.hid (T0.out.later hb1)
    replace T1 := Lib.hid (T1.out.later hb1)
    replace Xp := Lib.hid (Xp.out.later hb1)
    replace Xq := Lib.hid (Xq.out.later hb1)
    replace HB := Lib.hid (bthen HB.out hb1)
    clear hb1
    obtain ⟨kT00, kT01, kT02, -, -, -, -⟩ := T0.out
    obtain ⟨kT10, kT11, kT12, -, -, -, -⟩ := T1.out
    obtain ⟨kXp0, kXp1, kXp2, -, -, -, -⟩ := Xp.out
    obtain ⟨kXq0, kXq1, kXq2, -, -, -, -⟩ := Xq.out
    go_wp2_with fail
    refine (sameN RG.out RL.out rfl (by omega)).mono ?_
    rintro e w22 ⟨rfl, hb⟩
    clear RG
    clear RL
    replace R00 := Lib.hid (R00.out.later hb)
    replace R01 := Lib.hid (R01.out.later hb)
    replace R10 := Lib.hid (R10.out.later hb)
    replace R11 := Lib.hid (R11.out.later hb)
    replace Rp0 := Lib.hid (Rp0.out.later hb)
    replace Rp1 := Lib.hid (Rp1.out.later hb)
    replace Rq0 := Lib.hid (Rq0.out.later hb)
    replace Rq1 := Lib.hid (Rq1.out.later hb)
    replace T0 := Lib.hid (T0.out.later hb)
    replace T1 := Lib.hid (T1.out.later hb)
    replace Xp := Lib.hid (Xp.out.later hb)
    replace Xq := Lib.hid (Xq.out.later hb)
    replace HB := Lib.hid (bthen HB.out hb)
    clear hb
    clear kT00 kT01 kT02 kT10 kT11 kT12 kXp0 kXp1 kXp2 kXq0 kXq1 kXq2
    obtain ⟨kT00, kT01, kT02, -, -, -, -⟩ := T0.out
    obtain ⟨kT10, kT11, kT12, -, -, -, -⟩ := T1.out
    obtain ⟨kXp0, kXp1, kXp2, -, -, -, -⟩ := Xp.out
    obtain ⟨kXq0, kXq1, kXq2, -, -, -, -⟩ := Xq.out
    go_wp2_with fail
    clear kT00 kT01 kT02 kT10 kT11 kT12 kXp0 kXp1 kXp2 kXq0 kXq1 kXq2
    obtain ⟨kT00, kT01, kT02, -, -, -, -⟩ := T0.out
    obtain ⟨kT10, kT11, kT12, -, -, -, -⟩ := T1.out
    obtain ⟨kXp0, kXp1, kXp2, -, -, -, -⟩ := Xp.out
    obtain ⟨kXq0, kXq1, kXq2, -, -, -, -⟩ := Xq.out
    replace R00 := Lib.hid R00.out.drew
    replace R01 := Lib.hid R01.out.drew
    replace R10 := Lib.hid R10.out.drew
    replace R11 := Lib.hid R11.out.drew
    replace Rp0 := Lib.hid Rp0.out.drew
    replace Rp1 := Lib.hid Rp1.out.drew
    replace Rq0 := Lib.hid Rq0.out.drew
    replace Rq1 := Lib.hid Rq1.out.drew
    replace T0 := Lib.hid T0.out.drew
    replace T1 := Lib.hid T1.out.drew
    replace Xp := Lib.hid Xp.out.drew
    replace Xq := Lib.hid Xq.out.drew
    replace HB := Lib.hid HB.out.drew
    go_region_held3 (fun w' => w'.cell? ⟨w.heap.size, 0, none⟩ = some (.bool s0) ∧ w'.cell? ⟨w.heap.size, 1, none⟩ = some (.slice a0 n0 c0) ∧ w'.cell? ⟨w.heap.size, 2, none⟩ = some (.slice b0 m0 d0) ∧ w'.cell? ⟨w.heap.size + 1, 0, none⟩ = some (.bool s1) ∧ w'.cell? ⟨w.heap.size + 1, 1, none⟩ = some (.slice a1 n1 c1) ∧ w'.cell? ⟨w.heap.size + 1, 2, none⟩ = some (.slice b1 m1 d1) ∧ w'.cell? ⟨g5, 0, none⟩ = some (.bool (decide (p.num < 0))) ∧ w'.cell? ⟨g5, 1, none⟩ = some (.slice ap np cp) ∧ w'.cell? ⟨g5, 2, none⟩ = some (.slice bp mp dp) ∧ w'.cell? ⟨g6, 0, none⟩ = some (.bool (decide (q.num < 0))) ∧ w'.cell? ⟨g6, 1, none⟩ = some (.slice aq nq cq) ∧ w'.cell? ⟨g6, 2, none⟩ = some (.slice bq mq dq))
      (first | (refine ⟨?_, ?_, ?_, ?_, ?_, ?_, ?_, ?_, ?_, ?_, ?_, ?_⟩ <;> with_reducible assumption) | (go_keep; done) | (refine ⟨?_, ?_, ?_, ?_, ?_, ?_, ?_, ?_, ?_, ?_, ?_, ?_⟩ <;> (repeat rw [cell_other (by first | (simp; done) | (simp; omega))]) <;> with_reducible assumption))
      (first
        | (have mk := G7; clear mk
           try (rw [if_pos (by rfl)]; go_simp)
           go_at_call 26
           refine (awakeR _).mono ?_
           rintro e v8 ⟨rfl, hb⟩
           replace R00 := Lib.hid (R00.out.later hb)
           replace R01 := Lib.hid (R01.out.later hb)
           replace R10 := Lib.hid (R10.out.later hb)
           replace R11 := Lib.hid (R11.out.later hb)
           replace Rp0 := Lib.hid (Rp0.out.later hb)
           replace Rp1 := Lib.hid (Rp1.out.later hb)
           replace Rq0 := Lib.hid (Rq0.out.later hb)
           replace Rq1 := Lib.hid (Rq1.out.later hb)
           replace Rz0 := Lib.hid (Rz0.out.later hb)
           replace Rz1 := Lib.hid (Rz1.out.later hb)
           replace T0 := Lib.hid (T0.out.later hb)
           replace T1 := Lib.hid (T1.out.later hb)
           replace Xp := Lib.hid (Xp.out.later hb)
           replace Xq := Lib.hid (Xq.out.later hb)
           replace HB := Lib.hid (bthen HB.out hb); clear hb
           clear kT00 kT01 kT02 kT10 kT11 kT12 kXp0 kXp1 kXp2 kXq0 kXq1 kXq2
           obtain ⟨kT00, kT01, kT02, -, -, -, -⟩ := T0.out
           obtain ⟨kT10, kT11, kT12, -, -, -, -⟩ := T1.out
           obtain ⟨kXp0, kXp1, kXp2, -, -, -, -⟩ := Xp.out
           obtain ⟨kXq0, kXq1, kXq2, -, -, -, -⟩ := Xq.out
           have G8 : Hid True := trivial
           try go_wp2_with fail)
        | (have mk := G6; clear mk
           try (rw [if_pos (by rfl)]; go_simp)
           go_at_call 13
           refine (sameT Rz0.out Rz1.out Rp0.out Rp1.out rfl (by omega) (by omega) (by omega) (by omega)).mono ?_
           rintro e v7 ⟨rfl, hb⟩
           replace R00 := Lib.hid (R00.out.later hb)
           replace R01 := Lib.hid (R01.out.later hb)
           replace R10 := Lib.hid (R10.out.later hb)
           replace R11 := Lib.hid (R11.out.later hb)
           replace Rp0 := Lib.hid (Rp0.out.later hb)
           replace Rp1 := Lib.hid (Rp1.out.later hb)
           replace Rq0 := Lib.hid (Rq0.out.later hb)
           replace Rq1 := Lib.hid (Rq1.out.later hb)
           replace Rz0 := Lib.hid (Rz0.out.later hb)
           replace Rz1 := Lib.hid (Rz1.out.later hb)
           replace T0 := Lib.hid (T0.out.later hb)
           replace T1 := Lib.hid (T1.out.later hb)
           replace Xp := Lib.hid (Xp.out.later hb)
           replace Xq := Lib.hid (Xq.out.later hb)
           replace HB := Lib.hid (bthen HB.out hb); clear hb
           clear kT00 kT01 kT02 kT10 kT11 kT12 kXp0 kXp1 kXp2 kXq0 kXq1 kXq2
           obtain ⟨kT00, kT01, kT02, -, -, -, -⟩ := T0.out
           obtain ⟨kT10, kT11, kT12, -, -, -, -⟩ := T1.out
           obtain ⟨kXp0, kXp1, kXp2, -, -, -, -⟩ := Xp.out
           obtain ⟨kXq0, kXq1, kXq2, -, -, -, -⟩ := Xq.out
           have G7 : Hid True := trivial
           try go_wp2_with fail)
        | (have mk := G5; clear mk
           try (rw [if_pos (by rfl)]; go_simp)
           go_at_call 14
           refine (normR 4 4 p Rp0.out Rp1.out (rat_limbs p) hnp hmp (by omega) (by omega) (by omega)).mono ?_
           rintro e v6 ⟨az, nz, cz, bz, mz, dz, rfl, hnz, hmz, hr, hr2, hb⟩
           replace R00 := Lib.hid (R00.out.later hb)
           replace R01 := Lib.hid (R01.out.later hb)
           replace R10 := Lib.hid (R10.out.later hb)
           replace R11 := Lib.hid (R11.out.later hb)
           replace Rp0 := Lib.hid (Rp0.out.later hb)
           replace Rp1 := Lib.hid (Rp1.out.later hb)
           replace Rq0 := Lib.hid (Rq0.out.later hb)
           replace Rq1 := Lib.hid (Rq1.out.later hb)
           replace T0 := Lib.hid (T0.out.later hb)
           replace T1 := Lib.hid (T1.out.later hb)
           replace Xp := Lib.hid (Xp.out.later hb)
           replace Xq := Lib.hid (Xq.out.later hb)
           replace HB := Lib.hid (bthen HB.out hb); clear hb
           clear kT00 kT01 kT02 kT10 kT11 kT12 kXp0 kXp1 kXp2 kXq0 kXq1 kXq2
           obtain ⟨kT00, kT01, kT02, -, -, -, -⟩ := T0.out
           obtain ⟨kT10, kT11, kT12, -, -, -, -⟩ := T1.out
           obtain ⟨kXp0, kXp1, kXp2, -, -, -, -⟩ := Xp.out
           obtain ⟨kXq0, kXq1, kXq2, -, -, -, -⟩ := Xq.out
           have Rz0 := Lib.hid hr; clear hr
           have Rz1 := Lib.hid hr2; clear hr2
           have G6 : Hid True := trivial
           try go_wp2_with fail)
        | (have mk := G4; clear mk
           try (rw [if_pos (by rfl)]; go_simp)
           go_at_call 13
           refine (sameT Rp0.out Rp1.out Rq0.out Rq1.out HE.out (by omega) (by omega) (by omega) (by omega)).mono ?_
           rintro e v5 ⟨rfl, hb⟩
           replace R00 := Lib.hid (R00.out.later hb)
           replace R01 := Lib.hid (R01.out.later hb)
           replace R10 := Lib.hid (R10.out.later hb)
           replace R11 := Lib.hid (R11.out.later hb)
           replace Rp0 := Lib.hid (Rp0.out.later hb)
           replace Rp1 := Lib.hid (Rp1.out.later hb)
           replace Rq0 := Lib.hid (Rq0.out.later hb)
           replace Rq1 := Lib.hid (Rq1.out.later hb)
           replace T0 := Lib.hid (T0.out.later hb)
           replace T1 := Lib.hid (T1.out.later hb)
           replace Xp := Lib.hid (Xp.out.later hb)
           replace Xq := Lib.hid (Xq.out.later hb)
           replace HB := Lib.hid (bthen HB.out hb); clear hb
           clear kT00 kT01 kT02 kT10 kT11 kT12 kXp0 kXp1 kXp2 kXq0 kXq1 kXq2
           obtain ⟨kT00, kT01, kT02, -, -, -, -⟩ := T0.out
           obtain ⟨kT10, kT11, kT12, -, -, -, -⟩ := T1.out
           obtain ⟨kXp0, kXp1, kXp2, -, -, -, -⟩ := Xp.out
           obtain ⟨kXq0, kXq1, kXq2, -, -, -, -⟩ := Xq.out
           have G5 : Hid True := trivial
           try go_wp2_with fail)
        | (have mk := G3; clear mk
           try (rw [if_pos (by rfl)]; go_simp)
           go_at_call 40
           refine (printR S q R10.out R11.out HQ1.out (by omega) (by omega) SQ.out).mono ?_
           rintro e v4 ⟨rfl, hb⟩
           replace R00 := Lib.hid (R00.out.later hb)
           replace R01 := Lib.hid (R01.out.later hb)
           replace R10 := Lib.hid (R10.out.later hb)
           replace R11 := Lib.hid (R11.out.later hb)
           replace Rp0 := Lib.hid (Rp0.out.later hb)
           replace Rp1 := Lib.hid (Rp1.out.later hb)
           replace Rq0 := Lib.hid (Rq0.out.later hb)
           replace Rq1 := Lib.hid (Rq1.out.later hb)
           replace T0 := Lib.hid (T0.out.later hb)
           replace T1 := Lib.hid (T1.out.later hb)
           replace Xp := Lib.hid (Xp.out.later hb)
           replace Xq := Lib.hid (Xq.out.later hb)
           replace HB := Lib.hid (bthen HB.out hb); clear hb
           clear kT00 kT01 kT02 kT10 kT11 kT12 kXp0 kXp1 kXp2 kXq0 kXq1 kXq2
           obtain ⟨kT00, kT01, kT02, -, -, -, -⟩ := T0.out
           obtain ⟨kT10, kT11, kT12, -, -, -, -⟩ := T1.out
           obtain ⟨kXp0, kXp1, kXp2, -, -, -, -⟩ := Xp.out
           obtain ⟨kXq0, kXq1, kXq2, -, -, -, -⟩ := Xq.out
           have G4 : Hid True := trivial
           try go_wp2_with fail)
        | (have mk := G2; clear mk
           try (rw [if_pos (by rfl)]; go_simp)
           go_at_call 40
           refine (printR S p R00.out R01.out HQ0.out (by omega) (by omega) SP.out).mono ?_
           rintro e v3 ⟨rfl, hb⟩
           replace R00 := Lib.hid (R00.out.later hb)
           replace R01 := Lib.hid (R01.out.later hb)
           replace R10 := Lib.hid (R10.out.later hb)
           replace R11 := Lib.hid (R11.out.later hb)
           replace Rp0 := Lib.hid (Rp0.out.later hb)
           replace Rp1 := Lib.hid (Rp1.out.later hb)
           replace Rq0 := Lib.hid (Rq0.out.later hb)
           replace Rq1 := Lib.hid (Rq1.out.later hb)
           replace T0 := Lib.hid (T0.out.later hb)
           replace T1 := Lib.hid (T1.out.later hb)
           replace Xp := Lib.hid (Xp.out.later hb)
           replace Xq := Lib.hid (Xq.out.later hb)
           replace HB := Lib.hid (bthen HB.out hb); clear hb
           clear kT00 kT01 kT02 kT10 kT11 kT12 kXp0 kXp1 kXp2 kXq0 kXq1 kXq2
           obtain ⟨kT00, kT01, kT02, -, -, -, -⟩ := T0.out
           obtain ⟨kT10, kT11, kT12, -, -, -, -⟩ := T1.out
           obtain ⟨kXp0, kXp1, kXp2, -, -, -, -⟩ := Xp.out
           obtain ⟨kXq0, kXq1, kXq2, -, -, -, -⟩ := Xq.out
           have G3 : Hid True := trivial
           try go_wp2_with fail)
        | (have mk := G1; clear mk
           try (rw [if_pos (by rfl)]; go_simp)
           go_at_call 13
           refine (sameT Rp0.out Rp1.out Rq0.out Rq1.out HE.out (by omega) (by omega) (by omega) (by omega)).mono ?_
           rintro e v2 ⟨rfl, hb⟩
           replace R00 := Lib.hid (R00.out.later hb)
           replace R01 := Lib.hid (R01.out.later hb)
           replace R10 := Lib.hid (R10.out.later hb)
           replace R11 := Lib.hid (R11.out.later hb)
           replace Rp0 := Lib.hid (Rp0.out.later hb)
           replace Rp1 := Lib.hid (Rp1.out.later hb)
           replace Rq0 := Lib.hid (Rq0.out.later hb)
           replace Rq1 := Lib.hid (Rq1.out.later hb)
           replace T0 := Lib.hid (T0.out.later hb)
           replace T1 := Lib.hid (T1.out.later hb)
           replace Xp := Lib.hid (Xp.out.later hb)
           replace Xq := Lib.hid (Xq.out.later hb)
           replace HB := Lib.hid (bthen HB.out hb); clear hb
           clear kT00 kT01 kT02 kT10 kT11 kT12 kXp0 kXp1 kXp2 kXq0 kXq1 kXq2
           obtain ⟨kT00, kT01, kT02, -, -, -, -⟩ := T0.out
           obtain ⟨kT10, kT11, kT12, -, -, -, -⟩ := T1.out
           obtain ⟨kXp0, kXp1, kXp2, -, -, -, -⟩ := Xp.out
           obtain ⟨kXq0, kXq1, kXq2, -, -, -, -⟩ := Xq.out
           have G2 : Hid True := trivial
           try go_wp2_with fail)
        | (skip
           try (rw [if_pos (by rfl)]; go_simp)
           go_at_call 24
           refine (cmpRat 0 p q R00.out R01.out R10.out R11.out HQ0.out HQ1.out (by omega) (by omega) (by omega) (by omega) HT.out).mono ?_
           rintro e v1 ⟨rfl, hb⟩
           replace R00 := Lib.hid (R00.out.later hb)
           replace R01 := Lib.hid (R01.out.later hb)
           replace R10 := Lib.hid (R10.out.later hb)
           replace R11 := Lib.hid (R11.out.later hb)
           replace Rp0 := Lib.hid (Rp0.out.later hb)
           replace Rp1 := Lib.hid (Rp1.out.later hb)
           replace Rq0 := Lib.hid (Rq0.out.later hb)
           replace Rq1 := Lib.hid (Rq1.out.later hb)
           replace T0 := Lib.hid (T0.out.later hb)
           replace T1 := Lib.hid (T1.out.later hb)
           replace Xp := Lib.hid (Xp.out.later hb)
           replace Xq := Lib.hid (Xq.out.later hb)
           replace HB := Lib.hid (bthen HB.out hb); clear hb
           clear kT00 kT01 kT02 kT10 kT11 kT12 kXp0 kXp1 kXp2 kXq0 kXq1 kXq2
           obtain ⟨kT00, kT01, kT02, -, -, -, -⟩ := T0.out
           obtain ⟨kT10, kT11, kT12, -, -, -, -⟩ := T1.out
           obtain ⟨kXp0, kXp1, kXp2, -, -, -, -⟩ := Xp.out
           obtain ⟨kXq0, kXq1, kXq2, -, -, -, -⟩ := Xq.out
           have G1 : Hid True := trivial
           try go_wp2_with fail))
    go_wp2
    go_ret
    exact ⟨rfl, HB.out⟩

end Go.Proofs.YtnnoicjnggoffaaGreat
