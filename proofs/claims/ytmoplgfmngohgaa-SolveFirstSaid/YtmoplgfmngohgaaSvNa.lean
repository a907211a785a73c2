/- The next time, in plain numbers. -/
import Derived.Test.YtmoplgfmngohgaaSvL
namespace Go.Proofs.Ytmoplgfmngohgaa
set_option linter.unusedVariables false
set_option linter.unusedSimpArgs false
set_option maxRecDepth 100000
open Go.RowKit Nums

/-- the next time is some line's, and none passes ahead of it -/
theorem fold_less (l : List Rat) (o : Option Rat) : ∀ t, l.foldl lessM o = some t → (o = some t ∨ t ∈ l) ∧ (∀ u, o = some u → t ≤ u) ∧ ∀ u ∈ l, t ≤ u := by
  induction l generalizing o with
  | nil => intro t h; exact ⟨.inl h, fun u hu => by rw [List.foldl_nil] at h; rw [h] at hu; cases hu; exact Rat.le_refl, fun u hu => by cases hu⟩
  | cons x l ih =>
    intro t h
    rw [List.foldl_cons] at h
    obtain ⟨h1, h2, h3⟩ := ih _ t h
    cases o with
    | none =>
      have hx : t ≤ x := h2 x rfl
      refine ⟨.inr ?_, (fun u hu => by cases hu), fun u hu => ?_⟩
      · rcases h1 with h1 | h1
        · cases h1; exact List.mem_cons_self
        · exact List.mem_cons_of_mem _ h1
      · rcases List.mem_cons.1 hu with rfl | hu
        · exact hx
        · exact h3 u hu
    | some y =>
      by_cases hxy : x < y
      · have e : lessM (some y) x = some x := if_pos hxy
        rw [e] at h1 h2
        have hx : t ≤ x := h2 x rfl
        refine ⟨.inr ?_, (fun u hu => by cases hu; grind), fun u hu => ?_⟩
        · rcases h1 with h1 | h1
          · cases h1; exact List.mem_cons_self
          · exact List.mem_cons_of_mem _ h1
        · rcases List.mem_cons.1 hu with rfl | hu
          · exact hx
          · exact h3 u hu
      · have e : lessM (some y) x = some y := if_neg hxy
        rw [e] at h1 h2
        have hy : t ≤ y := h2 y rfl
        refine ⟨?_, (fun u hu => by cases hu; exact hy), fun u hu => ?_⟩
        · rcases h1 with h1 | h1
          · exact .inl h1
          · exact .inr (List.mem_cons_of_mem _ h1)
        · rcases List.mem_cons.1 hu with rfl | hu
          · grind
          · exact h3 u hu
theorem fold_none (l : List Rat) (o : Option Rat) (h : l.foldl lessM o = none) : o = none ∧ l = [] := by
  induction l generalizing o with
  | nil => exact ⟨h, rfl⟩
  | cons x l ih =>
    rw [List.foldl_cons] at h
    have := (ih _ h).1
    cases o with
    | none => cases this
    | some y => unfold lessM at this; simp only at this; split at this <;> cases this
theorem next_none {L : List LM} (h : nextM L = none) : ∀ x ∈ L, passL x = none := by
  have := (fold_none _ _ h).2
  intro x hx
  cases hp : passL x with
  | none => rfl
  | some t =>
    have hm : t ∈ L.filterMap passL := List.mem_filterMap.2 ⟨x, hx, hp⟩
    rw [this] at hm; cases hm
theorem next_least {L : List LM} {t : Rat} (h : nextM L = some t) : (∃ x ∈ L, passL x = some t) ∧ ∀ x ∈ L, ∀ u, passL x = some u → t ≤ u := by
  obtain ⟨h1, -, h3⟩ := fold_less _ _ t h
  refine ⟨?_, fun x hx u hu => h3 u (List.mem_filterMap.2 ⟨x, hx, hu⟩)⟩
  rcases h1 with h1 | h1
  · cases h1
  · obtain ⟨x, hx, e⟩ := List.mem_filterMap.1 h1
    exact ⟨x, hx, e⟩
theorem pass_some {x : LM} {t : Rat} (h : passL x = some t) : x.on = true ∧ x.p < 0 ∧ 0 < x.q ∧ t = -x.p / x.q := by
  unfold passL passM at h
  split at h
  · rename_i h0; cases h; exact ⟨h0.1, h0.2.1, h0.2.2, rfl⟩
  · cases h
/-- at the next time what has passed is 0 -/
theorem passed_zero {L : List LM} {t : Rat} (h : nextM L = some t) {x : LM} (hx : x ∈ L) (hp : passedM t x = true) : x.on = true ∧ x.p + x.q * t = 0 := by
  obtain ⟨⟨y, hy, ey⟩, hl⟩ := next_least h
  obtain ⟨-, hyp, hyq, hyt⟩ := pass_some ey
  have ht : 0 < t := by rw [hyt]; exact pass_pos hyp hyq
  unfold passedM at hp
  simp only [Bool.and_eq_true, decide_eq_true_eq] at hp
  obtain ⟨⟨h1, h2⟩, h3⟩ := hp
  refine ⟨h1, ?_⟩
  by_cases hq : 0 < x.q
  · have e : passL x = some (-x.p / x.q) := if_pos ⟨h1, h2, hq⟩
    have hle := hl x hx _ e
    have h4 := (pass_early (p := x.p) (s := t) hq)
    have h5 := pass_zero (p := x.p) hq
    by_cases hlt : t < -x.p / x.q
    · have := h4.2 hlt; grind
    · have : t = -x.p / x.q := by grind
      rw [this]; exact h5
  · have := not_pass (q := x.q) (s := t) h2 (by grind) (by grind)
    grind
/-- at the next time some line passes -/
theorem passed_some {L : List LM} {t : Rat} (h : nextM L = some t) : ∃ x ∈ L, passedM t x = true := by
  obtain ⟨⟨y, hy, ey⟩, -⟩ := next_least h
  obtain ⟨h1, h2, h3, h4⟩ := pass_some ey
  refine ⟨y, hy, ?_⟩
  unfold passedM
  rw [h1, h4, pass_zero h3, decide_eq_true h2]
  decide +kernel

end Go.Proofs.Ytmoplgfmngohgaa
