/- Graphs as rows of rows: what turning one round tells. Plain lists. No condition. -/
namespace Go.Proofs.Ytdcmdbhkaohkgaa
namespace Gr

def tot (G : List (List Int)) : Nat := (G.map List.length).sum

theorem take_snoc (l : List Int) (p : Nat) (h : p < l.length) : l.take (p + 1) = l.take p ++ [l.getD p 0] := by
  rw [List.take_succ_eq_append_getElem h]; simp [h]

theorem tot_take_succ (G : List (List Int)) (i : Nat) (h : i < G.length) : tot (G.take (i + 1)) = tot (G.take i) + (G.getD i []).length := by
  unfold tot
  rw [List.take_succ_eq_append_getElem h, List.map_append, List.sum_append]
  simp only [List.map_cons, List.map_nil, List.sum_cons, List.sum_nil, Nat.add_zero]
  congr 1
  simp [h]

theorem tot_take_le (G : List (List Int)) (i : Nat) (h : i < G.length) : tot (G.take i) + (G.getD i []).length ≤ tot G := by
  rw [← tot_take_succ G i h]
  have e : tot G = tot (G.take (i + 1)) + tot (G.drop (i + 1)) := by
    unfold tot
    rw [← List.sum_append, ← List.map_append, List.take_append_drop]
  omega

theorem row_le_tot (G : List (List Int)) (i : Nat) : (G.getD i []).length ≤ tot G := by
  rcases Nat.lt_or_ge i G.length with h | h
  · have := tot_take_le G i h; omega
  · simp [List.getElem?_eq_none h]

theorem tot_set (T : List (List Int)) (j : Nat) (x : Int) (h : j < T.length) : tot (T.set j (T.getD j [] ++ [x])) = tot T + 1 := by
  induction T generalizing j with
  | nil => simp at h
  | cons a T ih =>
    cases j with
    | zero => simp [tot]; omega
    | succ j =>
      have := ih j (by simpa using h)
      simp [tot] at this ⊢
      omega

theorem getD_set_self (T : List (List Int)) (j : Nat) (r : List Int) (h : j < T.length) : (T.set j r).getD j [] = r := by simp [h]
theorem getD_set_other (T : List (List Int)) (i j : Nat) (r : List Int) (h : i ≠ j) : (T.set i r).getD j [] = T.getD j [] := by simp [h]

/-- what turned has laid when it has gone through the rows ahead of i, and p of row i -/
def TurnAt (G : List (List Int)) (i p : Nat) (T : List (List Int)) : Prop :=
  T.length = G.length ∧ tot T ≤ tot (G.take i) + p ∧
  ∀ j, j < G.length → ∀ x : Int, x ∈ T.getD j [] ↔ ∃ i' : Nat, x = (i' : Int) ∧ ((i' < i ∧ (j : Int) ∈ G.getD i' []) ∨ (i' = i ∧ (j : Int) ∈ (G.getD i []).take p))

/-- T has row j: all that need j -/
def Turn (G T : List (List Int)) : Prop :=
  T.length = G.length ∧ tot T ≤ tot G ∧ ∀ j, j < G.length → ∀ x : Int, x ∈ T.getD j [] ↔ ∃ i' : Nat, x = (i' : Int) ∧ i' < G.length ∧ (j : Int) ∈ G.getD i' []

theorem TurnAt.start (G : List (List Int)) : TurnAt G 0 0 (List.replicate G.length []) := by
  refine ⟨by simp, ?_, ?_⟩
  · simp [tot]
  · intro j hj x
    simp [hj]

theorem TurnAt.skip {G T : List (List Int)} {i p : Nat} (h : TurnAt G i p T) (hp : p < (G.getD i []).length) (hx : (G.getD i []).getD p 0 < 0 ∨ (G.length : Int) ≤ (G.getD i []).getD p 0) : TurnAt G i (p + 1) T := by
  obtain ⟨h1, h2, h3⟩ := h
  refine ⟨h1, by omega, fun j hj x => ?_⟩
  rw [h3 j hj x, take_snoc _ p hp]
  have : (j : Int) ≠ (G.getD i []).getD p 0 := by omega
  simp only [List.mem_append, List.mem_singleton]
  constructor
  · rintro ⟨i', e, h | ⟨h, h'⟩⟩
    · exact ⟨i', e, Or.inl h⟩
    · exact ⟨i', e, Or.inr ⟨h, Or.inl h'⟩⟩
  · rintro ⟨i', e, h | ⟨h, h' | h'⟩⟩
    · exact ⟨i', e, Or.inl h⟩
    · exact ⟨i', e, Or.inr ⟨h, h'⟩⟩
    · exact absurd h' this

theorem TurnAt.add {G T : List (List Int)} {i p : Nat} (h : TurnAt G i p T) (hp : p < (G.getD i []).length) (j : Nat) (hj : j < G.length) (hx : (G.getD i []).getD p 0 = (j : Int)) :
    TurnAt G i (p + 1) (T.set j (T.getD j [] ++ [(i : Int)])) := by
  obtain ⟨h1, h2, h3⟩ := h
  refine ⟨by simp [h1], by rw [tot_set T j _ (by omega)]; omega, fun k hk x => ?_⟩
  rw [take_snoc _ p hp, hx]
  simp only [List.mem_append, List.mem_singleton]
  by_cases e : j = k
  · subst e
    rw [getD_set_self T j _ (by omega)]
    simp only [List.mem_append, List.mem_singleton]
    rw [h3 j hj x]
    constructor
    · rintro (⟨i', e, h | ⟨h, h'⟩⟩ | e)
      · exact ⟨i', e, Or.inl h⟩
      · exact ⟨i', e, Or.inr ⟨h, Or.inl h'⟩⟩
      · exact ⟨i, e, Or.inr ⟨rfl, by simp⟩⟩
    · rintro ⟨i', e, h | ⟨h, h' | h'⟩⟩
      · exact Or.inl ⟨i', e, Or.inl h⟩
      · exact Or.inl ⟨i', e, Or.inr ⟨h, h'⟩⟩
      · exact Or.inr (by rw [e, h])
  · rw [getD_set_other T j k _ e, h3 k hk x]
    have : (k : Int) ≠ (j : Int) := by omega
    constructor
    · rintro ⟨i', e, h | ⟨h, h'⟩⟩
      · exact ⟨i', e, Or.inl h⟩
      · exact ⟨i', e, Or.inr ⟨h, Or.inl h'⟩⟩
    · rintro ⟨i', e, h | ⟨h, h' | h'⟩⟩
      · exact ⟨i', e, Or.inl h⟩
      · exact ⟨i', e, Or.inr ⟨h, h'⟩⟩
      · exact absurd h' this

theorem TurnAt.next {G T : List (List Int)} {i : Nat} (h : TurnAt G i (G.getD i []).length T) (hi : i < G.length) : TurnAt G (i + 1) 0 T := by
  obtain ⟨h1, h2, h3⟩ := h
  refine ⟨h1, by rw [tot_take_succ G i hi]; omega, fun j hj x => ?_⟩
  rw [h3 j hj x, List.take_length]
  constructor
  · rintro ⟨i', e, h | ⟨h, h'⟩⟩
    · exact ⟨i', e, Or.inl ⟨by omega, h.2⟩⟩
    · exact ⟨i', e, Or.inl ⟨by omega, by rw [h]; exact h'⟩⟩
  · rintro ⟨i', e, h | ⟨h, h'⟩⟩
    · by_cases e' : i' = i
      · exact ⟨i', e, Or.inr ⟨e', by rw [← e']; exact h.2⟩⟩
      · exact ⟨i', e, Or.inl ⟨by omega, h.2⟩⟩
    · simp at h'

theorem TurnAt.done {G T : List (List Int)} (h : TurnAt G G.length 0 T) : Turn G T := by
  obtain ⟨h1, h2, h3⟩ := h
  refine ⟨h1, by simpa using h2, fun j hj x => ?_⟩
  rw [h3 j hj x]
  constructor
  · rintro ⟨i', e, h | ⟨h, h'⟩⟩
    · exact ⟨i', e, h⟩
    · simp at h'
  · rintro ⟨i', e, h⟩
    exact ⟨i', e, Or.inl h⟩

theorem TurnAt.room {G T : List (List Int)} {i p : Nat} (h : TurnAt G i p T) (hi : i < G.length) (hp : p ≤ (G.getD i []).length) (j : Nat) : (T.getD j []).length ≤ tot G := by
  have := row_le_tot T j
  have := tot_take_le G i hi
  have := h.2.1
  omega
end Gr
end Go.Proofs.Ytdcmdbhkaohkgaa
