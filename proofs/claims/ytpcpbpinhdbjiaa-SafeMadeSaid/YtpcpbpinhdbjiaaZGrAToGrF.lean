/- Graphs as rows of rows: what turning one round tells. Plain lists. No condition. · Graphs: ways by steps, and what going from a place all ways tells, step by step. Plain lists. No condition. · Graphs: the order in which a walk that goes deep first leaves the places; what it says of ways. Plain lists. No condition. · Graphs: an order, built by counting what is still needed. Plain lists. No condition. -/
namespace Go.Proofs.Ytpcpbpinhdbjiaa
namespace Gr

def tot (G : List (List Int)) : Nat := (G.map List.length).sum

theorem take_snoc (l : List Int) (p : Nat) (h : p < l.length) : l.take (p + 1) = l.take p ++ [l.getD p 0] := by
  rw [List.take_succ_eq_append_getElem h]; simp [h]

theorem tot_take_succ (G : List (List Int)) (i : Nat) (h : i < G.length) : tot (G.take (i + 1)) = tot (G.take i) + (G.getD i []).length := by
  unfold tot
  rw [List.take_succ_eq_append_getElem h, List.map_append, List.sum_append]
  simp only [List.map_cons, List.map_nil, List.sum_cons, List.sum_nil, Nat.add_zero]
  congr 1
  simp [h]

theorem tot_take_le (G : List (List Int)) (i : Nat) (h : i < G.length) : tot (G.take i) + (G.getD i []).length ≤ tot G := by
  rw [← tot_take_succ G i h]
  have e : tot G = tot (G.take (i + 1)) + tot (G.drop (i + 1)) := by
    unfold tot
    rw [← List.sum_append, ← List.map_append, List.take_append_drop]
  omega

theorem row_le_tot (G : List (List Int)) (i : Nat) : (G.getD i []).length ≤ tot G := by
  rcases Nat.lt_or_ge i G.length with h | h
  · have := tot_take_le G i h; omega
  · simp [List.getElem?_eq_none h]

theorem tot_set (T : List (List Int)) (j : Nat) (x : Int) (h : j < T.length) : tot (T.set j (T.getD j [] ++ [x])) = tot T + 1 := by
  induction T generalizing j with
  | nil => simp at h
  | cons a T ih =>
    cases j with
    | zero => simp [tot]; omega
    | succ j =>
      have := ih j (by simpa using h)
      simp [tot] at this ⊢
      omega

theorem getD_set_self (T : List (List Int)) (j : Nat) (r : List Int) (h : j < T.length) : (T.set j r).getD j [] = r := by simp [h]
theorem getD_set_other (T : List (List Int)) (i j : Nat) (r : List Int) (h : i ≠ j) : (T.set i r).getD j [] = T.getD j [] := by simp [h]

/-- what turned has laid when it has gone through the rows ahead of i, and p of row i -/
def TurnAt (G : List (List Int)) (i p : Nat) (T : List (List Int)) : Prop :=
  T.length = G.length ∧ tot T ≤ tot (G.take i) + p ∧
  ∀ j, j < G.length → ∀ x : Int, x ∈ T.getD j [] ↔ ∃ i' : Nat, x = (i' : Int) ∧ ((i' < i ∧ (j : Int) ∈ G.getD i' []) ∨ (i' = i ∧ (j : Int) ∈ (G.getD i []).take p))

/-- T has row j: all that need j -/
def Turn (G T : List (List Int)) : Prop :=
  T.length = G.length ∧ tot T ≤ tot G ∧ ∀ j, j < G.length → ∀ x : Int, x ∈ T.getD j [] ↔ ∃ i' : Nat, x = (i' : Int) ∧ i' < G.length ∧ (j : Int) ∈ G.getD i' []

theorem TurnAt.start (G : List (List Int)) : TurnAt G 0 0 (List.replicate G.length []) := by
  refine ⟨by simp, ?_, ?_⟩
  · simp [tot]
  · intro j hj x
    simp [hj]

theorem TurnAt.skip {G T : List (List Int)} {i p : Nat} (h : TurnAt G i p T) (hp : p < (G.getD i []).length) (hx : (G.getD i []).getD p 0 < 0 ∨ (G.length : Int) ≤ (G.getD i []).getD p 0) : TurnAt G i (p + 1) T := by
  obtain ⟨h1, h2, h3⟩ := h
  refine ⟨h1, by omega, fun j hj x => ?_⟩
  rw [h3 j hj x, take_snoc _ p hp]
  have : (j : Int) ≠ (G.getD i []).getD p 0 := by omega
  simp only [List.mem_append, List.mem_singleton]
  constructor
  · rintro ⟨i', e, h | ⟨h, h'⟩⟩
    · exact ⟨i', e, Or.inl h⟩
    · exact ⟨i', e, Or.inr ⟨h, Or.inl h'⟩⟩
  · rintro ⟨i', e, h | ⟨h, h' | h'⟩⟩
    · exact ⟨i', e, Or.inl h⟩
    · exact ⟨i', e, Or.inr ⟨h, h'⟩⟩
    · exact absurd h' this

theorem TurnAt.add {G T : List (List Int)} {i p : Nat} (h : TurnAt G i p T) (hp : p < (G.getD i []).length) (j : Nat) (hj : j < G.length) (hx : (G.getD i []).getD p 0 = (j : Int)) :
    TurnAt G i (p + 1) (T.set j (T.getD j [] ++ [(i : Int)])) := by
  obtain ⟨h1, h2, h3⟩ := h
  refine ⟨by simp [h1], by rw [tot_set T j _ (by omega)]; omega, fun k hk x => ?_⟩
  rw [take_snoc _ p hp, hx]
  simp only [List.mem_append, List.mem_singleton]
  by_cases e : j = k
  · subst e
    rw [getD_set_self T j _ (by omega)]
    simp only [List.mem_append, List.mem_singleton]
    rw [h3 j hj x]
    constructor
    · rintro (⟨i', e, h | ⟨h, h'⟩⟩ | e)
      · exact ⟨i', e, Or.inl h⟩
      · exact ⟨i', e, Or.inr ⟨h, Or.inl h'⟩⟩
      · exact ⟨i, e, Or.inr ⟨rfl, by simp⟩⟩
    · rintro ⟨i', e, h | ⟨h, h' | h'⟩⟩
      · exact Or.inl ⟨i', e, Or.inl h⟩
      · exact Or.inl ⟨i', e, Or.inr ⟨h, h'⟩⟩
      · exact Or.inr (by rw [e, h])
  · rw [getD_set_other T j k _ e, h3 k hk x]
    have : (k : Int) ≠ (j : Int) := by omega
    constructor
    · rintro ⟨i', e, h | ⟨h, h'⟩⟩
      · exact ⟨i', e, Or.inl h⟩
      · exact ⟨i', e, Or.inr ⟨h, Or.inl h'⟩⟩
    · rintro ⟨i', e, h | ⟨h, h' | h'⟩⟩
      · exact ⟨i', e, Or.inl h⟩
      · exact ⟨i', e, Or.inr ⟨h, h'⟩⟩
      · exact absurd h' this

theorem TurnAt.next {G T : List (List Int)} {i : Nat} (h : TurnAt G i (G.getD i []).length T) (hi : i < G.length) : TurnAt G (i + 1) 0 T := by
  obtain ⟨h1, h2, h3⟩ := h
  refine ⟨h1, by rw [tot_take_succ G i hi]; omega, fun j hj x => ?_⟩
  rw [h3 j hj x, List.take_length]
  constructor
  · rintro ⟨i', e, h | ⟨h, h'⟩⟩
    · exact ⟨i', e, Or.inl ⟨by omega, h.2⟩⟩
    · exact ⟨i', e, Or.inl ⟨by omega, by rw [h]; exact h'⟩⟩
  · rintro ⟨i', e, h | ⟨h, h'⟩⟩
    · by_cases e' : i' = i
      · exact ⟨i', e, Or.inr ⟨e', by rw [← e']; exact h.2⟩⟩
      · exact ⟨i', e, Or.inl ⟨by omega, h.2⟩⟩
    · simp at h'

theorem TurnAt.done {G T : List (List Int)} (h : TurnAt G G.length 0 T) : Turn G T := by
  obtain ⟨h1, h2, h3⟩ := h
  refine ⟨h1, by simpa using h2, fun j hj x => ?_⟩
  rw [h3 j hj x]
  constructor
  · rintro ⟨i', e, h | ⟨h, h'⟩⟩
    · exact ⟨i', e, h⟩
    · simp at h'
  · rintro ⟨i', e, h⟩
    exact ⟨i', e, Or.inl h⟩

theorem TurnAt.room {G T : List (List Int)} {i p : Nat} (h : TurnAt G i p T) (hi : i < G.length) (hp : p ≤ (G.getD i []).length) (j : Nat) : (T.getD j []).length ≤ tot G := by
  have := row_le_tot T j
  have := tot_take_le G i hi
  have := h.2.1
  omega
end Gr
end Go.Proofs.Ytpcpbpinhdbjiaa

namespace Go.Proofs.Ytpcpbpinhdbjiaa
namespace Gr

def E (G : List (List Int)) (i k : Nat) : Prop := i < G.length ∧ k < G.length ∧ (k : Int) ∈ G.getD i []

def Walk (G : List (List Int)) : Nat → Nat → Nat → Prop
  | 0, i, k => i = k
  | n + 1, i, k => ∃ m, Walk G n i m ∧ E G m k

theorem Walk.append {G : List (List Int)} {a b i j k : Nat} (h : Walk G a i j) (h' : Walk G b j k) : Walk G (a + b) i k := by
  induction b generalizing k with
  | zero => cases h'; exact h
  | succ b ih => obtain ⟨m, h1, h2⟩ := h'; exact ⟨m, ih h1, h2⟩

theorem Walk.one {G : List (List Int)} {i k : Nat} (h : E G i k) : Walk G 1 i k := ⟨i, rfl, h⟩

theorem Walk.head {G : List (List Int)} {n i k : Nat} (h : Walk G (n + 1) i k) : ∃ m, E G i m ∧ Walk G n m k := by
  induction n generalizing k with
  | zero => obtain ⟨m, h1, h2⟩ := h; cases h1; exact ⟨k, h2, rfl⟩
  | succ n ih =>
    obtain ⟨m, h1, h2⟩ := h
    obtain ⟨m', h3, h4⟩ := ih h1
    exact ⟨m', h3, m, h4, h2⟩

theorem Walk.cons {G : List (List Int)} {n i m k : Nat} (h : E G i m) (h' : Walk G n m k) : Walk G (n + 1) i k := by
  have := (Walk.one h).append h'
  rwa [Nat.add_comm] at this

/-- a way of some steps, or none -/
def Pth (G : List (List Int)) (i k : Nat) : Prop := ∃ n, Walk G n i k
/-- a way of one step or more -/
def Way (G : List (List Int)) (i k : Nat) : Prop := ∃ n, Walk G (n + 1) i k

theorem Pth.refl (G : List (List Int)) (i : Nat) : Pth G i i := ⟨0, rfl⟩
theorem Pth.trans {G : List (List Int)} {i j k : Nat} (h : Pth G i j) (h' : Pth G j k) : Pth G i k := by
  obtain ⟨a, h⟩ := h; obtain ⟨b, h'⟩ := h'; exact ⟨a + b, h.append h'⟩
theorem Pth.one {G : List (List Int)} {i k : Nat} (h : E G i k) : Pth G i k := ⟨1, Walk.one h⟩
theorem Way.pth {G : List (List Int)} {i k : Nat} (h : Way G i k) : Pth G i k := by obtain ⟨n, h⟩ := h; exact ⟨_, h⟩
theorem Way.trans_pth {G : List (List Int)} {i j k : Nat} (h : Way G i j) (h' : Pth G j k) : Way G i k := by
  obtain ⟨a, h⟩ := h; obtain ⟨b, h'⟩ := h'
  have := h.append h'
  exact ⟨a + b, by rwa [show a + b + 1 = a + 1 + b by omega]⟩
theorem Way.one {G : List (List Int)} {i k : Nat} (h : E G i k) : Way G i k := ⟨0, Walk.one h⟩
theorem Pth.way {G : List (List Int)} {i j k : Nat} (h : Pth G i j) (h' : E G j k) : Way G i k := by
  obtain ⟨n, h⟩ := h; exact ⟨n, j, h, h'⟩
theorem Way.lt {G : List (List Int)} {i k : Nat} (h : Way G i k) : i < G.length ∧ k < G.length := by
  obtain ⟨n, h⟩ := h
  obtain ⟨m, h1, _⟩ := h.head
  obtain ⟨m', _, h2⟩ := h
  exact ⟨h1.1, h2.2.1⟩

theorem Turn.edge {G T : List (List Int)} (h : Turn G T) (i j : Nat) : E T j i ↔ E G i j := by
  obtain ⟨h1, h2, h3⟩ := h
  unfold E
  rw [h1]
  constructor
  · rintro ⟨a, b, c⟩
    obtain ⟨i', e, h4, h5⟩ := (h3 j a _).1 c
    have : i' = i := by omega
    subst this
    exact ⟨b, a, h5⟩
  · rintro ⟨a, b, c⟩
    exact ⟨b, a, (h3 j b _).2 ⟨i, rfl, a, c⟩⟩

theorem Turn.walk {G T : List (List Int)} (h : Turn G T) {n i j : Nat} (hw : Walk T n j i) : Walk G n i j := by
  induction n generalizing i with
  | zero => cases hw; rfl
  | succ n ih =>
    obtain ⟨m, h1, h2⟩ := hw
    exact Walk.cons ((h.edge i m).1 h2) (ih h1)

theorem Turn.walk' {G T : List (List Int)} (h : Turn G T) {n i j : Nat} (hw : Walk G n i j) : Walk T n j i := by
  induction n generalizing j with
  | zero => cases hw; rfl
  | succ n ih =>
    obtain ⟨m, h1, h2⟩ := hw
    exact Walk.cons ((h.edge m j).2 h2) (ih h1)

theorem nodup_len (n : Nat) : ∀ l : List Nat, l.Nodup → (∀ x ∈ l, x < n) → l.length ≤ n := by
  induction n with
  | zero =>
    intro l _ h
    cases l with
    | nil => simp
    | cons a l => have := h a (by simp); omega
  | succ n ih =>
    intro l hn h
    have h1 := ih (l.erase n) (hn.erase n) (fun x hx => by
      have := (hn.mem_erase_iff).1 hx
      have := h x this.2
      omega)
    by_cases hm : n ∈ l
    · rw [List.length_erase_of_mem hm] at h1; omega
    · rw [List.erase_of_not_mem hm] at h1; omega

def ints (l : List Nat) : List Int := l.map (fun n : Nat => (n : Int))
theorem ints_len (l : List Nat) : (ints l).length = l.length := by simp [ints]
theorem ints_getD (l : List Nat) (q : Nat) : (ints l).getD q 0 = ((l.getD q 0 : Nat) : Int) := by
  by_cases h : q < l.length <;> simp [ints, h]
theorem ints_append (l m : List Nat) : ints (l ++ m) = ints l ++ ints m := by simp [ints]
theorem getD_mem' {l : List Int} {p : Nat} (h : p < l.length) : l.getD p 0 ∈ l := by
  have e : l.getD p 0 = l[p] := by simp [h]
  rw [e]; exact List.getElem_mem h
theorem getD_app_lt (l : List Nat) (x q : Nat) (h : q < l.length) : (l ++ [x]).getD q 0 = l.getD q 0 := by simp [List.getElem?_append, h]
theorem getD_app_eq (l : List Nat) (x : Nat) : (l ++ [x]).getD l.length 0 = x := by simp

/-- what going from s all ways has found: row, with how many steps to each (D); m of them gone through, and p needs of the next -/
structure Sp (G : List (List Int)) (s : Nat) (F0 : List Int) (row D : List Nat) (m p : Nat) (F : List Int) : Prop where
  lenF : F.length = G.length
  lenF0 : F0.length = G.length
  lenD : D.length = row.length
  pos : 0 < row.length
  s0 : row.getD 0 0 = s
  d0 : D.getD 0 0 = 0
  sl : s < G.length
  found : ∀ q, 0 < q → q < row.length → row.getD q 0 < G.length ∧ F0.getD (row.getD q 0) 0 = -1 ∧ ∃ r, r < q ∧ F.getD (row.getD q 0) 0 = ((row.getD r 0 : Nat) : Int) ∧ E G (row.getD r 0) (row.getD q 0) ∧ D.getD q 0 = D.getD r 0 + 1
  nd : row.tail.Nodup
  other : ∀ k, k < G.length → (∀ q, 0 < q → q < row.length → row.getD q 0 ≠ k) → F.getD k 0 = F0.getD k 0
  bound : m < row.length → ∀ q, q < row.length → D.getD q 0 ≤ D.getD m 0 + 1
  mono : ∀ q q', q ≤ q' → q' < row.length → D.getD q 0 ≤ D.getD q' 0
  closed : ∀ r k, r < m → E G (row.getD r 0) k → F0.getD k 0 = -1 → ∃ q, 0 < q ∧ q < row.length ∧ row.getD q 0 = k ∧ D.getD q 0 ≤ D.getD r 0 + 1
  part : ∀ k, k < G.length → (k : Int) ∈ (G.getD (row.getD m 0) []).take p → F0.getD k 0 = -1 → ∃ q, 0 < q ∧ q < row.length ∧ row.getD q 0 = k ∧ D.getD q 0 ≤ D.getD m 0 + 1

section
variable {G : List (List Int)} {s : Nat} {F0 F : List Int} {row D : List Nat} {m p : Nat}

theorem Sp.start (hs : s < G.length) (hF : F0.length = G.length) : Sp G s F0 [s] [0] 0 0 F0 where
  lenF := hF
  lenF0 := hF
  lenD := rfl
  pos := by simp
  s0 := rfl
  d0 := rfl
  sl := hs
  found := fun q h1 h2 => by simp at h2; omega
  nd := by simp
  other := fun _ _ _ => rfl
  bound := fun _ q hq => by simp at hq; subst hq; simp
  mono := fun q q' h1 h2 => by
    have e : q' = 0 := by simpa using h2
    have e2 : q = 0 := by omega
    rw [e, e2]; exact Nat.le_refl _
  closed := fun r k hr => by omega
  part := fun k _ hk => by simp at hk

theorem Sp.mem_tail (h : Sp G s F0 row D m p F) (k : Nat) : k ∈ row.tail ↔ ∃ q, 0 < q ∧ q < row.length ∧ row.getD q 0 = k := by
  have hp := h.pos
  constructor
  · intro hk
    obtain ⟨i, hi, e⟩ := List.mem_iff_getElem.1 hk
    have hi' : i + 1 < row.length := by simp at hi; omega
    refine ⟨i + 1, by omega, hi', ?_⟩
    rw [← e, List.getElem_tail]
    simp [hi']
  · rintro ⟨q, h0, hq, e⟩
    obtain ⟨i, rfl⟩ : ∃ i, q = i + 1 := ⟨q - 1, by omega⟩
    have hi : i < row.tail.length := by simp; omega
    have := List.getElem_mem hi
    rw [List.getElem_tail] at this
    rw [← e]
    simpa [hq] using this

theorem Sp.len (h : Sp G s F0 row D m p F) : row.length ≤ G.length + 1 := by
  have := nodup_len G.length row.tail h.nd (fun x hx => by
    obtain ⟨q, h0, hq, e⟩ := (h.mem_tail x).1 hx
    rw [← e]; exact (h.found q h0 hq).1)
  simp at this; omega

theorem Sp.skip (h : Sp G s F0 row D m p F) (hm : m < row.length) (hp : p < (G.getD (row.getD m 0) []).length)
    (hx : (G.getD (row.getD m 0) []).getD p 0 < 0 ∨ (G.length : Int) ≤ (G.getD (row.getD m 0) []).getD p 0 ∨ ∃ k : Nat, (G.getD (row.getD m 0) []).getD p 0 = (k : Int) ∧ k < G.length ∧ F.getD k 0 ≠ -1) : Sp G s F0 row D m (p + 1) F :=
  { h with
    part := fun k hk hmem hF => by
      rw [take_snoc _ p hp] at hmem
      rcases List.mem_append.1 hmem with h1 | h1
      · exact h.part k hk h1 hF
      · have e : (k : Int) = (G.getD (row.getD m 0) []).getD p 0 := by simpa using h1
        rcases hx with hx | hx | ⟨k', e', _, hx⟩
        · omega
        · omega
        · have : k' = k := by omega
          subst this
          by_cases hf : ∃ q, 0 < q ∧ q < row.length ∧ row.getD q 0 = k'
          · obtain ⟨q, h0, hq, e2⟩ := hf
            exact ⟨q, h0, hq, e2, h.bound hm q hq⟩
          · exfalso
            apply hx
            rw [h.other k' hk (fun q h0 hq e2 => hf ⟨q, h0, hq, e2⟩)]
            exact hF }

theorem Sp.place (h : Sp G s F0 row D m p F) {q : Nat} (hq : q < row.length) : row.getD q 0 < G.length := by
  rcases Nat.eq_zero_or_pos q with rfl | h0
  · rw [h.s0]; exact h.sl
  · exact (h.found q h0 hq).1

theorem Sp.add (h : Sp G s F0 row D m p F) (hm : m < row.length) (hp : p < (G.getD (row.getD m 0) []).length) (k : Nat) (hk : k < G.length)
    (hx : (G.getD (row.getD m 0) []).getD p 0 = (k : Int)) (hF : F.getD k 0 = -1) :
    Sp G s F0 (row ++ [k]) (D ++ [D.getD m 0 + 1]) m (p + 1) (F.set k ((row.getD m 0 : Nat) : Int)) := by
  have hnew : ∀ q, 0 < q → q < row.length → row.getD q 0 ≠ k := by
    intro q h0 hq e
    obtain ⟨_, _, r, _, h2, _⟩ := h.found q h0 hq
    rw [e, hF] at h2
    omega
  have hF0 : F0.getD k 0 = -1 := by rw [← h.other k hk hnew]; exact hF
  have hE : E G (row.getD m 0) k := ⟨h.place hm, hk, by rw [← hx]; exact getD_mem' hp⟩
  have hlD := h.lenD
  have hset : ∀ j, j ≠ k → (F.set k ((row.getD m 0 : Nat) : Int)).getD j 0 = F.getD j 0 := fun j hj => by simp [Ne.symm hj]
  have hself : (F.set k ((row.getD m 0 : Nat) : Int)).getD k 0 = ((row.getD m 0 : Nat) : Int) := by
    have : k < F.length := by rw [h.lenF]; exact hk
    simp [this]
  have hDlt : ∀ q, q < row.length → (D ++ [D.getD m 0 + 1]).getD q 0 = D.getD q 0 := fun q hq => getD_app_lt D _ q (by omega)
  have hDeq : (D ++ [D.getD m 0 + 1]).getD row.length 0 = D.getD m 0 + 1 := by rw [← hlD]; exact getD_app_eq D _
  have hRlt : ∀ q, q < row.length → (row ++ [k]).getD q 0 = row.getD q 0 := fun q hq => getD_app_lt row _ q hq
  have hReq : (row ++ [k]).getD row.length 0 = k := getD_app_eq row k
  have hlen : (row ++ [k]).length = row.length + 1 := by simp
  refine { lenF := by simp [h.lenF], lenF0 := h.lenF0, lenD := by simp [h.lenD], pos := by simp, s0 := by rw [hRlt 0 h.pos]; exact h.s0, d0 := by rw [hDlt 0 h.pos]; exact h.d0, sl := h.sl, found := ?_, nd := ?_, other := ?_, bound := ?_, mono := ?_, closed := ?_, part := ?_ }
  · intro q h0 hq
    rw [hlen] at hq
    by_cases hq' : q < row.length
    · obtain ⟨a, b, r, c, d, e, f⟩ := h.found q h0 hq'
      rw [hRlt q hq']
      refine ⟨a, b, r, c, ?_, ?_, ?_⟩
      · rw [hset _ (hnew q h0 hq'), hRlt r (by omega)]; exact d
      · rw [hRlt r (by omega)]; exact e
      · rw [hDlt q hq', hDlt r (by omega)]; exact f
    · have : q = row.length := by omega
      subst this
      rw [hReq]
      refine ⟨hk, hF0, m, hm, ?_, ?_, ?_⟩
      · rw [hself, hRlt m hm]
      · rw [hRlt m hm]; exact hE
      · rw [hDeq, hDlt m hm]
  · have : (row ++ [k]).tail = row.tail ++ [k] := by
      cases hr : row with
      | nil => have := h.pos; rw [hr] at this; simp at this
      | cons a l => simp
    rw [this, List.nodup_append]
    refine ⟨h.nd, by simp, ?_⟩
    intro a ha b hb
    simp at hb
    subst hb
    obtain ⟨q, h0, hq, e⟩ := (h.mem_tail a).1 ha
    rw [← e]
    exact hnew q h0 hq
  · intro j hj hno
    have hjk : j ≠ k := by
      have := hno row.length h.pos (by omega)
      rw [hReq] at this
      exact Ne.symm this
    rw [hset j hjk]
    exact h.other j hj (fun q h0 hq => by have := hno q h0 (by omega); rwa [hRlt q hq] at this)
  · intro _ q hq
    rw [hDlt m hm]
    by_cases hq' : q < row.length
    · rw [hDlt q hq']; exact h.bound hm q hq'
    · have : q = row.length := by omega
      subst this
      rw [hDeq]; exact Nat.le_refl _
  · intro q q' hqq hq'
    rw [hlen] at hq'
    by_cases hq2 : q' < row.length
    · rw [hDlt q (by omega), hDlt q' hq2]; exact h.mono q q' hqq hq2
    · have : q' = row.length := by omega
      subst this
      rw [hDeq]
      by_cases hq3 : q < row.length
      · rw [hDlt q hq3]; exact h.bound hm q hq3
      · have : q = row.length := by omega
        subst this
        rw [hDeq]; exact Nat.le_refl _
  · intro r k' hr hE' hF'
    rw [hRlt r (by omega)] at hE'
    obtain ⟨q, h0, hq, e, hd⟩ := h.closed r k' hr hE' hF'
    exact ⟨q, h0, by omega, by rw [hRlt q hq]; exact e, by rw [hDlt q hq, hDlt r (by omega)]; exact hd⟩
  · intro k' hk' hmem hF'
    rw [hRlt m hm, take_snoc _ p hp, hx] at hmem
    rw [hDlt m hm]
    rcases List.mem_append.1 hmem with h1 | h1
    · obtain ⟨q, h0, hq, e, hd⟩ := h.part k' hk' h1 hF'
      exact ⟨q, h0, by omega, by rw [hRlt q hq]; exact e, by rw [hDlt q hq]; exact hd⟩
    · have : k' = k := by simp at h1; omega
      subst this
      exact ⟨row.length, h.pos, by omega, hReq, by rw [hDeq]; exact Nat.le_refl _⟩

theorem Sp.next (h : Sp G s F0 row D m p F) (hm : m < row.length) (hp : p = (G.getD (row.getD m 0) []).length) : Sp G s F0 row D (m + 1) 0 F :=
  { h with
    bound := fun hm' q hq => by
      have := h.bound hm q hq
      have := h.mono m (m + 1) (by omega) hm'
      omega
    closed := fun r k hr hE hF => by
      by_cases e : r = m
      · subst e
        exact h.part k hE.2.1 (by rw [hp, List.take_length]; exact hE.2.2) hF
      · exact h.closed r k (by omega) hE hF
    part := fun k _ hk => by simp at hk }

/-- what was found: by so many steps from s -/
theorem Sp.walk (h : Sp G s F0 row D m p F) : ∀ q, q < row.length → Walk G (D.getD q 0) s (row.getD q 0) := by
  intro q
  induction q using Nat.strongRecOn with
  | ind q ih =>
    intro hq
    rcases Nat.eq_zero_or_pos q with rfl | h0
    · rw [h.d0, h.s0]; rfl
    · obtain ⟨_, _, r, hr, _, hE, hd⟩ := h.found q h0 hq
      rw [hd]
      exact ⟨_, ih r hr (by omega), hE⟩

/-- at the end, if all was unfound: what a walk leads to was found, by no more steps -/
theorem Sp.all (h : Sp G s F0 row D row.length p F) (h0 : ∀ k, k < G.length → F0.getD k 0 = -1) : ∀ n k, Walk G (n + 1) s k → ∃ q, 0 < q ∧ q < row.length ∧ row.getD q 0 = k ∧ D.getD q 0 ≤ n + 1 := by
  intro n
  induction n with
  | zero =>
    intro k hw
    obtain ⟨j, h1, h2⟩ := hw
    cases h1
    have := h.closed 0 k h.pos (by rw [h.s0]; exact h2) (h0 k h2.2.1)
    rw [h.d0] at this
    exact this
  | succ n ih =>
    intro k hw
    obtain ⟨j, h1, h2⟩ := hw
    obtain ⟨q, hq0, hq, e, hd⟩ := ih j h1
    obtain ⟨q', hq0', hq', e', hd'⟩ := h.closed q k hq (by rw [e]; exact h2) (h0 k h2.2.1)
    exact ⟨q', hq0', hq', e', by omega⟩

/-- at the end, if what was found ahead leads to nothing else: what a walk leads to was found, or had been -/
theorem Sp.allBut (h : Sp G s F0 row D row.length p F) (hc : ∀ x y, E G x y → F0.getD x 0 ≠ -1 → F0.getD y 0 ≠ -1) : ∀ n k, Walk G (n + 1) s k → F0.getD k 0 = -1 → k ∈ row.tail := by
  intro n
  induction n with
  | zero =>
    intro k hw hF
    obtain ⟨j, h1, h2⟩ := hw
    cases h1
    obtain ⟨q, a, b, c, _⟩ := h.closed 0 k h.pos (by rw [h.s0]; exact h2) hF
    exact (h.mem_tail k).2 ⟨q, a, b, c⟩
  | succ n ih =>
    intro k hw hF
    obtain ⟨j, h1, h2⟩ := hw
    have hj : F0.getD j 0 = -1 := Decidable.byContradiction fun hne => hc j k h2 hne hF
    obtain ⟨q, hq0, hq, e⟩ := (h.mem_tail j).1 (ih j h1 hj)
    obtain ⟨q', a, b, c, _⟩ := h.closed q k hq (by rw [e]; exact h2) hF
    exact (h.mem_tail k).2 ⟨q', a, b, c⟩

theorem Sp.way (h : Sp G s F0 row D m p F) {k : Nat} (hk : k ∈ row.tail) : Way G s k ∧ F0.getD k 0 = -1 ∧ k < G.length := by
  obtain ⟨q, h0, hq, e⟩ := (h.mem_tail k).1 hk
  obtain ⟨a, b, r, _, _, _, hd⟩ := h.found q h0 hq
  have := h.walk q hq
  rw [e] at this a b
  rw [hd] at this
  exact ⟨⟨_, this⟩, b, a⟩

theorem Sp.marks (h : Sp G s F0 row D m p F) (k : Nat) (hk : k < G.length) : (F.getD k 0 ≠ -1 ↔ F0.getD k 0 ≠ -1 ∨ k ∈ row.tail) := by
  by_cases hf : k ∈ row.tail
  · obtain ⟨q, h0, hq, e⟩ := (h.mem_tail k).1 hf
    obtain ⟨_, _, r, _, h2, _⟩ := h.found q h0 hq
    rw [e] at h2
    constructor
    · intro _; exact Or.inr hf
    · intro _; rw [h2]; omega
  · rw [h.other k hk (fun q h0 hq e => hf ((h.mem_tail k).2 ⟨q, h0, hq, e⟩))]
    constructor
    · exact Or.inl
    · rintro (h1 | h1)
      · exact h1
      · exact (hf h1).elim
end
end Gr
end Go.Proofs.Ytpcpbpinhdbjiaa

namespace Go.Proofs.Ytpcpbpinhdbjiaa
namespace Gr

/-- every need is a place -/
def Clean (G : List (List Int)) : Prop := ∀ i, i < G.length → ∀ x ∈ G.getD i [], ∃ k : Nat, x = (k : Int) ∧ k < G.length

theorem Turn.clean {G T : List (List Int)} (h : Turn G T) : Clean T := fun j hj x hx => by
  rw [h.1] at hj
  obtain ⟨i, e, hi, _⟩ := (h.2.2 j hj x).1 hx
  exact ⟨i, e, by rw [h.1]; exact hi⟩

/-- whoever was left: if it leads to one that was not left then, it does so by one that was not left then, and leads back -/
def Lv (G : List (List Int)) (out : List Nat) : Prop :=
  ∀ a b j, out = a ++ j :: b → ∀ v, v < G.length → v ∉ a → v ≠ j → Pth G j v → ∃ u, u < G.length ∧ u ∉ a ∧ u ≠ j ∧ Pth G j u ∧ Pth G u v ∧ Pth G u j

structure Dfs (G : List (List Int)) (out way asked : List Nat) (ent : List Bool) : Prop where
  lenA : asked.length = G.length
  lenE : ent.length = G.length
  ent_ : ∀ k, k < G.length → (ent.getD k false = true ↔ k ∈ out ∨ k ∈ way)
  nd : (out ++ way).Nodup
  lt : ∀ k ∈ out ++ way, k < G.length
  askle : ∀ k, k < G.length → asked.getD k 0 ≤ (G.getD k []).length
  zero : ∀ k, k < G.length → k ∉ out → k ∉ way → asked.getD k 0 = 0
  done : ∀ k ∈ out, ∀ y, E G k y → y ∈ out ∨ y ∈ way
  part : ∀ k ∈ way, ∀ y : Nat, (y : Int) ∈ (G.getD k []).take (asked.getD k 0) → y ∈ out ∨ y ∈ way
  chain : ∀ a b x y, way = a ++ x :: y :: b → E G x y
  lv : Lv G out

section
variable {G : List (List Int)} {out way asked : List Nat} {ent : List Bool}

theorem Dfs.start (G : List (List Int)) : Dfs G [] [] (List.replicate G.length 0) (List.replicate G.length false) where
  lenA := by simp
  lenE := by simp
  ent_ := fun k hk => by simp [hk]
  nd := by simp
  lt := fun k hk => by simp at hk
  askle := fun k hk => by simp [hk]
  zero := fun k hk _ _ => by simp [hk]
  done := fun k hk => by simp at hk
  part := fun k hk => by simp at hk
  chain := fun a b x y h => by simp at h
  lv := fun a b j h => by simp at h

/-- a place is entered: from nowhere, or by a need of the last on the way -/
theorem Dfs.enter (h : Dfs G out way asked ent) (x : Nat) (hx : x < G.length) (hE : ent.getD x false = false) (hw : ∀ a y, way = a ++ [y] → E G y x) :
    Dfs G out (way ++ [x]) asked (ent.set x true) := by
  have hno : x ∉ out ∧ x ∉ way := by
    have : ¬ (x ∈ out ∨ x ∈ way) := fun q => by have := (h.ent_ x hx).2 q; rw [hE] at this; cases this
    exact ⟨fun q => this (Or.inl q), fun q => this (Or.inr q)⟩
  have hxl : x < ent.length := by rw [h.lenE]; exact hx
  refine { lenA := h.lenA, lenE := by simp [h.lenE], ent_ := ?_, nd := ?_, lt := ?_, askle := h.askle, zero := ?_, done := ?_, part := ?_, chain := ?_, lv := h.lv }
  · intro k hk
    by_cases e : x = k
    · subst e; simp [hxl]
    · have e' : ¬ k = x := fun q => e q.symm
      have : (ent.set x true).getD k false = ent.getD k false := by simp [e]
      rw [this, h.ent_ k hk]
      simp [e']
  · rw [← List.append_assoc, List.nodup_append]
    refine ⟨h.nd, by simp, fun a ha b hb => ?_⟩
    simp at hb
    subst hb
    rcases List.mem_append.1 ha with q | q
    · exact fun e => hno.1 (e ▸ q)
    · exact fun e => hno.2 (e ▸ q)
  · intro k hk
    rw [← List.append_assoc] at hk
    rcases List.mem_append.1 hk with q | q
    · exact h.lt k q
    · simp at q; subst q; exact hx
  · intro k hk h1 h2
    exact h.zero k hk h1 (fun q => h2 (List.mem_append_left _ q))
  · intro k hk y hy
    rcases h.done k hk y hy with q | q
    · exact Or.inl q
    · exact Or.inr (List.mem_append_left _ q)
  · intro k hk y hy
    rcases List.mem_append.1 hk with q | q
    · rcases h.part k q y hy with q | q
      · exact Or.inl q
      · exact Or.inr (List.mem_append_left _ q)
    · simp at q
      subst q
      rw [h.zero k hx hno.1 hno.2] at hy
      simp at hy
  · intro a b u y hab
    rcases List.eq_nil_or_concat b with rfl | ⟨b', z, rfl⟩
    · have h1 : a ++ u :: y :: [] = (a ++ [u]) ++ [y] := by simp
      rw [h1] at hab
      obtain ⟨h2, h3⟩ := List.append_inj' hab rfl
      simp at h3
      subst h3
      exact hw a u h2
    · have h1 : a ++ u :: y :: (b' ++ [z]) = (a ++ u :: y :: b') ++ [z] := by simp
      rw [List.concat_eq_append, h1] at hab
      obtain ⟨h2, _⟩ := List.append_inj' hab rfl
      exact h.chain a b' u y h2

theorem natgetD_set (A : List Nat) (t k v : Nat) (ht : t < A.length) : (A.set t v).getD k 0 = if k = t then v else A.getD k 0 := by
  by_cases e : t = k
  · subst e; simp [ht]
  · have e' : ¬ k = t := fun q => e q.symm
    simp [e, e']

/-- one more need of t is asked for, which was entered -/
theorem Dfs.ask (h : Dfs G out way asked ent) (t : Nat) (ht : t ∈ way) (hlt : asked.getD t 0 < (G.getD t []).length)
    (hx : ∀ y : Nat, (G.getD t []).getD (asked.getD t 0) 0 = (y : Int) → y ∈ out ∨ y ∈ way) : Dfs G out way (asked.set t (asked.getD t 0 + 1)) ent := by
  have htn : t < G.length := h.lt t (List.mem_append_right _ ht)
  have hset := fun k => natgetD_set asked t k (asked.getD t 0 + 1) (by rw [h.lenA]; exact htn)
  refine { h with lenA := by simp [h.lenA], askle := ?_, zero := ?_, part := ?_ }
  · intro k hk
    rw [hset k]
    split
    · rename_i e; subst e; omega
    · exact h.askle k hk
  · intro k hk h1 h2
    rw [hset k, if_neg (fun e : k = t => h2 (by rw [e]; exact ht))]
    exact h.zero k hk h1 h2
  · intro k hk y hy
    rw [hset k] at hy
    split at hy
    · rename_i e
      subst e
      rw [take_snoc _ _ hlt] at hy
      rcases List.mem_append.1 hy with q | q
      · exact h.part k hk y q
      · simp at q
        exact hx y (by simpa using q.symm)
    · exact h.part k hk y hy

theorem Dfs.down (h : Dfs G out way asked ent) : ∀ (b a : List Nat) (x t : Nat), way = a ++ x :: b ++ [t] → Pth G x t := by
  intro b
  induction b with
  | nil => intro a x t e; exact Pth.one (h.chain a [] x t (by rw [e]; simp))
  | cons y b ih =>
    intro a x t e
    exact (Pth.one (h.chain a (b ++ [t]) x y (by rw [e]; simp))).trans (ih (a ++ [x]) y t (by rw [e]; simp))

/-- from what was left to what was not: over one on the way -/
theorem escape (out w0 : List Nat) (hd : ∀ k ∈ out, ∀ y, E G k y → y ∈ out ∨ y ∈ w0) (v : Nat) (hv : v ∉ out) : ∀ n x, x ∈ out → Walk G n x v → ∃ u, u ∈ w0 ∧ u ∉ out ∧ Pth G x u ∧ Pth G u v := by
  intro n
  induction n with
  | zero => intro x hx hw; cases hw; exact (hv hx).elim
  | succ n ih =>
    intro x hx hw
    obtain ⟨m, h1, h2⟩ := hw.head
    by_cases hm : m ∈ out
    · obtain ⟨u, a, b, c, d⟩ := ih m hm h2
      exact ⟨u, a, b, (Pth.one h1).trans c, d⟩
    · exact ⟨m, (hd x hx m h1).resolve_left hm, hm, Pth.one h1, n, h2⟩

/-- the last on the way is left: all its needs were entered -/
theorem Dfs.leave {w0 : List Nat} {t : Nat} (h : Dfs G out (w0 ++ [t]) asked ent) (hfull : asked.getD t 0 = (G.getD t []).length) : Dfs G (out ++ [t]) w0 asked ent := by
  have htw : t ∈ w0 ++ [t] := by simp
  have htn : t < G.length := h.lt t (List.mem_append_right _ htw)
  have hdone : ∀ k ∈ out ++ [t], ∀ y, E G k y → y ∈ out ++ [t] ∨ y ∈ w0 := by
    intro k hk y hy
    have : y ∈ out ∨ y ∈ w0 ++ [t] := by
      rcases List.mem_append.1 hk with q | q
      · exact h.done k q y hy
      · simp at q
        subst q
        exact h.part k htw y (by rw [hfull, List.take_length]; exact hy.2.2)
    rcases this with q | q
    · exact Or.inl (List.mem_append_left _ q)
    · rcases List.mem_append.1 q with q | q
      · exact Or.inr q
      · exact Or.inl (List.mem_append_right _ q)
  have hperm : (out ++ (w0 ++ [t])).Perm (out ++ [t] ++ w0) := by
    rw [List.append_assoc]
    exact List.Perm.append_left out List.perm_append_comm
  refine { lenA := h.lenA, lenE := h.lenE, ent_ := ?_, nd := hperm.nodup_iff.1 h.nd, lt := fun k hk => h.lt k (hperm.mem_iff.2 hk), askle := h.askle, zero := ?_, done := hdone, part := ?_, chain := ?_, lv := ?_ }
  · intro k hk
    rw [h.ent_ k hk]
    simp only [List.mem_append, List.mem_singleton]
    constructor
    · rintro (q | q | q)
      · exact Or.inl (Or.inl q)
      · exact Or.inr q
      · exact Or.inl (Or.inr q)
    · rintro ((q | q) | q)
      · exact Or.inl q
      · exact Or.inr (Or.inr q)
      · exact Or.inr (Or.inl q)
  · intro k hk h1 h2
    exact h.zero k hk (fun q => h1 (List.mem_append_left _ q)) (fun q => by
      rcases List.mem_append.1 q with q | q
      · exact h2 q
      · exact h1 (List.mem_append_right _ q))
  · intro k hk y hy
    rcases h.part k (List.mem_append_left _ hk) y hy with q | q
    · exact Or.inl (List.mem_append_left _ q)
    · rcases List.mem_append.1 q with q | q
      · exact Or.inr q
      · exact Or.inl (List.mem_append_right _ q)
  · intro a b x y e
    exact h.chain a (b ++ [t]) x y (by rw [e]; simp)
  · intro a b j e v hv hva hvj hp
    rcases List.eq_nil_or_concat b with rfl | ⟨b', z, rfl⟩
    · have e1 : a ++ j :: [] = a ++ [j] := rfl
      rw [e1] at e
      obtain ⟨h2, h3⟩ := List.append_inj' e rfl
      simp at h3
      subst h2 h3
      obtain ⟨n, hw⟩ := hp
      have hvn : v ∉ out ++ [t] := by simp [hva, hvj]
      obtain ⟨u, hu, huo, hju, huv⟩ := escape (out ++ [t]) w0 hdone v hvn n t (by simp) hw
      refine ⟨u, h.lt u (by simp [hu]), fun q => huo (List.mem_append_left _ q), fun q => huo (by rw [q]; simp), hju, huv, ?_⟩
      obtain ⟨p, q, e2⟩ := List.append_of_mem hu
      exact h.down q p u t (by rw [e2])
    · have e1 : a ++ j :: (b' ++ [z]) = (a ++ j :: b') ++ [z] := by simp
      rw [List.concat_eq_append, e1] at e
      obtain ⟨h2, _⟩ := List.append_inj' e rfl
      exact h.lv a b' j h2 v hv hva hvj hp

/-- how many needs are still to be asked for -/
def slack : List (List Int) → List Nat → Nat
  | g :: G, a :: A => (g.length - a) + slack G A
  | _, _ => 0

theorem slack_set (G : List (List Int)) (A : List Nat) (t : Nat) (h1 : t < G.length) (h2 : t < A.length) (hlt : A.getD t 0 < (G.getD t []).length) : slack G (A.set t (A.getD t 0 + 1)) + 1 = slack G A := by
  induction G generalizing A t with
  | nil => simp at h1
  | cons g G ih =>
    cases A with
    | nil => simp at h2
    | cons a A =>
      cases t with
      | zero => simp at hlt; simp [slack]; omega
      | succ t =>
        have := ih A t (by simpa using h1) (by simpa using h2) (by simpa using hlt)
        simp [slack] at this ⊢
        omega

/-- Kosaraju: from the last left to the first: whoever leads to i is led to by i, if it was not gone through -/
theorem kosaraju (o : List Nat) (hlv : Lv G o) (hnd : o.Nodup) (hall : ∀ k, k < G.length → k ∈ o) (M : Nat → Prop) (hM : ∀ x y, E G x y → M y → M x)
    (a b : List Nat) (i : Nat) (ho : o = a ++ i :: b) (hb : ∀ k ∈ b, M k) (hi : i < G.length) : ∀ n (j : Nat) (p q : List Nat), q.length ≤ n → a = p ++ j :: q → ¬ M j → Pth G j i → Pth G i j := by
  have hMp : ∀ n x y, Walk G n x y → M y → M x := by
    intro n
    induction n with
    | zero => intro x y h hy; cases h; exact hy
    | succ n ih => intro x y h hy; obtain ⟨m, h1, h2⟩ := h; exact ih x m h1 (hM m y h2 hy)
  intro n
  induction n with
  | zero =>
    intro j p q hq ha hj hp
    have hq0 : q = [] := List.eq_nil_of_length_eq_zero (by omega)
    subst hq0
    have hoj : o = p ++ j :: (i :: b) := by rw [ho, ha]; simp
    have hnd2 := hnd
    rw [hoj] at hnd2
    obtain ⟨_, hnd3, hdis⟩ := List.nodup_append.1 hnd2
    have hnd4 := List.nodup_cons.1 hnd3
    obtain ⟨u, hu, hup, huj, h1, h2, h3⟩ := hlv p (i :: b) j hoj i hi (fun e => hdis i e i (by simp) rfl) (fun e => hnd4.1 (by rw [← e]; simp)) hp
    have huM : ¬ M u := by obtain ⟨m, hw⟩ := h1; exact fun e => hj (hMp m j u hw e)
    have : u ∈ o := hall u hu
    rw [hoj] at this
    simp only [List.mem_append, List.mem_cons] at this
    rcases this with e | e | e | e
    · exact (hup e).elim
    · exact (huj e).elim
    · rw [← e]; exact h3
    · exact (huM (hb u e)).elim
  | succ n ih =>
    intro j p q hq ha hj hp
    have hoj : o = p ++ j :: (q ++ i :: b) := by rw [ho, ha]; simp
    have hnd2 := hnd
    rw [hoj] at hnd2
    obtain ⟨_, hnd3, hdis⟩ := List.nodup_append.1 hnd2
    have hnd4 := List.nodup_cons.1 hnd3
    obtain ⟨u, hu, hup, huj, h1, h2, h3⟩ := hlv p (q ++ i :: b) j hoj i hi (fun e => hdis i e i (by simp) rfl) (fun e => hnd4.1 (by rw [← e]; simp)) hp
    have huM : ¬ M u := by obtain ⟨m, hw⟩ := h1; exact fun e => hj (hMp m j u hw e)
    have : u ∈ o := hall u hu
    rw [hoj] at this
    simp only [List.mem_append, List.mem_cons] at this
    rcases this with e | e | e | e | e
    · exact (hup e).elim
    · exact (huj e).elim
    · obtain ⟨q1, q2, e2⟩ := List.append_of_mem e
      have := ih u (p ++ j :: q1) q2 (by rw [e2] at hq; simp at hq; omega) (by rw [ha, e2]; simp) huM h2
      exact this.trans h3
    · rw [← e]; exact h3
    · exact (huM (hb u e)).elim
end
end Gr
end Go.Proofs.Ytpcpbpinhdbjiaa

namespace Go.Proofs.Ytpcpbpinhdbjiaa
namespace Gr

def cs (T : List (List Int)) (i j : Nat) : Nat := ((T.take i).map (fun r => r.count (j : Int))).sum

theorem cs_succ (T : List (List Int)) (i j : Nat) (h : i < T.length) : cs T (i + 1) j = cs T i j + (T.getD i []).count (j : Int) := by
  unfold cs
  rw [List.take_succ_eq_append_getElem h, List.map_append, List.sum_append]
  simp only [List.map_cons, List.map_nil, List.sum_cons, List.sum_nil, Nat.add_zero]
  congr 2
  simp [h]

/-- what needs has counted -/
def NeedAt (T : List (List Int)) (i p : Nat) (M : List Int) : Prop :=
  M.length = T.length ∧ ∀ j, j < T.length → M.getD j 0 = ((cs T i j + ((T.getD i []).take p).count (j : Int) : Nat) : Int)

theorem NeedAt.start (T : List (List Int)) : NeedAt T 0 0 (List.replicate T.length 0) :=
  ⟨by simp, fun j hj => by simp [cs, hj]⟩

theorem NeedAt.add {T : List (List Int)} {i p : Nat} {M : List Int} (h : NeedAt T i p M) (hp : p < (T.getD i []).length) (k : Nat) (hk : k < T.length) (hx : (T.getD i []).getD p 0 = (k : Int)) : NeedAt T i (p + 1) (M.set k (M.getD k 0 + 1)) := by
  refine ⟨by simp [h.1], fun j hj => ?_⟩
  rw [take_snoc _ p hp, List.count_append, hx]
  have hkl : k < M.length := by rw [h.1]; exact hk
  by_cases e : k = j
  · subst e
    have e1 : (M.set k (M.getD k 0 + 1)).getD k 0 = M.getD k 0 + 1 := by simp [hkl]
    rw [e1, h.2 k hj]
    simp
    omega
  · have e1 : (M.set k (M.getD k 0 + 1)).getD j 0 = M.getD j 0 := by simp [e]
    have e2 : ([(k : Int)]).count (j : Int) = 0 := by
      rw [List.count_eq_zero]
      simp
      omega
    rw [e1, h.2 j hj, e2]
    simp

theorem NeedAt.next {T : List (List Int)} {i : Nat} {M : List Int} (h : NeedAt T i (T.getD i []).length M) (hi : i < T.length) : NeedAt T (i + 1) 0 M :=
  ⟨h.1, fun j hj => by rw [h.2 j hj, cs_succ T i j hi, List.take_length]; simp⟩

/-- what still needs j, but for those in out -/
def rest (T : List (List Int)) (out : List Nat) (j : Nat) : Nat := ((List.range T.length).map (fun i => if i ∈ out then 0 else (T.getD i []).count (j : Int))).sum

theorem rest_nil (T : List (List Int)) (j : Nat) : rest T [] j = cs T T.length j := by
  have key : ∀ n, n ≤ T.length → ((List.range n).map (fun i => if i ∈ ([] : List Nat) then 0 else (T.getD i []).count (j : Int))).sum = cs T n j := by
    intro n
    induction n with
    | zero => intro _; simp [cs]
    | succ n ih =>
      intro hn
      rw [List.range_succ, List.map_append, List.sum_append, ih (by omega), cs_succ T n j (by omega)]
      simp
  exact key T.length (Nat.le_refl _)

theorem sum_one (f g : Nat → Nat) (i0 c : Nat) : ∀ n, (∀ i, i < n → i ≠ i0 → f i = g i) → i0 < n → f i0 = g i0 + c → ((List.range n).map f).sum = ((List.range n).map g).sum + c := by
  intro n
  induction n with
  | zero => intro _ h; omega
  | succ n ih =>
    intro h1 h2 h3
    rw [List.range_succ, List.map_append, List.sum_append, List.map_append, List.sum_append]
    simp only [List.map_cons, List.map_nil, List.sum_cons, List.sum_nil, Nat.add_zero]
    by_cases e : i0 = n
    · subst e
      have : (List.range i0).map f = (List.range i0).map g := List.map_congr_left (fun i hi => h1 i (by have := List.mem_range.1 hi; omega) (by have := List.mem_range.1 hi; omega))
      rw [this, h3]
      omega
    · rw [ih (fun i hi hne => h1 i (by omega) hne) (by omega) h3, h1 n (by omega) (fun q => e q.symm)]
      omega

theorem rest_snoc (T : List (List Int)) (out : List Nat) (i0 j : Nat) (h : i0 < T.length) (hn : i0 ∉ out) : rest T out j = rest T (out ++ [i0]) j + (T.getD i0 []).count (j : Int) := by
  refine sum_one _ _ i0 _ T.length (fun i hi hne => ?_) h ?_
  · simp only [List.mem_append, List.mem_singleton]
    by_cases e : i ∈ out
    · simp [e]
    · simp [e, hne]
  · simp [hn]

theorem sum_zero (f : Nat → Nat) : ∀ n, ((List.range n).map f).sum = 0 → ∀ i, i < n → f i = 0 := by
  intro n
  induction n with
  | zero => intro _ i hi; omega
  | succ n ih =>
    intro h i hi
    rw [List.range_succ, List.map_append, List.sum_append] at h
    simp only [List.map_cons, List.map_nil, List.sum_cons, List.sum_nil, Nat.add_zero] at h
    by_cases e : i = n
    · rw [e]; omega
    · exact ih (by omega) i (by omega)

theorem sum_pos (f : Nat → Nat) : ∀ n, ((List.range n).map f).sum ≠ 0 → ∃ i, i < n ∧ f i ≠ 0 := by
  intro n
  induction n with
  | zero => intro h; simp at h
  | succ n ih =>
    intro h
    rw [List.range_succ, List.map_append, List.sum_append] at h
    simp only [List.map_cons, List.map_nil, List.sum_cons, List.sum_nil, Nat.add_zero] at h
    by_cases e : f n = 0
    · obtain ⟨i, hi, h1⟩ := ih (by omega)
      exact ⟨i, by omega, h1⟩
    · exact ⟨n, by omega, e⟩

theorem rest_zero {T : List (List Int)} {out : List Nat} {j : Nat} (h : rest T out j = 0) (i : Nat) (hi : i < T.length) (hm : (j : Int) ∈ T.getD i []) : i ∈ out := by
  have := sum_zero _ T.length h i hi
  by_cases e : i ∈ out
  · exact e
  · simp only [e, if_false] at this
    exact absurd hm (List.count_eq_zero.1 this)

theorem rest_ne {T : List (List Int)} {out : List Nat} {j : Nat} (h : rest T out j ≠ 0) : ∃ i, i < T.length ∧ i ∉ out ∧ (j : Int) ∈ T.getD i [] := by
  obtain ⟨i, hi, h1⟩ := sum_pos _ T.length h
  by_cases e : i ∈ out
  · simp [e] at h1
  · simp only [e, if_false] at h1
    exact ⟨i, hi, e, List.count_pos_iff.1 (by omega)⟩

/-- who stands in the order, who is ready (H), what is still missing (M), while p needs of the last one, i0, have been told -/
structure Ka (T : List (List Int)) (out H : List Nat) (M : List Int) (l : List Int) : Prop where
  lenM : M.length = T.length
  nd : (out ++ H).Nodup
  lt : ∀ k ∈ out ++ H, k < T.length
  cnt : ∀ j, j < T.length → M.getD j 0 = ((rest T out j + l.count (j : Int) : Nat) : Int)
  zero : ∀ j, j < T.length → (j ∈ out ∨ j ∈ H ↔ M.getD j 0 = 0)
  ord : ∀ (a b : List Nat) (x : Nat), out = a ++ x :: b → ∀ i, i < T.length → (x : Int) ∈ T.getD i [] → i ∈ a

section
variable {T : List (List Int)} {out H : List Nat} {M l : List Int}

theorem Ka.start (h : NeedAt T T.length 0 M) (hH : H.Nodup) (hz : ∀ j, j ∈ H ↔ j < T.length ∧ M.getD j 0 = 0) : Ka T [] H M [] where
  lenM := h.1
  nd := by simpa using hH
  lt := fun k hk => ((hz k).1 (by simpa using hk)).1
  cnt := fun j hj => by rw [h.2 j hj, rest_nil]; simp
  zero := fun j hj => by
    constructor
    · rintro (q | q)
      · cases q
      · exact ((hz j).1 q).2
    · intro q; exact Or.inr ((hz j).2 ⟨hj, q⟩)
  ord := fun a b x h => by simp at h

/-- one of the ready ones comes out -/
theorem Ka.pop (h : Ka T out H M []) (i0 : Nat) (hi : i0 ∈ H) : Ka T (out ++ [i0]) (H.erase i0) M (T.getD i0 []) ∧ i0 < T.length := by
  have hil : i0 < T.length := h.lt i0 (List.mem_append_right _ hi)
  obtain ⟨hn1, hn2, hdis⟩ := List.nodup_append.1 h.nd
  have hno : i0 ∉ out := fun q => hdis i0 q i0 hi rfl
  have hp : (out ++ H).Perm (out ++ [i0] ++ H.erase i0) := by
    rw [List.append_assoc]
    exact List.Perm.append_left out (List.perm_cons_erase hi)
  refine ⟨{ lenM := h.lenM, nd := hp.nodup_iff.1 h.nd, lt := fun k hk => h.lt k (hp.mem_iff.2 hk), cnt := ?_, zero := ?_, ord := ?_ }, hil⟩
  · intro j hj
    rw [h.cnt j hj, rest_snoc T out i0 j hil hno]
    simp
  · intro j hj
    rw [← h.zero j hj]
    have := hp.mem_iff (a := j)
    rw [List.mem_append, List.mem_append] at this
    exact this.symm
  · intro a b x e i hil2 hm
    rcases List.eq_nil_or_concat b with rfl | ⟨b', z, rfl⟩
    · have e1 : a ++ x :: [] = a ++ [x] := rfl
      rw [e1] at e
      obtain ⟨h2, h3⟩ := List.append_inj' e rfl
      simp at h3
      subst h2 h3
      have hM : M.getD i0 0 = 0 := (h.zero i0 hil).1 (Or.inr hi)
      have hc := h.cnt i0 hil
      rw [hM] at hc
      have : rest T out i0 = 0 := by simp at hc; omega
      exact rest_zero this i hil2 hm
    · have e1 : a ++ x :: (b' ++ [z]) = (a ++ x :: b') ++ [z] := by simp
      rw [List.concat_eq_append, e1] at e
      obtain ⟨h2, _⟩ := List.append_inj' e rfl
      exact h.ord a b' x h2 i hil2 hm

/-- one thing fewer is missing for k: either something is still, or k is ready -/
theorem Ka.tell {k : Nat} (h : Ka T out H M ((k : Int) :: l)) (hk : k < T.length) :
    1 ≤ M.getD k 0 ∧ (M.getD k 0 - 1 ≠ 0 → Ka T out H (M.set k (M.getD k 0 - 1)) l) ∧ (M.getD k 0 - 1 = 0 → ∀ H', H'.Perm (k :: H) → Ka T out H' (M.set k (M.getD k 0 - 1)) l) := by
  have hkM : k < M.length := by rw [h.lenM]; exact hk
  have hck := h.cnt k hk
  rw [List.count_cons_self] at hck
  have h1 : 1 ≤ M.getD k 0 := by omega
  have hno : k ∉ out ∧ k ∉ H := by
    have : ¬ (k ∈ out ∨ k ∈ H) := fun q => by have := (h.zero k hk).1 q; omega
    exact ⟨fun q => this (Or.inl q), fun q => this (Or.inr q)⟩
  have hself : (M.set k (M.getD k 0 - 1)).getD k 0 = M.getD k 0 - 1 := by simp [hkM]
  have hoth : ∀ j, k ≠ j → (M.set k (M.getD k 0 - 1)).getD j 0 = M.getD j 0 := fun j e => by simp [e]
  have hcnt : ∀ j, j < T.length → (M.set k (M.getD k 0 - 1)).getD j 0 = ((rest T out j + l.count (j : Int) : Nat) : Int) := by
    intro j hj
    by_cases e : k = j
    · subst e; rw [hself]; omega
    · rw [hoth j e, h.cnt j hj, List.count_cons_of_ne (by omega)]
  refine ⟨h1, fun hne => ?_, fun he H' hp => ?_⟩
  · refine { lenM := by simp [h.lenM], nd := h.nd, lt := h.lt, cnt := hcnt, zero := ?_, ord := h.ord }
    intro j hj
    by_cases e : k = j
    · subst e
      rw [hself]
      constructor
      · rintro (q | q)
        · exact (hno.1 q).elim
        · exact (hno.2 q).elim
      · intro q; exact (hne q).elim
    · rw [hoth j e]; exact h.zero j hj
  · have hp2 : (out ++ H').Perm (k :: (out ++ H)) := (List.Perm.append_left out hp).trans List.perm_middle
    refine { lenM := by simp [h.lenM], nd := hp2.nodup_iff.2 (List.nodup_cons.2 ⟨by simp [hno.1, hno.2], h.nd⟩), lt := fun j hj => ?_, cnt := hcnt, zero := ?_, ord := h.ord }
    · rcases List.mem_cons.1 (hp2.mem_iff.1 hj) with q | q
      · rw [q]; exact hk
      · exact h.lt j q
    · intro j hj
      rw [hp.mem_iff, List.mem_cons]
      by_cases e : k = j
      · subst e
        rw [hself]
        constructor
        · intro _; exact he
        · intro _; exact Or.inr (Or.inl rfl)
      · rw [hoth j e, ← h.zero j hj]
        constructor
        · rintro (q | q | q)
          · exact Or.inl q
          · exact (e q.symm).elim
          · exact Or.inr q
        · rintro (q | q)
          · exact Or.inl q
          · exact Or.inr (Or.inr q)

theorem Ka.len (h : Ka T out H M l) : out.length + H.length ≤ T.length := by
  have := nodup_len T.length (out ++ H) h.nd h.lt
  simpa using this
end

/-- an order: each behind what it needs -/
def IsOrd (G : List (List Int)) (out : List Nat) : Prop := out.length = G.length ∧ out.Nodup ∧ (∀ k ∈ out, k < G.length) ∧ ∀ (a b : List Nat) (x : Nat), out = a ++ x :: b → ∀ k, E G x k → k ∈ a
/-- some of whom each needs one of them -/
def Stuck (G : List (List Int)) : Prop := ∃ S : Nat → Prop, (∃ x, S x) ∧ (∀ x, S x → x < G.length) ∧ ∀ x, S x → ∃ y, S y ∧ E G x y

theorem Ka.end_ {G T : List (List Int)} (hT : Turn G T) {out : List Nat} {M : List Int} (h : Ka T out [] M []) : (out.length = G.length → IsOrd G out) ∧ (out.length < G.length → Stuck G) := by
  have hl : T.length = G.length := hT.1
  constructor
  · intro e
    refine ⟨e, by simpa using h.nd, fun k hk => by rw [← hl]; exact h.lt k (by simpa using hk), fun a b x e2 k hE => ?_⟩
    have h2 := (hT.edge x k).2 hE
    exact h.ord a b x e2 k h2.1 h2.2.2
  · intro hlt
    refine ⟨fun x => x < G.length ∧ x ∉ out, ?_, fun x hx => hx.1, fun x hx => ?_⟩
    · refine Classical.byContradiction fun hno => ?_
      have hall : ∀ k, k < G.length → k ∈ out := fun k hk => Classical.byContradiction fun q => hno ⟨k, hk, q⟩
      have key : ∀ n (l : List Nat), (∀ k, k < n → k ∈ l) → n ≤ l.length := by
        intro n
        induction n with
        | zero => intro l _; exact Nat.zero_le _
        | succ n ih =>
          intro l h
          have hn : n ∈ l := h n (by omega)
          have h1 := ih (l.erase n) (fun k hk => (List.mem_erase_of_ne (by omega)).2 (h k (by omega)))
          rw [List.length_erase_of_mem hn] at h1
          have := List.length_pos_of_mem hn
          omega
      have := key G.length out hall
      omega
    · have hxl : x < T.length := by rw [hl]; exact hx.1
      have hM : M.getD x 0 ≠ 0 := fun q => by
        rcases (h.zero x hxl).2 q with q | q
        · exact hx.2 q
        · cases q
      have hc := h.cnt x hxl
      have hr : rest T out x ≠ 0 := by
        intro q
        rw [q] at hc
        simp at hc
        exact hM (by simpa using hc)
      obtain ⟨i, hi, hno, hm⟩ := rest_ne hr
      exact ⟨i, ⟨by rw [← hl]; exact hi, hno⟩, (hT.edge x i).1 ⟨hi, hxl, hm⟩⟩

theorem IsOrd.noWay {G : List (List Int)} {out : List Nat} (h : IsOrd G out) (j : Nat) : ¬ Way G j j := by
  obtain ⟨hlen, hnd, hlt, hord⟩ := h
  have key : ∀ n x k, Walk G (n + 1) x k → ∀ a b, out = a ++ x :: b → k ∈ a := by
    intro n
    induction n with
    | zero =>
      intro x k hw a b e
      obtain ⟨m, h1, h2⟩ := hw
      cases h1
      exact hord a b x e k h2
    | succ n ih =>
      intro x k hw a b e
      obtain ⟨m, h1, h2⟩ := hw.head
      have hm := hord a b x e m h1
      obtain ⟨a1, a2, e2⟩ := List.append_of_mem hm
      have := ih m k h2 a1 (a2 ++ x :: b) (by rw [e, e2]; simp)
      rw [e2]
      exact List.mem_append_left _ this
  rintro ⟨n, hw⟩
  have hj : j < G.length := (show Way G j j from ⟨n, hw⟩).lt.1
  have hmem : j ∈ out := by
    refine Classical.byContradiction fun hno => ?_
    have := nodup_len G.length (j :: out) (List.nodup_cons.2 ⟨hno, hnd⟩) (fun x hx => by
      rcases List.mem_cons.1 hx with q | q
      · rw [q]; exact hj
      · exact hlt x q)
    simp at this
    omega
  obtain ⟨a, b, e⟩ := List.append_of_mem hmem
  have := key n j j hw a b e
  rw [e] at hnd
  exact (List.nodup_append.1 hnd).2.2 j this j (by simp) rfl

theorem Stuck.way {G : List (List Int)} (h : Stuck G) : ∃ j, Way G j j := by
  obtain ⟨S, ⟨x, hx⟩, hlt, hs⟩ := h
  refine Classical.byContradiction fun hno => ?_
  have hno' : ∀ j, ¬ Way G j j := fun j q => hno ⟨j, q⟩
  have key : ∀ m, ∃ y l, (y :: l).Nodup ∧ (y :: l).length = m + 1 ∧ (∀ z ∈ y :: l, S z ∧ Pth G z y) := by
    intro m
    induction m with
    | zero => exact ⟨x, [], by simp, rfl, fun z hz => by simp at hz; subst hz; exact ⟨hx, Pth.refl _ _⟩⟩
    | succ m ih =>
      obtain ⟨y, l, hnd, hl, hall⟩ := ih
      obtain ⟨z, hz, hE⟩ := hs y (hall y (by simp)).1
      refine ⟨z, y :: l, List.nodup_cons.2 ⟨fun q => hno' z ((hall z q).2.way hE), hnd⟩, by simp at hl ⊢; omega, fun u hu => ?_⟩
      rcases List.mem_cons.1 hu with q | q
      · rw [q]; exact ⟨hz, Pth.refl _ _⟩
      · exact ⟨(hall u q).1, (hall u q).2.trans (Pth.one hE)⟩
  obtain ⟨y, l, hnd, hl, hall⟩ := key G.length
  have := nodup_len G.length (y :: l) hnd (fun z hz => hlt z (hall z hz).1)
  omega
end Gr
end Go.Proofs.Ytpcpbpinhdbjiaa
