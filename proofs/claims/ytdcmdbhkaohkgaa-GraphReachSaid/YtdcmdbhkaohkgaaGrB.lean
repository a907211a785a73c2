/- Graphs: ways by steps, and what going from a place all ways tells, step by step. Plain lists. No condition. -/
import Derived.Test.YtdcmdbhkaohkgaaGrA
namespace Go.Proofs.Ytdcmdbhkaohkgaa
namespace Gr

def E (G : List (List Int)) (i k : Nat) : Prop := i < G.length ∧ k < G.length ∧ (k : Int) ∈ G.getD i []

def Walk (G : List (List Int)) : Nat → Nat → Nat → Prop
  | 0, i, k => i = k
  | n + 1, i, k => ∃ m, Walk G n i m ∧ E G m k

theorem Walk.append {G : List (List Int)} {a b i j k : Nat} (h : Walk G a i j) (h' : Walk G b j k) : Walk G (a + b) i k := by
  induction b generalizing k with
  | zero => cases h'; exact h
  | succ b ih => obtain ⟨m, h1, h2⟩ := h'; exact ⟨m, ih h1, h2⟩

theorem Walk.one {G : List (List Int)} {i k : Nat} (h : E G i k) : Walk G 1 i k := ⟨i, rfl, h⟩

theorem Walk.head {G : List (List Int)} {n i k : Nat} (h : Walk G (n + 1) i k) : ∃ m, E G i m ∧ Walk G n m k := by
  induction n generalizing k with
  | zero => obtain ⟨m, h1, h2⟩ := h; cases h1; exact ⟨k, h2, rfl⟩
  | succ n ih =>
    obtain ⟨m, h1, h2⟩ := h
    obtain ⟨m', h3, h4⟩ := ih h1
    exact ⟨m', h3, m, h4, h2⟩

theorem Walk.cons {G : List (List Int)} {n i m k : Nat} (h : E G i m) (h' : Walk G n m k) : Walk G (n + 1) i k := by
  have := (Walk.one h).append h'
  rwa [Nat.add_comm] at this

/-- a way of some steps, or none -/
def Pth (G : List (List Int)) (i k : Nat) : Prop := ∃ n, Walk G n i k
/-- a way of one step or more -/
def Way (G : List (List Int)) (i k : Nat) : Prop := ∃ n, Walk G (n + 1) i k

theorem Pth.refl (G : List (List Int)) (i : Nat) : Pth G i i := ⟨0, rfl⟩
theorem Pth.trans {G : List (List Int)} {i j k : Nat} (h : Pth G i j) (h' : Pth G j k) : Pth G i k := by
  obtain ⟨a, h⟩ := h; obtain ⟨b, h'⟩ := h'; exact ⟨a + b, h.append h'⟩
theorem Pth.one {G : List (List Int)} {i k : Nat} (h : E G i k) : Pth G i k := ⟨1, Walk.one h⟩
theorem Way.pth {G : List (List Int)} {i k : Nat} (h : Way G i k) : Pth G i k := by obtain ⟨n, h⟩ := h; exact ⟨_, h⟩
theorem Way.trans_pth {G : List (List Int)} {i j k : Nat} (h : Way G i j) (h' : Pth G j k) : Way G i k := by
  obtain ⟨a, h⟩ := h; obtain ⟨b, h'⟩ := h'
  have := h.append h'
  exact ⟨a + b, by rwa [show a + b + 1 = a + 1 + b by omega]⟩
theorem Way.one {G : List (List Int)} {i k : Nat} (h : E G i k) : Way G i k := ⟨0, Walk.one h⟩
theorem Pth.way {G : List (List Int)} {i j k : Nat} (h : Pth G i j) (h' : E G j k) : Way G i k := by
  obtain ⟨n, h⟩ := h; exact ⟨n, j, h, h'⟩
theorem Way.lt {G : List (List Int)} {i k : Nat} (h : Way G i k) : i < G.length ∧ k < G.length := by
  obtain ⟨n, h⟩ := h
  obtain ⟨m, h1, _⟩ := h.head
  obtain ⟨m', _, h2⟩ := h
  exact ⟨h1.1, h2.2.1⟩

theorem Turn.edge {G T : List (List Int)} (h : Turn G T) (i j : Nat) : E T j i ↔ E G i j := by
  obtain ⟨h1, h2, h3⟩ := h
  unfold E
  rw [h1]
  constructor
  · rintro ⟨a, b, c⟩
    obtain ⟨i', e, h4, h5⟩ := (h3 j a _).1 c
    have : i' = i := by omega
    subst this
    exact ⟨b, a, h5⟩
  · rintro ⟨a, b, c⟩
    exact ⟨b, a, (h3 j b _).2 ⟨i, rfl, a, c⟩⟩

theorem Turn.walk {G T : List (List Int)} (h : Turn G T) {n i j : Nat} (hw : Walk T n j i) : Walk G n i j := by
  induction n generalizing i with
  | zero => cases hw; rfl
  | succ n ih =>
    obtain ⟨m, h1, h2⟩ := hw
    exact Walk.cons ((h.edge i m).1 h2) (ih h1)

theorem Turn.walk' {G T : List (List Int)} (h : Turn G T) {n i j : Nat} (hw : Walk G n i j) : Walk T n j i := by
  induction n generalizing j with
  | zero => cases hw; rfl
  | succ n ih =>
    obtain ⟨m, h1, h2⟩ := hw
    exact Walk.cons ((h.edge m j).2 h2) (ih h1)

theorem nodup_len (n : Nat) : ∀ l : List Nat, l.Nodup → (∀ x ∈ l, x < n) → l.length ≤ n := by
  induction n with
  | zero =>
    intro l _ h
    cases l with
    | nil => simp
    | cons a l => have := h a (by simp); omega
  | succ n ih =>
    intro l hn h
    have h1 := ih (l.erase n) (hn.erase n) (fun x hx => by
      have := (hn.mem_erase_iff).1 hx
      have := h x this.2
      omega)
    by_cases hm : n ∈ l
    · rw [List.length_erase_of_mem hm] at h1; omega
    · rw [List.erase_of_not_mem hm] at h1; omega

def ints (l : List Nat) : List Int := l.map (fun n : Nat => (n : Int))
theorem ints_len (l : List Nat) : (ints l).length = l.length := by simp [ints]
theorem ints_getD (l : List Nat) (q : Nat) : (ints l).getD q 0 = ((l.getD q 0 : Nat) : Int) := by
  by_cases h : q < l.length <;> simp [ints, h]
theorem ints_append (l m : List Nat) : ints (l ++ m) = ints l ++ ints m := by simp [ints]
theorem getD_mem' {l : List Int} {p : Nat} (h : p < l.length) : l.getD p 0 ∈ l := by
  have e : l.getD p 0 = l[p] := by simp [h]
  rw [e]; exact List.getElem_mem h
theorem getD_app_lt (l : List Nat) (x q : Nat) (h : q < l.length) : (l ++ [x]).getD q 0 = l.getD q 0 := by simp [List.getElem?_append, h]
theorem getD_app_eq (l : List Nat) (x : Nat) : (l ++ [x]).getD l.length 0 = x := by simp

/-- what going from s all ways has found: row, with how many steps to each (D); m of them gone through, and p needs of the next -/
structure Sp (G : List (List Int)) (s : Nat) (F0 : List Int) (row D : List Nat) (m p : Nat) (F : List Int) : Prop where
  lenF : F.length = G.length
  lenF0 : F0.length = G.length
  lenD : D.length = row.length
  pos : 0 < row.length
  s0 : row.getD 0 0 = s
  d0 : D.getD 0 0 = 0
  sl : s < G.length
  found : ∀ q, 0 < q → q < row.length → row.getD q 0 < G.length ∧ F0.getD (row.getD q 0) 0 = -1 ∧ ∃ r, r < q ∧ F.getD (row.getD q 0) 0 = ((row.getD r 0 : Nat) : Int) ∧ E G (row.getD r 0) (row.getD q 0) ∧ D.getD q 0 = D.getD r 0 + 1
  nd : row.tail.Nodup
  other : ∀ k, k < G.length → (∀ q, 0 < q → q < row.length → row.getD q 0 ≠ k) → F.getD k 0 = F0.getD k 0
  bound : m < row.length → ∀ q, q < row.length → D.getD q 0 ≤ D.getD m 0 + 1
  mono : ∀ q q', q ≤ q' → q' < row.length → D.getD q 0 ≤ D.getD q' 0
  closed : ∀ r k, r < m → E G (row.getD r 0) k → F0.getD k 0 = -1 → ∃ q, 0 < q ∧ q < row.length ∧ row.getD q 0 = k ∧ D.getD q 0 ≤ D.getD r 0 + 1
  part : ∀ k, k < G.length → (k : Int) ∈ (G.getD (row.getD m 0) []).take p → F0.getD k 0 = -1 → ∃ q, 0 < q ∧ q < row.length ∧ row.getD q 0 = k ∧ D.getD q 0 ≤ D.getD m 0 + 1

section
variable {G : List (List Int)} {s : Nat} {F0 F : List Int} {row D : List Nat} {m p : Nat}

theorem Sp.start (hs : s < G.length) (hF : F0.length = G.length) : Sp G s F0 [s] [0] 0 0 F0 where
  lenF := hF
  lenF0 := hF
  lenD := rfl
  pos := by simp
  s0 := rfl
  d0 := rfl
  sl := hs
  found := fun q h1 h2 => by simp at h2; omega
  nd := by simp
  other := fun _ _ _ => rfl
  bound := fun _ q hq => by simp at hq; subst hq; simp
  mono := fun q q' h1 h2 => by
    have e : q' = 0 := by simpa using h2
    have e2 : q = 0 := by omega
    rw [e, e2]; exact Nat.le_refl _
  closed := fun r k hr => by omega
  part := fun k _ hk => by simp at hk

theorem Sp.mem_tail (h : Sp G s F0 row D m p F) (k : Nat) : k ∈ row.tail ↔ ∃ q, 0 < q ∧ q < row.length ∧ row.getD q 0 = k := by
  have hp := h.pos
  constructor
  · intro hk
    obtain ⟨i, hi, e⟩ := List.mem_iff_getElem.1 hk
    have hi' : i + 1 < row.length := by simp at hi; omega
    refine ⟨i + 1, by omega, hi', ?_⟩
    rw [← e, List.getElem_tail]
    simp [hi']
  · rintro ⟨q, h0, hq, e⟩
    obtain ⟨i, rfl⟩ : ∃ i, q = i + 1 := ⟨q - 1, by omega⟩
    have hi : i < row.tail.length := by simp; omega
    have := List.getElem_mem hi
    rw [List.getElem_tail] at this
    rw [← e]
    simpa [hq] using this

theorem Sp.len (h : Sp G s F0 row D m p F) : row.length ≤ G.length + 1 := by
  have := nodup_len G.length row.tail h.nd (fun x hx => by
    obtain ⟨q, h0, hq, e⟩ := (h.mem_tail x).1 hx
    rw [← e]; exact (h.found q h0 hq).1)
  simp at this; omega

theorem Sp.skip (h : Sp G s F0 row D m p F) (hm : m < row.length) (hp : p < (G.getD (row.getD m 0) []).length)
    (hx : (G.getD (row.getD m 0) []).getD p 0 < 0 ∨ (G.length : Int) ≤ (G.getD (row.getD m 0) []).getD p 0 ∨ ∃ k : Nat, (G.getD (row.getD m 0) []).getD p 0 = (k : Int) ∧ k < G.length ∧ F.getD k 0 ≠ -1) : Sp G s F0 row D m (p + 1) F :=
  { h with
    part := fun k hk hmem hF => by
      rw [take_snoc _ p hp] at hmem
      rcases List.mem_append.1 hmem with h1 | h1
      · exact h.part k hk h1 hF
      · have e : (k : Int) = (G.getD (row.getD m 0) []).getD p 0 := by simpa using h1
        rcases hx with hx | hx | ⟨k', e', _, hx⟩
        · omega
        · omega
        · have : k' = k := by omega
          subst this
          by_cases hf : ∃ q, 0 < q ∧ q < row.length ∧ row.getD q 0 = k'
          · obtain ⟨q, h0, hq, e2⟩ := hf
            exact ⟨q, h0, hq, e2, h.bound hm q hq⟩
          · exfalso
            apply hx
            rw [h.other k' hk (fun q h0 hq e2 => hf ⟨q, h0, hq, e2⟩)]
            exact hF }

theorem Sp.place (h : Sp G s F0 row D m p F) {q : Nat} (hq : q < row.length) : row.getD q 0 < G.length := by
  rcases Nat.eq_zero_or_pos q with rfl | h0
  · rw [h.s0]; exact h.sl
  · exact (h.found q h0 hq).1

theorem Sp.add (h : Sp G s F0 row D m p F) (hm : m < row.length) (hp : p < (G.getD (row.getD m 0) []).length) (k : Nat) (hk : k < G.length)
    (hx : (G.getD (row.getD m 0) []).getD p 0 = (k : Int)) (hF : F.getD k 0 = -1) :
    Sp G s F0 (row ++ [k]) (D ++ [D.getD m 0 + 1]) m (p + 1) (F.set k ((row.getD m 0 : Nat) : Int)) := by
  have hnew : ∀ q, 0 < q → q < row.length → row.getD q 0 ≠ k := by
    intro q h0 hq e
    obtain ⟨_, _, r, _, h2, _⟩ := h.found q h0 hq
    rw [e, hF] at h2
    omega
  have hF0 : F0.getD k 0 = -1 := by rw [← h.other k hk hnew]; exact hF
  have hE : E G (row.getD m 0) k := ⟨h.place hm, hk, by rw [← hx]; exact getD_mem' hp⟩
  have hlD := h.lenD
  have hset : ∀ j, j ≠ k → (F.set k ((row.getD m 0 : Nat) : Int)).getD j 0 = F.getD j 0 := fun j hj => by simp [Ne.symm hj]
  have hself : (F.set k ((row.getD m 0 : Nat) : Int)).getD k 0 = ((row.getD m 0 : Nat) : Int) := by
    have : k < F.length := by rw [h.lenF]; exact hk
    simp [this]
  have hDlt : ∀ q, q < row.length → (D ++ [D.getD m 0 + 1]).getD q 0 = D.getD q 0 := fun q hq => getD_app_lt D _ q (by omega)
  have hDeq : (D ++ [D.getD m 0 + 1]).getD row.length 0 = D.getD m 0 + 1 := by rw [← hlD]; exact getD_app_eq D _
  have hRlt : ∀ q, q < row.length → (row ++ [k]).getD q 0 = row.getD q 0 := fun q hq => getD_app_lt row _ q hq
  have hReq : (row ++ [k]).getD row.length 0 = k := getD_app_eq row k
  have hlen : (row ++ [k]).length = row.length + 1 := by simp
  refine { lenF := by simp [h.lenF], lenF0 := h.lenF0, lenD := by simp [h.lenD], pos := by simp, s0 := by rw [hRlt 0 h.pos]; exact h.s0, d0 := by rw [hDlt 0 h.pos]; exact h.d0, sl := h.sl, found := ?_, nd := ?_, other := ?_, bound := ?_, mono := ?_, closed := ?_, part := ?_ }
  · intro q h0 hq
    rw [hlen] at hq
    by_cases hq' : q < row.length
    · obtain ⟨a, b, r, c, d, e, f⟩ := h.found q h0 hq'
      rw [hRlt q hq']
      refine ⟨a, b, r, c, ?_, ?_, ?_⟩
      · rw [hset _ (hnew q h0 hq'), hRlt r (by omega)]; exact d
      · rw [hRlt r (by omega)]; exact e
      · rw [hDlt q hq', hDlt r (by omega)]; exact f
    · have : q = row.length := by omega
      subst this
      rw [hReq]
      refine ⟨hk, hF0, m, hm, ?_, ?_, ?_⟩
      · rw [hself, hRlt m hm]
      · rw [hRlt m hm]; exact hE
      · rw [hDeq, hDlt m hm]
  · have : (row ++ [k]).tail = row.tail ++ [k] := by
      cases hr : row with
      | nil => have := h.pos; rw [hr] at this; simp at this
      | cons a l => simp
    rw [this, List.nodup_append]
    refine ⟨h.nd, by simp, ?_⟩
    intro a ha b hb
    simp at hb
    subst hb
    obtain ⟨q, h0, hq, e⟩ := (h.mem_tail a).1 ha
    rw [← e]
    exact hnew q h0 hq
  · intro j hj hno
    have hjk : j ≠ k := by
      have := hno row.length h.pos (by omega)
      rw [hReq] at this
      exact Ne.symm this
    rw [hset j hjk]
    exact h.other j hj (fun q h0 hq => by have := hno q h0 (by omega); rwa [hRlt q hq] at this)
  · intro _ q hq
    rw [hDlt m hm]
    by_cases hq' : q < row.length
    · rw [hDlt q hq']; exact h.bound hm q hq'
    · have : q = row.length := by omega
      subst this
      rw [hDeq]; exact Nat.le_refl _
  · intro q q' hqq hq'
    rw [hlen] at hq'
    by_cases hq2 : q' < row.length
    · rw [hDlt q (by omega), hDlt q' hq2]; exact h.mono q q' hqq hq2
    · have : q' = row.length := by omega
      subst this
      rw [hDeq]
      by_cases hq3 : q < row.length
      · rw [hDlt q hq3]; exact h.bound hm q hq3
      · have : q = row.length := by omega
        subst this
        rw [hDeq]; exact Nat.le_refl _
  · intro r k' hr hE' hF'
    rw [hRlt r (by omega)] at hE'
    obtain ⟨q, h0, hq, e, hd⟩ := h.closed r k' hr hE' hF'
    exact ⟨q, h0, by omega, by rw [hRlt q hq]; exact e, by rw [hDlt q hq, hDlt r (by omega)]; exact hd⟩
  · intro k' hk' hmem hF'
    rw [hRlt m hm, take_snoc _ p hp, hx] at hmem
    rw [hDlt m hm]
    rcases List.mem_append.1 hmem with h1 | h1
    · obtain ⟨q, h0, hq, e, hd⟩ := h.part k' hk' h1 hF'
      exact ⟨q, h0, by omega, by rw [hRlt q hq]; exact e, by rw [hDlt q hq]; exact hd⟩
    · have : k' = k := by simp at h1; omega
      subst this
      exact ⟨row.length, h.pos, by omega, hReq, by rw [hDeq]; exact Nat.le_refl _⟩

theorem Sp.next (h : Sp G s F0 row D m p F) (hm : m < row.length) (hp : p = (G.getD (row.getD m 0) []).length) : Sp G s F0 row D (m + 1) 0 F :=
  { h with
    bound := fun hm' q hq => by
      have := h.bound hm q hq
      have := h.mono m (m + 1) (by omega) hm'
      omega
    closed := fun r k hr hE hF => by
      by_cases e : r = m
      · subst e
        exact h.part k hE.2.1 (by rw [hp, List.take_length]; exact hE.2.2) hF
      · exact h.closed r k (by omega) hE hF
    part := fun k _ hk => by simp at hk }

/-- what was found: by so many steps from s -/
theorem Sp.walk (h : Sp G s F0 row D m p F) : ∀ q, q < row.length → Walk G (D.getD q 0) s (row.getD q 0) := by
  intro q
  induction q using Nat.strongRecOn with
  | ind q ih =>
    intro hq
    rcases Nat.eq_zero_or_pos q with rfl | h0
    · rw [h.d0, h.s0]; rfl
    · obtain ⟨_, _, r, hr, _, hE, hd⟩ := h.found q h0 hq
      rw [hd]
      exact ⟨_, ih r hr (by omega), hE⟩

/-- at the end, if all was unfound: what a walk leads to was found, by no more steps -/
theorem Sp.all (h : Sp G s F0 row D row.length p F) (h0 : ∀ k, k < G.length → F0.getD k 0 = -1) : ∀ n k, Walk G (n + 1) s k → ∃ q, 0 < q ∧ q < row.length ∧ row.getD q 0 = k ∧ D.getD q 0 ≤ n + 1 := by
  intro n
  induction n with
  | zero =>
    intro k hw
    obtain ⟨j, h1, h2⟩ := hw
    cases h1
    have := h.closed 0 k h.pos (by rw [h.s0]; exact h2) (h0 k h2.2.1)
    rw [h.d0] at this
    exact this
  | succ n ih =>
    intro k hw
    obtain ⟨j, h1, h2⟩ := hw
    obtain ⟨q, hq0, hq, e, hd⟩ := ih j h1
    obtain ⟨q', hq0', hq', e', hd'⟩ := h.closed q k hq (by rw [e]; exact h2) (h0 k h2.2.1)
    exact ⟨q', hq0', hq', e', by omega⟩

/-- at the end, if what was found ahead leads to nothing else: what a walk leads to was found, or had been -/
theorem Sp.allBut (h : Sp G s F0 row D row.length p F) (hc : ∀ x y, E G x y → F0.getD x 0 ≠ -1 → F0.getD y 0 ≠ -1) : ∀ n k, Walk G (n + 1) s k → F0.getD k 0 = -1 → k ∈ row.tail := by
  intro n
  induction n with
  | zero =>
    intro k hw hF
    obtain ⟨j, h1, h2⟩ := hw
    cases h1
    obtain ⟨q, a, b, c, _⟩ := h.closed 0 k h.pos (by rw [h.s0]; exact h2) hF
    exact (h.mem_tail k).2 ⟨q, a, b, c⟩
  | succ n ih =>
    intro k hw hF
    obtain ⟨j, h1, h2⟩ := hw
    have hj : F0.getD j 0 = -1 := Decidable.byContradiction fun hne => hc j k h2 hne hF
    obtain ⟨q, hq0, hq, e⟩ := (h.mem_tail j).1 (ih j h1 hj)
    obtain ⟨q', a, b, c, _⟩ := h.closed q k hq (by rw [e]; exact h2) hF
    exact (h.mem_tail k).2 ⟨q', a, b, c⟩

theorem Sp.way (h : Sp G s F0 row D m p F) {k : Nat} (hk : k ∈ row.tail) : Way G s k ∧ F0.getD k 0 = -1 ∧ k < G.length := by
  obtain ⟨q, h0, hq, e⟩ := (h.mem_tail k).1 hk
  obtain ⟨a, b, r, _, _, _, hd⟩ := h.found q h0 hq
  have := h.walk q hq
  rw [e] at this a b
  rw [hd] at this
  exact ⟨⟨_, this⟩, b, a⟩

theorem Sp.marks (h : Sp G s F0 row D m p F) (k : Nat) (hk : k < G.length) : (F.getD k 0 ≠ -1 ↔ F0.getD k 0 ≠ -1 ∨ k ∈ row.tail) := by
  by_cases hf : k ∈ row.tail
  · obtain ⟨q, h0, hq, e⟩ := (h.mem_tail k).1 hf
    obtain ⟨_, _, r, _, h2, _⟩ := h.found q h0 hq
    rw [e] at h2
    constructor
    · intro _; exact Or.inr hf
    · intro _; rw [h2]; omega
  · rw [h.other k hk (fun q h0 hq e => hf ((h.mem_tail k).2 ⟨q, h0, hq, e⟩))]
    constructor
    · exact Or.inl
    · rintro (h1 | h1)
      · exact h1
      · exact (hf h1).elim
end
end Gr
end Go.Proofs.Ytdcmdbhkaohkgaa
