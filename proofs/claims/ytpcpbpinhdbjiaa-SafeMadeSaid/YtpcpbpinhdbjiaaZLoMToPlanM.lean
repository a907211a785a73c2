/- Plain numbers: what the least free slots are good for. No condition. · Plain lists: slots laid out place by place, the least free one first. No condition. -/
import Derived.Test.YtpcpbpinhdbjiaaZLivMToLstM
namespace Go.Proofs.Ytpcpbpinhdbjiaa
namespace Pl

theorem nodup_sub : ∀ (l m : List Nat), l.Nodup → (∀ x ∈ l, x ∈ m) → l.length ≤ m.length := by
  intro l
  induction l with
  | nil => intro m _ _; exact Nat.zero_le _
  | cons a l ih =>
    intro m hn hs
    have ha : a ∈ m := hs a List.mem_cons_self
    have h2 := List.nodup_cons.1 hn
    have := ih (m.erase a) h2.2 (fun x hx => by
      have hne : x ≠ a := fun e => h2.1 (e ▸ hx)
      exact (List.mem_erase_of_ne hne).2 (hs x (List.mem_cons_of_mem _ hx)))
    rw [List.length_erase_of_mem ha] at this
    have hp : 0 < m.length := List.length_pos_of_mem ha
    simp only [List.length_cons]
    omega

/-- slots as 14.1 gives them, place by place: L k is the last place of the variable at place k -/
structure Greedy (n : Nat) (L sl : Nat → Nat) : Prop where
  free : ∀ i, i < n → ∀ k, k < i → i ≤ L k → sl k ≠ sl i
  least : ∀ i, i < n → ∀ s, s < sl i → ∃ k, k < i ∧ sl k = s ∧ i ≤ L k

theorem Greedy.uniq {n : Nat} {L a b : Nat → Nat} (h : Greedy n L a) (g : Greedy n L b) : ∀ m i, i < m → i < n → a i = b i := by
  intro m
  induction m with
  | zero => intro i hi; omega
  | succ m ih =>
    intro i hi hn
    rcases Nat.lt_trichotomy (a i) (b i) with q | q | q
    · obtain ⟨k, hk, e, hl⟩ := g.least i hn (a i) q
      exact absurd ((ih k (by omega) (by omega)).trans e) (h.free i hn k hk hl)
    · exact q
    · obtain ⟨k, hk, e, hl⟩ := h.least i hn (b i) q
      exact absurd ((ih k (by omega) (by omega)).symm.trans e) (g.free i hn k hk hl)

/-- who lives at place i, of those up to it -/
def alive (L : Nat → Nat) (i : Nat) : List Nat := (List.range (i + 1)).filter fun k => decide (i ≤ L k)
theorem mem_alive (L : Nat → Nat) (i k : Nat) : k ∈ alive L i ↔ k ≤ i ∧ i ≤ L k := by
  unfold alive; simp [List.mem_filter, List.mem_range]; omega
theorem alive_nodup (L : Nat → Nat) (i : Nat) : (alive L i).Nodup := List.Pairwise.filter _ List.nodup_range

theorem nodup_map {f : Nat → Nat} : ∀ (l : List Nat), l.Nodup → (∀ x ∈ l, ∀ y ∈ l, f x = f y → x = y) → (l.map f).Nodup := by
  intro l
  induction l with
  | nil => intro _ _; exact List.nodup_nil
  | cons a l ih =>
    intro hn hi
    have h2 := List.nodup_cons.1 hn
    rw [List.map_cons, List.nodup_cons]
    refine ⟨fun hm => ?_, ih h2.2 fun x hx y hy => hi x (List.mem_cons_of_mem _ hx) y (List.mem_cons_of_mem _ hy)⟩
    obtain ⟨x, hx, e⟩ := List.mem_map.1 hm
    exact h2.1 (hi x (List.mem_cons_of_mem _ hx) a List.mem_cons_self e ▸ hx)

/-- no place has more that live than slots -/
theorem alive_le {n M : Nat} {L sl : Nat → Nat} (hf : ∀ i, i < n → ∀ k, k < i → i ≤ L k → sl k ≠ sl i) (hM : ∀ i, i < n → sl i < M) (i : Nat) (hi : i < n) : (alive L i).length ≤ M := by
  have h1 : ((alive L i).map sl).Nodup := nodup_map _ (alive_nodup L i) fun x hx y hy e => by
    obtain ⟨hx1, hx2⟩ := (mem_alive L i x).1 hx
    obtain ⟨hy1, hy2⟩ := (mem_alive L i y).1 hy
    rcases Nat.lt_trichotomy x y with q | q | q
    · exact absurd e (hf y (by omega) x q (by omega))
    · exact q
    · exact absurd e.symm (hf x (by omega) y q (by omega))
  have := nodup_sub _ (List.range M) h1 fun s hs => by
    obtain ⟨x, hx, rfl⟩ := List.mem_map.1 hs
    obtain ⟨hx1, _⟩ := (mem_alive L i x).1 hx
    exact List.mem_range.2 (hM x (by omega))
  simpa using this

/-- where a slot is taken, all below it live -/
theorem alive_ge {n : Nat} {L sl : Nat → Nat} (g : Greedy n L sl) (hL : ∀ i, i < n → i ≤ L i) (i : Nat) (hi : i < n) : sl i + 1 ≤ (alive L i).length := by
  have := nodup_sub (List.range (sl i + 1)) ((alive L i).map sl) List.nodup_range fun s hs => by
    have hs' : s < sl i + 1 := List.mem_range.1 hs
    rcases Nat.lt_or_ge s (sl i) with q | q
    · obtain ⟨k, hk, e, hl⟩ := g.least i hi s q
      exact List.mem_map.2 ⟨k, (mem_alive L i k).2 ⟨by omega, hl⟩, e⟩
    · have e : s = sl i := by omega
      exact List.mem_map.2 ⟨i, (mem_alive L i i).2 ⟨Nat.le_refl _, hL i hi⟩, e.symm⟩
  simpa using this

/-- the greatest of some numbers, 0 without any -/
def top (f : Nat → Nat) : Nat → Nat
  | 0 => 0
  | n + 1 => max (top f n) (f n)
theorem top_ge (f : Nat → Nat) (n i : Nat) (h : i < n) : f i ≤ top f n := by
  induction n with
  | zero => omega
  | succ n ih =>
    show f i ≤ max (top f n) (f n)
    rcases Nat.lt_or_ge i n with q | q
    · exact Nat.le_trans (ih q) (Nat.le_max_left _ _)
    · have : i = n := by omega
      exact this ▸ Nat.le_max_right _ _
theorem top_le (f : Nat → Nat) (n M : Nat) (h : ∀ i, i < n → f i ≤ M) : top f n ≤ M := by
  induction n with
  | zero => exact Nat.zero_le _
  | succ n ih => exact Nat.max_le.2 ⟨ih fun i hi => h i (by omega), h n (by omega)⟩

/-- as many slots as live at some one place -/
theorem slots_most {n : Nat} {L sl : Nat → Nat} (g : Greedy n L sl) (hL : ∀ i, i < n → i ≤ L i) : top (fun i => sl i + 1) n = top (fun i => (alive L i).length) n := by
  refine Nat.le_antisymm (top_le _ _ _ fun i hi => Nat.le_trans (alive_ge g hL i hi) (top_ge (fun i => (alive L i).length) n i hi)) (top_le _ _ _ fun i hi => ?_)
  exact alive_le g.free (fun k hk => top_ge (fun i => sl i + 1) n k hk) i hi

/-- what lies in slots behind place i: the place that laid it, and one more -/
def Lies (L sl : Nat → Nat) (i : Nat) (mem : Nat → Nat) : Prop := ∀ k, k < i → i ≤ L k → mem (sl k) = k + 1
theorem Lies.step {n i : Nat} {L sl mem : Nat → Nat} (h : Lies L sl i mem) (hf : ∀ i, i < n → ∀ k, k < i → i ≤ L k → sl k ≠ sl i) (hi : i < n) : Lies L sl (i + 1) (fun s => if s = sl i then i + 1 else mem s) := by
  intro k hk hl
  rcases Nat.lt_or_ge k i with q | q
  · have := hf i hi k q (by omega)
    simp only [if_neg this]
    exact h k q (by omega)
  · have : k = i := by omega
    subst this; simp
end Pl
end Go.Proofs.Ytpcpbpinhdbjiaa

namespace Go.Proofs.Ytpcpbpinhdbjiaa
set_option linter.unusedVariables false
set_option linter.unusedSimpArgs false
set_option maxRecDepth 100000
open Go.RowKit

/-- how many of the first k variables have their last place at j; ahead of j -/
def cntTo (la : Nat → Nat) (k j : Nat) : Nat := ((List.range k).filter fun v => decide (la v = j)).length
def preTo (la : Nat → Nat) (n j : Nat) : Nat := ((List.range n).filter fun v => decide (la v < j)).length
theorem cntTo_succ (la : Nat → Nat) (k j : Nat) : cntTo la (k + 1) j = cntTo la k j + if la k = j then 1 else 0 := by
  unfold cntTo
  rw [List.range_succ, List.filter_append, List.length_append]
  by_cases h : la k = j <;> simp [h]
theorem preTo_zero (la : Nat → Nat) (n : Nat) : preTo la n 0 = 0 := by unfold preTo; simp
theorem preTo_succ (la : Nat → Nat) (n j : Nat) : preTo la n (j + 1) = preTo la n j + cntTo la n j := by
  unfold preTo cntTo
  induction n with
  | zero => rfl
  | succ n ih =>
    rw [List.range_succ, List.filter_append, List.filter_append, List.filter_append, List.length_append, List.length_append, List.length_append, ih]
    by_cases h1 : la n < j
    · have e1 : decide (la n < j + 1) = true := by simp; omega
      have e2 : decide (la n = j) = false := by simp; omega
      have e3 : decide (la n < j) = true := by simp; omega
      simp only [List.filter_cons, List.filter_nil, e1, e2, e3]; simp; omega
    · by_cases h2 : la n = j
      · have e1 : decide (la n < j + 1) = true := by simp; omega
        have e2 : decide (la n = j) = true := by simp; omega
        have e3 : decide (la n < j) = false := by simp; omega
        simp only [List.filter_cons, List.filter_nil, e1, e2, e3]; simp; omega
      · have e1 : decide (la n < j + 1) = false := by simp; omega
        have e2 : decide (la n = j) = false := by simp; omega
        have e3 : decide (la n < j) = false := by simp; omega
        simp only [List.filter_cons, List.filter_nil, e1, e2, e3]; simp
theorem preTo_le (la : Nat → Nat) (n j : Nat) : preTo la n j ≤ n := by
  unfold preTo
  have := List.length_filter_le (fun v => decide (la v < j)) (List.range n)
  simpa using this
theorem preTo_mono (la : Nat → Nat) (n : Nat) {i j : Nat} (h : i ≤ j) : preTo la n i ≤ preTo la n j := by
  induction j with
  | zero => have : i = 0 := by omega
            subst this; exact Nat.le_refl _
  | succ j ih =>
    by_cases e : i = j + 1
    · subst e; exact Nat.le_refl _
    · rw [preTo_succ]; have := ih (by omega); omega
theorem preTo_room (la : Nat → Nat) (n : Nat) {i j : Nat} (h : i < j) : preTo la n i + cntTo la n i ≤ preTo la n j := by
  rw [← preTo_succ]; exact preTo_mono la n h

/-- the slots of the first i places that are needed last at j -/
def leftAt (L : Nat → Nat) (sls : List Nat) (i j : Nat) : List Nat := ((List.range i).filter fun k => decide (L k = j)).map fun k => sls.getD k 0
theorem leftAt_snoc (L : Nat → Nat) (sls : List Nat) (i j s : Nat) (hl : sls.length = i) : leftAt L (sls ++ [s]) (i + 1) j = leftAt L sls i j ++ if L i = j then [s] else [] := by
  unfold leftAt
  rw [List.range_succ, List.filter_append, List.map_append]
  congr 1
  · apply List.map_congr_left
    intro k hk
    have : k < i := by simpa using (List.mem_filter.1 hk).1
    simp [List.getElem?_append_left (show k < sls.length by omega)]
  · by_cases h : L i = j
    · rw [if_pos h, show [i].filter (fun k => decide (L k = j)) = [i] by simp [h]]
      simp [← hl]
    · rw [if_neg h, show [i].filter (fun k => decide (L k = j)) = [] by simp [h]]
      rfl
theorem mem_leftAt {L : Nat → Nat} {sls : List Nat} {i j s : Nat} : s ∈ leftAt L sls i j ↔ ∃ k, k < i ∧ L k = j ∧ sls.getD k 0 = s := by
  unfold leftAt
  rw [List.mem_map]
  constructor
  · rintro ⟨k, hk, e⟩
    obtain ⟨h1, h2⟩ := List.mem_filter.1 hk
    exact ⟨k, by simpa using h1, by simpa using h2, e⟩
  · rintro ⟨k, h1, h2, e⟩
    exact ⟨k, List.mem_filter.2 ⟨by simpa using h1, by simpa using h2⟩, e⟩
/-- no row grows longer than there is room -/
theorem left_room {n : Nat} {ov la L : Nat → Nat} {sls : List Nat} {i j : Nat} (hov : ∀ a b, a < n → b < n → ov a = ov b → a = b) (hlt : ∀ a, a < n → ov a < n) (hL : ∀ a, a < n → L a = la (ov a)) (hi : i < n) (hj : L i = j) : (leftAt L sls i j).length + 1 ≤ cntTo la n j := by
  have h1 : (leftAt L sls i j).length + 1 = (((List.range (i + 1)).filter fun k => decide (L k = j)).map ov).length := by
    unfold leftAt
    rw [List.range_succ, List.filter_append]
    simp [hj]
  rw [h1]
  refine Pl.nodup_sub _ _ ?_ ?_
  · refine Pl.nodup_map _ (List.Pairwise.filter _ List.nodup_range) fun x hx y hy e => ?_
    have hx' := (List.mem_filter.1 hx).1
    have hy' := (List.mem_filter.1 hy).1
    rw [List.mem_range] at hx' hy'
    exact hov x y (by omega) (by omega) e
  · intro x hx
    obtain ⟨k, hk, rfl⟩ := List.mem_map.1 hx
    obtain ⟨h2, h3⟩ := List.mem_filter.1 hk
    rw [List.mem_range] at h2
    have hk' : k < n := by omega
    refine List.mem_filter.2 ⟨List.mem_range.2 (hlt k hk'), ?_⟩
    rw [← hL k hk']; exact h3
theorem leftAt_len_le {L : Nat → Nat} {sls : List Nat} {i j : Nat} : (leftAt L sls i j).length ≤ i := by
  unfold leftAt
  rw [List.length_map]
  have := List.length_filter_le (fun k => decide (L k = j)) (List.range i)
  simpa using this

/-- slots laid out as far as place i: who lies where, who is free -/
structure Lo (L : Nat → Nat) (i S : Nat) (sls : List Nat) (hs : List Int) : Prop where
  len : sls.length = i
  lt : ∀ k, k < i → sls.getD k 0 < S
  free : ∀ k, k < i → ∀ k', k' < k → k ≤ L k' → sls.getD k' 0 ≠ sls.getD k 0
  least : ∀ k, k < i → ∀ s, s < sls.getD k 0 → ∃ k', k' < k ∧ sls.getD k' 0 = s ∧ k ≤ L k'
  hnd : hs.Nodup
  hin : ∀ x, x ∈ hs ↔ ∃ s : Nat, x = (s : Int) ∧ s < S ∧ ∀ k, k < i → sls.getD k 0 = s → L k < i
  top : S = Pl.top (fun k => sls.getD k 0 + 1) i
theorem Lo.start (L : Nat → Nat) : Lo L 0 0 [] [] :=
  ⟨rfl, fun k h => by omega, fun k h => by omega, fun k h => by omega, by simp, fun x => by simp, rfl⟩
theorem getD_snoc (sls : List Nat) (s k : Nat) : (sls ++ [s]).getD k 0 = if k < sls.length then sls.getD k 0 else if k = sls.length then s else 0 := by
  by_cases h : k < sls.length
  · rw [if_pos h]; simp [List.getElem?_append_left h]
  · rw [if_neg h]
    by_cases e : k = sls.length
    · rw [if_pos e, e]; simp
    · rw [if_neg e]; simp [List.getElem?_append_right (show sls.length ≤ k by omega), show k - sls.length ≠ 0 by omega]
theorem top_congr {f g : Nat → Nat} : ∀ n, (∀ i, i < n → f i = g i) → Pl.top f n = Pl.top g n := by
  intro n
  induction n with
  | zero => intro _; rfl
  | succ n ih =>
    intro h
    show max (Pl.top f n) (f n) = max (Pl.top g n) (g n)
    rw [ih fun i hi => h i (by omega), h n (by omega)]
theorem intsN_nd : ∀ (l : List Nat), l.Nodup → (Gr.ints l).Nodup := by
  intro l
  induction l with
  | nil => intro _; exact List.nodup_nil
  | cons a l ih =>
    intro h
    obtain ⟨h1, h2⟩ := List.nodup_cons.1 h
    unfold Gr.ints
    rw [List.map_cons, List.nodup_cons]
    refine ⟨fun hm => ?_, ih h2⟩
    obtain ⟨y, hy, e⟩ := List.mem_map.1 hm
    have : y = a := by omega
    exact h1 (this ▸ hy)
/-- the next place: the least slot that is free, or a new one; then those come free that are needed last here -/
theorem Lo.step {L : Nat → Nat} {i S S1 s : Nat} {sls : List Nat} {hs hs1 hs' : List Int} (h : Lo L i S sls hs) (hL : i ≤ L i)
    (ht : (((s : Int) :: hs1).Perm hs ∧ (∀ y ∈ hs, (s : Int) ≤ y) ∧ S1 = S) ∨ (hs = [] ∧ hs1 = [] ∧ s = S ∧ S1 = S + 1))
    (hp : hs'.Perm (hs1 ++ Gr.ints (leftAt L (sls ++ [s]) (i + 1) i))) : Lo L (i + 1) S1 (sls ++ [s]) hs' := by
  have hl := h.len
  have g : ∀ k, k < i → (sls ++ [s]).getD k 0 = sls.getD k 0 := fun k hk => by rw [getD_snoc, if_pos (by omega)]
  have gi : (sls ++ [s]).getD i 0 = s := by rw [getD_snoc, if_neg (by omega), if_pos hl.symm]
  -- the slot is free
  have hfree : ∀ k, k < i → i ≤ L k → sls.getD k 0 ≠ s := by
    intro k hk hlk e
    rcases ht with ⟨h1, _, _⟩ | ⟨_, _, h3, _⟩
    · have : (s : Int) ∈ hs := h1.mem_iff.1 List.mem_cons_self
      obtain ⟨s', e', _, h4⟩ := (h.hin _).1 this
      have : s' = s := by omega
      subst this
      have := h4 k hk e
      omega
    · have := h.lt k hk; omega
  have hleast : ∀ t, t < s → ∃ k, k < i ∧ sls.getD k 0 = t ∧ i ≤ L k := by
    intro t hts
    have hno : (t : Int) ∉ hs := by
      intro hm
      rcases ht with ⟨_, h2, _⟩ | ⟨h2, _⟩
      · have := h2 _ hm; omega
      · rw [h2] at hm; cases hm
    have htS : t < S := by
      rcases ht with ⟨h1, _, _⟩ | ⟨_, _, h3, _⟩
      · have : (s : Int) ∈ hs := h1.mem_iff.1 List.mem_cons_self
        obtain ⟨s', e', h4, _⟩ := (h.hin _).1 this
        omega
      · omega
    refine Classical.byContradiction fun hc => hno ((h.hin _).2 ⟨t, rfl, htS, fun k hk e => ?_⟩)
    refine Classical.byContradiction fun hk2 => hc ⟨k, hk, e, by omega⟩
  have hsS : s < S1 ∧ S ≤ S1 := by
    rcases ht with ⟨h1, _, h3⟩ | ⟨_, _, h3, h4⟩
    · have : (s : Int) ∈ hs := h1.mem_iff.1 List.mem_cons_self
      obtain ⟨s', e', h4, _⟩ := (h.hin _).1 this
      omega
    · omega
  have hnd1 : hs1.Nodup ∧ (s : Int) ∉ hs1 := by
    rcases ht with ⟨h1, _, _⟩ | ⟨_, h2, _⟩
    · have := h1.nodup_iff.2 h.hnd
      obtain ⟨a, b⟩ := List.nodup_cons.1 this
      exact ⟨b, a⟩
    · rw [h2]; simp
  have hin1 : ∀ x, x ∈ hs1 ↔ x ∈ hs ∧ x ≠ (s : Int) := by
    intro x
    rcases ht with ⟨h1, _, _⟩ | ⟨h2, h3, _⟩
    · rw [← h1.mem_iff, List.mem_cons]
      constructor
      · intro q; exact ⟨.inr q, fun e => hnd1.2 (e ▸ q)⟩
      · rintro ⟨q | q, r⟩
        · exact (r q).elim
        · exact q
    · rw [h2, h3]; simp
  have hfree' : ∀ k, k < i + 1 → ∀ k', k' < k → k ≤ L k' → (sls ++ [s]).getD k' 0 ≠ (sls ++ [s]).getD k 0 := by
    intro k hk k' hk' hlk
    by_cases e : k = i
    · subst e; rw [gi, g k' hk']; exact hfree k' hk' hlk
    · rw [g k (by omega), g k' (by omega)]; exact h.free k (by omega) k' hk' hlk
  refine ⟨by simp [hl], fun k hk => ?_, hfree', fun k hk t htk => ?_, ?_, fun x => ?_, ?_⟩
  · by_cases e : k = i
    · subst e; rw [gi]; exact hsS.1
    · rw [g k (by omega)]; have := h.lt k (by omega); omega
  · by_cases e : k = i
    · subst e
      rw [gi] at htk
      obtain ⟨k', h1, h2, h3⟩ := hleast t htk
      exact ⟨k', h1, by rw [g k' h1]; exact h2, h3⟩
    · rw [g k (by omega)] at htk
      obtain ⟨k', h1, h2, h3⟩ := h.least k (by omega) t htk
      exact ⟨k', h1, by rw [g k' (by omega)]; exact h2, h3⟩
  · refine hp.nodup_iff.2 (List.nodup_append.2 ⟨hnd1.1, intsN_nd _ ?_, ?_⟩)
    · unfold leftAt
      refine Pl.nodup_map _ (List.Pairwise.filter _ List.nodup_range) fun x hx y hy e => ?_
      obtain ⟨hx1, hx2⟩ := List.mem_filter.1 hx
      obtain ⟨hy1, hy2⟩ := List.mem_filter.1 hy
      simp only [decide_eq_true_eq, List.mem_range] at hx1 hx2 hy1 hy2
      rcases Nat.lt_trichotomy x y with q | q | q
      · exact (hfree' y hy1 x q (by omega) e).elim
      · exact q
      · exact (hfree' x hx1 y q (by omega) e.symm).elim
    · intro a ha b hb e
      subst e
      obtain ⟨t, htm, e2⟩ := List.mem_map.1 hb
      obtain ⟨k, h1, h2, h3⟩ := mem_leftAt.1 htm
      obtain ⟨ha1, ha2⟩ := (hin1 a).1 ha
      obtain ⟨t', e3, _, h4⟩ := (h.hin a).1 ha1
      have ett : t' = t := by omega
      subst ett
      by_cases e : k = i
      · subst e; rw [gi] at h3; exact ha2 (by omega)
      · rw [g k (by omega)] at h3
        have := h4 k (by omega) h3
        omega
  · rw [hp.mem_iff, List.mem_append]
    constructor
    · rintro (q | q)
      · obtain ⟨q1, q2⟩ := (hin1 x).1 q
        obtain ⟨t, e, h2, h3⟩ := (h.hin x).1 q1
        refine ⟨t, e, by omega, fun k hk ek => ?_⟩
        by_cases e1 : k = i
        · subst e1; rw [gi] at ek; exact (q2 (by omega)).elim
        · rw [g k (by omega)] at ek; have := h3 k (by omega) ek; omega
      · obtain ⟨t, htm, e2⟩ := List.mem_map.1 q
        obtain ⟨k0, h1, h2, h3⟩ := mem_leftAt.1 htm
        refine ⟨t, e2.symm, ?_, fun k hk ek => ?_⟩
        · by_cases e : k0 = i
          · subst e; rw [gi] at h3; omega
          · rw [g k0 (by omega)] at h3; have := h.lt k0 (by omega); omega
        · rcases Nat.lt_trichotomy k k0 with r | r | r
          · refine Classical.byContradiction fun hc => hfree' k0 h1 k r (by omega) (by rw [ek, h3])
          · subst r; omega
          · exact (hfree' k hk k0 r (by omega) (by rw [h3, ek])).elim
    · rintro ⟨t, e, h2, h3⟩
      by_cases hc : ∃ k, k < i + 1 ∧ (sls ++ [s]).getD k 0 = t ∧ L k = i
      · obtain ⟨k, h4, h5, h6⟩ := hc
        exact .inr (List.mem_map.2 ⟨t, mem_leftAt.2 ⟨k, h4, h6, h5⟩, e.symm⟩)
      · have h3' : ∀ k, k < i + 1 → (sls ++ [s]).getD k 0 = t → L k < i := fun k hk ek => by
          have := h3 k hk ek
          have : L k ≠ i := fun q => hc ⟨k, hk, ek, q⟩
          omega
        have hts : t ≠ s := fun q => by have := h3' i (by omega) (by rw [gi, q]); omega
        have htS : t < S := by
          rcases ht with ⟨_, _, r⟩ | ⟨_, _, r1, r2⟩
          · omega
          · omega
        refine .inl ((hin1 x).2 ⟨(h.hin x).2 ⟨t, e, htS, fun k hk ek => h3' k (by omega) (by rw [g k hk]; exact ek)⟩, by omega⟩)
  · show S1 = max (Pl.top (fun k => (sls ++ [s]).getD k 0 + 1) i) ((sls ++ [s]).getD i 0 + 1)
    rw [gi, top_congr i (fun k hk => show (sls ++ [s]).getD k 0 + 1 = sls.getD k 0 + 1 by rw [g k hk]), ← h.top]
    rcases ht with ⟨_, _, r⟩ | ⟨_, _, r1, r2⟩
    · omega
    · omega
/-- what is laid out so is as 14.1 says -/
theorem Lo.greedy {L : Nat → Nat} {n S : Nat} {sls : List Nat} {hs : List Int} (h : Lo L n S sls hs) : Pl.Greedy n L fun k => sls.getD k 0 := ⟨h.free, h.least⟩

end Go.Proofs.Ytpcpbpinhdbjiaa
