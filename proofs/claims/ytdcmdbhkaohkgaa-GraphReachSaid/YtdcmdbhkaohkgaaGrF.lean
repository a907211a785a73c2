/- Graphs: an order, built by counting what is still needed. Plain lists. No condition. -/
import Derived.Test.YtdcmdbhkaohkgaaGrC
namespace Go.Proofs.Ytdcmdbhkaohkgaa
namespace Gr

def cs (T : List (List Int)) (i j : Nat) : Nat := ((T.take i).map (fun r => r.count (j : Int))).sum

theorem cs_succ (T : List (List Int)) (i j : Nat) (h : i < T.length) : cs T (i + 1) j = cs T i j + (T.getD i []).count (j : Int) := by
  unfold cs
  rw [List.take_succ_eq_append_getElem h, List.map_append, List.sum_append]
  simp only [List.map_cons, List.map_nil, List.sum_cons, List.sum_nil, Nat.add_zero]
  congr 2
  simp [h]

/-- what needs has counted -/
def NeedAt (T : List (List Int)) (i p : Nat) (M : List Int) : Prop :=
  M.length = T.length ∧ ∀ j, j < T.length → M.getD j 0 = ((cs T i j + ((T.getD i []).take p).count (j : Int) : Nat) : Int)

theorem NeedAt.start (T : List (List Int)) : NeedAt T 0 0 (List.replicate T.length 0) :=
  ⟨by simp, fun j hj => by simp [cs, hj]⟩

theorem NeedAt.add {T : List (List Int)} {i p : Nat} {M : List Int} (h : NeedAt T i p M) (hp : p < (T.getD i []).length) (k : Nat) (hk : k < T.length) (hx : (T.getD i []).getD p 0 = (k : Int)) : NeedAt T i (p + 1) (M.set k (M.getD k 0 + 1)) := by
  refine ⟨by simp [h.1], fun j hj => ?_⟩
  rw [take_snoc _ p hp, List.count_append, hx]
  have hkl : k < M.length := by rw [h.1]; exact hk
  by_cases e : k = j
  · subst e
    have e1 : (M.set k (M.getD k 0 + 1)).getD k 0 = M.getD k 0 + 1 := by simp [hkl]
    rw [e1, h.2 k hj]
    simp
    omega
  · have e1 : (M.set k (M.getD k 0 + 1)).getD j 0 = M.getD j 0 := by simp [e]
    have e2 : ([(k : Int)]).count (j : Int) = 0 := by
      rw [List.count_eq_zero]
      simp
      omega
    rw [e1, h.2 j hj, e2]
    simp

theorem NeedAt.next {T : List (List Int)} {i : Nat} {M : List Int} (h : NeedAt T i (T.getD i []).length M) (hi : i < T.length) : NeedAt T (i + 1) 0 M :=
  ⟨h.1, fun j hj => by rw [h.2 j hj, cs_succ T i j hi, List.take_length]; simp⟩

/-- what still needs j, but for those in out -/
def rest (T : List (List Int)) (out : List Nat) (j : Nat) : Nat := ((List.range T.length).map (fun i => if i ∈ out then 0 else (T.getD i []).count (j : Int))).sum

theorem rest_nil (T : List (List Int)) (j : Nat) : rest T [] j = cs T T.length j := by
  have key : ∀ n, n ≤ T.length → ((List.range n).map (fun i => if i ∈ ([] : List Nat) then 0 else (T.getD i []).count (j : Int))).sum = cs T n j := by
    intro n
    induction n with
    | zero => intro _; simp [cs]
    | succ n ih =>
      intro hn
      rw [List.range_succ, List.map_append, List.sum_append, ih (by omega), cs_succ T n j (by omega)]
      simp
  exact key T.length (Nat.le_refl _)

theorem sum_one (f g : Nat → Nat) (i0 c : Nat) : ∀ n, (∀ i, i < n → i ≠ i0 → f i = g i) → i0 < n → f i0 = g i0 + c → ((List.range n).map f).sum = ((List.range n).map g).sum + c := by
  intro n
  induction n with
  | zero => intro _ h; omega
  | succ n ih =>
    intro h1 h2 h3
    rw [List.range_succ, List.map_append, List.sum_append, List.map_append, List.sum_append]
    simp only [List.map_cons, List.map_nil, List.sum_cons, List.sum_nil, Nat.add_zero]
    by_cases e : i0 = n
    · subst e
      have : (List.range i0).map f = (List.range i0).map g := List.map_congr_left (fun i hi => h1 i (by have := List.mem_range.1 hi; omega) (by have := List.mem_range.1 hi; omega))
      rw [this, h3]
      omega
    · rw [ih (fun i hi hne => h1 i (by omega) hne) (by omega) h3, h1 n (by omega) (fun q => e q.symm)]
      omega

theorem rest_snoc (T : List (List Int)) (out : List Nat) (i0 j : Nat) (h : i0 < T.length) (hn : i0 ∉ out) : rest T out j = rest T (out ++ [i0]) j + (T.getD i0 []).count (j : Int) := by
  refine sum_one _ _ i0 _ T.length (fun i hi hne => ?_) h ?_
  · simp only [List.mem_append, List.mem_singleton]
    by_cases e : i ∈ out
    · simp [e]
    · simp [e, hne]
  · simp [hn]

theorem sum_zero (f : Nat → Nat) : ∀ n, ((List.range n).map f).sum = 0 → ∀ i, i < n → f i = 0 := by
  intro n
  induction n with
  | zero => intro _ i hi; omega
  | succ n ih =>
    intro h i hi
    rw [List.range_succ, List.map_append, List.sum_append] at h
    simp only [List.map_cons, List.map_nil, List.sum_cons, List.sum_nil, Nat.add_zero] at h
    by_cases e : i = n
    · rw [e]; omega
    · exact ih (by omega) i (by omega)

theorem sum_pos (f : Nat → Nat) : ∀ n, ((List.range n).map f).sum ≠ 0 → ∃ i, i < n ∧ f i ≠ 0 := by
  intro n
  induction n with
  | zero => intro h; simp at h
  | succ n ih =>
    intro h
    rw [List.range_succ, List.map_append, List.sum_append] at h
    simp only [List.map_cons, List.map_nil, List.sum_cons, List.sum_nil, Nat.add_zero] at h
    by_cases e : f n = 0
    · obtain ⟨i, hi, h1⟩ := ih (by omega)
      exact ⟨i, by omega, h1⟩
    · exact ⟨n, by omega, e⟩

theorem rest_zero {T : List (List Int)} {out : List Nat} {j : Nat} (h : rest T out j = 0) (i : Nat) (hi : i < T.length) (hm : (j : Int) ∈ T.getD i []) : i ∈ out := by
  have := sum_zero _ T.length h i hi
  by_cases e : i ∈ out
  · exact e
  · simp only [e, if_false] at this
    exact absurd hm (List.count_eq_zero.1 this)

theorem rest_ne {T : List (List Int)} {out : List Nat} {j : Nat} (h : rest T out j ≠ 0) : ∃ i, i < T.length ∧ i ∉ out ∧ (j : Int) ∈ T.getD i [] := by
  obtain ⟨i, hi, h1⟩ := sum_pos _ T.length h
  by_cases e : i ∈ out
  · simp [e] at h1
  · simp only [e, if_false] at h1
    exact ⟨i, hi, e, List.count_pos_iff.1 (by omega)⟩

/-- who stands in the order, who is ready (H), what is still missing (M), while p needs of the last one, i0, have been told -/
structure Ka (T : List (List Int)) (out H : List Nat) (M : List Int) (l : List Int) : Prop where
  lenM : M.length = T.length
  nd : (out ++ H).Nodup
  lt : ∀ k ∈ out ++ H, k < T.length
  cnt : ∀ j, j < T.length → M.getD j 0 = ((rest T out j + l.count (j : Int) : Nat) : Int)
  zero : ∀ j, j < T.length → (j ∈ out ∨ j ∈ H ↔ M.getD j 0 = 0)
  ord : ∀ (a b : List Nat) (x : Nat), out = a ++ x :: b → ∀ i, i < T.length → (x : Int) ∈ T.getD i [] → i ∈ a

section
variable {T : List (List Int)} {out H : List Nat} {M l : List Int}

theorem Ka.start (h : NeedAt T T.length 0 M) (hH : H.Nodup) (hz : ∀ j, j ∈ H ↔ j < T.length ∧ M.getD j 0 = 0) : Ka T [] H M [] where
  lenM := h.1
  nd := by simpa using hH
  lt := fun k hk => ((hz k).1 (by simpa using hk)).1
  cnt := fun j hj => by rw [h.2 j hj, rest_nil]; simp
  zero := fun j hj => by
    constructor
    · rintro (q | q)
      · cases q
      · exact ((hz j).1 q).2
    · intro q; exact Or.inr ((hz j).2 ⟨hj, q⟩)
  ord := fun a b x h => by simp at h

/-- one of the ready ones comes out -/
theorem Ka.pop (h : Ka T out H M []) (i0 : Nat) (hi : i0 ∈ H) : Ka T (out ++ [i0]) (H.erase i0) M (T.getD i0 []) ∧ i0 < T.length := by
  have hil : i0 < T.length := h.lt i0 (List.mem_append_right _ hi)
  obtain ⟨hn1, hn2, hdis⟩ := List.nodup_append.1 h.nd
  have hno : i0 ∉ out := fun q => hdis i0 q i0 hi rfl
  have hp : (out ++ H).Perm (out ++ [i0] ++ H.erase i0) := by
    rw [List.append_assoc]
    exact List.Perm.append_left out (List.perm_cons_erase hi)
  refine ⟨{ lenM := h.lenM, nd := hp.nodup_iff.1 h.nd, lt := fun k hk => h.lt k (hp.mem_iff.2 hk), cnt := ?_, zero := ?_, ord := ?_ }, hil⟩
  · intro j hj
    rw [h.cnt j hj, rest_snoc T out i0 j hil hno]
    simp
  · intro j hj
    rw [← h.zero j hj]
    have := hp.mem_iff (a := j)
    rw [List.mem_append, List.mem_append] at this
    exact this.symm
  · intro a b x e i hil2 hm
    rcases List.eq_nil_or_concat b with rfl | ⟨b', z, rfl⟩
    · have e1 : a ++ x :: [] = a ++ [x] := rfl
      rw [e1] at e
      obtain ⟨h2, h3⟩ := List.append_inj' e rfl
      simp at h3
      subst h2 h3
      have hM : M.getD i0 0 = 0 := (h.zero i0 hil).1 (Or.inr hi)
      have hc := h.cnt i0 hil
      rw [hM] at hc
      have : rest T out i0 = 0 := by simp at hc; omega
      exact rest_zero this i hil2 hm
    · have e1 : a ++ x :: (b' ++ [z]) = (a ++ x :: b') ++ [z] := by simp
      rw [List.concat_eq_append, e1] at e
      obtain ⟨h2, _⟩ := List.append_inj' e rfl
      exact h.ord a b' x h2 i hil2 hm

/-- one thing fewer is missing for k: either something is still, or k is ready -/
theorem Ka.tell {k : Nat} (h : Ka T out H M ((k : Int) :: l)) (hk : k < T.length) :
    1 ≤ M.getD k 0 ∧ (M.getD k 0 - 1 ≠ 0 → Ka T out H (M.set k (M.getD k 0 - 1)) l) ∧ (M.getD k 0 - 1 = 0 → ∀ H', H'.Perm (k :: H) → Ka T out H' (M.set k (M.getD k 0 - 1)) l) := by
  have hkM : k < M.length := by rw [h.lenM]; exact hk
  have hck := h.cnt k hk
  rw [List.count_cons_self] at hck
  have h1 : 1 ≤ M.getD k 0 := by omega
  have hno : k ∉ out ∧ k ∉ H := by
    have : ¬ (k ∈ out ∨ k ∈ H) := fun q => by have := (h.zero k hk).1 q; omega
    exact ⟨fun q => this (Or.inl q), fun q => this (Or.inr q)⟩
  have hself : (M.set k (M.getD k 0 - 1)).getD k 0 = M.getD k 0 - 1 := by simp [hkM]
  have hoth : ∀ j, k ≠ j → (M.set k (M.getD k 0 - 1)).getD j 0 = M.getD j 0 := fun j e => by simp [e]
  have hcnt : ∀ j, j < T.length → (M.set k (M.getD k 0 - 1)).getD j 0 = ((rest T out j + l.count (j : Int) : Nat) : Int) := by
    intro j hj
    by_cases e : k = j
    · subst e; rw [hself]; omega
    · rw [hoth j e, h.cnt j hj, List.count_cons_of_ne (by omega)]
  refine ⟨h1, fun hne => ?_, fun he H' hp => ?_⟩
  · refine { lenM := by simp [h.lenM], nd := h.nd, lt := h.lt, cnt := hcnt, zero := ?_, ord := h.ord }
    intro j hj
    by_cases e : k = j
    · subst e
      rw [hself]
      constructor
      · rintro (q | q)
        · exact (hno.1 q).elim
        · exact (hno.2 q).elim
      · intro q; exact (hne q).elim
    · rw [hoth j e]; exact h.zero j hj
  · have hp2 : (out ++ H').Perm (k :: (out ++ H)) := (List.Perm.append_left out hp).trans List.perm_middle
    refine { lenM := by simp [h.lenM], nd := hp2.nodup_iff.2 (List.nodup_cons.2 ⟨by simp [hno.1, hno.2], h.nd⟩), lt := fun j hj => ?_, cnt := hcnt, zero := ?_, ord := h.ord }
    · rcases List.mem_cons.1 (hp2.mem_iff.1 hj) with q | q
      · rw [q]; exact hk
      · exact h.lt j q
    · intro j hj
      rw [hp.mem_iff, List.mem_cons]
      by_cases e : k = j
      · subst e
        rw [hself]
        constructor
        · intro _; exact he
        · intro _; exact Or.inr (Or.inl rfl)
      · rw [hoth j e, ← h.zero j hj]
        constructor
        · rintro (q | q | q)
          · exact Or.inl q
          · exact (e q.symm).elim
          · exact Or.inr q
        · rintro (q | q)
          · exact Or.inl q
          · exact Or.inr (Or.inr q)

theorem Ka.len (h : Ka T out H M l) : out.length + H.length ≤ T.length := by
  have := nodup_len T.length (out ++ H) h.nd h.lt
  simpa using this
end

/-- an order: each behind what it needs -/
def IsOrd (G : List (List Int)) (out : List Nat) : Prop := out.length = G.length ∧ out.Nodup ∧ (∀ k ∈ out, k < G.length) ∧ ∀ (a b : List Nat) (x : Nat), out = a ++ x :: b → ∀ k, E G x k → k ∈ a
/-- some of whom each needs one of them -/
def Stuck (G : List (List Int)) : Prop := ∃ S : Nat → Prop, (∃ x, S x) ∧ (∀ x, S x → x < G.length) ∧ ∀ x, S x → ∃ y, S y ∧ E G x y

theorem Ka.end_ {G T : List (List Int)} (hT : Turn G T) {out : List Nat} {M : List Int} (h : Ka T out [] M []) : (out.length = G.length → IsOrd G out) ∧ (out.length < G.length → Stuck G) := by
  have hl : T.length = G.length := hT.1
  constructor
  · intro e
    refine ⟨e, by simpa using h.nd, fun k hk => by rw [← hl]; exact h.lt k (by simpa using hk), fun a b x e2 k hE => ?_⟩
    have h2 := (hT.edge x k).2 hE
    exact h.ord a b x e2 k h2.1 h2.2.2
  · intro hlt
    refine ⟨fun x => x < G.length ∧ x ∉ out, ?_, fun x hx => hx.1, fun x hx => ?_⟩
    · refine Classical.byContradiction fun hno => ?_
      have hall : ∀ k, k < G.length → k ∈ out := fun k hk => Classical.byContradiction fun q => hno ⟨k, hk, q⟩
      have key : ∀ n (l : List Nat), (∀ k, k < n → k ∈ l) → n ≤ l.length := by
        intro n
        induction n with
        | zero => intro l _; exact Nat.zero_le _
        | succ n ih =>
          intro l h
          have hn : n ∈ l := h n (by omega)
          have h1 := ih (l.erase n) (fun k hk => (List.mem_erase_of_ne (by omega)).2 (h k (by omega)))
          rw [List.length_erase_of_mem hn] at h1
          have := List.length_pos_of_mem hn
          omega
      have := key G.length out hall
      omega
    · have hxl : x < T.length := by rw [hl]; exact hx.1
      have hM : M.getD x 0 ≠ 0 := fun q => by
        rcases (h.zero x hxl).2 q with q | q
        · exact hx.2 q
        · cases q
      have hc := h.cnt x hxl
      have hr : rest T out x ≠ 0 := by
        intro q
        rw [q] at hc
        simp at hc
        exact hM (by simpa using hc)
      obtain ⟨i, hi, hno, hm⟩ := rest_ne hr
      exact ⟨i, ⟨by rw [← hl]; exact hi, hno⟩, (hT.edge x i).1 ⟨hi, hxl, hm⟩⟩

theorem IsOrd.noWay {G : List (List Int)} {out : List Nat} (h : IsOrd G out) (j : Nat) : ¬ Way G j j := by
  obtain ⟨hlen, hnd, hlt, hord⟩ := h
  have key : ∀ n x k, Walk G (n + 1) x k → ∀ a b, out = a ++ x :: b → k ∈ a := by
    intro n
    induction n with
    | zero =>
      intro x k hw a b e
      obtain ⟨m, h1, h2⟩ := hw
      cases h1
      exact hord a b x e k h2
    | succ n ih =>
      intro x k hw a b e
      obtain ⟨m, h1, h2⟩ := hw.head
      have hm := hord a b x e m h1
      obtain ⟨a1, a2, e2⟩ := List.append_of_mem hm
      have := ih m k h2 a1 (a2 ++ x :: b) (by rw [e, e2]; simp)
      rw [e2]
      exact List.mem_append_left _ this
  rintro ⟨n, hw⟩
  have hj : j < G.length := (show Way G j j from ⟨n, hw⟩).lt.1
  have hmem : j ∈ out := by
    refine Classical.byContradiction fun hno => ?_
    have := nodup_len G.length (j :: out) (List.nodup_cons.2 ⟨hno, hnd⟩) (fun x hx => by
      rcases List.mem_cons.1 hx with q | q
      · rw [q]; exact hj
      · exact hlt x q)
    simp at this
    omega
  obtain ⟨a, b, e⟩ := List.append_of_mem hmem
  have := key n j j hw a b e
  rw [e] at hnd
  exact (List.nodup_append.1 hnd).2.2 j this j (by simp) rfl

theorem Stuck.way {G : List (List Int)} (h : Stuck G) : ∃ j, Way G j j := by
  obtain ⟨S, ⟨x, hx⟩, hlt, hs⟩ := h
  refine Classical.byContradiction fun hno => ?_
  have hno' : ∀ j, ¬ Way G j j := fun j q => hno ⟨j, q⟩
  have key : ∀ m, ∃ y l, (y :: l).Nodup ∧ (y :: l).length = m + 1 ∧ (∀ z ∈ y :: l, S z ∧ Pth G z y) := by
    intro m
    induction m with
    | zero => exact ⟨x, [], by simp, rfl, fun z hz => by simp at hz; subst hz; exact ⟨hx, Pth.refl _ _⟩⟩
    | succ m ih =>
      obtain ⟨y, l, hnd, hl, hall⟩ := ih
      obtain ⟨z, hz, hE⟩ := hs y (hall y (by simp)).1
      refine ⟨z, y :: l, List.nodup_cons.2 ⟨fun q => hno' z ((hall z q).2.way hE), hnd⟩, by simp at hl ⊢; omega, fun u hu => ?_⟩
      rcases List.mem_cons.1 hu with q | q
      · rw [q]; exact ⟨hz, Pth.refl _ _⟩
      · exact ⟨(hall u q).1, (hall u q).2.trans (Pth.one hE)⟩
  obtain ⟨y, l, hnd, hl, hall⟩ := key G.length
  have := nodup_len G.length (y :: l) hnd (fun z hz => hlt z (hall z hz).1)
  omega
end Gr
end Go.Proofs.Ytdcmdbhkaohkgaa
