/- Graphs: the order in which a walk that goes deep first leaves the places; what it says of ways. Plain lists. No condition. -/
import Derived.Test.YtdcmdbhkaohkgaaGrB
namespace Go.Proofs.Ytdcmdbhkaohkgaa
namespace Gr

/-- every need is a place -/
def Clean (G : List (List Int)) : Prop := ∀ i, i < G.length → ∀ x ∈ G.getD i [], ∃ k : Nat, x = (k : Int) ∧ k < G.length

theorem Turn.clean {G T : List (List Int)} (h : Turn G T) : Clean T := fun j hj x hx => by
  rw [h.1] at hj
  obtain ⟨i, e, hi, _⟩ := (h.2.2 j hj x).1 hx
  exact ⟨i, e, by rw [h.1]; exact hi⟩

/-- whoever was left: if it leads to one that was not left then, it does so by one that was not left then, and leads back -/
def Lv (G : List (List Int)) (out : List Nat) : Prop :=
  ∀ a b j, out = a ++ j :: b → ∀ v, v < G.length → v ∉ a → v ≠ j → Pth G j v → ∃ u, u < G.length ∧ u ∉ a ∧ u ≠ j ∧ Pth G j u ∧ Pth G u v ∧ Pth G u j

structure Dfs (G : List (List Int)) (out way asked : List Nat) (ent : List Bool) : Prop where
  lenA : asked.length = G.length
  lenE : ent.length = G.length
  ent_ : ∀ k, k < G.length → (ent.getD k false = true ↔ k ∈ out ∨ k ∈ way)
  nd : (out ++ way).Nodup
  lt : ∀ k ∈ out ++ way, k < G.length
  askle : ∀ k, k < G.length → asked.getD k 0 ≤ (G.getD k []).length
  zero : ∀ k, k < G.length → k ∉ out → k ∉ way → asked.getD k 0 = 0
  done : ∀ k ∈ out, ∀ y, E G k y → y ∈ out ∨ y ∈ way
  part : ∀ k ∈ way, ∀ y : Nat, (y : Int) ∈ (G.getD k []).take (asked.getD k 0) → y ∈ out ∨ y ∈ way
  chain : ∀ a b x y, way = a ++ x :: y :: b → E G x y
  lv : Lv G out

section
variable {G : List (List Int)} {out way asked : List Nat} {ent : List Bool}

theorem Dfs.start (G : List (List Int)) : Dfs G [] [] (List.replicate G.length 0) (List.replicate G.length false) where
  lenA := by simp
  lenE := by simp
  ent_ := fun k hk => by simp [hk]
  nd := by simp
  lt := fun k hk => by simp at hk
  askle := fun k hk => by simp [hk]
  zero := fun k hk _ _ => by simp [hk]
  done := fun k hk => by simp at hk
  part := fun k hk => by simp at hk
  chain := fun a b x y h => by simp at h
  lv := fun a b j h => by simp at h

/-- a place is entered: from nowhere, or by a need of the last on the way -/
theorem Dfs.enter (h : Dfs G out way asked ent) (x : Nat) (hx : x < G.length) (hE : ent.getD x false = false) (hw : ∀ a y, way = a ++ [y] → E G y x) :
    Dfs G out (way ++ [x]) asked (ent.set x true) := by
  have hno : x ∉ out ∧ x ∉ way := by
    have : ¬ (x ∈ out ∨ x ∈ way) := fun q => by have := (h.ent_ x hx).2 q; rw [hE] at this; cases this
    exact ⟨fun q => this (Or.inl q), fun q => this (Or.inr q)⟩
  have hxl : x < ent.length := by rw [h.lenE]; exact hx
  refine { lenA := h.lenA, lenE := by simp [h.lenE], ent_ := ?_, nd := ?_, lt := ?_, askle := h.askle, zero := ?_, done := ?_, part := ?_, chain := ?_, lv := h.lv }
  · intro k hk
    by_cases e : x = k
    · subst e; simp [hxl]
    · have e' : ¬ k = x := fun q => e q.symm
      have : (ent.set x true).getD k false = ent.getD k false := by simp [e]
      rw [this, h.ent_ k hk]
      simp [e']
  · rw [← List.append_assoc, List.nodup_append]
    refine ⟨h.nd, by simp, fun a ha b hb => ?_⟩
    simp at hb
    subst hb
    rcases List.mem_append.1 ha with q | q
    · exact fun e => hno.1 (e ▸ q)
    · exact fun e => hno.2 (e ▸ q)
  · intro k hk
    rw [← List.append_assoc] at hk
    rcases List.mem_append.1 hk with q | q
    · exact h.lt k q
    · simp at q; subst q; exact hx
  · intro k hk h1 h2
    exact h.zero k hk h1 (fun q => h2 (List.mem_append_left _ q))
  · intro k hk y hy
    rcases h.done k hk y hy with q | q
    · exact Or.inl q
    · exact Or.inr (List.mem_append_left _ q)
  · intro k hk y hy
    rcases List.mem_append.1 hk with q | q
    · rcases h.part k q y hy with q | q
      · exact Or.inl q
      · exact Or.inr (List.mem_append_left _ q)
    · simp at q
      subst q
      rw [h.zero k hx hno.1 hno.2] at hy
      simp at hy
  · intro a b u y hab
    rcases List.eq_nil_or_concat b with rfl | ⟨b', z, rfl⟩
    · have h1 : a ++ u :: y :: [] = (a ++ [u]) ++ [y] := by simp
      rw [h1] at hab
      obtain ⟨h2, h3⟩ := List.append_inj' hab rfl
      simp at h3
      subst h3
      exact hw a u h2
    · have h1 : a ++ u :: y :: (b' ++ [z]) = (a ++ u :: y :: b') ++ [z] := by simp
      rw [List.concat_eq_append, h1] at hab
      obtain ⟨h2, _⟩ := List.append_inj' hab rfl
      exact h.chain a b' u y h2

theorem natgetD_set (A : List Nat) (t k v : Nat) (ht : t < A.length) : (A.set t v).getD k 0 = if k = t then v else A.getD k 0 := by
  by_cases e : t = k
  · subst e; simp [ht]
  · have e' : ¬ k = t := fun q => e q.symm
    simp [e, e']

/-- one more need of t is asked for, which was entered -/
theorem Dfs.ask (h : Dfs G out way asked ent) (t : Nat) (ht : t ∈ way) (hlt : asked.getD t 0 < (G.getD t []).length)
    (hx : ∀ y : Nat, (G.getD t []).getD (asked.getD t 0) 0 = (y : Int) → y ∈ out ∨ y ∈ way) : Dfs G out way (asked.set t (asked.getD t 0 + 1)) ent := by
  have htn : t < G.length := h.lt t (List.mem_append_right _ ht)
  have hset := fun k => natgetD_set asked t k (asked.getD t 0 + 1) (by rw [h.lenA]; exact htn)
  refine { h with lenA := by simp [h.lenA], askle := ?_, zero := ?_, part := ?_ }
  · intro k hk
    rw [hset k]
    split
    · rename_i e; subst e; omega
    · exact h.askle k hk
  · intro k hk h1 h2
    rw [hset k, if_neg (fun e : k = t => h2 (by rw [e]; exact ht))]
    exact h.zero k hk h1 h2
  · intro k hk y hy
    rw [hset k] at hy
    split at hy
    · rename_i e
      subst e
      rw [take_snoc _ _ hlt] at hy
      rcases List.mem_append.1 hy with q | q
      · exact h.part k hk y q
      · simp at q
        exact hx y (by simpa using q.symm)
    · exact h.part k hk y hy

theorem Dfs.down (h : Dfs G out way asked ent) : ∀ (b a : List Nat) (x t : Nat), way = a ++ x :: b ++ [t] → Pth G x t := by
  intro b
  induction b with
  | nil => intro a x t e; exact Pth.one (h.chain a [] x t (by rw [e]; simp))
  | cons y b ih =>
    intro a x t e
    exact (Pth.one (h.chain a (b ++ [t]) x y (by rw [e]; simp))).trans (ih (a ++ [x]) y t (by rw [e]; simp))

/-- from what was left to what was not: over one on the way -/
theorem escape (out w0 : List Nat) (hd : ∀ k ∈ out, ∀ y, E G k y → y ∈ out ∨ y ∈ w0) (v : Nat) (hv : v ∉ out) : ∀ n x, x ∈ out → Walk G n x v → ∃ u, u ∈ w0 ∧ u ∉ out ∧ Pth G x u ∧ Pth G u v := by
  intro n
  induction n with
  | zero => intro x hx hw; cases hw; exact (hv hx).elim
  | succ n ih =>
    intro x hx hw
    obtain ⟨m, h1, h2⟩ := hw.head
    by_cases hm : m ∈ out
    · obtain ⟨u, a, b, c, d⟩ := ih m hm h2
      exact ⟨u, a, b, (Pth.one h1).trans c, d⟩
    · exact ⟨m, (hd x hx m h1).resolve_left hm, hm, Pth.one h1, n, h2⟩

/-- the last on the way is left: all its needs were entered -/
theorem Dfs.leave {w0 : List Nat} {t : Nat} (h : Dfs G out (w0 ++ [t]) asked ent) (hfull : asked.getD t 0 = (G.getD t []).length) : Dfs G (out ++ [t]) w0 asked ent := by
  have htw : t ∈ w0 ++ [t] := by simp
  have htn : t < G.length := h.lt t (List.mem_append_right _ htw)
  have hdone : ∀ k ∈ out ++ [t], ∀ y, E G k y → y ∈ out ++ [t] ∨ y ∈ w0 := by
    intro k hk y hy
    have : y ∈ out ∨ y ∈ w0 ++ [t] := by
      rcases List.mem_append.1 hk with q | q
      · exact h.done k q y hy
      · simp at q
        subst q
        exact h.part k htw y (by rw [hfull, List.take_length]; exact hy.2.2)
    rcases this with q | q
    · exact Or.inl (List.mem_append_left _ q)
    · rcases List.mem_append.1 q with q | q
      · exact Or.inr q
      · exact Or.inl (List.mem_append_right _ q)
  have hperm : (out ++ (w0 ++ [t])).Perm (out ++ [t] ++ w0) := by
    rw [List.append_assoc]
    exact List.Perm.append_left out List.perm_append_comm
  refine { lenA := h.lenA, lenE := h.lenE, ent_ := ?_, nd := hperm.nodup_iff.1 h.nd, lt := fun k hk => h.lt k (hperm.mem_iff.2 hk), askle := h.askle, zero := ?_, done := hdone, part := ?_, chain := ?_, lv := ?_ }
  · intro k hk
    rw [h.ent_ k hk]
    simp only [List.mem_append, List.mem_singleton]
    constructor
    · rintro (q | q | q)
      · exact Or.inl (Or.inl q)
      · exact Or.inr q
      · exact Or.inl (Or.inr q)
    · rintro ((q | q) | q)
      · exact Or.inl q
      · exact Or.inr (Or.inr q)
      · exact Or.inr (Or.inl q)
  · intro k hk h1 h2
    exact h.zero k hk (fun q => h1 (List.mem_append_left _ q)) (fun q => by
      rcases List.mem_append.1 q with q | q
      · exact h2 q
      · exact h1 (List.mem_append_right _ q))
  · intro k hk y hy
    rcases h.part k (List.mem_append_left _ hk) y hy with q | q
    · exact Or.inl (List.mem_append_left _ q)
    · rcases List.mem_append.1 q with q | q
      · exact Or.inr q
      · exact Or.inl (List.mem_append_right _ q)
  · intro a b x y e
    exact h.chain a (b ++ [t]) x y (by rw [e]; simp)
  · intro a b j e v hv hva hvj hp
    rcases List.eq_nil_or_concat b with rfl | ⟨b', z, rfl⟩
    · have e1 : a ++ j :: [] = a ++ [j] := rfl
      rw [e1] at e
      obtain ⟨h2, h3⟩ := List.append_inj' e rfl
      simp at h3
      subst h2 h3
      obtain ⟨n, hw⟩ := hp
      have hvn : v ∉ out ++ [t] := by simp [hva, hvj]
      obtain ⟨u, hu, huo, hju, huv⟩ := escape (out ++ [t]) w0 hdone v hvn n t (by simp) hw
      refine ⟨u, h.lt u (by simp [hu]), fun q => huo (List.mem_append_left _ q), fun q => huo (by rw [q]; simp), hju, huv, ?_⟩
      obtain ⟨p, q, e2⟩ := List.append_of_mem hu
      exact h.down q p u t (by rw [e2])
    · have e1 : a ++ j :: (b' ++ [z]) = (a ++ j :: b') ++ [z] := by simp
      rw [List.concat_eq_append, e1] at e
      obtain ⟨h2, _⟩ := List.append_inj' e rfl
      exact h.lv a b' j h2 v hv hva hvj hp

/-- how many needs are still to be asked for -/
def slack : List (List Int) → List Nat → Nat
  | g :: G, a :: A => (g.length - a) + slack G A
  | _, _ => 0

theorem slack_set (G : List (List Int)) (A : List Nat) (t : Nat) (h1 : t < G.length) (h2 : t < A.length) (hlt : A.getD t 0 < (G.getD t []).length) : slack G (A.set t (A.getD t 0 + 1)) + 1 = slack G A := by
  induction G generalizing A t with
  | nil => simp at h1
  | cons g G ih =>
    cases A with
    | nil => simp at h2
    | cons a A =>
      cases t with
      | zero => simp at hlt; simp [slack]; omega
      | succ t =>
        have := ih A t (by simpa using h1) (by simpa using h2) (by simpa using hlt)
        simp [slack] at this ⊢
        omega

/-- Kosaraju: from the last left to the first: whoever leads to i is led to by i, if it was not gone through -/
theorem kosaraju (o : List Nat) (hlv : Lv G o) (hnd : o.Nodup) (hall : ∀ k, k < G.length → k ∈ o) (M : Nat → Prop) (hM : ∀ x y, E G x y → M y → M x)
    (a b : List Nat) (i : Nat) (ho : o = a ++ i :: b) (hb : ∀ k ∈ b, M k) (hi : i < G.length) : ∀ n (j : Nat) (p q : List Nat), q.length ≤ n → a = p ++ j :: q → ¬ M j → Pth G j i → Pth G i j := by
  have hMp : ∀ n x y, Walk G n x y → M y → M x := by
    intro n
    induction n with
    | zero => intro x y h hy; cases h; exact hy
    | succ n ih => intro x y h hy; obtain ⟨m, h1, h2⟩ := h; exact ih x m h1 (hM m y h2 hy)
  intro n
  induction n with
  | zero =>
    intro j p q hq ha hj hp
    have hq0 : q = [] := List.eq_nil_of_length_eq_zero (by omega)
    subst hq0
    have hoj : o = p ++ j :: (i :: b) := by rw [ho, ha]; simp
    have hnd2 := hnd
    rw [hoj] at hnd2
    obtain ⟨_, hnd3, hdis⟩ := List.nodup_append.1 hnd2
    have hnd4 := List.nodup_cons.1 hnd3
    obtain ⟨u, hu, hup, huj, h1, h2, h3⟩ := hlv p (i :: b) j hoj i hi (fun e => hdis i e i (by simp) rfl) (fun e => hnd4.1 (by rw [← e]; simp)) hp
    have huM : ¬ M u := by obtain ⟨m, hw⟩ := h1; exact fun e => hj (hMp m j u hw e)
    have : u ∈ o := hall u hu
    rw [hoj] at this
    simp only [List.mem_append, List.mem_cons] at this
    rcases this with e | e | e | e
    · exact (hup e).elim
    · exact (huj e).elim
    · rw [← e]; exact h3
    · exact (huM (hb u e)).elim
  | succ n ih =>
    intro j p q hq ha hj hp
    have hoj : o = p ++ j :: (q ++ i :: b) := by rw [ho, ha]; simp
    have hnd2 := hnd
    rw [hoj] at hnd2
    obtain ⟨_, hnd3, hdis⟩ := List.nodup_append.1 hnd2
    have hnd4 := List.nodup_cons.1 hnd3
    obtain ⟨u, hu, hup, huj, h1, h2, h3⟩ := hlv p (q ++ i :: b) j hoj i hi (fun e => hdis i e i (by simp) rfl) (fun e => hnd4.1 (by rw [← e]; simp)) hp
    have huM : ¬ M u := by obtain ⟨m, hw⟩ := h1; exact fun e => hj (hMp m j u hw e)
    have : u ∈ o := hall u hu
    rw [hoj] at this
    simp only [List.mem_append, List.mem_cons] at this
    rcases this with e | e | e | e | e
    · exact (hup e).elim
    · exact (huj e).elim
    · obtain ⟨q1, q2, e2⟩ := List.append_of_mem e
      have := ih u (p ++ j :: q1) q2 (by rw [e2] at hq; simp at hq; omega) (by rw [ha, e2]; simp) huM h2
      exact this.trans h3
    · rw [← e]; exact h3
    · exact (huM (hb u e)).elim
end
end Gr
end Go.Proofs.Ytdcmdbhkaohkgaa
