/- Plain lists: an order that has the least one first at each place. No condition. · Plain lists: the lives of variables in an order. No condition. -/
import Derived.Test.YtpcpbpinhdbjiaaZGrAToGrF
import Derived.Test.YtpcpbpinhdbjiaaZPlE
namespace Go.Proofs.Ytpcpbpinhdbjiaa
set_option linter.unusedVariables false
set_option linter.unusedSimpArgs false
namespace Gr
/-- x may stand next behind those of a -/
def Rdy (G : List (List Int)) (a : List Nat) (x : Nat) : Prop := x < G.length ∧ x ∉ a ∧ ∀ k, E G x k → k ∈ a
/-- an order that has the least one that may stand there at each place -/
def IsLst (G : List (List Int)) (out : List Nat) : Prop := ∀ (a b : List Nat) (x : Nat), out = a ++ x :: b → Rdy G a x ∧ ∀ y, Rdy G a y → x ≤ y

theorem IsLst.nil (G : List (List Int)) : IsLst G [] := fun a b x h => by simp at h
theorem IsLst.snoc {G : List (List Int)} {out : List Nat} (h : IsLst G out) {x : Nat} (hx : Rdy G out x) (hm : ∀ y, Rdy G out y → x ≤ y) : IsLst G (out ++ [x]) := by
  intro a b z e
  rcases List.eq_nil_or_concat b with rfl | ⟨b', u, rfl⟩
  · have e1 : a ++ z :: [] = a ++ [z] := rfl
    rw [e1] at e
    obtain ⟨h2, h3⟩ := List.append_inj' e rfl
    simp at h3
    subst h2 h3
    exact ⟨hx, hm⟩
  · have e1 : a ++ z :: (b' ++ [u]) = (a ++ z :: b') ++ [u] := by simp
    rw [List.concat_eq_append, e1] at e
    obtain ⟨h2, _⟩ := List.append_inj' e rfl
    exact h a b' z h2
/-- there is one such order at most -/
theorem IsLst.uniq {G : List (List Int)} : ∀ (r1 r2 p : List Nat), IsLst G (p ++ r1) → IsLst G (p ++ r2) → (∀ y, ¬ Rdy G (p ++ r1) y) → (∀ y, ¬ Rdy G (p ++ r2) y) → r1 = r2 := by
  intro r1
  induction r1 with
  | nil =>
    intro r2 p h1 h2 n1 n2
    cases r2 with
    | nil => rfl
    | cons x b => exact absurd (h2 p b x rfl).1 (by simpa using n1 x)
  | cons x b ih =>
    intro r2 p h1 h2 n1 n2
    cases r2 with
    | nil => exact absurd (h1 p b x rfl).1 (by simpa using n2 x)
    | cons y c =>
      obtain ⟨g1, g2⟩ := h1 p b x rfl
      obtain ⟨k1, k2⟩ := h2 p c y rfl
      have e : x = y := Nat.le_antisymm (g2 y k1) (k2 x g1)
      subst e
      have e1 : ∀ l : List Nat, p ++ x :: l = (p ++ [x]) ++ l := fun l => by simp
      rw [e1] at h1 h2 n1 n2
      rw [ih c (p ++ [x]) h1 h2 n1 n2]
theorem IsLst.one {G : List (List Int)} {a b : List Nat} (h1 : IsLst G a) (h2 : IsLst G b) (n1 : ∀ y, ¬ Rdy G a y) (n2 : ∀ y, ¬ Rdy G b y) : a = b :=
  IsLst.uniq a b [] (by simpa using h1) (by simpa using h2) (by simpa using n1) (by simpa using n2)
theorem IsLst.nd {G : List (List Int)} {out : List Nat} (h : IsLst G out) : out.Nodup := by
  have key : ∀ (r p : List Nat), p.Nodup → IsLst G (p ++ r) → (p ++ r).Nodup := by
    intro r
    induction r with
    | nil => intro p hp _; simpa using hp
    | cons x r ih =>
      intro p hp hl
      have := (hl p r x rfl).1.2.1
      have e : p ++ x :: r = (p ++ [x]) ++ r := by simp
      rw [e] at hl ⊢
      exact ih _ (List.nodup_append.2 ⟨hp, by simp, fun a ha b hb q => by simp at hb; subst hb; subst q; exact this ha⟩) hl
  simpa using key out [] (by simp) (by simpa using h)
theorem IsLst.lt {G : List (List Int)} {out : List Nat} (h : IsLst G out) : ∀ x ∈ out, x < G.length := fun x hx => by
  obtain ⟨a, b, e⟩ := List.append_of_mem hx
  exact (h a b x e).1.1
theorem IsLst.len {G : List (List Int)} {out : List Nat} (h : IsLst G out) : out.length ≤ G.length := nodup_len _ _ h.nd h.lt
/-- all stand in it: it is an order -/
theorem IsLst.ord {G : List (List Int)} {out : List Nat} (h : IsLst G out) (hl : out.length = G.length) : IsOrd G out :=
  ⟨hl, h.nd, h.lt, fun a b x e k hE => (h a b x e).1.2.2 k hE⟩
theorem mem_of_full {n : Nat} {l : List Nat} (hn : l.Nodup) (hlt : ∀ x ∈ l, x < n) (hl : l.length = n) (k : Nat) (hk : k < n) : k ∈ l := by
  refine Classical.byContradiction fun hno => ?_
  have := nodup_len n (k :: l) (List.nodup_cons.2 ⟨hno, hn⟩) (fun x hx => by
    rcases List.mem_cons.1 hx with q | q
    · rw [q]; exact hk
    · exact hlt x q)
  simp at this
  omega
theorem IsLst.full {G : List (List Int)} {out : List Nat} (h : IsLst G out) (hl : out.length = G.length) (y : Nat) : ¬ Rdy G out y := fun q =>
  q.2.1 (mem_of_full h.nd h.lt hl y q.1)
/-- who is ready is who may stand next -/
theorem Ka.rdy {G T : List (List Int)} (hT : Turn G T) {out H : List Nat} {M : List Int} (h : Ka T out H M []) (y : Nat) : Rdy G out y ↔ y ∈ H := by
  have hl : T.length = G.length := hT.1
  constructor
  · rintro ⟨h1, h2, h3⟩
    have hy : y < T.length := by rw [hl]; exact h1
    have hr : rest T out y = 0 := Classical.byContradiction fun q => by
      obtain ⟨i, hi, hno, hm⟩ := rest_ne q
      exact hno (h3 i ((hT.edge y i).1 ⟨hi, hy, hm⟩))
    have hM : M.getD y 0 = 0 := by rw [h.cnt y hy, hr]; simp
    rcases (h.zero y hy).2 hM with q | q
    · exact (h2 q).elim
    · exact q
  · intro hH
    have hy : y < T.length := h.lt y (List.mem_append_right _ hH)
    obtain ⟨hn1, hn2, hdis⟩ := List.nodup_append.1 h.nd
    have hM : M.getD y 0 = 0 := (h.zero y hy).1 (Or.inr hH)
    have hr : rest T out y = 0 := by have := h.cnt y hy; rw [hM] at this; simp at this; omega
    refine ⟨by rw [← hl]; exact hy, fun q => hdis y q y hH rfl, fun k hE => ?_⟩
    have h2 := (hT.edge y k).2 hE
    exact rest_zero hr k h2.1 h2.2.2
/-- the least one of those that are ready comes out -/
theorem Ka.least {G T : List (List Int)} (hT : Turn G T) {out H : List Nat} {M : List Int} (h : Ka T out H M []) (hl : IsLst G out) (i0 : Nat) (hi : i0 ∈ H) (hm : ∀ y ∈ H, i0 ≤ y) : IsLst G (out ++ [i0]) :=
  hl.snoc ((h.rdy hT i0).2 hi) fun y hy => hm y ((h.rdy hT y).1 hy)
/-- nobody may stand next, where nobody is ready -/
theorem Ka.none {G T : List (List Int)} (hT : Turn G T) {out : List Nat} {M : List Int} (h : Ka T out [] M []) (y : Nat) : ¬ Rdy G out y := fun q => by
  have := (h.rdy hT y).1 q
  cases this

end Gr
end Go.Proofs.Ytpcpbpinhdbjiaa

namespace Go.Proofs.Ytpcpbpinhdbjiaa
set_option linter.unusedVariables false
set_option linter.unusedSimpArgs false
set_option maxRecDepth 100000
open Go.RowKit

/-- a row that has each of n places once -/
structure Once (o : List Int) (n : Nat) : Prop where
  len : o.length = n
  pl : ∀ x ∈ o, 0 ≤ x ∧ x < (n : Int)
  nd : o.Nodup
theorem toNat_nd : ∀ (o : List Int), o.Nodup → (∀ x ∈ o, 0 ≤ x) → (o.map Int.toNat).Nodup := by
  intro o
  induction o with
  | nil => intro _ _; simp
  | cons a o ih =>
    intro h hp
    obtain ⟨h1, h2⟩ := List.nodup_cons.1 h
    rw [List.map_cons, List.nodup_cons]
    refine ⟨fun hm => ?_, ih h2 fun x hx => hp x (List.mem_cons_of_mem _ hx)⟩
    obtain ⟨y, hy, e⟩ := List.mem_map.1 hm
    have e1 := hp a List.mem_cons_self
    have e2 := hp y (List.mem_cons_of_mem _ hy)
    have : y = a := by omega
    exact h1 (this ▸ hy)
theorem Once.mem {o : List Int} {n : Nat} (h : Once o n) {v : Nat} (hv : v < n) : (v : Int) ∈ o := by
  have h1 := Gr.mem_of_full (n := n) (l := o.map Int.toNat) (toNat_nd o h.nd fun x hx => (h.pl x hx).1) (fun x hx => by
    obtain ⟨y, hy, rfl⟩ := List.mem_map.1 hx
    have := h.pl y hy; omega) (by simp [h.len]) v hv
  obtain ⟨y, hy, e⟩ := List.mem_map.1 h1
  have := (h.pl y hy).1
  have : (v : Int) = y := by omega
  rw [this]; exact hy
theorem plc_mem {o : List Int} {x : Int} (h : x ∈ o) : ∃ i : Nat, i < o.length ∧ plc o x = (i : Int) ∧ o.getD i 0 = x := by
  unfold plc
  cases e : o.findIdx? (fun y => y == x) with
  | none =>
    rw [List.findIdx?_eq_none_iff] at e
    have := e x h
    simp at this
  | some i =>
    obtain ⟨hi, h1, _⟩ := List.findIdx?_eq_some_iff_getElem.1 e
    refine ⟨i, hi, rfl, ?_⟩
    simp at h1
    simp [hi, h1]
theorem nd_inj {o : List Int} (h : o.Nodup) {i j : Nat} (hi : i < o.length) (hj : j < o.length) (e : o.getD i 0 = o.getD j 0) : i = j := by
  have e1 : o[i] = o[j] := by simpa [hi, hj] using e
  exact (List.getElem_inj h).1 e1
theorem Once.plc {o : List Int} {n : Nat} (h : Once o n) {v : Nat} (hv : v < n) : ∃ i : Nat, i < n ∧ plc o (v : Int) = (i : Int) ∧ o.getD i 0 = (v : Int) := by
  have := plc_mem (h.mem hv); rwa [h.len] at this
theorem Once.plc_get {o : List Int} {n : Nat} (h : Once o n) {i : Nat} (hi : i < n) : Go.Proofs.Ytpcpbpinhdbjiaa.plc o (o.getD i 0) = (i : Int) := by
  have hi' : i < o.length := by rw [h.len]; exact hi
  obtain ⟨j, hj, e1, e2⟩ := plc_mem (getD_mem hi')
  rw [e1, nd_inj h.nd hj hi' e2]
theorem Once.get {o : List Int} {n : Nat} (h : Once o n) {i : Nat} (hi : i < n) : ∃ v : Nat, v < n ∧ o.getD i 0 = (v : Int) := by
  have := h.pl _ (getD_mem (show i < o.length by rw [h.len]; exact hi))
  exact ⟨(o.getD i 0).toNat, by omega, by omega⟩

/-- the greatest one of p and those of whom P holds -/
def MaxIn (P : Int → Prop) (p m : Int) : Prop := p ≤ m ∧ (∀ x, P x → x ≤ m) ∧ (m = p ∨ P m)
theorem MaxIn.uniq {P Q : Int → Prop} {p m m' : Int} (h : MaxIn P p m) (k : MaxIn Q p m') (e : ∀ x, P x ↔ Q x) : m = m' := by
  obtain ⟨a1, a2, a3⟩ := h
  obtain ⟨b1, b2, b3⟩ := k
  apply Int.le_antisymm
  · rcases a3 with q | q
    · rw [q]; exact b1
    · exact b2 _ ((e _).1 q)
  · rcases b3 with q | q
    · rw [q]; exact a1
    · exact a2 _ ((e _).2 q)
theorem MaxIn.congr {P Q : Int → Prop} {p m : Int} (h : MaxIn P p m) (e : ∀ x, P x ↔ Q x) : MaxIn Q p m :=
  ⟨h.1, fun x hx => h.2.1 x ((e x).2 hx), h.2.2.imp id (e m).1⟩
theorem MaxIn.none {P : Int → Prop} (p : Int) (h : ∀ x, ¬ P x) : MaxIn P p p := ⟨Int.le_refl _, fun x hx => (h x hx).elim, .inl rfl⟩
theorem MaxIn.add {P : Int → Prop} {p m : Int} (h : MaxIn P p m) (y : Int) : MaxIn (fun x => P x ∨ x = y) p (max m y) := by
  obtain ⟨a1, a2, a3⟩ := h
  refine ⟨by omega, fun x hx => ?_, ?_⟩
  · rcases hx with q | q
    · have := a2 x q; omega
    · omega
  · rcases Int.le_total m y with q | q
    · right; right; omega
    · have e : max m y = m := by omega
      rw [e]; rcases a3 with r | r
      · exact .inl r
      · exact .inr (.inl r)
theorem lastTo_max (G : List (List Int)) (o : List Int) (u : Nat) : ∀ k, MaxIn (fun x => ∃ i : Nat, i < k ∧ ndB G (o.getD i 0) (u : Int) = true ∧ x = (i : Int)) (plc o (u : Int)) (lastTo G o u k) := by
  intro k
  induction k with
  | zero => exact MaxIn.none _ fun x ⟨i, hi, _⟩ => by omega
  | succ k ih =>
    unfold lastTo
    by_cases h : ndB G (o.getD k 0) (u : Int) = true
    · rw [if_pos h]
      refine (ih.add (k : Int)).congr fun x => ⟨?_, ?_⟩
      · rintro (⟨i, h1, h2, h3⟩ | q)
        · exact ⟨i, by omega, h2, h3⟩
        · exact ⟨k, by omega, h, q⟩
      · rintro ⟨i, h1, h2, h3⟩
        by_cases e : i = k
        · subst e; exact .inr h3
        · exact .inl ⟨i, by omega, h2, h3⟩
    · rw [if_neg h]
      refine ih.congr fun x => ⟨fun ⟨i, h1, h2, h3⟩ => ⟨i, by omega, h2, h3⟩, fun ⟨i, h1, h2, h3⟩ => ⟨i, ?_, h2, h3⟩⟩
      by_cases e : i = k
      · subst e; exact (h h2).elim
      · omega

/-- two graphs of n places in which each place needs the same -/
structure SameG (G H : List (List Int)) (n : Nat) : Prop where
  l1 : G.length = n
  l2 : H.length = n
  same : ∀ i, i < n → ∀ x, x ∈ G.getD i [] ↔ x ∈ H.getD i []
theorem SameG.nd {G H : List (List Int)} {n : Nat} (h : SameG G H n) (I K : Int) : ndB G I K = ndB H I K := by
  unfold ndB
  rw [h.l1, h.l2]
  by_cases h1 : 0 ≤ I ∧ I < (n : Int)
  · have := h.same I.toNat (by omega) K
    simp only [this]
  · have : (decide (0 ≤ I) && decide (I < (n : Int))) = false := by simp; omega
    simp only [this, Bool.false_and]
theorem SameG.e {G H : List (List Int)} {n : Nat} (h : SameG G H n) (i k : Nat) : Gr.E G i k ↔ Gr.E H i k := by
  unfold Gr.E
  rw [h.l1, h.l2]
  constructor
  · rintro ⟨h1, h2, h3⟩; exact ⟨h1, h2, (h.same i h1 _).1 h3⟩
  · rintro ⟨h1, h2, h3⟩; exact ⟨h1, h2, (h.same i h1 _).2 h3⟩

/-- first places, last places: two numbers for each variable -/
structure LvA (o : List Int) (n i : Nat) (xs : List Int) : Prop where
  len : xs.length = n * 2
  get : ∀ j v : Nat, j < i → v < n → o.getD j 0 = (v : Int) → xs.getD (v * 2) 0 = (j : Int) ∧ xs.getD (v * 2 + 1) 0 = (j : Int)
theorem getD_set (xs : List Int) (i k : Nat) (u : Int) (hi : i < xs.length) : (xs.set i u).getD k 0 = if k = i then u else xs.getD k 0 := by
  by_cases e : k = i
  · subst e; simp [hi]
  · rw [if_neg e]; simp [Ne.symm e]
theorem LvA.step {o : List Int} {n i v : Nat} {xs : List Int} (h : LvA o n i xs) (ho : Once o n) (hi : i < n) (hv : v < n) (e : o.getD i 0 = (v : Int)) : LvA o n (i + 1) ((xs.set (v * 2) (i : Int)).set (v * 2 + 1) (i : Int)) := by
  have hl := h.len
  refine ⟨by simp [hl], fun j u hj hu hju => ?_⟩
  have g : ∀ k, ((xs.set (v * 2) (i : Int)).set (v * 2 + 1) (i : Int)).getD k 0 = if k = v * 2 + 1 then (i : Int) else if k = v * 2 then (i : Int) else xs.getD k 0 := fun k => by
    rw [getD_set _ (v * 2 + 1) k _ (by rw [List.length_set]; omega), getD_set _ (v * 2) k _ (by omega)]
  rw [g, g]
  by_cases hji : j = i
  · subst hji
    have : u = v := by rw [hju] at e; omega
    subst this
    rw [if_neg (by omega), if_pos rfl, if_pos rfl]
    exact ⟨rfl, rfl⟩
  · have huv : u ≠ v := fun q => hji (nd_inj ho.nd (by rw [ho.len]; omega) (by rw [ho.len]; omega) (by rw [hju, e, q]))
    rw [if_neg (by omega), if_neg (by omega), if_neg (by omega), if_neg (by omega)]
    exact h.get j u (by omega) hu hju
/-- v' needs u, as far as seen: all rows ahead of v, and p numbers of row v -/
def NeedTo (G : List (List Int)) (v p v' u : Nat) : Prop := (v' < v ∧ (u : Int) ∈ G.getD v' []) ∨ (v' = v ∧ (u : Int) ∈ (G.getD v []).take p)
structure LvB (G : List (List Int)) (o : List Int) (n v p : Nat) (xs : List Int) : Prop where
  len : xs.length = n * 2
  fst : ∀ u : Nat, u < n → xs.getD (u * 2) 0 = plc o (u : Int)
  lst : ∀ u : Nat, u < n → MaxIn (fun x => ∃ v', NeedTo G v p v' u ∧ x = plc o (v' : Int)) (plc o (u : Int)) (xs.getD (u * 2 + 1) 0)
theorem LvA.done {o : List Int} {n : Nat} {xs : List Int} (h : LvA o n n xs) (ho : Once o n) (G : List (List Int)) : LvB G o n 0 0 xs := by
  refine ⟨h.len, fun u hu => ?_, fun u hu => ?_⟩
  · obtain ⟨i, hi, e1, e2⟩ := ho.plc hu
    rw [e1]; exact (h.get i u hi hu e2).1
  · obtain ⟨i, hi, e1, e2⟩ := ho.plc hu
    rw [(h.get i u hi hu e2).2, ← e1]
    refine MaxIn.none _ fun x ⟨v', hv, _⟩ => ?_
    rcases hv with ⟨q, _⟩ | ⟨_, q⟩
    · omega
    · simp at q
theorem LvB.add {G : List (List Int)} {o : List Int} {n v p u : Nat} {xs : List Int} (h : LvB G o n v p xs) (hp : p < (G.getD v []).length) (hu : u < n) (hx : (G.getD v []).getD p 0 = (u : Int)) :
    LvB G o n v (p + 1) (xs.set (u * 2 + 1) (max (xs.getD (u * 2 + 1) 0) (plc o (v : Int)))) := by
  have hl := h.len
  have ht : (G.getD v []).take (p + 1) = (G.getD v []).take p ++ [(u : Int)] := by rw [← hx]; exact Gr.take_snoc _ p hp
  refine ⟨by simp [hl], fun y hy => ?_, fun y hy => ?_⟩
  · rw [getD_set _ _ _ _ (by omega), if_neg (by omega)]; exact h.fst y hy
  · rw [getD_set _ _ _ _ (by omega)]
    by_cases e : y = u
    · subst e
      rw [if_pos rfl]
      refine ((h.lst y hy).add (plc o (v : Int))).congr fun x => ⟨?_, ?_⟩
      · rintro (⟨v', q | ⟨q, r⟩, hz⟩ | q)
        · exact ⟨v', .inl q, hz⟩
        · exact ⟨v', .inr ⟨q, by rw [ht]; exact List.mem_append_left _ r⟩, hz⟩
        · exact ⟨v, .inr ⟨rfl, by rw [ht]; simp⟩, q⟩
      · rintro ⟨v', q | ⟨q, r⟩, hz⟩
        · exact .inl ⟨v', .inl q, hz⟩
        · rw [q] at hz; exact .inr hz
    · rw [if_neg (by omega)]
      refine (h.lst y hy).congr fun x => ⟨?_, ?_⟩
      · rintro ⟨v', q | ⟨q, r⟩, hx⟩
        · exact ⟨v', .inl q, hx⟩
        · exact ⟨v', .inr ⟨q, by rw [ht]; exact List.mem_append_left _ r⟩, hx⟩
      · rintro ⟨v', q | ⟨q, r⟩, hx⟩
        · exact ⟨v', .inl q, hx⟩
        · rw [ht, List.mem_append] at r
          rcases r with r | r
          · exact ⟨v', .inr ⟨q, r⟩, hx⟩
          · simp at r; omega
theorem LvB.next {G : List (List Int)} {o : List Int} {n v : Nat} {xs : List Int} (h : LvB G o n v (G.getD v []).length xs) : LvB G o n (v + 1) 0 xs := by
  refine ⟨h.len, h.fst, fun u hu => (h.lst u hu).congr fun x => ⟨?_, ?_⟩⟩
  · rintro ⟨v', q | ⟨q, r⟩, hx⟩
    · exact ⟨v', .inl ⟨by omega, q.2⟩, hx⟩
    · rw [List.take_length] at r
      exact ⟨v', .inl ⟨by omega, by rw [q]; exact r⟩, hx⟩
  · rintro ⟨v', q | ⟨q, r⟩, hx⟩
    · by_cases e : v' = v
      · exact ⟨v', .inr ⟨e, by rw [List.take_length, ← e]; exact q.2⟩, hx⟩
      · exact ⟨v', .inl ⟨by omega, q.2⟩, hx⟩
    · simp at r
structure LvC (G : List (List Int)) (o E : List Int) (n k : Nat) (xs : List Int) : Prop where
  len : xs.length = n * 2
  fst : ∀ u : Nat, u < n → xs.getD (u * 2) 0 = plc o (u : Int)
  lst : ∀ u : Nat, u < n → xs.getD (u * 2 + 1) 0 = if (u : Int) ∈ E.take k then (n : Int) else lastTo G o u n
theorem LvB.done {G H : List (List Int)} {o : List Int} {n : Nat} {xs : List Int} (h : LvB H o n n 0 xs) (ho : Once o n) (hg : SameG G H n) (E : List Int) : LvC G o E n 0 xs := by
  refine ⟨h.len, h.fst, fun u hu => ?_⟩
  rw [if_neg (by simp)]
  refine (h.lst u hu).uniq (lastTo_max G o u n) fun x => ⟨?_, ?_⟩
  · rintro ⟨v', q | ⟨_, r⟩, hx⟩
    · obtain ⟨i, hi, e1, e2⟩ := ho.plc q.1
      refine ⟨i, hi, ?_, by rw [hx, e1]⟩
      rw [e2]
      unfold ndB
      rw [hg.l1]
      have := (hg.same v' q.1 (u : Int)).2 q.2
      simp [q.1, hu]
      simpa using this
    · simp at r
  · rintro ⟨i, hi, hn, hx⟩
    obtain ⟨v', hv, e⟩ := ho.get hi
    refine ⟨v', .inl ⟨hv, ?_⟩, by rw [hx, ← e, ho.plc_get hi]⟩
    rw [e] at hn
    unfold ndB at hn
    simp only [Bool.and_eq_true, decide_eq_true_eq] at hn
    exact (hg.same v' hv (u : Int)).1 (by simpa using hn.2)
theorem LvC.put {G : List (List Int)} {o E : List Int} {n k v : Nat} {xs : List Int} (h : LvC G o E n k xs) (hx : E[k]? = some (v : Int)) (hv : v < n) : LvC G o E n (k + 1) (xs.set (v * 2 + 1) (n : Int)) := by
  have hl := h.len
  refine ⟨by simp [hl], fun u hu => ?_, fun u hu => ?_⟩
  · rw [getD_set _ _ _ _ (by omega), if_neg (by omega)]; exact h.fst u hu
  · rw [getD_set _ _ _ _ (by omega), List.take_add_one, hx]
    by_cases e : u = v
    · subst e; rw [if_pos rfl, if_pos (by simp)]
    · rw [if_neg (by omega), h.lst u hu]
      have : ((u : Int) ∈ E.take k ++ (some (v : Int)).toList) ↔ (u : Int) ∈ E.take k := by simp; omega
      simp only [this]
theorem LvC.skip {G : List (List Int)} {o E : List Int} {n k : Nat} {x : Int} {xs : List Int} (h : LvC G o E n k xs) (hx : E[k]? = some x) (hv : x < 0) : LvC G o E n (k + 1) xs := by
  refine ⟨h.len, h.fst, fun u hu => ?_⟩
  rw [h.lst u hu, List.take_add_one, hx]
  have : ((u : Int) ∈ E.take k ++ (some x).toList) ↔ (u : Int) ∈ E.take k := by simp; omega
  simp only [this]
/-- the lives: where each variable is told, and where it is needed last -/
structure Lives (f : FlatM) (o : List Int) (n : Nat) (xs : List Int) : Prop where
  len : xs.length = n * 2
  fst : ∀ u : Nat, u < n → xs.getD (u * 2) 0 = plc o (u : Int)
  lst : ∀ u : Nat, u < n → xs.getD (u * 2 + 1) 0 = lastV (gOf f) (endB f) o u
theorem LvC.done {f : FlatM} {o : List Int} {n k : Nat} {xs : List Int} (h : LvC (gOf f) o (endL f) n k xs) (hk : (endL f).length = k) (ho : o.length = n) (hn : f.names.length = n) : Lives f o n xs := by
  refine ⟨h.len, h.fst, fun u hu => ?_⟩
  rw [h.lst u hu, List.take_of_length_le (by omega)]
  unfold lastV
  have e : (endB f).getD u false = decide ((u : Int) ∈ endL f) := by
    unfold endB
    simp [hn, hu]
  rw [e, ho]
  simp only [decide_eq_true_eq]

end Go.Proofs.Ytpcpbpinhdbjiaa
