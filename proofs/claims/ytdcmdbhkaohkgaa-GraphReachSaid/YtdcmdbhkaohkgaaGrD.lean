/- Graphs: the least place that lies on a cycle; the cycle that goes back from it. Plain lists. No condition. -/
import Derived.Test.YtdcmdbhkaohkgaaGrC
namespace Go.Proofs.Ytdcmdbhkaohkgaa
namespace Gr

/-- what is known when k places, the last left first, have been gone through -/
structure Ls (G T : List (List Int)) (o : List Nat) (k : Nat) (F : List Int) (lst : Nat) : Prop where
  closed : ∀ x y, E T x y → F.getD x 0 ≠ -1 → F.getD y 0 ≠ -1
  done : ∀ i ∈ o.drop (G.length - k), F.getD i 0 ≠ -1
  le : ∀ j, j < G.length → F.getD j 0 ≠ -1 → Way G j j → lst ≤ j
  at_ : lst = G.length ∨ (lst < G.length ∧ Way G lst lst)

section
variable {G T : List (List Int)} {o : List Nat} {k : Nat} {F : List Int} {lst : Nat}

theorem Ls.start (hT : T.length = G.length) (ho : o.length = G.length) (hF : ∀ j, j < G.length → F.getD j 0 = -1) : Ls G T o 0 F G.length where
  closed := fun x y h hx => (hx (hF x (by rw [← hT]; exact h.1))).elim
  done := fun i hi => by rw [Nat.sub_zero, ← ho, List.drop_length] at hi; cases hi
  le := fun j hj hF' _ => (hF' (hF j hj)).elim
  at_ := Or.inl rfl

theorem drop_at (o : List Nat) (N k : Nat) (ho : o.length = N) (hk : k < N) : o.drop (N - (k + 1)) = o.getD (N - 1 - k) 0 :: o.drop (N - k) := by
  have h1 : N - (k + 1) < o.length := by omega
  rw [List.drop_eq_getElem_cons h1]
  have e1 : N - (k + 1) + 1 = N - k := by omega
  have e2 : N - 1 - k = N - (k + 1) := by omega
  rw [e1, e2]
  simp [h1]

theorem Ls.skip (h : Ls G T o k F lst) (ho : o.length = G.length) (hk : k < G.length) (i : Nat) (hi : i = o.getD (G.length - 1 - k) 0) (hF : F.getD i 0 ≠ -1) : Ls G T o (k + 1) F lst :=
  { h with
    done := fun j hj => by
      rw [drop_at o G.length k ho hk, ← hi] at hj
      rcases List.mem_cons.1 hj with e | e
      · rw [e]; exact hF
      · exact h.done j e }

theorem Ls.step (h : Ls G T o k F lst) (hT : Turn T G) (ho : o.length = G.length) (hnd : o.Nodup) (hall : ∀ k, k < G.length → k ∈ o) (hlv : Lv G o) (hk : k < G.length) (i : Nat) (hi : i = o.getD (G.length - 1 - k) 0) (hF : F.getD i 0 = -1)
    {row D : List Nat} {F1 : List Int} (hS : Sp T i F row D row.length 0 F1) (lst' : Nat) (h1 : lst' ≤ lst) (h2 : ∀ j ∈ row.tail, lst' ≤ j) (h3 : lst' = lst ∨ lst' ∈ row.tail) :
    Ls G T o (k + 1) (F1.set i (i : Int)) lst' := by
  have hlen : T.length = G.length := hT.1.symm
  have hin : i < G.length := by rw [← hlen]; exact hS.sl
  have hmark : ∀ j, j < G.length → ((F1.set i (i : Int)).getD j 0 ≠ -1 ↔ j = i ∨ F.getD j 0 ≠ -1 ∨ j ∈ row.tail) := by
    intro j hj
    by_cases e : i = j
    · subst e
      have hl : i < F1.length := by rw [hS.lenF, hlen]; exact hin
      have e1 : (F1.set i (i : Int)).getD i 0 = (i : Int) := by simp [hl]
      rw [e1]
      constructor
      · intro _; exact Or.inl rfl
      · intro _; omega
    · have e1 : (F1.set i (i : Int)).getD j 0 = F1.getD j 0 := by simp [e]
      rw [e1, hS.marks j (by rw [hlen]; exact hj)]
      constructor
      · exact Or.inr
      · rintro (q | q)
        · exact (e q.symm).elim
        · exact q
  have hway : ∀ y, y < G.length → Way T i y → F.getD y 0 ≠ -1 ∨ y ∈ row.tail := by
    intro y hy hw
    by_cases hFy : F.getD y 0 = -1
    · obtain ⟨n, hw⟩ := hw
      exact Or.inr (hS.allBut h.closed n y hw hFy)
    · exact Or.inl hFy
  refine ⟨?_, ?_, ?_, ?_⟩
  · intro x y hE hx
    have hxl : x < G.length := by rw [← hlen]; exact hE.1
    have hyl : y < G.length := by rw [← hlen]; exact hE.2.1
    rw [hmark y hyl]
    rcases (hmark x hxl).1 hx with e | e | e
    · subst e
      exact Or.inr (hway y hyl (Way.one hE))
    · exact Or.inr (Or.inl (h.closed x y hE e))
    · exact Or.inr (hway y hyl ((hS.way e).1.trans_pth (Pth.one hE)))
  · intro j hj
    rw [drop_at o G.length k ho hk, ← hi] at hj
    rcases List.mem_cons.1 hj with e | e
    · rw [e]; exact (hmark i hin).2 (Or.inl rfl)
    · have hd := h.done j e
      by_cases hjl : j < G.length
      · exact (hmark j hjl).2 (Or.inr (Or.inl hd))
      · have hl1 : ¬ j < (F1.set i (i : Int)).length := by rw [List.length_set, hS.lenF, hlen]; exact hjl
        have e0 : (F1.set i (i : Int)).getD j 0 = 0 := by
          rw [List.getD, List.getElem?_eq_none (by omega)]; rfl
        rw [e0]; decide
  · intro j hj hm hc
    rcases (hmark j hj).1 hm with e | e | e
    · subst e
      obtain ⟨n, hw⟩ := hc
      exact h2 j (hS.allBut h.closed n j (hT.walk hw |> fun q => q) hF)
    · exact Nat.le_trans h1 (h.le j hj e hc)
    · exact h2 j e
  · rcases h3 with e | e
    · rw [e]; exact h.at_
    · obtain ⟨hw, hFj, hjl⟩ := hS.way e
      rw [hlen] at hjl
      refine Or.inr ⟨hjl, ?_⟩
      obtain ⟨n, hw⟩ := hw
      have hw' : Walk G (n + 1) lst' i := hT.walk' hw
      have hgo : Pth G i lst' := by
        by_cases eij : lst' = i
        · rw [eij]; exact Pth.refl _ _
        · have hlt : G.length - (k + 1) < o.length := by omega
          have hdec : o = o.take (G.length - (k + 1)) ++ i :: o.drop (G.length - k) := by
            have h5 := drop_at o G.length k ho hk
            rw [← hi] at h5
            rw [← h5, List.take_append_drop]
          have hjo : lst' ∈ o := hall _ hjl
          rw [hdec] at hjo
          rcases List.mem_append.1 hjo with q | q
          · obtain ⟨p, r, e5⟩ := List.append_of_mem q
            exact kosaraju o hlv hnd hall (fun x => F.getD x 0 ≠ -1) (fun x y hE hy => h.closed y x ((hT.edge y x).1 hE) hy) _ _ i hdec (fun j hj => h.done j hj) hin r.length lst' p r (Nat.le_refl _) e5 (fun q => q hFj) ⟨_, hw'⟩
          · rcases List.mem_cons.1 q with q | q
            · exact (eij q).elim
            · exact (h.done _ q hFj).elim
      exact Way.trans_pth ⟨n, hw'⟩ hgo

/-- what leastOnCycle tells -/
def LeastOn (G : List (List Int)) (l : Nat) : Prop := (∀ j, Way G j j → l ≤ j) ∧ (l = G.length ∨ (l < G.length ∧ Way G l l))

theorem Ls.end_ (h : Ls G T o G.length F lst) (hall : ∀ k, k < G.length → k ∈ o) : LeastOn G lst :=
  ⟨fun j hj => h.le j hj.lt.1 (h.done j (by rw [Nat.sub_self, List.drop_zero]; exact hall j hj.lt.1)) hj, h.at_⟩
end
end Gr
end Go.Proofs.Ytdcmdbhkaohkgaa
