/- Graphs: the cycle that goes back from the least place. Plain lists. No condition. -/
import Derived.Test.YtdcmdbhkaohkgaaGrD
namespace Go.Proofs.Ytdcmdbhkaohkgaa
namespace Gr

theorem Sp.uniq {G : List (List Int)} {s : Nat} {F0 F : List Int} {row D : List Nat} {m p : Nat} (h : Sp G s F0 row D m p F) {q q' : Nat} (h0 : 0 < q) (hq : q < row.length) (h0' : 0 < q') (hq' : q' < row.length) (e : row.getD q 0 = row.getD q' 0) : q = q' := by
  have hl : row.tail.length = row.length - 1 := by simp
  have g1 : row.tail[q - 1]'(by omega) = row.getD q 0 := by
    rw [List.getElem_tail]
    have : q - 1 + 1 = q := by omega
    simp [this, hq]
  have g2 : row.tail[q' - 1]'(by omega) = row.getD q' 0 := by
    rw [List.getElem_tail]
    have : q' - 1 + 1 = q' := by omega
    simp [this, hq']
  have hp := List.pairwise_iff_getElem.1 h.nd
  rcases Nat.lt_trichotomy q q' with c | c | c
  · exact (hp (q - 1) (q' - 1) (by omega) (by omega) (by omega) (g1.trans (e.trans g2.symm))).elim
  · exact c
  · exact (hp (q' - 1) (q - 1) (by omega) (by omega) (by omega) (g2.trans (e.symm.trans g1.symm))).elim

/-- how far the way back has been followed: out, then i -/
def Ch (R : List (List Int)) (s : Nat) (row D : List Nat) (qs : Nat) (out : List Nat) (i : Nat) : Prop :=
  ∃ r, r < qs ∧ row.getD r 0 = i ∧ out.length + D.getD r 0 + 1 = D.getD qs 0 ∧ (∀ k, k + 1 < (out ++ [i]).length → E R ((out ++ [i]).getD (k + 1) 0) ((out ++ [i]).getD k 0)) ∧ E R ((out ++ [i]).getD 0 0) s ∧
    out.Nodup ∧ ∀ x ∈ out, x ≠ s ∧ ∃ q, r < q ∧ q < qs ∧ row.getD q 0 = x

section
variable {R : List (List Int)} {s : Nat} {F0 F : List Int} {row D : List Nat} {qs : Nat}

theorem Ch.start (h : Sp R s F0 row D row.length 0 F) (h0 : 0 < qs) (hq : qs < row.length) (e : row.getD qs 0 = s) : ∃ i : Nat, F.getD s 0 = (i : Int) ∧ i < R.length ∧ Ch R s row D qs [] i := by
  obtain ⟨_, _, r, hr, hF, hE, hD⟩ := h.found qs h0 hq
  rw [e] at hF hE
  refine ⟨row.getD r 0, hF, hE.1, r, hr, rfl, by have : ([] : List Nat).length = 0 := rfl; omega, ?_, hE, by simp, by simp⟩
  intro k hk
  simp at hk

theorem Ch.step (h : Sp R s F0 row D row.length 0 F) (h0 : 0 < qs) (hq : qs < row.length) (e : row.getD qs 0 = s) {out : List Nat} {i : Nat} (hc : Ch R s row D qs out i) (hi : i ≠ s) :
    ∃ j : Nat, F.getD i 0 = (j : Int) ∧ j < R.length ∧ Ch R s row D qs (out ++ [i]) j := by
  obtain ⟨r, hr, hri, hlen, hch, hfi, hnd, hout⟩ := hc
  have hr0 : 0 < r := by
    rcases Nat.eq_zero_or_pos r with e0 | e0
    · subst e0; rw [h.s0] at hri; exact (hi hri.symm).elim
    · exact e0
  obtain ⟨_, _, r', hr', hF, hE, hD⟩ := h.found r hr0 (by omega)
  rw [hri] at hF hE
  refine ⟨row.getD r' 0, hF, hE.1, r', by omega, rfl, by rw [List.length_append]; simp only [List.length_cons, List.length_nil]; omega, ?_, ?_, ?_, ?_⟩
  · intro k hk
    by_cases hk2 : k + 1 < (out ++ [i]).length
    · have e1 : (out ++ [i] ++ [row.getD r' 0]).getD (k + 1) 0 = (out ++ [i]).getD (k + 1) 0 := getD_app_lt _ _ _ hk2
      have e2 : (out ++ [i] ++ [row.getD r' 0]).getD k 0 = (out ++ [i]).getD k 0 := getD_app_lt _ _ _ (by omega)
      rw [e1, e2]; exact hch k hk2
    · have hk3 : k + 1 = (out ++ [i]).length := by simp at hk hk2 ⊢; omega
      have e1 : (out ++ [i] ++ [row.getD r' 0]).getD (k + 1) 0 = row.getD r' 0 := by rw [hk3]; exact getD_app_eq _ _
      have e2 : (out ++ [i] ++ [row.getD r' 0]).getD k 0 = i := by
        rw [getD_app_lt _ _ _ (by omega)]
        have : k = out.length := by simp at hk3; omega
        rw [this]; exact getD_app_eq _ _
      rw [e1, e2]; exact hE
  · have e1 : (out ++ [i] ++ [row.getD r' 0]).getD 0 0 = (out ++ [i]).getD 0 0 := getD_app_lt _ _ _ (by simp)
    rw [e1]; exact hfi
  · rw [List.nodup_append]
    refine ⟨hnd, by simp, fun a ha b hb => ?_⟩
    simp at hb
    subst hb
    intro e1
    obtain ⟨_, q, hq1, hq2, hq3⟩ := hout a ha
    have := h.uniq (by omega) (by omega) hr0 (by omega) (hq3.trans (e1.trans hri.symm))
    omega
  · intro x hx
    rcases List.mem_append.1 hx with hx | hx
    · obtain ⟨h1, q, hq1, hq2, hq3⟩ := hout x hx
      exact ⟨h1, q, by omega, hq2, hq3⟩
    · simp at hx
      subst hx
      exact ⟨hi, r, hr', hr, hri⟩

/-- what Cycle tells -/
def Cyc (G : List (List Int)) (c : List Nat) : Prop :=
  (c = [] ∧ ∀ j, ¬ Way G j j) ∨ (0 < c.length ∧ (∀ x ∈ c, x < G.length) ∧ c.Nodup ∧ (∀ i, i < c.length → E G (c.getD i 0) (c.getD ((i + 1) % c.length) 0)) ∧ (∀ j, Way G j j → c.getD 0 0 ≤ j) ∧
    ∀ m, 0 < m → m < c.length → ¬ Walk G m (c.getD 0 0) (c.getD 0 0))

theorem getD_rev (l : List Nat) (i : Nat) (h : i < l.length) : l.reverse.getD i 0 = l.getD (l.length - 1 - i) 0 := by
  have h2 : l.length - 1 - i < l.length := by omega
  have h1 : i < l.reverse.length := by simpa using h
  simp only [List.getD, List.getElem?_eq_getElem h1, List.getElem?_eq_getElem h2, Option.getD_some, List.getElem_reverse]

theorem Ch.end_ (h : Sp R s F0 row D row.length 0 F) (hF0 : ∀ k, k < R.length → F0.getD k 0 = -1) (hL : LeastOn R s) (h0 : 0 < qs) (hq : qs < row.length) (e : row.getD qs 0 = s) {out : List Nat} (hc : Ch R s row D qs out s) : Cyc R (out ++ [s]).reverse := by
  obtain ⟨r, hr, hri, hlen, hch, hfi, hnd, hout⟩ := hc
  have hr0 : r = 0 := by
    rcases Nat.eq_zero_or_pos r with e0 | e0
    · exact e0
    · have := h.uniq e0 (by omega) h0 hq (hri.trans e.symm); omega
  subst hr0
  rw [h.d0] at hlen
  have hll : (out ++ [s]).length = out.length + 1 := by simp
  have hlr : (out ++ [s]).reverse.length = out.length + 1 := by simp
  have hc0 : (out ++ [s]).reverse.getD 0 0 = s := by
    rw [getD_rev _ _ (by omega), hll]
    have : out.length + 1 - 1 - 0 = out.length := by omega
    rw [this]; exact getD_app_eq _ _
  right
  refine ⟨by omega, ?_, ?_, ?_, ?_, ?_⟩
  · intro x hx
    rw [List.mem_reverse] at hx
    rcases List.mem_append.1 hx with hx | hx
    · obtain ⟨_, q, hq1, hq2, hq3⟩ := hout x hx
      rw [← hq3]; exact h.place (by omega)
    · simp at hx; subst hx; exact h.sl
  · rw [(List.reverse_perm _).nodup_iff, List.nodup_append]
    refine ⟨hnd, by simp, fun a ha b hb => ?_⟩
    simp at hb
    subst hb
    exact (hout a ha).1
  · intro i hi
    rw [hlr] at hi
    rw [hlr]
    by_cases hi2 : i + 1 < out.length + 1
    · rw [Nat.mod_eq_of_lt hi2, getD_rev _ _ (by omega), getD_rev _ _ (by omega), hll]
      have e1 : out.length + 1 - 1 - i = (out.length + 1 - 1 - (i + 1)) + 1 := by omega
      rw [e1]
      exact hch _ (by omega)
    · have e2 : i + 1 = out.length + 1 := by omega
      rw [e2, Nat.mod_self, hc0, getD_rev _ _ (by omega), hll]
      have e1 : out.length + 1 - 1 - i = 0 := by omega
      rw [e1]
      exact hfi
  · rw [hc0]; exact hL.1
  · rw [hc0, hlr]
    intro m hm hml hw
    obtain ⟨m', rfl⟩ : ∃ m', m = m' + 1 := ⟨m - 1, by omega⟩
    obtain ⟨q, hq1, hq2, hq3, hq4⟩ := h.all hF0 m' s hw
    have := h.uniq hq1 hq2 h0 hq (hq3.trans e.symm)
    subst this
    omega
end

theorem Turn.edge2 {G N R : List (List Int)} (h : Turn G N) (h' : Turn N R) (i j : Nat) : E R i j ↔ E G i j := (h'.edge j i).trans (h.edge i j)
theorem Turn.walk2 {G N R : List (List Int)} (h : Turn G N) (h' : Turn N R) (n i j : Nat) : Walk R n i j ↔ Walk G n i j := ⟨fun q => h.walk (h'.walk q), fun q => h'.walk' (h.walk' q)⟩
theorem Turn.way2 {G N R : List (List Int)} (h : Turn G N) (h' : Turn N R) (i j : Nat) : Way R i j ↔ Way G i j :=
  ⟨fun ⟨n, q⟩ => ⟨n, (h.walk2 h' _ _ _).1 q⟩, fun ⟨n, q⟩ => ⟨n, (h.walk2 h' _ _ _).2 q⟩⟩

theorem Cyc.of_turn {G N R : List (List Int)} (h : Turn G N) (h' : Turn N R) {c : List Nat} (hc : Cyc R c) : Cyc G c := by
  rcases hc with ⟨e, hc⟩ | ⟨h1, h2, h3, h4, h5, h6⟩
  · exact Or.inl ⟨e, fun j hj => hc j ((h.way2 h' j j).2 hj)⟩
  · exact Or.inr ⟨h1, fun x hx => by have := h2 x hx; rw [h'.1, h.1] at this; exact this, h3, fun i hi => (h.edge2 h' _ _).1 (h4 i hi), fun j hj => h5 j ((h.way2 h' j j).2 hj), fun m hm hml hw => h6 m hm hml ((h.walk2 h' _ _ _).2 hw)⟩
end Gr
end Go.Proofs.Ytdcmdbhkaohkgaa
