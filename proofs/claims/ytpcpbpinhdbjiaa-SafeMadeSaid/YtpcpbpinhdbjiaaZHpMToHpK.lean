/- Plain numbers: a heap of numbers as container/heap keeps it: what its steps up and down leave. No condition. · A heap behind its box: steps that leave the rest as it is; rows of one s own. No condition. -/
import Derived.Test.YtpcpbpinhdbjiaaZMem
namespace Go.Proofs.Ytpcpbpinhdbjiaa
namespace Hp

/-- places below n: none is less than the one above it -/
def IsHp (xs : List Int) (n : Nat) : Prop := ∀ c, 0 < c → c < n → xs.getD ((c - 1) / 2) 0 ≤ xs.getD c 0
/-- two change their places -/
def sw (xs : List Int) (i j : Nat) : List Int := (xs.set i (xs.getD j 0)).set j (xs.getD i 0)

theorem sw_len (xs : List Int) (i j : Nat) : (sw xs i j).length = xs.length := by unfold sw; simp
theorem set_get (xs : List Int) (i : Nat) (u : Int) (k : Nat) (hi : i < xs.length) : (xs.set i u).getD k 0 = if k = i then u else xs.getD k 0 := by
  by_cases e : k = i
  · subst e; simp [hi]
  · rw [if_neg e]; simp [Ne.symm e]
theorem sw_get (xs : List Int) (i j k : Nat) (hi : i < xs.length) (hj : j < xs.length) :
    (sw xs i j).getD k 0 = if k = j then xs.getD i 0 else if k = i then xs.getD j 0 else xs.getD k 0 := by
  unfold sw
  rw [set_get _ _ _ _ (by simpa using hj), set_get _ _ _ _ hi]
theorem sw_perm (xs : List Int) (i j : Nat) (hi : i < xs.length) (hj : j < xs.length) : (sw xs i j).Perm xs := by
  have e1 : xs.getD i 0 = xs[i] := by simp [hi]
  have e2 : xs.getD j 0 = xs[j] := by simp [hj]
  unfold sw
  rw [e1, e2]
  exact List.set_set_perm hi hj

/-- on the way up: all is well but for place j -/
def UpI (xs : List Int) (j n : Nat) : Prop :=
  (∀ c, 0 < c → c < n → c ≠ j → xs.getD ((c - 1) / 2) 0 ≤ xs.getD c 0) ∧ ∀ c, 0 < c → c < n → (c - 1) / 2 = j → 0 < j → xs.getD ((j - 1) / 2) 0 ≤ xs.getD c 0

theorem UpI.top {xs : List Int} {n : Nat} (h : UpI xs 0 n) : IsHp xs n := fun c h0 hc => h.1 c h0 hc (by omega)
theorem UpI.done {xs : List Int} {j n : Nat} (h : UpI xs j n) (hj : xs.getD ((j - 1) / 2) 0 ≤ xs.getD j 0) : IsHp xs n := fun c h0 hc => by
  by_cases e : c = j
  · subst e; exact hj
  · exact h.1 c h0 hc e
theorem UpI.step {xs : List Int} {i j n : Nat} (h : UpI xs j n) (hi : i = (j - 1) / 2) (hj0 : 0 < j) (hjn : j < n) (hn : n ≤ xs.length) (hl : xs.getD j 0 < xs.getD i 0) : UpI (sw xs i j) i n := by
  have hij : i < j := by omega
  have il : i < xs.length := by omega
  have jl : j < xs.length := by omega
  have g := fun k => sw_get xs i j k il jl
  refine ⟨fun c h0 hc hne => ?_, fun c h0 hc hp hi0 => ?_⟩
  · rw [g, g]
    by_cases e : c = j
    · subst e
      rw [if_pos rfl, ← hi, if_neg (by omega), if_pos rfl]
      omega
    · rw [if_neg e, if_neg hne]
      by_cases e1 : (c - 1) / 2 = j
      · rw [if_pos e1]
        have := h.2 c h0 hc e1 hj0
        rw [← hi] at this
        exact this
      · rw [if_neg e1]
        have h1 := h.1 c h0 hc e
        by_cases e2 : (c - 1) / 2 = i
        · rw [if_pos e2]; rw [e2] at h1; omega
        · rw [if_neg e2]; exact h1
  · rw [g, g, if_neg (show ¬ (i - 1) / 2 = j by omega), if_neg (show ¬ (i - 1) / 2 = i by omega)]
    have h1 := h.1 i hi0 (by omega) (by omega)
    by_cases e : c = j
    · rw [if_pos e]; exact h1
    · rw [if_neg e, if_neg (by omega)]
      have h2 := h.1 c h0 hc e
      rw [hp] at h2
      omega
theorem UpI.push {xs : List Int} (h : IsHp xs xs.length) (X : Int) : UpI (xs ++ [X]) xs.length (xs.length + 1) := by
  refine ⟨fun c h0 hc hne => ?_, fun c h0 hc hp hj => by omega⟩
  have hc' : c < xs.length := by omega
  have := h c h0 hc'
  have e1 : (xs ++ [X]).getD c 0 = xs.getD c 0 := by simp [List.getElem?_append_left hc']
  have e2 : (xs ++ [X]).getD ((c - 1) / 2) 0 = xs.getD ((c - 1) / 2) 0 := by simp [List.getElem?_append_left (show (c - 1) / 2 < xs.length by omega)]
  rw [e1, e2]
  exact this

/-- on the way down: all is well but for those below place i -/
def DownI (xs : List Int) (i n : Nat) : Prop :=
  (∀ c, 0 < c → c < n → (c - 1) / 2 ≠ i → xs.getD ((c - 1) / 2) 0 ≤ xs.getD c 0) ∧ ∀ c, 0 < c → c < n → (c - 1) / 2 = i → 0 < i → xs.getD ((i - 1) / 2) 0 ≤ xs.getD c 0

theorem DownI.low {xs : List Int} {i n : Nat} (h : DownI xs i n) (hn : n ≤ 2 * i + 1) : IsHp xs n := fun c h0 hc => h.1 c h0 hc (by omega)
theorem DownI.done {xs : List Int} {i n : Nat} (h : DownI xs i n) (hc : ∀ c, 0 < c → c < n → (c - 1) / 2 = i → xs.getD i 0 ≤ xs.getD c 0) : IsHp xs n := fun c h0 hcn => by
  by_cases e : (c - 1) / 2 = i
  · rw [e]; exact hc c h0 hcn e
  · exact h.1 c h0 hcn e
theorem DownI.step {xs : List Int} {i j n : Nat} (h : DownI xs i n) (hj : (j - 1) / 2 = i) (hj0 : 0 < j) (hjn : j < n) (hn : n ≤ xs.length) (hl : xs.getD j 0 < xs.getD i 0)
    (hm : ∀ c, 0 < c → c < n → (c - 1) / 2 = i → xs.getD j 0 ≤ xs.getD c 0) : DownI (sw xs i j) j n := by
  have hij : i < j := by omega
  have il : i < xs.length := by omega
  have jl : j < xs.length := by omega
  have g := fun k => sw_get xs i j k il jl
  refine ⟨fun c h0 hc hne => ?_, fun c h0 hc hp hi0 => ?_⟩
  · rw [g, g]
    rw [if_neg hne]
    by_cases e : (c - 1) / 2 = i
    · rw [if_pos e]
      by_cases e1 : c = j
      · rw [if_pos e1]; omega
      · rw [if_neg e1, if_neg (by omega)]; exact hm c h0 hc e
    · rw [if_neg e, if_neg (show ¬ c = j by rintro rfl; exact e hj)]
      by_cases e1 : c = i
      · rw [if_pos e1]
        subst e1
        exact h.2 j hj0 hjn hj h0
      · rw [if_neg e1]; exact h.1 c h0 hc e
  · rw [g, g, hj, if_neg (show ¬ i = j by omega), if_pos rfl, if_neg (show ¬ c = j by omega), if_neg (show ¬ c = i by omega)]
    have := h.1 c h0 hc (by omega)
    rw [hp] at this
    exact this
/-- the two below a place, of which none is less than j -/
theorem two {xs : List Int} {i n : Nat} (x : Int) (h1 : 2 * i + 1 < n → x ≤ xs.getD (2 * i + 1) 0) (h2 : 2 * i + 2 < n → x ≤ xs.getD (2 * i + 2) 0) : ∀ c, 0 < c → c < n → (c - 1) / 2 = i → x ≤ xs.getD c 0 := fun c h0 hc e => by
  rcases (show c = 2 * i + 1 ∨ c = 2 * i + 2 by omega) with q | q
  · subst q; exact h1 hc
  · subst q; exact h2 hc
/-- nobody is less than the first one -/
theorem IsHp.least {xs : List Int} {n : Nat} (h : IsHp xs n) : ∀ c, c < n → xs.getD 0 0 ≤ xs.getD c 0 := by
  intro c
  induction c using Nat.strongRecOn with
  | _ c ih =>
    intro hc
    rcases Nat.eq_zero_or_pos c with rfl | h0
    · exact Int.le_refl _
    · exact Int.le_trans (ih ((c - 1) / 2) (by omega) (by omega)) (h c h0 hc)
theorem DownI.pop {xs : List Int} {m : Nat} (h : IsHp xs (m + 1)) (hl : xs.length = m + 1) : DownI (sw xs 0 m) 0 m := by
  have g := fun k => sw_get xs 0 m k (by omega) (by omega)
  refine ⟨fun c h0 hc hne => ?_, fun c h0 hc hp hi => by omega⟩
  rw [g, g, if_neg (by omega), if_neg hne, if_neg (by omega), if_neg (by omega)]
  exact h c h0 (by omega)
theorem IsHp.take {xs : List Int} {m : Nat} (h : IsHp xs m) : IsHp (xs.take m) m := fun c h0 hc => by
  have e1 : (xs.take m).getD c 0 = xs.getD c 0 := by simp [hc]
  have e2 : (xs.take m).getD ((c - 1) / 2) 0 = xs.getD ((c - 1) / 2) 0 := by simp [show (c - 1) / 2 < m by omega]
  rw [e1, e2]; exact h c h0 hc
theorem IsHp.nil : IsHp [] 0 := fun c _ h => by omega
end Hp
end Go.Proofs.Ytpcpbpinhdbjiaa

namespace Go.Proofs.Ytpcpbpinhdbjiaa
set_option linter.unusedVariables false
set_option linter.unusedSimpArgs false
set_option maxRecDepth 100000
open Go.RowKit

/-- from v to v': nothing else that lay there has changed -/
def HStep (gh : Nat) (v v' : Value) (w w' : World) : Prop := Only [some gh, v.ownBlock] w w' ∧ ∀ k, v'.ownBlock = some k → v.ownBlock = some k ∨ w.heap.size ≤ k

theorem HStep.refl (gh : Nat) (v : Value) (w : World) : HStep gh v v w w := ⟨Only.refl _ _, fun _ h => Or.inl h⟩
theorem HStep.trans {gh : Nat} {v v' v'' : Value} {a b c : World} (h : HStep gh v v' a b) (k : HStep gh v' v'' b c) : HStep gh v v'' a c := by
  refine ⟨h.1.andThen k.1 ?_, fun j hj => ?_⟩
  · intro j hj hlt
    simp at hj ⊢
    rcases hj with rfl | hj
    · exact Or.inl rfl
    · rcases h.2 j hj.symm with h1 | h1
      · exact Or.inr h1.symm
      · omega
  · rcases k.2 j hj with h1 | h1
    · exact h.2 j h1
    · exact Or.inr (Nat.le_trans h.1.size h1)
theorem Own.cellAt {w : World} {B : Nat} {v : Value} {xs : List Int} (h : Own w B v xs) {i : Nat} (hi : i < xs.length) : ∃ g c, v = .slice (some ⟨g, 0, none⟩) xs.length c ∧ B ≤ g ∧ w.cell? ⟨g, i, none⟩ = some (.int .i64 (xs.getD i 0)) ∧ w.frozen? ⟨g, i, none⟩ = false ∧ xs.length ≤ c ∧ c ≤ maxLen := by
  rcases h.2 with ⟨rfl, h0⟩ | ⟨g, cap, cur, rfl, hb, hg, hnc, hcm, _⟩
  · omega
  · have := h.cells (g := g) rfl i (.int .i64 (xs.getD i 0)) (by simp [hi])
    have e : (⟨g, 0, none⟩ : Addr).add i = ⟨g, i, none⟩ := by unfold Addr.add; split <;> simp_all
    rw [e] at this
    exact ⟨g, cap, rfl, hb, this, frozen_of_row w g i cur 3 hg, hnc, hcm⟩
theorem Own.set {w : World} {B g n c : Nat} {xs : List Int} (h : Own w B (.slice (some ⟨g, 0, none⟩) n c) xs) (j : Nat) (u : Int) : Own (w.setCell ⟨g, j, none⟩ (.int .i64 u)) B (.slice (some ⟨g, 0, none⟩) n c) (xs.set j u) := by
  unfold Own at h ⊢
  have hn : n = xs.length := by
    rcases h.2 with ⟨h0, _⟩ | ⟨g', cap, cur, h0, _⟩
    · cases h0
    · injection h0
  subst hn
  have := (h.stored j (.int .i64 u)).1
  rw [List.map_set, List.length_set]
  exact this
theorem Own.cut {w : World} {B g n c : Nat} {xs : List Int} (h : Own w B (.slice (some ⟨g, 0, none⟩) n c) xs) (m : Nat) (hm : m ≤ n) : Own w B (.slice (some ⟨g, 0, none⟩) m c) (xs.take m) := by
  rcases h.2 with ⟨h0, _⟩ | ⟨g', cap, cur, h0, hb, hg, hnc, hcm, hsz, htk⟩
  · cases h0
  · injection h0 with h1 h2 h3
    injection h1 with h1
    injection h1 with h1
    subst h1 h2 h3
    have hl : (xs.take m).length = m := by simp; omega
    refine ⟨by simp, Or.inr ⟨g, c, cur, by rw [hl], hb, hg, by rw [hl]; omega, hcm, hsz, ?_⟩⟩
    rw [hl, Nat.mul_one, List.map_take, ← htk, Nat.mul_one, List.take_take]
    congr 1
    omega
theorem assert_int (X : Int) (w : World) : (Instr.typeAssert (.iface 3 (.int .i64 X)) 20 3 false).run Try.prog w = .ok (.int .i64 X) w := by kernel_rfl
theorem take_last (hs : List Int) (m : Nat) (hm : hs.length = m + 1) : hs = hs.take m ++ [hs.getD m 0] := by
  have h : m < hs.length := by omega
  apply List.ext_getElem (by simp; omega)
  intro i h1 h2
  by_cases hi : i < m
  · simp [List.getElem_append, hi, Nat.min_eq_left (Nat.le_of_lt h)]
  · have : i = m := by omega
    subst this
    simp [h]

end Go.Proofs.Ytpcpbpinhdbjiaa
