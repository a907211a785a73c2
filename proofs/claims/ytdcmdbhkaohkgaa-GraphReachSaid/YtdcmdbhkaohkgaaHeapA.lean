/- The heap of numbers behind its box: what Push and Pop of ready, Less and Swap tell. No condition but bounds. -/
import Derived.Test.YtdcmdbhkaohkgaaSmall
namespace Go.Proofs.Ytdcmdbhkaohkgaa
open Go.RowKit

theorem meth_push (a : Addr) (w : World) : (method 172 36 (.pointer (some a)) "Push").run Try.prog w = .ok (49, .pointer (some a)) w := by kernel_rfl
theorem meth_pop (a : Addr) (w : World) : (method 172 36 (.pointer (some a)) "Pop").run Try.prog w = .ok (48, .pointer (some a)) w := by kernel_rfl
theorem nilchk (P : Program) (a : Addr) (s t : ByteArray) (w : World) : (Builtin.ssaWrapNilChk_ #[36] 36 #[.pointer (some a), .string s, .string t]).run P w = .ok (.pointer (some a)) w := by rfl
theorem meth_len (g : Nat) (v : Value) (w : World) (hc : w.cell? ⟨g, 0, none⟩ = some v) (hv : ∃ A n c, v = .slice A n c) : (method 172 36 (.pointer (some ⟨g, 0, none⟩)) "Len").run Try.prog w = .ok (16, v) w := by
  obtain ⟨A, n, c, rfl⟩ := hv
  unfold method
  simp [hc, go_sem, follow, receiverAt, Place.get, Try.t36, nilchk, strVal]
theorem meth_less (g : Nat) (v : Value) (w : World) (hc : w.cell? ⟨g, 0, none⟩ = some v) (hv : ∃ A n c, v = .slice A n c) : (method 172 36 (.pointer (some ⟨g, 0, none⟩)) "Less").run Try.prog w = .ok (46, v) w := by
  obtain ⟨A, n, c, rfl⟩ := hv
  unfold method
  simp [hc, go_sem, follow, receiverAt, Place.get, Try.t36, nilchk, strVal]
theorem meth_swap (g : Nat) (v : Value) (w : World) (hc : w.cell? ⟨g, 0, none⟩ = some v) (hv : ∃ A n c, v = .slice A n c) : (method 172 36 (.pointer (some ⟨g, 0, none⟩)) "Swap").run Try.prog w = .ok (47, v) w := by
  obtain ⟨A, n, c, rfl⟩ := hv
  unfold method
  simp [hc, go_sem, follow, receiverAt, Place.get, Try.t36, nilchk, strVal]

/-- block gh is a box of the heap v, which holds hs in a row of the call's own -/
def HB (w : World) (B gh : Nat) (v : Value) (hs : List Int) : Prop := w.heap[gh]? = some (.cells #[v] 34 (0, 0)) ∧ Own w B v hs

/-- from v to v': nothing else that lay there has changed -/
def HStep (gh : Nat) (v v' : Value) (w w' : World) : Prop := Only [some gh, v.ownBlock] w w' ∧ ∀ k, v'.ownBlock = some k → v.ownBlock = some k ∨ w.heap.size ≤ k

theorem HStep.refl (gh : Nat) (v : Value) (w : World) : HStep gh v v w w := ⟨Only.refl _ _, fun _ h => Or.inl h⟩
theorem HStep.trans {gh : Nat} {v v' v'' : Value} {a b c : World} (h : HStep gh v v' a b) (k : HStep gh v' v'' b c) : HStep gh v v'' a c := by
  refine ⟨h.1.andThen k.1 ?_, fun j hj => ?_⟩
  · intro j hj hlt
    simp at hj ⊢
    rcases hj with rfl | hj
    · exact Or.inl rfl
    · rcases h.2 j hj.symm with h1 | h1
      · exact Or.inr h1.symm
      · omega
  · rcases k.2 j hj with h1 | h1
    · exact h.2 j h1
    · exact Or.inr (Nat.le_trans h.1.size h1)

theorem HB.cell {w : World} {B gh : Nat} {v : Value} {hs : List Int} (h : HB w B gh v hs) : w.cell? ⟨gh, 0, none⟩ = some v := by
  rw [cell_of_row w gh 0 _ 34 (0, 0) h.1]; rfl
theorem HB.free {w : World} {B gh : Nat} {v : Value} {hs : List Int} (h : HB w B gh v hs) : w.frozen? ⟨gh, 0, none⟩ = false := frozen_of_row w gh 0 _ 34 h.1
theorem HB.lt {w : World} {B gh : Nat} {v : Value} {hs : List Int} (h : HB w B gh v hs) : gh < w.heap.size := (Array.getElem?_eq_some_iff.1 h.1).1
theorem HB.isSlice {w : World} {B gh : Nat} {v : Value} {hs : List Int} (h : HB w B gh v hs) : ∃ A n c, v = .slice A n c := by
  obtain ⟨a, c, e⟩ := h.2.len; exact ⟨a, _, c, e⟩
theorem HB.ne {w : World} {B gh : Nat} {v : Value} {hs : List Int} (h : HB w B gh v hs) : v.ownBlock ≠ some gh := by
  rcases h.2.2 with ⟨rfl, _⟩ | ⟨g, cap, cur, rfl, _, hg, _⟩
  · simp [Value.ownBlock]
  · intro e
    have e' : g = gh := by simpa [Value.ownBlock] using e
    subst e'
    rw [h.1] at hg
    injection hg with hg
    injection hg with _ ht
    cases ht
/-- the heap lies as it lay -/
theorem HB.keep {w w' : World} {B gh : Nat} {v : Value} {hs : List Int} (h : HB w B gh v hs) {S : List (Option Nat)} (hb : Only S w w') (h1 : some gh ∉ S) (h2 : ∀ k, v.ownBlock = some k → some k ∉ S) : HB w' B gh v hs :=
  ⟨(hb.block gh h.lt h1).trans h.1, h.2.only hb h2⟩

theorem Own.cellAt {w : World} {B : Nat} {v : Value} {xs : List Int} (h : Own w B v xs) {i : Nat} (hi : i < xs.length) : ∃ g c, v = .slice (some ⟨g, 0, none⟩) xs.length c ∧ B ≤ g ∧ w.cell? ⟨g, i, none⟩ = some (.int .i64 (xs.getD i 0)) ∧ w.frozen? ⟨g, i, none⟩ = false ∧ xs.length ≤ c ∧ c ≤ maxLen := by
  rcases h.2 with ⟨rfl, h0⟩ | ⟨g, cap, cur, rfl, hb, hg, hnc, hcm, _⟩
  · omega
  · have := h.cells (g := g) rfl i (.int .i64 (xs.getD i 0)) (by simp [hi])
    have e : (⟨g, 0, none⟩ : Addr).add i = ⟨g, i, none⟩ := by unfold Addr.add; split <;> simp_all
    rw [e] at this
    exact ⟨g, cap, rfl, hb, this, frozen_of_row w g i cur 3 hg, hnc, hcm⟩

theorem Own.set {w : World} {B g n c : Nat} {xs : List Int} (h : Own w B (.slice (some ⟨g, 0, none⟩) n c) xs) (j : Nat) (u : Int) : Own (w.setCell ⟨g, j, none⟩ (.int .i64 u)) B (.slice (some ⟨g, 0, none⟩) n c) (xs.set j u) := by
  unfold Own at h ⊢
  have hn : n = xs.length := by
    rcases h.2 with ⟨h0, _⟩ | ⟨g', cap, cur, h0, _⟩
    · cases h0
    · injection h0
  subst hn
  have := (h.stored j (.int .i64 u)).1
  rw [List.map_set, List.length_set]
  exact this

theorem set_set_perm (xs : List Int) (i j : Nat) (hi : i < xs.length) (hj : j < xs.length) : ((xs.set i (xs.getD j 0)).set j (xs.getD i 0)).Perm xs := by
  have e1 : xs.getD i 0 = xs[i] := by simp [hi]
  have e2 : xs.getD j 0 = xs[j] := by simp [hj]
  rw [e1, e2]
  exact List.set_set_perm hi hj

def LessPost (w : World) (e : Ending) (w' : World) : Prop := (∃ b, e = .returned (.bool b)) ∧ Only [] w w'

set_option maxHeartbeats 400000 in
theorem less_any (B : Nat) (v : Value) (hs : List Int) (i j : Nat) (w : World) (ho : Own w B v hs) (hi : i < hs.length) (hj : j < hs.length) (hl : hs.length ≤ 1000000000) :
    Calls Try.prog 46 #[v, .int .i64 (i : Int), .int .i64 (j : Int)] w (LessPost w) := by
  obtain ⟨g, c, rfl, hB, hc0, hf0, hnc, hcm⟩ := ho.cellAt hi
  obtain ⟨g', c', hv, hB', hc1, hf1, hnc', hcm'⟩ := ho.cellAt hj
  injection hv with hv _ hcc
  injection hv with hv
  injection hv with hv _ _
  subst hv
  subst hcc
  obtain ⟨n, hn⟩ : ∃ n, n = hs.length := ⟨_, rfl⟩
  rw [← hn] at hi hj hl hnc ⊢
  clear hn
  obtain ⟨X, hX⟩ : ∃ X, X = hs.getD i 0 := ⟨_, rfl⟩
  obtain ⟨Y, hY⟩ : ∃ Y, Y = hs.getD j 0 := ⟨_, rfl⟩
  rw [← hX] at hc0
  rw [← hY] at hc1
  clear hX hY ho
  have hiI : (i : Int) < (n : Int) := by omega
  have hjI : (j : Int) < (n : Int) := by omega
  go_enter Try.func46, Try.ntmps46
  go_wp2
  go_region
  go_wp2
  go_ret
  exact ⟨⟨_, rfl⟩, (Only.refl _ _).drew⟩

def SwapPost (B : Nat) (v : Value) (hs : List Int) (w : World) (e : Ending) (w' : World) : Prop := e = .returned (.tuple #[]) ∧ (∃ hs', hs'.Perm hs ∧ Own w' B v hs') ∧ Only [v.ownBlock] w w'

set_option maxHeartbeats 1000000 in
theorem swap_any (B : Nat) (v : Value) (hs : List Int) (i j : Nat) (w : World) (ho : Own w B v hs) (hi : i < hs.length) (hj : j < hs.length) (hl : hs.length ≤ 1000000000) :
    Calls Try.prog 47 #[v, .int .i64 (i : Int), .int .i64 (j : Int)] w (SwapPost B v hs w) := by
  obtain ⟨g, c, rfl, hB, hc0, hf0, hnc, hcm⟩ := ho.cellAt hi
  obtain ⟨g', c', hv, hB', hc1, hf1, hnc', hcm'⟩ := ho.cellAt hj
  injection hv with hv _ hcc
  injection hv with hv
  injection hv with hv _ _
  subst hv
  subst hcc
  have HP : Hid (((hs.set i (hs.getD j 0)).set j (hs.getD i 0)).Perm hs) := set_set_perm hs i j hi hj
  obtain ⟨n, hn⟩ : ∃ n, n = hs.length := ⟨_, rfl⟩
  have HO := Lib.hid ho; clear ho
  rw [← hn] at hi hj hl hnc HO ⊢
  have HN := Lib.hid hn; clear hn
  obtain ⟨X, hX⟩ : ∃ X, X = hs.getD i 0 := ⟨_, rfl⟩
  obtain ⟨Y, hY⟩ : ∃ Y, Y = hs.getD j 0 := ⟨_, rfl⟩
  rw [← hX] at hc0
  rw [← hY] at hc1
  rw [← hX, ← hY] at HP
  clear hX hY
  have hiI : (i : Int) < (n : Int) := by omega
  have hjI : (j : Int) < (n : Int) := by omega
  by_cases hij : i = j
  · subst hij
    have hXY : X = Y := by rw [hc0] at hc1; injection hc1 with h; injection h
    subst hXY
    go_enter Try.func47, Try.ntmps47
    go_wp2
    go_region
    go_wp2
    go_end0
    refine ⟨rfl, ⟨_, HP.out, (HO.out.set i X).set i X⟩, ?_⟩
    exact ((Only.set (by simp [Value.ownBlock]) _ _ _).trans (Only.set (by simp [Value.ownBlock]) _ _ _)).drew
  · go_enter Try.func47, Try.ntmps47
    go_wp2
    go_region
    go_wp2
    go_end0
    refine ⟨rfl, ⟨_, HP.out, (HO.out.set i Y).set j X⟩, ?_⟩
    exact ((Only.set (by simp [Value.ownBlock]) _ _ _).trans (Only.set (by simp [Value.ownBlock]) _ _ _)).drew

theorem len_any (A : Option Addr) (n c : Nat) (w : World) : Calls Try.prog 16 #[.slice A n c] w fun e w' => e = .returned (.int .i64 (n : Int)) ∧ w = w' := by
  go_enter Try.func16, Try.ntmps16
  go_wp2
  go_ret
  exact ⟨rfl, rfl⟩
end Go.Proofs.Ytdcmdbhkaohkgaa
