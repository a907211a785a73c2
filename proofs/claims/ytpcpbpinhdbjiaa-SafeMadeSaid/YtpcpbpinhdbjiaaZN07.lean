/- What the graph answer Needs tells. No condition. -/
import Derived.Test.YtpcpbpinhdbjiaaZFlAToFlC
namespace Go.Proofs.Ytpcpbpinhdbjiaa
set_option linter.unusedVariables false
set_option linter.unusedSimpArgs false
set_option maxRecDepth 100000
open Go.RowKit

/-- does place I need place K? -/
def ndB (G : List (List Int)) (I K : Int) : Bool := decide (0 ≤ I) && decide (I < G.length) && decide (0 ≤ K) && decide (K < G.length) && decide (K ∈ G.getD I.toNat [])

theorem mem_getD {xs : List Int} {K : Int} (h : K ∈ xs) : ∃ i, i < xs.length ∧ xs.getD i 0 = K := by
  obtain ⟨i, hi, e⟩ := List.mem_iff_getElem.1 h
  exact ⟨i, hi, by simp [hi, e]⟩
theorem getD_mem {xs : List Int} {i : Nat} (h : i < xs.length) : xs.getD i 0 ∈ xs := by simp [h]

set_option maxHeartbeats 1000000 in
theorem needs_any (a : Option Addr) (n c B : Nat) (G : List (List Int)) (I K : Int) (w : World) (hg : GRow w B a n c G) :
    Calls Try.prog 28 #[.slice a n c, .int .i64 I, .int .i64 K] w fun e w' => e = .returned (.bool (ndB G I K)) ∧ w = w' := by
  have hm := hg.len_le
  have HN : Hid (G.length = n) := hg.1
  have HG := Lib.hid hg; clear hg
  unfold maxLen at hm
  by_cases hI0 : 0 ≤ I
  rotate_left
  · have HF : Hid (ndB G I K = false) := by show _ = _; unfold ndB; rw [HN.out]; simp; omega
    have hI0' : I < 0 := by omega
    clear hI0
    go_enter Try.func28, Try.ntmps28
    go_wp2
    go_ret
    exact ⟨by rw [HF.out]; rfl, rfl⟩
  by_cases hI1 : I < n
  rotate_left
  · have HF : Hid (ndB G I K = false) := by show _ = _; unfold ndB; rw [HN.out]; simp; omega
    have hI1' : (n : Int) ≤ I := by omega
    clear hI1
    go_enter Try.func28, Try.ntmps28
    go_wp2
    go_ret
    exact ⟨by rw [HF.out]; rfl, rfl⟩
  by_cases hK0 : 0 ≤ K
  rotate_left
  · have HF : Hid (ndB G I K = false) := by show _ = _; unfold ndB; rw [HN.out]; simp; omega
    have hK0' : K < 0 := by omega
    clear hK0
    go_enter Try.func28, Try.ntmps28
    go_wp2
    go_ret
    exact ⟨by rw [HF.out]; rfl, rfl⟩
  by_cases hK1 : K < n
  rotate_left
  · have HF : Hid (ndB G I K = false) := by show _ = _; unfold ndB; rw [HN.out]; simp; omega
    have hK1' : (n : Int) ≤ K := by omega
    clear hK1
    go_enter Try.func28, Try.ntmps28
    go_wp2
    go_ret
    exact ⟨by rw [HF.out]; rfl, rfl⟩
  obtain ⟨i, rfl⟩ : ∃ i : Nat, I = (i : Int) := ⟨I.toNat, by omega⟩
  have hi : i < n := by omega
  obtain ⟨b, off, A, L, C, rfl, hb, hcell, hrow⟩ := HG.out.at_ hi
  have hL := hrow.len_le
  unfold maxLen at hL
  have HL : Hid ((G.getD i []).length = L) := hrow.1
  have HR := Lib.hid hrow; clear hrow
  have HB : Hid (ndB G (i : Int) K = decide (K ∈ G.getD i [])) := by show _ = _; unfold ndB; rw [HN.out]; simp; omega
  go_enter Try.func28, Try.ntmps28
  go_wp2
  go_loop [7] (fun t => ∃ k : Nat, k ≤ L ∧ t = .int .i64 k ∧ Hid (∀ j, j < k → (G.getD i []).getD j 0 ≠ K)) (fun t => L - (intOf t).toNat)
  case atStart => exact ⟨0, Nat.zero_le _, rfl, fun i hi => by omega⟩
  case round =>
    obtain ⟨k, hk, rfl, hz⟩ := hrel
    by_cases hlt : k < L
    · obtain ⟨b2, off2, rfl, hb2, hcell2⟩ := HR.out.at_ hlt
      obtain ⟨X, hX⟩ : ∃ X, X = (G.getD i []).getD k 0 := ⟨_, rfl⟩
      rw [← hX] at hcell2
      have HX := Lib.hid hX; clear hX
      by_cases hXK : X = K
      · have hXK' : (X == K) = true := by simpa using hXK
        have HE : Hid (ndB G (i : Int) K = true) := by
          show _ = _
          rw [HB.out, decide_eq_true_eq, ← hXK, HX.out]
          exact getD_mem (by rw [HL.out]; exact hlt)
        have HXK := Lib.hid hXK; clear hXK
        go_wp2
        go_ret
        exact ⟨by rw [HE.out]; rfl, rfl⟩
      · have hXK' : (X == K) = false := by simpa using hXK
        have HXK := Lib.hid hXK; clear hXK
        go_wp2
        go_round
        case rel => exact ⟨k + 1, by omega, by go_num, fun j hj => if h : j = k then by rw [h, ← HX.out]; exact HXK.out else hz.out j (by omega)⟩
        case measure => simp [intOf]; omega
    · have HE : Hid (ndB G (i : Int) K = false) := by
        show _ = _
        rw [HB.out, decide_eq_false_iff_not]
        intro hmem
        obtain ⟨j, hj, e⟩ := mem_getD hmem
        exact hz.out j (by have := HL.out; omega) e
      go_wp2
      go_ret
      exact ⟨by rw [HE.out]; rfl, rfl⟩

/-- what unfound tells: a row of -1, all of a block of its own -/
def Unf (n : Nat) (w : World) (e : Ending) (w' : World) : Prop := ∃ g, e = .returned (.slice (some ⟨g, 0, none⟩) n n) ∧ w.heap.size ≤ g ∧ IMem w' g (List.replicate n (-1)) ∧ Below w.heap.size w w'


end Go.Proofs.Ytpcpbpinhdbjiaa
