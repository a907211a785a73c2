/- What isPlace, arePlaces, isVar, areVars, isGuard and within tell. No condition. -/
import Derived.Test.YtpcpbpinhdbjiaaZFlAToFlC
namespace Go.Proofs.Ytpcpbpinhdbjiaa
set_option linter.unusedVariables false
set_option linter.unusedSimpArgs false
set_option maxRecDepth 100000
open Go.RowKit

theorem ret_bool' {p q : Bool} (h : p = q) : Ending.returned (.bool p) = .returned (.bool q) := by rw [h]
theorem all_succ {α : Type} {p : α → Bool} {l : List α} {k : Nat} {x : α} (hx : l[k]? = some x) : (l.take (k + 1)).all p = ((l.take k).all p && p x) := by
  rw [List.take_add_one, hx]; simp
theorem all_no {α : Type} {p : α → Bool} {l : List α} {k : Nat} {x : α} (hx : l[k]? = some x) (h : p x = false) : l.all p = false := by
  rw [List.all_eq_false]
  exact ⟨x, List.mem_of_getElem? hx, by simp [h]⟩
theorem all_end {α : Type} {p : α → Bool} {l : List α} {n : Nat} (hn : l.length = n) (h : (l.take n).all p = true) : l.all p = true := by
  rwa [List.take_of_length_le (by omega)] at h
theorem irow_get {w : World} {B : Nat} {a : Option Addr} {n c : Nat} {xs : List Int} (h : IRow w B a n c xs) {k : Nat} (hk : k < n) : xs[k]? = some (xs.getD k 0) := by
  rw [List.getElem?_eq_getElem (by rw [h.1]; exact hk)]; simp [show k < xs.length by rw [h.1]; exact hk]
theorem plB_yes {i : Int} {n : Nat} (h : plB i n = true) : 0 ≤ i ∧ i < (n : Int) := by simpa [plB] using h
theorem plB_no {i : Int} {n : Nat} (h : plB i n = false) : i < 0 ∨ (n : Int) ≤ i := by simp [plB] at h; omega

set_option maxHeartbeats 400000 in
theorem within_at (a : Option Addr) (n c B : Nat) (xs : List Int) (m : Nat) (b : Bool) (w : World) (hr : IRow w B a n c xs) (h : wiB xs m = b) :
    Calls Try.prog 25 #[.slice a n c, .int .i64 (m : Int)] w fun e w' => e = .returned (.bool b) ∧ w = w' := by
  have hm := hr.len_le
  have HR := Lib.hid hr; clear hr
  have HB := Lib.hid h; clear h
  unfold maxLen at hm
  go_enter Try.func25, Try.ntmps25
  go_wp2
  go_loop [5] (fun t => ∃ k : Nat, k ≤ n ∧ t = .int .i64 k ∧ Hid (wiB (xs.take k) m = true)) (fun t => n - (intOf t).toNat)
  case atStart => exact ⟨0, Nat.zero_le _, rfl, Lib.hid rfl⟩
  case round =>
    obtain ⟨k, hk, rfl, hz⟩ := hrel
    by_cases hlt : k < n
    · obtain ⟨g, off, rfl, hg, hcell⟩ := HR.out.at_ hlt
      have HX := Lib.hid (irow_get HR.out hlt)
      obtain ⟨X, hX⟩ : ∃ X, xs.getD k 0 = X := ⟨_, rfl⟩
      rw [hX] at hcell HX
      clear hX
      cases hp : plB X m with
      | true =>
        obtain ⟨h0, h1⟩ := plB_yes hp
        have HP := Lib.hid hp; clear hp
        have g0 : decide (X < 0) = false := by rw [decide_eq_false_iff_not]; omega
        have g1 : decide ((m : Int) ≤ X) = false := by rw [decide_eq_false_iff_not]; omega
        go_wp2
        go_round
        case rel => exact ⟨k + 1, by omega, by go_num, Lib.hid (by unfold wiB; rw [all_succ HX.out, HP.out]; exact (by simpa [wiB] using hz.out))⟩
        case measure => simp [intOf]; omega
      | false =>
        have h' := plB_no hp
        have HP := Lib.hid hp; clear hp
        by_cases h0 : X < 0
        · clear h'
          go_wp2
          go_ret
          exact ⟨ret_bool' (by rw [← HB.out]; exact (all_no HX.out HP.out).symm), rfl⟩
        · have h1 : (m : Int) ≤ X := by omega
          have g0 : decide (X < 0) = false := by rw [decide_eq_false_iff_not]; omega
          clear h'
          go_wp2
          go_ret
          exact ⟨ret_bool' (by rw [← HB.out]; exact (all_no HX.out HP.out).symm), rfl⟩
    · go_wp2
      go_ret
      exact ⟨ret_bool' (by rw [← HB.out]; exact (all_end HR.out.1 (by rw [show n = k by omega]; exact hz.out)).symm), rfl⟩

end Go.Proofs.Ytpcpbpinhdbjiaa
