/- What isPlace, arePlaces, isVar, areVars, isGuard and within tell. No condition. -/
import Derived.Test.YtanbekbalfbkcaaZFlAToFlC
namespace Go.Proofs.Ytanbekbalfbkcaa
set_option linter.unusedVariables false
set_option linter.unusedSimpArgs false
set_option maxRecDepth 100000
open Go.RowKit

theorem ret_bool' {p q : Bool} (h : p = q) : Ending.returned (.bool p) = .returned (.bool q) := by rw [h]
theorem all_succ {α : Type} {p : α → Bool} {l : List α} {k : Nat} {x : α} (hx : l[k]? = some x) : (l.take (k + 1)).all p = ((l.take k).all p && p x) := by
  rw [List.take_add_one, hx]; simp
theorem all_no {α : Type} {p : α → Bool} {l : List α} {k : Nat} {x : α} (hx : l[k]? = some x) (h : p x = false) : l.all p = false := by
  rw [List.all_eq_false]
  exact ⟨x, List.mem_of_getElem? hx, by simp [h]⟩
theorem all_end {α : Type} {p : α → Bool} {l : List α} {n : Nat} (hn : l.length = n) (h : (l.take n).all p = true) : l.all p = true := by
  rwa [List.take_of_length_le (by omega)] at h
theorem irow_get {w : World} {B : Nat} {a : Option Addr} {n c : Nat} {xs : List Int} (h : IRow w B a n c xs) {k : Nat} (hk : k < n) : xs[k]? = some (xs.getD k 0) := by
  rw [List.getElem?_eq_getElem (by rw [h.1]; exact hk)]; simp [show k < xs.length by rw [h.1]; exact hk]
theorem plB_yes {i : Int} {n : Nat} (h : plB i n = true) : 0 ≤ i ∧ i < (n : Int) := by simpa [plB] using h
theorem plB_no {i : Int} {n : Nat} (h : plB i n = false) : i < 0 ∨ (n : Int) ≤ i := by simp [plB] at h; omega

theorem isPlace_at (i : Int) (n : Nat) (b : Bool) (w : World) (h : plB i n = b) :
    Calls Try.prog 50 #[.int .i64 i, .int .i64 (n : Int)] w fun e w' => e = .returned (.bool b) ∧ w = w' := by
  cases b with
  | true =>
    obtain ⟨h0, h1⟩ := plB_yes h
    clear h
    go_enter Try.func50, Try.ntmps50
    go_wp2
    go_ret
    exact ⟨rfl, rfl⟩
  | false =>
    have h' := plB_no h
    clear h
    by_cases h0 : i < 0
    · go_enter Try.func50, Try.ntmps50
      go_wp2
      go_ret
      exact ⟨rfl, rfl⟩
    · have h1 : (n : Int) ≤ i := by omega
      have h0' : 0 ≤ i := by omega
      have h2 : decide (i < (n : Int)) = false := by rw [decide_eq_false_iff_not]; omega
      clear h' h0
      go_enter Try.func50, Try.ntmps50
      go_wp2
      go_ret
      exact ⟨by first | rfl | rw [h2], rfl⟩

set_option maxHeartbeats 400000 in
theorem arePlaces_at (a : Option Addr) (n c B : Nat) (xs : List Int) (m : Nat) (b : Bool) (w : World) (hr : IRow w B a n c xs) (h : wiB xs m = b) :
    Calls Try.prog 63 #[.slice a n c, .int .i64 (m : Int)] w fun e w' => e = .returned (.bool b) ∧ w = w' := by
  have hm := hr.len_le
  have HR := Lib.hid hr; clear hr
  have HB := Lib.hid h; clear h
  unfold maxLen at hm
  go_enter Try.func63, Try.ntmps63
  go_wp2
  go_loop [9] (fun t => ∃ k : Nat, k ≤ n ∧ t = .int .i64 k ∧ Hid (wiB (xs.take k) m = true)) (fun t => n - (intOf t).toNat)
  case atStart => exact ⟨0, Nat.zero_le _, rfl, Lib.hid rfl⟩
  case round =>
    obtain ⟨k, hk, rfl, hz⟩ := hrel
    by_cases hlt : k < n
    · obtain ⟨g, off, rfl, hg, hcell⟩ := HR.out.at_ hlt
      have HX := Lib.hid (irow_get HR.out hlt)
      obtain ⟨X, hX⟩ : ∃ X, xs.getD k 0 = X := ⟨_, rfl⟩
      rw [hX] at hcell HX
      clear hX
      cases hp : plB X m with
      | true =>
        have HP := Lib.hid hp; clear hp
        go_wp2_with (go_at_call 50; refine (isPlace_at X m true _ HP.out).mono ?_; rintro e w' ⟨rfl, rfl⟩)
        go_round
        case rel => exact ⟨k + 1, by omega, by go_num, Lib.hid (by unfold wiB; rw [all_succ HX.out, HP.out]; exact (by simpa [wiB] using hz.out))⟩
        case measure => simp [intOf]; omega
      | false =>
        have HP := Lib.hid hp; clear hp
        go_wp2_with (go_at_call 50; refine (isPlace_at X m false _ HP.out).mono ?_; rintro e w' ⟨rfl, rfl⟩)
        go_ret
        exact ⟨ret_bool' (by rw [← HB.out]; exact (all_no HX.out HP.out).symm), rfl⟩
    · go_wp2
      go_ret
      exact ⟨ret_bool' (by rw [← HB.out]; exact (all_end HR.out.1 (by rw [show n = k by omega]; exact hz.out)).symm), rfl⟩

set_option maxHeartbeats 400000 in
theorem within_at (a : Option Addr) (n c B : Nat) (xs : List Int) (m : Nat) (b : Bool) (w : World) (hr : IRow w B a n c xs) (h : wiB xs m = b) :
    Calls Try.prog 22 #[.slice a n c, .int .i64 (m : Int)] w fun e w' => e = .returned (.bool b) ∧ w = w' := by
  have hm := hr.len_le
  have HR := Lib.hid hr; clear hr
  have HB := Lib.hid h; clear h
  unfold maxLen at hm
  go_enter Try.func22, Try.ntmps22
  go_wp2
  go_loop [5] (fun t => ∃ k : Nat, k ≤ n ∧ t = .int .i64 k ∧ Hid (wiB (xs.take k) m = true)) (fun t => n - (intOf t).toNat)
  case atStart => exact ⟨0, Nat.zero_le _, rfl, Lib.hid rfl⟩
  case round =>
    obtain ⟨k, hk, rfl, hz⟩ := hrel
    by_cases hlt : k < n
    · obtain ⟨g, off, rfl, hg, hcell⟩ := HR.out.at_ hlt
      have HX := Lib.hid (irow_get HR.out hlt)
      obtain ⟨X, hX⟩ : ∃ X, xs.getD k 0 = X := ⟨_, rfl⟩
      rw [hX] at hcell HX
      clear hX
      cases hp : plB X m with
      | true =>
        obtain ⟨h0, h1⟩ := plB_yes hp
        have HP := Lib.hid hp; clear hp
        have g0 : decide (X < 0) = false := by rw [decide_eq_false_iff_not]; omega
        have g1 : decide ((m : Int) ≤ X) = false := by rw [decide_eq_false_iff_not]; omega
        go_wp2
        go_round
        case rel => exact ⟨k + 1, by omega, by go_num, Lib.hid (by unfold wiB; rw [all_succ HX.out, HP.out]; exact (by simpa [wiB] using hz.out))⟩
        case measure => simp [intOf]; omega
      | false =>
        have h' := plB_no hp
        have HP := Lib.hid hp; clear hp
        by_cases h0 : X < 0
        · clear h'
          go_wp2
          go_ret
          exact ⟨ret_bool' (by rw [← HB.out]; exact (all_no HX.out HP.out).symm), rfl⟩
        · have h1 : (m : Int) ≤ X := by omega
          have g0 : decide (X < 0) = false := by rw [decide_eq_false_iff_not]; omega
          clear h'
          go_wp2
          go_ret
          exact ⟨ret_bool' (by rw [← HB.out]; exact (all_no HX.out HP.out).symm), rfl⟩
    · go_wp2
      go_ret
      exact ⟨ret_bool' (by rw [← HB.out]; exact (all_end HR.out.1 (by rw [show n = k by omega]; exact hz.out)).symm), rfl⟩

set_option maxHeartbeats 400000 in
theorem isVar_at (i : Int) (v : FlatV) (b : Bool) (w : World) (h : plB i v.names.2.1 = b) :
    Calls Try.prog 55 #[.int .i64 i, flatV v] w fun e w' => e = .returned (.bool b) ∧ Below w.heap.size w w' := by
  have HB := Lib.hid h; clear h
  unfold flatV sl3
  go_enter Try.func55, Try.ntmps55
  go_wp2_with (go_at_call 50; refine (isPlace_at i v.names.2.1 b _ HB.out).mono ?_; rintro e w' ⟨rfl, rfl⟩)
  go_ret
  exact ⟨rfl, (Below.refl _ _).alloc (Nat.le_refl _) _⟩

set_option maxHeartbeats 400000 in
theorem areVars_at (a : Option Addr) (n c B : Nat) (xs : List Int) (v : FlatV) (b : Bool) (w : World) (hr : IRow w B a n c xs) (hB : B ≤ w.heap.size) (h : wiB xs v.names.2.1 = b) :
    Calls Try.prog 52 #[.slice a n c, flatV v] w fun e w' => e = .returned (.bool b) ∧ Below w.heap.size w w' := by
  have HB := Lib.hid h; clear h
  have HR := Lib.hid (hr.below ((Below.refl B w).alloc hB (.cells (match flatV v with | .agg x => x | _ => #[]) 29))); clear hr
  unfold flatV sl3 at HR
  unfold flatV sl3
  go_enter Try.func52, Try.ntmps52
  go_wp2_with (go_at_call 63; refine (arePlaces_at a n c B xs v.names.2.1 b _ HR.out HB.out).mono ?_; rintro e w' ⟨rfl, rfl⟩)
  go_ret
  exact ⟨rfl, (Below.refl _ _).alloc (Nat.le_refl _) _⟩

set_option maxHeartbeats 400000 in
theorem isGuard_at (i : Int) (v : FlatV) (b : Bool) (w : World) (h : guB i v.names.2.1 = b) :
    Calls Try.prog 51 #[.int .i64 i, flatV v] w fun e w' => e = .returned (.bool b) ∧ Below w.heap.size w w' := by
  have HB : Hid (decide (i < (v.names.2.1 : Int)) = b) := Lib.hid h
  clear h
  by_cases h0 : i < 0
  · unfold flatV sl3
    go_enter Try.func51, Try.ntmps51
    go_wp2
    go_ret
    exact ⟨ret_bool' (by rw [← HB.out, eq_comm, decide_eq_true_eq]; omega), (Below.refl _ _).alloc (Nat.le_refl _) _⟩
  · have HP : Hid (plB i v.names.2.1 = b) := Lib.hid (by rw [← HB.out]; unfold plB; simp; omega)
    have g0 : decide (i < 0) = false := by rw [decide_eq_false_iff_not]; omega
    have C := Lib.hid (fun (w' : World) => isVar_at i v b w' HP.out)
    unfold flatV sl3 at C
    unfold flatV sl3
    go_enter Try.func51, Try.ntmps51
    go_wp2_with (go_at_call 55; refine (C.out _).mono ?_; rintro e w' ⟨rfl, hb⟩)
    go_ret
    exact ⟨rfl, ((Below.refl _ _).alloc (Nat.le_refl _) _).trans (hb.mono (by simp))⟩

end Go.Proofs.Ytanbekbalfbkcaa
