/- What all of package safe tells of numbers. No condition but bounds. -/
import Derived.Test.YtcljmfhelgkfaaaSfC
namespace Go.Proofs.Ytcljmfhelgkfaaa
set_option linter.unusedVariables false
set_option linter.unusedSimpArgs false
set_option maxRecDepth 100000
open Go.RowKit

theorem all_succ {α : Type} {p : α → Bool} {l : List α} {k : Nat} {x : α} (hx : l[k]? = some x) : (l.take (k + 1)).all p = ((l.take k).all p && p x) := by
  rw [List.take_add_one, hx]; simp
theorem all_no {α : Type} {p : α → Bool} {l : List α} {k : Nat} {x : α} (hx : l[k]? = some x) (h : p x = false) : l.all p = false := by
  rw [List.all_eq_false]
  exact ⟨x, List.mem_of_getElem? hx, by simp [h]⟩
theorem all_end {α : Type} {p : α → Bool} {l : List α} {n : Nat} (hn : l.length = n) (h : (l.take n).all p = true) : l.all p = true := by
  rwa [List.take_of_length_le (by omega)] at h
theorem irow_get {w : World} {B : Nat} {a : Option Addr} {n c : Nat} {xs : List Int} (h : IRow w B a n c xs) {k : Nat} (hk : k < n) : xs[k]? = some (xs.getD k 0) := by
  rw [List.getElem?_eq_getElem (by rw [h.1]; exact hk)]; simp [show k < xs.length by rw [h.1]; exact hk]
set_option maxHeartbeats 1000000 in
theorem allC_t (A : Option Addr) (n c B : Nat) (xs : List Int) (b : Bool) (w : World) (hr : IRow w B A n c xs) (h : xs.all (cntB) = b) :
    Calls Try.prog 18 #[.slice A n c, .func (.func 19) #[] #[]] w fun e w' => e = .returned (.bool b) ∧ w' = w := by
  have hm' := hr.len_le
  have HR := Lib.hid hr; clear hr
  have HB := Lib.hid h; clear h
  unfold maxLen at hm'
  go_enter Try.func18, Try.ntmps18
  go_wp2_with fail
  go_loop [9] (fun t => ∃ k : Nat, k ≤ n ∧ t = .int .i64 k ∧ Hid ((xs.take k).all (cntB) = true)) (fun t => n - (intOf t).toNat)
  case atStart => exact ⟨0, Nat.zero_le _, rfl, Lib.hid rfl⟩
  case round =>
    obtain ⟨k, hk, rfl, hz⟩ := hrel
    by_cases hlt : k < n
    · obtain ⟨g, off, rfl, hg, hcell⟩ := HR.out.at_ hlt
      have HX := Lib.hid (irow_get HR.out hlt)
      obtain ⟨X, hX⟩ : ∃ X, xs.getD k 0 = X := ⟨_, rfl⟩
      rw [hX] at hcell HX
      clear hX
      cases hp : (cntB) X with
      | true =>
        have HP := Lib.hid hp; clear hp
        go_wp2_with (go_at_call 19; refine (isCount_t X true _ HP.out).mono ?_; rintro e w' ⟨rfl, rfl⟩)
        go_round
        case rel => exact ⟨k + 1, by omega, by go_num, Lib.hid (by rw [all_succ HX.out, HP.out, hz.out]; rfl)⟩
        case measure => simp [intOf]; omega
      | false =>
        have HP := Lib.hid hp; clear hp
        go_wp2_with (go_at_call 19; refine (isCount_t X false _ HP.out).mono ?_; rintro e w' ⟨rfl, rfl⟩)
        go_ret
        exact ⟨ret_bool' (by rw [← HB.out]; exact (all_no HX.out HP.out).symm), rfl⟩
    · go_wp2
      go_ret
      exact ⟨ret_bool' (by rw [← HB.out]; exact (all_end HR.out.1 (by rw [show n = k by omega]; exact hz.out)).symm), rfl⟩
set_option maxHeartbeats 1000000 in
theorem allW_t (A : Option Addr) (n c B : Nat) (xs : List Int) (gs S : Nat) (W : List Int) (b : Bool) (w : World) (hr : IRow w B A n c xs) (hm : BMem w gs (mkB S W)) (hS : S ≤ 65536) (h : xs.all (wrB S W) = b) :
    Calls Try.prog 18 #[.slice A n c, .func (.func 41) #[.slice (some ⟨gs, 0, none⟩) S S] #[]] w fun e w' => e = .returned (.bool b) ∧ w' = w := by
  have hm' := hr.len_le
  have HR := Lib.hid hr; clear hr
  have HB := Lib.hid h; clear h
  have HM := Lib.hid hm; clear hm
  unfold maxLen at hm'
  go_enter Try.func18, Try.ntmps18
  go_wp2_with fail
  go_loop [9] (fun t => ∃ k : Nat, k ≤ n ∧ t = .int .i64 k ∧ Hid ((xs.take k).all (wrB S W) = true)) (fun t => n - (intOf t).toNat)
  case atStart => exact ⟨0, Nat.zero_le _, rfl, Lib.hid rfl⟩
  case round =>
    obtain ⟨k, hk, rfl, hz⟩ := hrel
    by_cases hlt : k < n
    · obtain ⟨g, off, rfl, hg, hcell⟩ := HR.out.at_ hlt
      have HX := Lib.hid (irow_get HR.out hlt)
      obtain ⟨X, hX⟩ : ∃ X, xs.getD k 0 = X := ⟨_, rfl⟩
      rw [hX] at hcell HX
      clear hX
      cases hp : (wrB S W) X with
      | true =>
        have HP := Lib.hid hp; clear hp
        go_wp2_with (go_at_call 41; refine (written_t gs S W X true _ HM.out hS HP.out).mono ?_; rintro e w' ⟨rfl, rfl⟩)
        go_round
        case rel => exact ⟨k + 1, by omega, by go_num, Lib.hid (by rw [all_succ HX.out, HP.out, hz.out]; rfl)⟩
        case measure => simp [intOf]; omega
      | false =>
        have HP := Lib.hid hp; clear hp
        go_wp2_with (go_at_call 41; refine (written_t gs S W X false _ HM.out hS HP.out).mono ?_; rintro e w' ⟨rfl, rfl⟩)
        go_ret
        exact ⟨ret_bool' (by rw [← HB.out]; exact (all_no HX.out HP.out).symm), rfl⟩
    · go_wp2
      go_ret
      exact ⟨ret_bool' (by rw [← HB.out]; exact (all_end HR.out.1 (by rw [show n = k by omega]; exact hz.out)).symm), rfl⟩

end Go.Proofs.Ytcljmfhelgkfaaa
