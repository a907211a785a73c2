/- What the small functions of package safe tell. No condition but bounds. -/
import Derived.Test.YtcljmfhelgkfaaaSfB
import Derived.Deep.RegionWith
namespace Go.Proofs.Ytcljmfhelgkfaaa
set_option linter.unusedVariables false
set_option linter.unusedSimpArgs false
set_option maxRecDepth 100000
open Go.RowKit

theorem inB_no {i n : Int} (h : inB i n = false) : i < 0 ∨ n ≤ i := by
  unfold inB at h
  simp at h
  omega
theorem inB_ok {i n : Int} (h0 : 0 ≤ i) (h1 : i < n) : inB i n = true := by unfold inB; simp [h0, h1]
theorem isPlace_t (i n : Int) (b : Bool) (w : World) (h : inB i n = b) :
    Calls Try.prog 60 #[.int .i64 i, .int .i64 n] w fun e w' => e = .returned (.bool b) ∧ w' = w := by
  cases b with
  | true =>
    obtain ⟨j, rfl, h1⟩ := inB_yes h
    clear h
    go_enter Try.func60, Try.ntmps60
    go_wp2
    go_ret
    exact ⟨rfl, rfl⟩
  | false =>
    have h' := inB_no h
    clear h
    by_cases h0 : i < 0
    · go_enter Try.func60, Try.ntmps60
      go_wp2
      go_ret
      exact ⟨rfl, rfl⟩
    · have h1 : n ≤ i := by omega
      have h0' : 0 ≤ i := by omega
      have h2 : decide (i < n) = false := by rw [decide_eq_false_iff_not]; omega
      clear h' h0
      go_enter Try.func60, Try.ntmps60
      go_wp2
      go_ret
      exact ⟨by first | rfl | rw [h2], rfl⟩
theorem isCount_t (i : Int) (b : Bool) (w : World) (h : cntB i = b) :
    Calls Try.prog 19 #[.int .i64 i] w fun e w' => e = .returned (.bool b) ∧ w' = w := by
  have h' := h
  unfold cntB at h'
  by_cases h0 : 0 ≤ i
  · have g0 : decide (0 ≤ i) = true := decide_eq_true h0
    rw [g0, Bool.true_and] at h'
    clear h
    go_enter Try.func19, Try.ntmps19
    go_wp2
    go_ret
    exact ⟨by first | rfl | rw [h'], rfl⟩
  · have h2 : decide (0 ≤ i) = false := by rw [decide_eq_false_iff_not]; exact h0
    rw [h2, Bool.false_and] at h'
    subst h'
    have h3 : i < 0 := by omega
    clear h h0
    go_enter Try.func19, Try.ntmps19
    go_wp2
    go_ret
    exact ⟨rfl, rfl⟩
set_option maxHeartbeats 1000000 in
theorem written_t (gs S : Nat) (W : List Int) (i : Int) (b : Bool) (w : World) (hm : BMem w gs (mkB S W)) (hS : S ≤ 65536) (h : wrB S W i = b) :
    Calls Try.prog 41 #[.slice (some ⟨gs, 0, none⟩) S S, .int .i64 i] w fun e w' => e = .returned (.bool b) ∧ w' = w := by
  have HM := Lib.hid hm
  cases hb : inB i S with
  | false =>
    rw [wrB_no hb] at h
    subst h
    have HB := Lib.hid hb
    clear hm hb
    go_enter Try.func41, Try.ntmps41
    go_wp2_with (go_at_call 60; refine (isPlace_t i (S : Int) false _ HB.out).mono ?_; rintro e w1 ⟨rfl, rfl⟩)
    go_ret
    exact ⟨rfl, rfl⟩
  | true =>
    obtain ⟨j, rfl, h1⟩ := inB_yes hb
    have HB := Lib.hid hb
    rw [wrB_at h1] at h
    have hj : j < S := by omega
    have hc := hm.cell j (by rw [mkB_len]; exact hj)
    rw [mkB_get hj, h] at hc
    clear hm hb h
    go_enter Try.func41, Try.ntmps41
    go_wp2_with (go_at_call 60; refine (isPlace_t (j : Int) (S : Int) true _ HB.out).mono ?_; rintro e w1 ⟨rfl, rfl⟩)
    go_ret
    exact ⟨rfl, rfl⟩
theorem mayGuard_t (gs S : Nat) (W : List Int) (i : Int) (b : Bool) (w : World) (hm : BMem w gs (mkB S W)) (hS : S ≤ 65536) (h : gdB S W i = b) :
    Calls Try.prog 40 #[.slice (some ⟨gs, 0, none⟩) S S, .int .i64 i] w fun e w' => e = .returned (.bool b) ∧ w' = w := by
  have HM := Lib.hid hm
  by_cases h0 : i < 0
  · have : b = true := by rw [← h]; unfold gdB; simp [h0]
    subst this
    clear hm h
    go_enter Try.func40, Try.ntmps40
    go_wp2
    go_ret
    exact ⟨rfl, rfl⟩
  · have HB : Hid (wrB S W i = b) := Lib.hid (by rw [← h]; unfold gdB; simp [h0])
    have g0 : 0 ≤ i := by omega
    have g1 : decide (i < 0) = false := by rw [decide_eq_false_iff_not]; exact h0
    clear hm h h0
    go_enter Try.func40, Try.ntmps40
    go_wp2_with (go_at_call 41; refine (written_t gs S W i b _ HM.out hS HB.out).mono ?_; rintro e w1 ⟨rfl, rfl⟩)
    go_ret
    exact ⟨by first | rfl | (rw [g1]; rfl), rfl⟩
theorem write_no (gs S : Nat) (i : Int) (w : World) (h : inB i S = false) :
    Calls Try.prog 43 #[.slice (some ⟨gs, 0, none⟩) S S, .int .i64 i] w fun e w' => e = .returned (.bool false) ∧ w' = w := by
  have HB := Lib.hid h
  clear h
  go_enter Try.func43, Try.ntmps43
  go_wp2_with (go_at_call 60; refine (isPlace_t i (S : Int) false _ HB.out).mono ?_; rintro e w1 ⟨rfl, rfl⟩)
  go_ret
  exact ⟨rfl, rfl⟩
theorem write_yes (gs S : Nat) (W : List Int) (j : Nat) (w : World) (hm : BMem w gs (mkB S W)) (hS : S ≤ 65536) (h : inB (j : Int) S = true) :
    Calls Try.prog 43 #[.slice (some ⟨gs, 0, none⟩) S S, .int .i64 (j : Int)] w fun e w' => e = .returned (.bool true) ∧ w' = w.setCell ⟨gs, j, none⟩ (.bool true) := by
  have HB := Lib.hid h
  obtain ⟨k, hk, h1⟩ := inB_yes h
  have hj : j < S := by omega
  have hc := hm.cell j (by rw [mkB_len]; exact hj)
  have hf := hm.free j
  clear h hm hk
  go_enter Try.func43, Try.ntmps43
  go_wp2_with (go_at_call 60; refine (isPlace_t (j : Int) (S : Int) true _ HB.out).mono ?_; rintro e w1 ⟨rfl, rfl⟩)
  go_ret
  exact ⟨rfl, rfl⟩
theorem isEnd_0 (op : ByteArray) (w : World) (h : op = bs [107, 101, 101, 112]) : Calls Try.prog 42 #[.string op] w fun e w' => e = .returned (.bool (isEnd op)) ∧ w' = w := by
  have HE : Hid (isEnd (bs [107, 101, 101, 112]) = true) := Lib.hid (by unfold isEnd; decide)
  subst h
  unfold bs at HE ⊢
  go_enter Try.func42, Try.ntmps42
  go_wp2
  go_ret
  exact ⟨by rw [HE.out]; rfl, rfl⟩
theorem isEnd_1 (op : ByteArray) (w : World) (h : op = bs [115, 116, 97, 116, 101]) : Calls Try.prog 42 #[.string op] w fun e w' => e = .returned (.bool (isEnd op)) ∧ w' = w := by
  have HE : Hid (isEnd (bs [115, 116, 97, 116, 101]) = true) := Lib.hid (by unfold isEnd; decide)
  subst h
  unfold bs at HE ⊢
  go_enter Try.func42, Try.ntmps42
  go_wp2
  go_ret
  exact ⟨by rw [HE.out]; rfl, rfl⟩
theorem isEnd_2 (op : ByteArray) (w : World) (h : op = bs [111, 117, 116]) : Calls Try.prog 42 #[.string op] w fun e w' => e = .returned (.bool (isEnd op)) ∧ w' = w := by
  have HE : Hid (isEnd (bs [111, 117, 116]) = true) := Lib.hid (by unfold isEnd; decide)
  subst h
  unfold bs at HE ⊢
  go_enter Try.func42, Try.ntmps42
  go_wp2
  go_ret
  exact ⟨by rw [HE.out]; rfl, rfl⟩
theorem isEnd_3 (op : ByteArray) (w : World) (h : op = bs [97, 103, 97, 105, 110]) : Calls Try.prog 42 #[.string op] w fun e w' => e = .returned (.bool (isEnd op)) ∧ w' = w := by
  have HE : Hid (isEnd (bs [97, 103, 97, 105, 110]) = true) := Lib.hid (by unfold isEnd; decide)
  subst h
  unfold bs at HE ⊢
  go_enter Try.func42, Try.ntmps42
  go_wp2
  go_ret
  exact ⟨by rw [HE.out]; rfl, rfl⟩
theorem isEnd_none (op : ByteArray) (w : World) (h0 : ¬ op = bs [107, 101, 101, 112]) (h1 : ¬ op = bs [115, 116, 97, 116, 101]) (h2 : ¬ op = bs [111, 117, 116]) (h3 : ¬ op = bs [97, 103, 97, 105, 110]) : Calls Try.prog 42 #[.string op] w fun e w' => e = .returned (.bool (isEnd op)) ∧ w' = w := by
  have HE : Hid (isEnd op = false) := Lib.hid (by unfold isEnd hasOp opsEnd; simp [h0, h1, h2, h3])
  have g0 := str_no h0; clear h0
  have g1 := str_no h1; clear h1
  have g2 := str_no h2; clear h2
  have g3 := str_no h3; clear h3
  go_enter Try.func42, Try.ntmps42
  go_wp2
  go_ret
  exact ⟨by rw [HE.out]; rfl, rfl⟩
theorem isEnd_t (op : ByteArray) (w : World) : Calls Try.prog 42 #[.string op] w fun e w' => e = .returned (.bool (isEnd op)) ∧ w' = w := by
  by_cases h0 : op = bs [107, 101, 101, 112]
  · exact isEnd_0 op w h0
  by_cases h1 : op = bs [115, 116, 97, 116, 101]
  · exact isEnd_1 op w h1
  by_cases h2 : op = bs [111, 117, 116]
  · exact isEnd_2 op w h2
  by_cases h3 : op = bs [97, 103, 97, 105, 110]
  · exact isEnd_3 op w h3
  exact isEnd_none op w h0 h1 h2 h3
theorem mayBegin_0 (op : ByteArray) (w : World) (h : op = bs [109, 101, 109]) : Calls Try.prog 39 #[.string op] w fun e w' => e = .returned (.bool (mayB op)) ∧ w' = w := by
  have HE : Hid (mayB (bs [109, 101, 109]) = true) := Lib.hid (by unfold mayB; decide)
  subst h
  unfold bs at HE ⊢
  go_enter Try.func39, Try.ntmps39
  go_wp2
  go_ret
  exact ⟨by rw [HE.out]; rfl, rfl⟩
theorem mayBegin_1 (op : ByteArray) (w : World) (h : op = bs [99, 111, 110, 116]) : Calls Try.prog 39 #[.string op] w fun e w' => e = .returned (.bool (mayB op)) ∧ w' = w := by
  have HE : Hid (mayB (bs [99, 111, 110, 116]) = true) := Lib.hid (by unfold mayB; decide)
  subst h
  unfold bs at HE ⊢
  go_enter Try.func39, Try.ntmps39
  go_wp2
  go_ret
  exact ⟨by rw [HE.out]; rfl, rfl⟩
theorem mayBegin_2 (op : ByteArray) (w : World) (h : op = bs [107, 101, 101, 112]) : Calls Try.prog 39 #[.string op] w fun e w' => e = .returned (.bool (mayB op)) ∧ w' = w := by
  have HE : Hid (mayB (bs [107, 101, 101, 112]) = true) := Lib.hid (by unfold mayB; decide)
  subst h
  unfold bs at HE ⊢
  go_enter Try.func39, Try.ntmps39
  go_wp2
  go_ret
  exact ⟨by rw [HE.out]; rfl, rfl⟩
theorem mayBegin_3 (op : ByteArray) (w : World) (h : op = bs [115, 116, 97, 116, 101]) : Calls Try.prog 39 #[.string op] w fun e w' => e = .returned (.bool (mayB op)) ∧ w' = w := by
  have HE : Hid (mayB (bs [115, 116, 97, 116, 101]) = true) := Lib.hid (by unfold mayB; decide)
  subst h
  unfold bs at HE ⊢
  go_enter Try.func39, Try.ntmps39
  go_wp2
  go_ret
  exact ⟨by rw [HE.out]; rfl, rfl⟩
theorem mayBegin_none (op : ByteArray) (w : World) (h0 : ¬ op = bs [109, 101, 109]) (h1 : ¬ op = bs [99, 111, 110, 116]) (h2 : ¬ op = bs [107, 101, 101, 112]) (h3 : ¬ op = bs [115, 116, 97, 116, 101]) : Calls Try.prog 39 #[.string op] w fun e w' => e = .returned (.bool (mayB op)) ∧ w' = w := by
  have HE : Hid (mayB op = false) := Lib.hid (by unfold mayB hasOp opsBegin; simp [h0, h1, h2, h3])
  have g0 := str_no h0; clear h0
  have g1 := str_no h1; clear h1
  have g2 := str_no h2; clear h2
  have g3 := str_no h3; clear h3
  go_enter Try.func39, Try.ntmps39
  go_wp2
  go_ret
  exact ⟨by rw [HE.out]; rfl, rfl⟩
theorem mayBegin_t (op : ByteArray) (w : World) : Calls Try.prog 39 #[.string op] w fun e w' => e = .returned (.bool (mayB op)) ∧ w' = w := by
  by_cases h0 : op = bs [109, 101, 109]
  · exact mayBegin_0 op w h0
  by_cases h1 : op = bs [99, 111, 110, 116]
  · exact mayBegin_1 op w h1
  by_cases h2 : op = bs [107, 101, 101, 112]
  · exact mayBegin_2 op w h2
  by_cases h3 : op = bs [115, 116, 97, 116, 101]
  · exact mayBegin_3 op w h3
  exact mayBegin_none op w h0 h1 h2 h3

end Go.Proofs.Ytcljmfhelgkfaaa
