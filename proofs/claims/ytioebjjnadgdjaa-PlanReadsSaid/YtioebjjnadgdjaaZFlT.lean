/- 12.4 by the program: what Good tells. No condition but a bound. -/
import Derived.Test.YtioebjjnadgdjaaZFlS
namespace Go.Proofs.Ytioebjjnadgdjaa
set_option linter.unusedVariables false
set_option linter.unusedSimpArgs false
set_option maxRecDepth 100000
open Go.RowKit

theorem goodB_0 {f : FlatM} (h : onceB f = false) : goodB f = false := by unfold goodB; rw [h]; rfl
theorem goodB_1 {f : FlatM} (h : eqsB f = false) : goodB f = false := by unfold goodB; rw [h]; simp
theorem goodB_2 {f : FlatM} (h : keptB f = false) : goodB f = false := by unfold goodB; rw [h]; simp
theorem goodB_3 {f : FlatM} (h : crsB f = false) : goodB f = false := by unfold goodB; rw [h]; simp
theorem goodB_4 {f : FlatM} (h0 : onceB f = true) (h1 : eqsB f = true) (h2 : keptB f = true) (h3 : crsB f = true) : goodB f = true := by unfold goodB; rw [h0, h1, h2, h3]; rfl
theorem eachOnce_b (v : FlatV) (f : FlatM) (B : Nat) (b : Bool) (w : World) (h : FlatIs w B v f) (hB : B ≤ w.heap.size) (hn : v.names.2.1 ≤ 1000000) (hb : onceB f = b) :
    Calls Try.prog 45 #[flatV v] w fun e w' => e = .returned (.bool b) ∧ Below w.heap.size w w' := by
  subst hb; exact eachOnce_t v f B w h hB hn
theorem allEqs_b (v : FlatV) (f : FlatM) (B : Nat) (b : Bool) (w : World) (h : FlatIs w B v f) (hB : B ≤ w.heap.size) (hb : eqsB f = b) :
    Calls Try.prog 46 #[flatV v] w fun e w' => e = .returned (.bool b) ∧ Below w.heap.size w w' := by
  subst hb; exact allEqs_t v f B w h hB
theorem allKept_b (v : FlatV) (f : FlatM) (B : Nat) (b : Bool) (w : World) (h : FlatIs w B v f) (hB : B ≤ w.heap.size) (hb : keptB f = b) :
    Calls Try.prog 47 #[flatV v] w fun e w' => e = .returned (.bool b) ∧ Below w.heap.size w w' := by
  subst hb; exact allKept_t v f B w h hB
theorem allCrossings_b (v : FlatV) (f : FlatM) (B : Nat) (b : Bool) (w : World) (h : FlatIs w B v f) (hB : B ≤ w.heap.size) (hb : crsB f = b) :
    Calls Try.prog 48 #[flatV v] w fun e w' => e = .returned (.bool b) ∧ Below w.heap.size w w' := by
  subst hb; exact allCrossings_t v f B w h hB

set_option maxHeartbeats 1000000 in
/-- 12.4, by the program -/
theorem good_t (v : FlatV) (f : FlatM) (B : Nat) (w : World) (h : FlatIs w B v f) (hB : B ≤ w.heap.size) (hn : v.names.2.1 ≤ 1000000) :
    Calls Try.prog 27 #[flatV v] w fun e w' => e = .returned (.bool (goodB f)) ∧ Below w.heap.size w w' := by
  have hn0 := Lib.hid hn; clear hn
  have HF := Lib.hid (show FlatIs (w.alloc (.cells (fvs v) 29)) B v f from h.below ((Below.refl B w).alloc hB _)); clear h
  have HK := Lib.hid (Blk.new w 29 (fvs v))
  have HB0 := Lib.hid (show Below w.heap.size w (w.alloc (.cells (fvs v) 29)) from (Below.refl _ _).alloc (Nat.le_refl _) _)
  have HBB := Lib.hid hB; clear hB
  have HS : Hid (St (w.alloc (.cells (fvs v) 29)) B w.heap.size w.heap.size 29 v f (fvs v) (fun _ => True) (w.alloc (.cells (fvs v) 29))) := Lib.hid ⟨HK.out, HK.out, HF.out, trivial, Below.refl _ _, HBB.out, fun _ _ _ _ => trivial⟩
  cases h0 : onceB f with
  | false =>
    have H0 := Lib.hid h0; clear h0
    unfold flatV sl3
    go_enter Try.func27, Try.ntmps27
    go_wp2_with (first | (go_at_call 45; refine (eachOnce_b v f B false _ HS.out.is HS.out.hB hn0.out H0.out).mono ?_; rintro e w1 ⟨rfl, hb⟩; replace HS := Lib.hid (HS.out.later hb); clear hb; obtain ⟨f0, f1, f2, f3, f4, f5, f6, f7⟩ := HS.out.fb.flat))
    go_ret
    exact ⟨ret_bool' (goodB_0 H0.out).symm, HB0.out.trans (HS.out.old.mono (Nat.le_succ _))⟩
  | true =>
    have H0 := Lib.hid h0; clear h0
    cases h1 : eqsB f with
    | false =>
      have H1 := Lib.hid h1; clear h1
      unfold flatV sl3
      go_enter Try.func27, Try.ntmps27
      go_wp2_with (first | (go_at_call 45; refine (eachOnce_b v f B true _ HS.out.is HS.out.hB hn0.out H0.out).mono ?_; rintro e w1 ⟨rfl, hb⟩; replace HS := Lib.hid (HS.out.later hb); clear hb; obtain ⟨f0, f1, f2, f3, f4, f5, f6, f7⟩ := HS.out.fb.flat) | (go_at_call 46; refine (allEqs_b v f B false _ HS.out.is HS.out.hB H1.out).mono ?_; rintro e w1 ⟨rfl, hb⟩; replace HS := Lib.hid (HS.out.later hb); clear hb; obtain ⟨f0, f1, f2, f3, f4, f5, f6, f7⟩ := HS.out.fb.flat))
      go_ret
      exact ⟨ret_bool' (goodB_1 H1.out).symm, HB0.out.trans (HS.out.old.mono (Nat.le_succ _))⟩
    | true =>
      have H1 := Lib.hid h1; clear h1
      cases h2 : keptB f with
      | false =>
        have H2 := Lib.hid h2; clear h2
        unfold flatV sl3
        go_enter Try.func27, Try.ntmps27
        go_wp2_with (first | (go_at_call 45; refine (eachOnce_b v f B true _ HS.out.is HS.out.hB hn0.out H0.out).mono ?_; rintro e w1 ⟨rfl, hb⟩; replace HS := Lib.hid (HS.out.later hb); clear hb; obtain ⟨f0, f1, f2, f3, f4, f5, f6, f7⟩ := HS.out.fb.flat) | (go_at_call 46; refine (allEqs_b v f B true _ HS.out.is HS.out.hB H1.out).mono ?_; rintro e w1 ⟨rfl, hb⟩; replace HS := Lib.hid (HS.out.later hb); clear hb; obtain ⟨f0, f1, f2, f3, f4, f5, f6, f7⟩ := HS.out.fb.flat) | (go_at_call 47; refine (allKept_b v f B false _ HS.out.is HS.out.hB H2.out).mono ?_; rintro e w1 ⟨rfl, hb⟩; replace HS := Lib.hid (HS.out.later hb); clear hb; obtain ⟨f0, f1, f2, f3, f4, f5, f6, f7⟩ := HS.out.fb.flat))
        go_ret
        exact ⟨ret_bool' (goodB_2 H2.out).symm, HB0.out.trans (HS.out.old.mono (Nat.le_succ _))⟩
      | true =>
        have H2 := Lib.hid h2; clear h2
        cases h3 : crsB f with
        | false =>
          have H3 := Lib.hid h3; clear h3
          unfold flatV sl3
          go_enter Try.func27, Try.ntmps27
          go_wp2_with (first | (go_at_call 45; refine (eachOnce_b v f B true _ HS.out.is HS.out.hB hn0.out H0.out).mono ?_; rintro e w1 ⟨rfl, hb⟩; replace HS := Lib.hid (HS.out.later hb); clear hb; obtain ⟨f0, f1, f2, f3, f4, f5, f6, f7⟩ := HS.out.fb.flat) | (go_at_call 46; refine (allEqs_b v f B true _ HS.out.is HS.out.hB H1.out).mono ?_; rintro e w1 ⟨rfl, hb⟩; replace HS := Lib.hid (HS.out.later hb); clear hb; obtain ⟨f0, f1, f2, f3, f4, f5, f6, f7⟩ := HS.out.fb.flat) | (go_at_call 47; refine (allKept_b v f B true _ HS.out.is HS.out.hB H2.out).mono ?_; rintro e w1 ⟨rfl, hb⟩; replace HS := Lib.hid (HS.out.later hb); clear hb; obtain ⟨f0, f1, f2, f3, f4, f5, f6, f7⟩ := HS.out.fb.flat) | (go_at_call 48; refine (allCrossings_b v f B false _ HS.out.is HS.out.hB H3.out).mono ?_; rintro e w1 ⟨rfl, hb⟩; replace HS := Lib.hid (HS.out.later hb); clear hb; obtain ⟨f0, f1, f2, f3, f4, f5, f6, f7⟩ := HS.out.fb.flat))
          go_ret
          exact ⟨ret_bool' (goodB_3 H3.out).symm, HB0.out.trans (HS.out.old.mono (Nat.le_succ _))⟩
        | true =>
          have H3 := Lib.hid h3; clear h3
          unfold flatV sl3
          go_enter Try.func27, Try.ntmps27
          go_wp2_with (first | (go_at_call 45; refine (eachOnce_b v f B true _ HS.out.is HS.out.hB hn0.out H0.out).mono ?_; rintro e w1 ⟨rfl, hb⟩; replace HS := Lib.hid (HS.out.later hb); clear hb; obtain ⟨f0, f1, f2, f3, f4, f5, f6, f7⟩ := HS.out.fb.flat) | (go_at_call 46; refine (allEqs_b v f B true _ HS.out.is HS.out.hB H1.out).mono ?_; rintro e w1 ⟨rfl, hb⟩; replace HS := Lib.hid (HS.out.later hb); clear hb; obtain ⟨f0, f1, f2, f3, f4, f5, f6, f7⟩ := HS.out.fb.flat) | (go_at_call 47; refine (allKept_b v f B true _ HS.out.is HS.out.hB H2.out).mono ?_; rintro e w1 ⟨rfl, hb⟩; replace HS := Lib.hid (HS.out.later hb); clear hb; obtain ⟨f0, f1, f2, f3, f4, f5, f6, f7⟩ := HS.out.fb.flat) | (go_at_call 48; refine (allCrossings_b v f B true _ HS.out.is HS.out.hB H3.out).mono ?_; rintro e w1 ⟨rfl, hb⟩; replace HS := Lib.hid (HS.out.later hb); clear hb; obtain ⟨f0, f1, f2, f3, f4, f5, f6, f7⟩ := HS.out.fb.flat))
          go_ret
          exact ⟨ret_bool' (goodB_4 H0.out H1.out H2.out H3.out).symm, HB0.out.trans (HS.out.old.mono (Nat.le_succ _))⟩
theorem good_b (v : FlatV) (f : FlatM) (B : Nat) (b : Bool) (w : World) (h : FlatIs w B v f) (hB : B ≤ w.heap.size) (hn : v.names.2.1 ≤ 1000000) (hb : goodB f = b) :
    Calls Try.prog 27 #[flatV v] w fun e w' => e = .returned (.bool b) ∧ Below w.heap.size w w' := by
  subst hb; exact good_t v f B w h hB hn

end Go.Proofs.Ytioebjjnadgdjaa
