/- What SafeCut tells of object code that lies in memory. No condition. -/
import Derived.Test.YtcljmfhelgkfaaaSfR
import Derived.Deep.RegionWith
import Derived.Deep.DeepCutAuto
import Derived.BigRegion
namespace Go.Proofs.Ytcljmfhelgkfaaa
set_option linter.unusedVariables false
set_option linter.unusedSimpArgs false
set_option maxRecDepth 100000
open Go.RowKit

theorem SRow.take {α : Type} {sz : Nat} {R : World → Nat → Nat → Nat → α → Prop} {w : World} {B : Nat} {a : Option Addr} {n c : Nat} {xs : List α} (h : SRow sz R w B a n c xs) {m : Nat} (hm : m ≤ n) : SRow sz R w B a m c (xs.take m) := by
  obtain ⟨h1, h2, h3, b, off, h6, h7⟩ := h
  refine ⟨by rw [List.length_take, h1]; omega, by omega, h3, b, off, h6.imp (fun h => h) (fun h => by omega), fun i x hx => h7 i x ?_⟩
  have hi : i < m := by have := (List.getElem?_eq_some_iff.1 hx).1; rw [List.length_take] at this; omega
  rwa [List.getElem?_take_of_lt hi] at hx
/-- object code with a Step alone, cut -/
def cutC (c : CodeM) (m : Nat) : CodeM := ⟨c.ins, c.outs, c.slots, c.crosses, c.lines, c.mems, c.conts, c.step.take m, [], []⟩
def cutV (v : CodeV) (m : Nat) : CodeV := ⟨v.mems, v.conts, (v.step.1, m, v.step.2.2), (none, 0, 0), (none, 0, 0)⟩
theorem cut_right {c : CodeM} (h : RightC c) (m : Nat) : RightC (cutC c m) := by
  refine ⟨h.ins, h.outs, h.slots, h.crosses, h.lines, fun i x hx => ?_, fun i x hx => by simp [cutC] at hx, fun i x hx => by simp [cutC] at hx⟩
  have hx' : (c.step.take m)[i]? = some x := hx
  have hi : i < m := by have := (List.getElem?_eq_some_iff.1 hx').1; rw [List.length_take] at this; omega
  rw [List.getElem?_take_of_lt hi] at hx'
  have := h.step i x hx'
  show stB c (wTo ((c.step.take m).take i)) x = true
  rw [List.take_take, Nat.min_eq_left (Nat.le_of_lt hi)]
  exact this
theorem CodeIs.cut {w : World} {B : Nat} {c : CodeM} {v : CodeV} (h : CodeIs w B c v) {m : Nat} (hm : m ≤ v.step.2.1) : CodeIs w B (cutC c m) (cutV v m) :=
  ⟨h.ins, h.outs, h.slots, h.crosses, h.lines, h.mems, h.conts, h.step.take hm, SRow.nil _ _ _ _, SRow.nil _ _ _ _⟩
set_option maxHeartbeats 4000000 in
theorem sc_1 (c : CodeM) (v : CodeV) (w : World) (h : CodeIs w w.heap.size c v) (n : Int) (hn : -9223372036854775808 ≤ n ∧ n ≤ 9223372036854775807) (hf : fewC c = false) : Calls Try.prog 7 #[codeV c v, .int .i64 n] w (LawPost w) := by
  obtain ⟨W1, hW1⟩ : ∃ W1, W1 = w.alloc (.cells #[.int .i64 c.ins, .int .i64 c.outs, .int .i64 c.slots, .int .i64 c.crosses, .int .i64 c.lines, .slice v.mems.1 v.mems.2.1 v.mems.2.2, .slice v.conts.1 v.conts.2.1 v.conts.2.2, .slice v.step.1 v.step.2.1 v.step.2.2, .slice v.deriv.1 v.deriv.2.1 v.deriv.2.2, .slice v.cross.1 v.cross.2.1 v.cross.2.2] 25) := ⟨_, rfl⟩
  have HL := Lib.hid (show LwSt w c v W1 from by rw [hW1]; exact LwSt.start h)
  clear h
  unfold codeV
  have HF := Lib.hid hf
  clear hf
  obtain ⟨n0, n1, n2, n3, n4, n5, n6, n7, n8, n9⟩ := HL.out.blk.code
  go_enter Try.func7, Try.ntmps7
  go_upto_region 1 with fail
  rw [← hW1]
  clear hW1
  go_wp2_with (first | (go_at_call 8; (with_reducible refine (few_b w.heap.size false c v _ HL.out.is HL.out.old.size HF.out).mono ?_); rintro e w2 ⟨rfl, hb2⟩; have HL := Lib.hid (HL.out.later hb2); clear hb2 n0 n1 n2 n3 n4 n5 n6 n7 n8 n9; obtain ⟨n0, n1, n2, n3, n4, n5, n6, n7, n8, n9⟩ := HL.out.blk.code) | (go_at_call 11; refine (awake_t _).mono ?_; rintro e w4 ⟨rfl, hb4⟩))
  go_ret
  exact ⟨rfl, (HL.out.later hb4).old⟩
set_option maxHeartbeats 4000000 in
theorem sc_2 (c : CodeM) (v : CodeV) (w : World) (h : CodeIs w w.heap.size c v) (n : Int) (hn : -9223372036854775808 ≤ n ∧ n ≤ 9223372036854775807) (hf : fewC c = true) (hr : ¬ RightC c) : Calls Try.prog 7 #[codeV c v, .int .i64 n] w (LawPost w) := by
  obtain ⟨W1, hW1⟩ : ∃ W1, W1 = w.alloc (.cells #[.int .i64 c.ins, .int .i64 c.outs, .int .i64 c.slots, .int .i64 c.crosses, .int .i64 c.lines, .slice v.mems.1 v.mems.2.1 v.mems.2.2, .slice v.conts.1 v.conts.2.1 v.conts.2.2, .slice v.step.1 v.step.2.1 v.step.2.2, .slice v.deriv.1 v.deriv.2.1 v.deriv.2.2, .slice v.cross.1 v.cross.2.1 v.cross.2.2] 25) := ⟨_, rfl⟩
  have HL := Lib.hid (show LwSt w c v W1 from by rw [hW1]; exact LwSt.start h)
  clear h
  unfold codeV
  have HF := Lib.hid hf
  have HRC := Lib.hid hr
  clear hf hr
  obtain ⟨n0, n1, n2, n3, n4, n5, n6, n7, n8, n9⟩ := HL.out.blk.code
  go_enter Try.func7, Try.ntmps7
  go_upto_region 1 with fail
  rw [← hW1]
  clear hW1
  go_wp2_with (first | (go_at_call 8; (with_reducible refine (few_b w.heap.size true c v _ HL.out.is HL.out.old.size HF.out).mono ?_); rintro e w2 ⟨rfl, hb2⟩; have HL := Lib.hid (HL.out.later hb2); clear hb2 n0 n1 n2 n3 n4 n5 n6 n7 n8 n9; obtain ⟨n0, n1, n2, n3, n4, n5, n6, n7, n8, n9⟩ := HL.out.blk.code) | (go_at_call 9; (with_reducible refine (rgt_no w.heap.size c v _ HL.out.is HL.out.old.size HRC.out).mono ?_); rintro e w3 ⟨rfl, hb3⟩; have HL := Lib.hid (HL.out.later hb3); clear hb3 n0 n1 n2 n3 n4 n5 n6 n7 n8 n9; obtain ⟨n0, n1, n2, n3, n4, n5, n6, n7, n8, n9⟩ := HL.out.blk.code) | (go_at_call 11; refine (awake_t _).mono ?_; rintro e w4 ⟨rfl, hb4⟩))
  go_ret
  exact ⟨rfl, (HL.out.later hb4).old⟩
set_option maxHeartbeats 4000000 in
theorem sc_3 (c : CodeM) (v : CodeV) (w : World) (h : CodeIs w w.heap.size c v) (n : Int) (hn : -9223372036854775808 ≤ n ∧ n ≤ 9223372036854775807) (hf : fewC c = true) (hr : RightC c) (h0 : v.step.2.1 = 0) : Calls Try.prog 7 #[codeV c v, .int .i64 n] w (LawPost w) := by
  obtain ⟨vm, vc, ⟨sa, sn, sc⟩, vd, vx⟩ := v
  obtain rfl : sn = 0 := h0
  obtain ⟨W1, hW1⟩ : ∃ W1, W1 = w.alloc (.cells #[.int .i64 c.ins, .int .i64 c.outs, .int .i64 c.slots, .int .i64 c.crosses, .int .i64 c.lines, .slice vm.1 vm.2.1 vm.2.2, .slice vc.1 vc.2.1 vc.2.2, .slice sa 0 sc, .slice vd.1 vd.2.1 vd.2.2, .slice vx.1 vx.2.1 vx.2.2] 25) := ⟨_, rfl⟩
  have HL := Lib.hid (show LwSt w c ⟨vm, vc, (sa, 0, sc), vd, vx⟩ W1 from by rw [hW1]; exact LwSt.start h)
  clear h
  unfold codeV
  have HF := Lib.hid hf
  have HRC := Lib.hid hr
  clear hf hr
  obtain ⟨n0, n1, n2, n3, n4, n5, n6, n7, n8, n9⟩ := HL.out.blk.code
  go_enter Try.func7, Try.ntmps7
  go_upto_region 1 with fail
  rw [← hW1]
  clear hW1
  go_wp2_with (first | (go_at_call 8; (with_reducible refine (few_b w.heap.size true c ⟨vm, vc, (sa, 0, sc), vd, vx⟩ _ HL.out.is HL.out.old.size HF.out).mono ?_); rintro e w2 ⟨rfl, hb2⟩; have HL := Lib.hid (HL.out.later hb2); clear hb2 n0 n1 n2 n3 n4 n5 n6 n7 n8 n9; obtain ⟨n0, n1, n2, n3, n4, n5, n6, n7, n8, n9⟩ := HL.out.blk.code) | (go_at_call 9; (with_reducible refine (rgt_yes w.heap.size c ⟨vm, vc, (sa, 0, sc), vd, vx⟩ _ HL.out.is HL.out.old.size HRC.out).mono ?_); rintro e w3 ⟨rfl, hb3⟩; have HL := Lib.hid (HL.out.later hb3); clear hb3 n0 n1 n2 n3 n4 n5 n6 n7 n8 n9; obtain ⟨n0, n1, n2, n3, n4, n5, n6, n7, n8, n9⟩ := HL.out.blk.code) | (go_at_call 11; refine (awake_t _).mono ?_; rintro e w4 ⟨rfl, hb4⟩))
  go_ret
  exact ⟨rfl, (HL.out.later hb4).old⟩
set_option maxHeartbeats 4000000 in
theorem sc_4 (c : CodeM) (v : CodeV) (w : World) (h : CodeIs w w.heap.size c v) (n : Int) (hn : -9223372036854775808 ≤ n ∧ n ≤ 9223372036854775807) (hf : fewC c = true) (hr : RightC c) (h0 : ¬ v.step.2.1 = 0) : Calls Try.prog 7 #[codeV c v, .int .i64 n] w (LawPost w) := by
  obtain ⟨W1, hW1⟩ : ∃ W1, W1 = w.alloc (.cells #[.int .i64 c.ins, .int .i64 c.outs, .int .i64 c.slots, .int .i64 c.crosses, .int .i64 c.lines, .slice v.mems.1 v.mems.2.1 v.mems.2.2, .slice v.conts.1 v.conts.2.1 v.conts.2.2, .slice v.step.1 v.step.2.1 v.step.2.2, .slice v.deriv.1 v.deriv.2.1 v.deriv.2.2, .slice v.cross.1 v.cross.2.1 v.cross.2.2] 25) := ⟨_, rfl⟩
  have HL := Lib.hid (show LwSt w c v W1 from by rw [hW1]; exact LwSt.start h)
  clear h
  unfold codeV
  have HFS := Lib.hid (fewC_step hf)
  have HF := Lib.hid hf
  have HRC := Lib.hid hr
  have hl60 : v.step.2.1 ≤ 60 := by rw [← HL.out.is.step.1]; exact HFS.out.1
  have hL0 : (0 : Int) < (v.step.2.1 : Int) := by omega
  have hr1 := Int.lt_tmod_of_pos n hL0
  have hr2 := Int.tmod_lt_of_pos n hL0
  clear hf hr
  obtain ⟨n0, n1, n2, n3, n4, n5, n6, n7, n8, n9⟩ := HL.out.blk.code
  go_enter Try.func7, Try.ntmps7
  go_upto_region 1 with fail
  rw [← hW1]
  clear hW1
  go_upto_region 3 with (first | (go_at_call 8; (with_reducible refine (few_b w.heap.size true c v _ HL.out.is HL.out.old.size HF.out).mono ?_); rintro e w2 ⟨rfl, hb2⟩; have HL := Lib.hid (HL.out.later hb2); clear hb2 n0 n1 n2 n3 n4 n5 n6 n7 n8 n9; obtain ⟨n0, n1, n2, n3, n4, n5, n6, n7, n8, n9⟩ := HL.out.blk.code) | (go_at_call 9; (with_reducible refine (rgt_yes w.heap.size c v _ HL.out.is HL.out.old.size HRC.out).mono ?_); rintro e w3 ⟨rfl, hb3⟩; have HL := Lib.hid (HL.out.later hb3); clear hb3 n0 n1 n2 n3 n4 n5 n6 n7 n8 n9; obtain ⟨n0, n1, n2, n3, n4, n5, n6, n7, n8, n9⟩ := HL.out.blk.code))
  go_cut [1] (fun s1 wx => ∃ M : Nat, s1 = .int .i64 M ∧ M < v.step.2.1 ∧ Hid (LwSt w c v wx))
  case first =>
    go_quiet (fail)
    go_wp2_with fail
    go_meet
    case rel =>
      have g1 : 0 ≤ (n.tmod (v.step.2.1 : Int) + (v.step.2.1 : Int)) % (v.step.2.1 : Int) := Int.emod_nonneg _ (by omega)
      have g2 := Int.emod_lt_of_pos (n.tmod (v.step.2.1 : Int) + (v.step.2.1 : Int)) hL0
      obtain ⟨M, hM⟩ : ∃ M : Nat, (n.tmod (v.step.2.1 : Int) + (v.step.2.1 : Int)) % (v.step.2.1 : Int) = (M : Int) := ⟨_, (Int.toNat_of_nonneg g1).symm⟩
      exact ⟨M, by rw [← hM], by omega, Lib.hid (HL.out.later (below_drewN (Below.refl _ _)))⟩
  case rest =>
    obtain ⟨M, rfl, hM, HL6⟩ := hcut
    obtain ⟨W6, rfl⟩ : ∃ W6 : World, W6 = wc := ⟨_, rfl⟩
    clear n0 n1 n2 n3 n4 n5 n6 n7 n8 n9 hr1 hr2
    obtain ⟨n0, n1, n2, n3, n4, n5, n6, n7, n8, n9⟩ := HL6.out.blk.code
    have hq0 : w.heap.size < W6.heap.size := HL6.out.blk.lt
    have hsc := HL6.out.is.step.2.1
    have hsm := HL6.out.is.step.2.2.1
    unfold maxLen at hsm
    go_upto_region 8 with fail
    obtain ⟨W7, hW7⟩ : ∃ W7, W7 = W6.alloc (.cells #[.int .i64 c.ins, .int .i64 c.outs, .int .i64 c.slots, .int .i64 c.crosses, .int .i64 c.lines, .slice v.mems.1 v.mems.2.1 v.mems.2.2, .slice v.conts.1 v.conts.2.1 v.conts.2.2, .slice v.step.1 M v.step.2.2, .slice none 0 0, .slice none 0 0] 25) := ⟨_, rfl⟩
    have hb7 : Below W6.heap.size W6 W7 := by rw [hW7]; exact (Below.refl _ _).alloc (Nat.le_refl _) _
    have HL := Lib.hid (HL6.out.later hb7)
    have hk7 : Blk W7 W6.heap.size 25 #[.int .i64 c.ins, .int .i64 c.outs, .int .i64 c.slots, .int .i64 c.crosses, .int .i64 c.lines, .slice v.mems.1 v.mems.2.1 v.mems.2.2, .slice v.conts.1 v.conts.2.1 v.conts.2.2, .slice v.step.1 M v.step.2.2, .slice none 0 0, .slice none 0 0] := by rw [hW7]; exact Blk.new _ _ _
    have HRT : Hid (Calls Try.prog 9 #[.agg #[.int .i64 c.ins, .int .i64 c.outs, .int .i64 c.slots, .int .i64 c.crosses, .int .i64 c.lines, .slice v.mems.1 v.mems.2.1 v.mems.2.2, .slice v.conts.1 v.conts.2.1 v.conts.2.2, .slice v.step.1 M v.step.2.2, .slice none 0 0, .slice none 0 0]] W7 fun e w' => e = .returned (.bool true) ∧ Below W7.heap.size W7 w') := Lib.hid (rgt_yes w.heap.size (cutC c M) (cutV v M) W7 (HL.out.is.cut (Nat.le_of_lt hM)) HL.out.old.size (cut_right HRC.out M))
    rw [← hW7]
    clear hW7 hb7 n0 n1 n2 n3 n4 n5 n6 n7 n8 n9
    have m0 := hk7.cell 0 rfl
    have m1 := hk7.cell 1 rfl
    have m2 := hk7.cell 2 rfl
    have m3 := hk7.cell 3 rfl
    have m4 := hk7.cell 4 rfl
    have m5 := hk7.cell 5 rfl
    have m6 := hk7.cell 6 rfl
    have m7 := hk7.cell 7 rfl
    have m8 := hk7.cell 8 rfl
    have m9 := hk7.cell 9 rfl
    clear hk7
    go_wp2_with (first | (go_at_call 9; (with_reducible refine HRT.out.mono ?_); rintro e w8 ⟨rfl, hb8⟩; have HL := Lib.hid (HL.out.later hb8); clear hb8) | (go_at_call 11; refine (awake_t _).mono ?_; rintro e w4 ⟨rfl, hb4⟩))
    go_ret
    exact ⟨rfl, (HL.out.later hb4).old⟩
theorem safeCut_walk (c : CodeM) (v : CodeV) (n : Int) (w : World) (h : CodeIs w w.heap.size c v) (hn : -9223372036854775808 ≤ n ∧ n ≤ 9223372036854775807) : Calls Try.prog 7 #[codeV c v, .int .i64 n] w (LawPost w) := by
  cases hf : fewC c with
  | false => exact sc_1 c v w h n hn hf
  | true =>
    by_cases hr : RightC c
    · by_cases h0 : v.step.2.1 = 0
      · exact sc_3 c v w h n hn hf hr h0
      · exact sc_4 c v w h n hn hf hr h0
    · exact sc_2 c v w h n hn hf hr

end Go.Proofs.Ytcljmfhelgkfaaa
