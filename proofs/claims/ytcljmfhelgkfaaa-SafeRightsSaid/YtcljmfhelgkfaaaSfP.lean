/- What SafeBodies tells of object code that lies in memory. No condition. -/
import Derived.Test.YtcljmfhelgkfaaaSfO
import Derived.Deep.RegionWith
import Derived.Deep.DeepCutAuto
import Derived.BigRegion
namespace Go.Proofs.Ytcljmfhelgkfaaa
set_option linter.unusedVariables false
set_option linter.unusedSimpArgs false
set_option maxRecDepth 100000
open Go.RowKit

theorem few_b (B : Nat) (b : Bool) (c : CodeM) (v : CodeV) (w : World) (h : CodeIs w B c v) (hB : B ≤ w.heap.size) (hf : fewC c = b) : Calls Try.prog 8 #[.agg #[.int .i64 c.ins, .int .i64 c.outs, .int .i64 c.slots, .int .i64 c.crosses, .int .i64 c.lines, .slice v.mems.1 v.mems.2.1 v.mems.2.2, .slice v.conts.1 v.conts.2.1 v.conts.2.2, .slice v.step.1 v.step.2.1 v.step.2.2, .slice v.deriv.1 v.deriv.2.1 v.deriv.2.2, .slice v.cross.1 v.cross.2.1 v.cross.2.2]] w fun e w' => e = .returned (.bool b) ∧ Below w.heap.size w w' := by
  subst hf; exact few_t B c v w h hB
theorem rgt_yes (B : Nat) (c : CodeM) (v : CodeV) (w : World) (h : CodeIs w B c v) (hB : B ≤ w.heap.size) (hr : RightC c) : Calls Try.prog 9 #[.agg #[.int .i64 c.ins, .int .i64 c.outs, .int .i64 c.slots, .int .i64 c.crosses, .int .i64 c.lines, .slice v.mems.1 v.mems.2.1 v.mems.2.2, .slice v.conts.1 v.conts.2.1 v.conts.2.2, .slice v.step.1 v.step.2.1 v.step.2.2, .slice v.deriv.1 v.deriv.2.1 v.deriv.2.2, .slice v.cross.1 v.cross.2.1 v.cross.2.2]] w fun e w' => e = .returned (.bool true) ∧ Below w.heap.size w w' := right_yes B c v w h hB hr
theorem rgt_no (B : Nat) (c : CodeM) (v : CodeV) (w : World) (h : CodeIs w B c v) (hB : B ≤ w.heap.size) (hr : ¬ RightC c) : Calls Try.prog 9 #[.agg #[.int .i64 c.ins, .int .i64 c.outs, .int .i64 c.slots, .int .i64 c.crosses, .int .i64 c.lines, .slice v.mems.1 v.mems.2.1 v.mems.2.2, .slice v.conts.1 v.conts.2.1 v.conts.2.2, .slice v.step.1 v.step.2.1 v.step.2.2, .slice v.deriv.1 v.deriv.2.1 v.deriv.2.2, .slice v.cross.1 v.cross.2.1 v.cross.2.2]] w fun e w' => e = .returned (.bool false) ∧ Below w.heap.size w w' := right_no B c v w h hB hr
/-- the Ops of Step -/
theorem opS_cases {op : ByteArray} {n : Nat} (h : enS op n = true) : op = bs [108, 105, 116] ∨ op = bs [105, 110] ∨ op = bs [109, 101, 109] ∨ op = bs [99, 111, 110, 116] ∨ op = bs [102, 108, 97, 103] ∨ op = bs [99, 111, 112, 121] ∨ op = bs [110, 101, 103] ∨ op = bs [110, 111, 116] ∨ op = bs [102, 108, 111, 111, 114] ∨ op = bs [114, 97, 116] ∨ op = bs [107, 101, 101, 112] ∨ op = bs [115, 116, 97, 116, 101] ∨ op = bs [111, 117, 116] ∨ op = bs [97, 103, 97, 105, 110] ∨ op = bs [103, 97, 110, 100] ∨ op = bs [109, 114, 103] ∨ op = bs [43] ∨ op = bs [45] ∨ op = bs [42] ∨ op = bs [47] ∨ op = bs [100, 105, 118] ∨ op = bs [109, 111, 100] ∨ op = bs [60] ∨ op = bs [60, 61] ∨ op = bs [62] ∨ op = bs [62, 61] ∨ op = bs [61, 61] ∨ op = bs [33, 61] ∨ op = bs [97, 110, 100] ∨ op = bs [111, 114] ∨ op = bs [115, 101, 108] := by
  refine Classical.byContradiction fun hn => ?_
  simp only [not_or] at hn
  obtain ⟨h0, h1, h2, h3, h4, h5, h6, h7, h8, h9, h10, h11, h12, h13, h14, h15, h16, h17, h18, h19, h20, h21, h22, h23, h24, h25, h26, h27, h28, h29, h30⟩ := hn
  rw [enS_no op n h0 h1 h2 h3 h4 h5 h6 h7 h8 h9 h10 h11 h12 h13 h14 h15 h16 h17 h18 h19 h20 h21 h22 h23 h24 h25 h26 h27 h28 h29 h30] at h
  cases h
theorem opX_cases {op : ByteArray} (h : nLn op ≠ none) : op = bs [108, 99, 111, 110, 116] ∨ op = bs [108, 118, 97, 114] ∨ op = bs [108, 110, 101, 103] ∨ op = bs [97, 115, 107] ∨ op = bs [108, 43] ∨ op = bs [108, 45] ∨ op = bs [108, 42] ∨ op = bs [108, 47] ∨ op = bs [108, 115, 101, 108] := by
  refine Classical.byContradiction fun hn => ?_
  simp only [not_or] at hn
  obtain ⟨h0, h1, h2, h3, h4, h5, h6, h7, h8⟩ := hn
  exact h (nLn_no op h0 h1 h2 h3 h4 h5 h6 h7 h8)
theorem stB_en {c : CodeM} {W : List Int} {x : InsP} (h : stB c W x = true) : enS x.op x.args.length = true := by
  unfold stB at h
  simp only [Bool.and_eq_true] at h
  exact h.1.1.1.1
theorem drB_op {c : CodeM} {W : List Int} {x : InsP} (h : drB c W x = true) : x.op = opSlope := by
  unfold drB at h
  simp only [Bool.and_eq_true, decide_eq_true_eq] at h
  exact h.1.1.1
theorem crB_op {c : CodeM} {W L : List Int} {x : InsP} (h : crB c W L x = true) : nLn x.op ≠ none := by
  intro hn
  rw [cr_none hn] at h
  cases h
/-- what each law tells -/
def LawPost (w : World) (e : Ending) (w' : World) : Prop := e = .returned (.bool true) ∧ Below w.heap.size w w'
/-- the code, its copy in a block of the law's own -/
structure LwSt (w : World) (c : CodeM) (v : CodeV) (W : World) : Prop where
  is : CodeIs W w.heap.size c v
  blk : Blk W w.heap.size 25 (cvs c v)
  old : Below w.heap.size w W
theorem LwSt.later {w W W' : World} {c : CodeM} {v : CodeV} (h : LwSt w c v W) (hb : Below W.heap.size W W') : LwSt w c v W' :=
  ⟨h.is.below (hb.mono h.old.size), h.blk.later hb, h.old.trans (hb.mono h.old.size)⟩
theorem LwSt.start {w : World} {c : CodeM} {v : CodeV} (h : CodeIs w w.heap.size c v) : LwSt w c v (w.alloc (.cells (cvs c v) 25)) :=
  ⟨h.below ((Below.refl _ _).alloc (Nat.le_refl _) _), Blk.new _ _ _, (Below.refl _ _).alloc (Nat.le_refl _) _⟩
set_option maxHeartbeats 4000000 in
theorem sb_1 (c : CodeM) (v : CodeV) (w : World) (h : CodeIs w w.heap.size c v) (hf : fewC c = false) : Calls Try.prog 5 #[codeV c v] w (LawPost w) := by
  obtain ⟨W1, hW1⟩ : ∃ W1, W1 = w.alloc (.cells #[.int .i64 c.ins, .int .i64 c.outs, .int .i64 c.slots, .int .i64 c.crosses, .int .i64 c.lines, .slice v.mems.1 v.mems.2.1 v.mems.2.2, .slice v.conts.1 v.conts.2.1 v.conts.2.2, .slice v.step.1 v.step.2.1 v.step.2.2, .slice v.deriv.1 v.deriv.2.1 v.deriv.2.2, .slice v.cross.1 v.cross.2.1 v.cross.2.2] 25) := ⟨_, rfl⟩
  have HL := Lib.hid (show LwSt w c v W1 from by rw [hW1]; exact LwSt.start h)
  clear h
  unfold codeV
  have HF := Lib.hid hf
  clear hf
  obtain ⟨n0, n1, n2, n3, n4, n5, n6, n7, n8, n9⟩ := HL.out.blk.code
  go_enter Try.func5, Try.ntmps5
  go_upto_region 1 with fail
  rw [← hW1]
  clear hW1
  go_wp2_with (first | (go_at_call 8; (with_reducible refine (few_b w.heap.size false c v _ HL.out.is HL.out.old.size HF.out).mono ?_); rintro e w2 ⟨rfl, hb2⟩; have HL := Lib.hid (HL.out.later hb2); clear hb2 n0 n1 n2 n3 n4 n5 n6 n7 n8 n9; obtain ⟨n0, n1, n2, n3, n4, n5, n6, n7, n8, n9⟩ := HL.out.blk.code) | (go_at_call 11; refine (awake_t _).mono ?_; rintro e w4 ⟨rfl, hb4⟩))
  go_ret
  exact ⟨rfl, (HL.out.later hb4).old⟩
set_option maxHeartbeats 4000000 in
theorem sb_2 (c : CodeM) (v : CodeV) (w : World) (h : CodeIs w w.heap.size c v) (hf : fewC c = true) (hr : ¬ RightC c) : Calls Try.prog 5 #[codeV c v] w (LawPost w) := by
  obtain ⟨W1, hW1⟩ : ∃ W1, W1 = w.alloc (.cells #[.int .i64 c.ins, .int .i64 c.outs, .int .i64 c.slots, .int .i64 c.crosses, .int .i64 c.lines, .slice v.mems.1 v.mems.2.1 v.mems.2.2, .slice v.conts.1 v.conts.2.1 v.conts.2.2, .slice v.step.1 v.step.2.1 v.step.2.2, .slice v.deriv.1 v.deriv.2.1 v.deriv.2.2, .slice v.cross.1 v.cross.2.1 v.cross.2.2] 25) := ⟨_, rfl⟩
  have HL := Lib.hid (show LwSt w c v W1 from by rw [hW1]; exact LwSt.start h)
  clear h
  unfold codeV
  have HF := Lib.hid hf
  have HRC := Lib.hid hr
  clear hf hr
  obtain ⟨n0, n1, n2, n3, n4, n5, n6, n7, n8, n9⟩ := HL.out.blk.code
  go_enter Try.func5, Try.ntmps5
  go_upto_region 1 with fail
  rw [← hW1]
  clear hW1
  go_wp2_with (first | (go_at_call 8; (with_reducible refine (few_b w.heap.size true c v _ HL.out.is HL.out.old.size HF.out).mono ?_); rintro e w2 ⟨rfl, hb2⟩; have HL := Lib.hid (HL.out.later hb2); clear hb2 n0 n1 n2 n3 n4 n5 n6 n7 n8 n9; obtain ⟨n0, n1, n2, n3, n4, n5, n6, n7, n8, n9⟩ := HL.out.blk.code) | (go_at_call 9; (with_reducible refine (rgt_no w.heap.size c v _ HL.out.is HL.out.old.size HRC.out).mono ?_); rintro e w3 ⟨rfl, hb3⟩; have HL := Lib.hid (HL.out.later hb3); clear hb3 n0 n1 n2 n3 n4 n5 n6 n7 n8 n9; obtain ⟨n0, n1, n2, n3, n4, n5, n6, n7, n8, n9⟩ := HL.out.blk.code) | (go_at_call 11; refine (awake_t _).mono ?_; rintro e w4 ⟨rfl, hb4⟩))
  go_ret
  exact ⟨rfl, (HL.out.later hb4).old⟩
set_option maxHeartbeats 4000000 in
theorem sb_3 (c : CodeM) (v : CodeV) (w : World) (h : CodeIs w w.heap.size c v) (hf : fewC c = true) (hr : RightC c) : Calls Try.prog 5 #[codeV c v] w (LawPost w) := by
  obtain ⟨W1, hW1⟩ : ∃ W1, W1 = w.alloc (.cells #[.int .i64 c.ins, .int .i64 c.outs, .int .i64 c.slots, .int .i64 c.crosses, .int .i64 c.lines, .slice v.mems.1 v.mems.2.1 v.mems.2.2, .slice v.conts.1 v.conts.2.1 v.conts.2.2, .slice v.step.1 v.step.2.1 v.step.2.2, .slice v.deriv.1 v.deriv.2.1 v.deriv.2.2, .slice v.cross.1 v.cross.2.1 v.cross.2.2] 25) := ⟨_, rfl⟩
  have HL := Lib.hid (show LwSt w c v W1 from by rw [hW1]; exact LwSt.start h)
  clear h
  unfold codeV
  have HF := Lib.hid hf
  have HRC := Lib.hid hr
  clear hf hr
  obtain ⟨n0, n1, n2, n3, n4, n5, n6, n7, n8, n9⟩ := HL.out.blk.code
  go_enter Try.func5, Try.ntmps5
  go_upto_region 1 with fail
  rw [← hW1]
  clear hW1
  go_upto_region 3 with (first | (go_at_call 8; (with_reducible refine (few_b w.heap.size true c v _ HL.out.is HL.out.old.size HF.out).mono ?_); rintro e w2 ⟨rfl, hb2⟩; have HL := Lib.hid (HL.out.later hb2); clear hb2 n0 n1 n2 n3 n4 n5 n6 n7 n8 n9; obtain ⟨n0, n1, n2, n3, n4, n5, n6, n7, n8, n9⟩ := HL.out.blk.code) | (go_at_call 9; (with_reducible refine (rgt_yes w.heap.size c v _ HL.out.is HL.out.old.size HRC.out).mono ?_); rintro e w3 ⟨rfl, hb3⟩; have HL := Lib.hid (HL.out.later hb3); clear hb3 n0 n1 n2 n3 n4 n5 n6 n7 n8 n9; obtain ⟨n0, n1, n2, n3, n4, n5, n6, n7, n8, n9⟩ := HL.out.blk.code))
  have hm1 := HL.out.is.step.len_le
  have hm2 := HL.out.is.deriv.len_le
  have hm3 := HL.out.is.cross.len_le
  unfold maxLen at hm1 hm2 hm3
  go_wp2_with fail
  go_loop [3] (fun t => ∃ k : Nat, k ≤ v.step.2.1 ∧ t = .int .i64 k) (fun t => v.step.2.1 - (intOf t).toNat)
  case atStart => exact ⟨0, Nat.zero_le _, rfl⟩
  case round =>
    obtain ⟨k, hk, rfl⟩ := hrel
    by_cases hlt : k < v.step.2.1
    · obtain ⟨x, hx⟩ := HL.out.is.step.ex hlt
      obtain ⟨b, off, ha, hbl, hat⟩ := HL.out.is.step.at_ hx
      obtain ⟨x0, hsz⟩ := hat.op
      have hkI : (k : Int) < (v.step.2.1 : Int) := by omega
      rw [ha] at n7
      have hop := opS_cases (stB_en (HRC.out.step k x hx))
      clear hx hat ha hbl hsz
      rcases hop with h | h | h | h | h | h | h | h | h | h | h | h | h | h | h | h | h | h | h | h | h | h | h | h | h | h | h | h | h | h | h
      · rw [h, show bs [108, 105, 116] = (⟨#[108, 105, 116]⟩ : ByteArray) from rfl] at x0
        clear h
        go_wp2_with fail
        go_round
        case rel => exact ⟨k + 1, by omega, by go_num⟩
        case measure => simp [intOf]; omega
      · rw [h, show bs [105, 110] = (⟨#[105, 110]⟩ : ByteArray) from rfl] at x0
        clear h
        go_wp2_with fail
        go_round
        case rel => exact ⟨k + 1, by omega, by go_num⟩
        case measure => simp [intOf]; omega
      · rw [h, show bs [109, 101, 109] = (⟨#[109, 101, 109]⟩ : ByteArray) from rfl] at x0
        clear h
        go_wp2_with fail
        go_round
        case rel => exact ⟨k + 1, by omega, by go_num⟩
        case measure => simp [intOf]; omega
      · rw [h, show bs [99, 111, 110, 116] = (⟨#[99, 111, 110, 116]⟩ : ByteArray) from rfl] at x0
        clear h
        go_wp2_with fail
        go_round
        case rel => exact ⟨k + 1, by omega, by go_num⟩
        case measure => simp [intOf]; omega
      · rw [h, show bs [102, 108, 97, 103] = (⟨#[102, 108, 97, 103]⟩ : ByteArray) from rfl] at x0
        clear h
        go_wp2_with fail
        go_round
        case rel => exact ⟨k + 1, by omega, by go_num⟩
        case measure => simp [intOf]; omega
      · rw [h, show bs [99, 111, 112, 121] = (⟨#[99, 111, 112, 121]⟩ : ByteArray) from rfl] at x0
        clear h
        go_wp2_with fail
        go_round
        case rel => exact ⟨k + 1, by omega, by go_num⟩
        case measure => simp [intOf]; omega
      · rw [h, show bs [110, 101, 103] = (⟨#[110, 101, 103]⟩ : ByteArray) from rfl] at x0
        clear h
        go_wp2_with fail
        go_round
        case rel => exact ⟨k + 1, by omega, by go_num⟩
        case measure => simp [intOf]; omega
      · rw [h, show bs [110, 111, 116] = (⟨#[110, 111, 116]⟩ : ByteArray) from rfl] at x0
        clear h
        go_wp2_with fail
        go_round
        case rel => exact ⟨k + 1, by omega, by go_num⟩
        case measure => simp [intOf]; omega
      · rw [h, show bs [102, 108, 111, 111, 114] = (⟨#[102, 108, 111, 111, 114]⟩ : ByteArray) from rfl] at x0
        clear h
        go_wp2_with fail
        go_round
        case rel => exact ⟨k + 1, by omega, by go_num⟩
        case measure => simp [intOf]; omega
      · rw [h, show bs [114, 97, 116] = (⟨#[114, 97, 116]⟩ : ByteArray) from rfl] at x0
        clear h
        go_wp2_with fail
        go_round
        case rel => exact ⟨k + 1, by omega, by go_num⟩
        case measure => simp [intOf]; omega
      · rw [h, show bs [107, 101, 101, 112] = (⟨#[107, 101, 101, 112]⟩ : ByteArray) from rfl] at x0
        clear h
        go_wp2_with fail
        go_round
        case rel => exact ⟨k + 1, by omega, by go_num⟩
        case measure => simp [intOf]; omega
      · rw [h, show bs [115, 116, 97, 116, 101] = (⟨#[115, 116, 97, 116, 101]⟩ : ByteArray) from rfl] at x0
        clear h
        go_wp2_with fail
        go_round
        case rel => exact ⟨k + 1, by omega, by go_num⟩
        case measure => simp [intOf]; omega
      · rw [h, show bs [111, 117, 116] = (⟨#[111, 117, 116]⟩ : ByteArray) from rfl] at x0
        clear h
        go_wp2_with fail
        go_round
        case rel => exact ⟨k + 1, by omega, by go_num⟩
        case measure => simp [intOf]; omega
      · rw [h, show bs [97, 103, 97, 105, 110] = (⟨#[97, 103, 97, 105, 110]⟩ : ByteArray) from rfl] at x0
        clear h
        go_wp2_with fail
        go_round
        case rel => exact ⟨k + 1, by omega, by go_num⟩
        case measure => simp [intOf]; omega
      · rw [h, show bs [103, 97, 110, 100] = (⟨#[103, 97, 110, 100]⟩ : ByteArray) from rfl] at x0
        clear h
        go_wp2_with fail
        go_round
        case rel => exact ⟨k + 1, by omega, by go_num⟩
        case measure => simp [intOf]; omega
      · rw [h, show bs [109, 114, 103] = (⟨#[109, 114, 103]⟩ : ByteArray) from rfl] at x0
        clear h
        go_wp2_with fail
        go_round
        case rel => exact ⟨k + 1, by omega, by go_num⟩
        case measure => simp [intOf]; omega
      · rw [h, show bs [43] = (⟨#[43]⟩ : ByteArray) from rfl] at x0
        clear h
        go_wp2_with fail
        go_round
        case rel => exact ⟨k + 1, by omega, by go_num⟩
        case measure => simp [intOf]; omega
      · rw [h, show bs [45] = (⟨#[45]⟩ : ByteArray) from rfl] at x0
        clear h
        go_wp2_with fail
        go_round
        case rel => exact ⟨k + 1, by omega, by go_num⟩
        case measure => simp [intOf]; omega
      · rw [h, show bs [42] = (⟨#[42]⟩ : ByteArray) from rfl] at x0
        clear h
        go_wp2_with fail
        go_round
        case rel => exact ⟨k + 1, by omega, by go_num⟩
        case measure => simp [intOf]; omega
      · rw [h, show bs [47] = (⟨#[47]⟩ : ByteArray) from rfl] at x0
        clear h
        go_wp2_with fail
        go_round
        case rel => exact ⟨k + 1, by omega, by go_num⟩
        case measure => simp [intOf]; omega
      · rw [h, show bs [100, 105, 118] = (⟨#[100, 105, 118]⟩ : ByteArray) from rfl] at x0
        clear h
        go_wp2_with fail
        go_round
        case rel => exact ⟨k + 1, by omega, by go_num⟩
        case measure => simp [intOf]; omega
      · rw [h, show bs [109, 111, 100] = (⟨#[109, 111, 100]⟩ : ByteArray) from rfl] at x0
        clear h
        go_wp2_with fail
        go_round
        case rel => exact ⟨k + 1, by omega, by go_num⟩
        case measure => simp [intOf]; omega
      · rw [h, show bs [60] = (⟨#[60]⟩ : ByteArray) from rfl] at x0
        clear h
        go_wp2_with fail
        go_round
        case rel => exact ⟨k + 1, by omega, by go_num⟩
        case measure => simp [intOf]; omega
      · rw [h, show bs [60, 61] = (⟨#[60, 61]⟩ : ByteArray) from rfl] at x0
        clear h
        go_wp2_with fail
        go_round
        case rel => exact ⟨k + 1, by omega, by go_num⟩
        case measure => simp [intOf]; omega
      · rw [h, show bs [62] = (⟨#[62]⟩ : ByteArray) from rfl] at x0
        clear h
        go_wp2_with fail
        go_round
        case rel => exact ⟨k + 1, by omega, by go_num⟩
        case measure => simp [intOf]; omega
      · rw [h, show bs [62, 61] = (⟨#[62, 61]⟩ : ByteArray) from rfl] at x0
        clear h
        go_wp2_with fail
        go_round
        case rel => exact ⟨k + 1, by omega, by go_num⟩
        case measure => simp [intOf]; omega
      · rw [h, show bs [61, 61] = (⟨#[61, 61]⟩ : ByteArray) from rfl] at x0
        clear h
        go_wp2_with fail
        go_round
        case rel => exact ⟨k + 1, by omega, by go_num⟩
        case measure => simp [intOf]; omega
      · rw [h, show bs [33, 61] = (⟨#[33, 61]⟩ : ByteArray) from rfl] at x0
        clear h
        go_wp2_with fail
        go_round
        case rel => exact ⟨k + 1, by omega, by go_num⟩
        case measure => simp [intOf]; omega
      · rw [h, show bs [97, 110, 100] = (⟨#[97, 110, 100]⟩ : ByteArray) from rfl] at x0
        clear h
        go_wp2_with fail
        go_round
        case rel => exact ⟨k + 1, by omega, by go_num⟩
        case measure => simp [intOf]; omega
      · rw [h, show bs [111, 114] = (⟨#[111, 114]⟩ : ByteArray) from rfl] at x0
        clear h
        go_wp2_with fail
        go_round
        case rel => exact ⟨k + 1, by omega, by go_num⟩
        case measure => simp [intOf]; omega
      · rw [h, show bs [115, 101, 108] = (⟨#[115, 101, 108]⟩ : ByteArray) from rfl] at x0
        clear h
        go_wp2_with fail
        go_round
        case rel => exact ⟨k + 1, by omega, by go_num⟩
        case measure => simp [intOf]; omega
    · obtain rfl : k = v.step.2.1 := by omega
      go_wp2_with fail
      go_loop [5] (fun t => ∃ k : Nat, k ≤ v.deriv.2.1 ∧ t = .int .i64 k) (fun t => v.deriv.2.1 - (intOf t).toNat)
      case atStart => exact ⟨0, Nat.zero_le _, rfl⟩
      case round =>
        obtain ⟨k, hk, rfl⟩ := hrel
        by_cases hlt : k < v.deriv.2.1
        · obtain ⟨x, hx⟩ := HL.out.is.deriv.ex hlt
          obtain ⟨b, off, ha, hbl, hat⟩ := HL.out.is.deriv.at_ hx
          obtain ⟨x0, hsz⟩ := hat.op
          have hkI : (k : Int) < (v.deriv.2.1 : Int) := by omega
          rw [ha] at n8
          have h := drB_op (HRC.out.deriv k x hx)
          clear hx hat ha hbl hsz
          rw [h, show opSlope = (⟨#[115, 108, 111, 112, 101]⟩ : ByteArray) from rfl] at x0
          clear h
          go_wp2_with fail
          go_round
          case rel => exact ⟨k + 1, by omega, by go_num⟩
          case measure => simp [intOf]; omega
        · obtain rfl : k = v.deriv.2.1 := by omega
          go_wp2_with fail
          go_loop [6] (fun t => ∃ k : Nat, k ≤ v.cross.2.1 ∧ t = .int .i64 k) (fun t => v.cross.2.1 - (intOf t).toNat)
          case atStart => exact ⟨0, Nat.zero_le _, rfl⟩
          case round =>
            obtain ⟨k, hk, rfl⟩ := hrel
            by_cases hlt : k < v.cross.2.1
            · obtain ⟨x, hx⟩ := HL.out.is.cross.ex hlt
              obtain ⟨b, off, ha, hbl, hat⟩ := HL.out.is.cross.at_ hx
              obtain ⟨x0, hsz⟩ := hat.op
              have hkI : (k : Int) < (v.cross.2.1 : Int) := by omega
              rw [ha] at n9
              have hop := opX_cases (crB_op (HRC.out.cross k x hx))
              clear hx hat ha hbl hsz
              rcases hop with h | h | h | h | h | h | h | h | h
              · rw [h, show bs [108, 99, 111, 110, 116] = (⟨#[108, 99, 111, 110, 116]⟩ : ByteArray) from rfl] at x0
                clear h
                go_wp2_with fail
                go_round
                case rel => exact ⟨k + 1, by omega, by go_num⟩
                case measure => simp [intOf]; omega
              · rw [h, show bs [108, 118, 97, 114] = (⟨#[108, 118, 97, 114]⟩ : ByteArray) from rfl] at x0
                clear h
                go_wp2_with fail
                go_round
                case rel => exact ⟨k + 1, by omega, by go_num⟩
                case measure => simp [intOf]; omega
              · rw [h, show bs [108, 110, 101, 103] = (⟨#[108, 110, 101, 103]⟩ : ByteArray) from rfl] at x0
                clear h
                go_wp2_with fail
                go_round
                case rel => exact ⟨k + 1, by omega, by go_num⟩
                case measure => simp [intOf]; omega
              · rw [h, show bs [97, 115, 107] = (⟨#[97, 115, 107]⟩ : ByteArray) from rfl] at x0
                clear h
                go_wp2_with fail
                go_round
                case rel => exact ⟨k + 1, by omega, by go_num⟩
                case measure => simp [intOf]; omega
              · rw [h, show bs [108, 43] = (⟨#[108, 43]⟩ : ByteArray) from rfl] at x0
                clear h
                go_wp2_with fail
                go_round
                case rel => exact ⟨k + 1, by omega, by go_num⟩
                case measure => simp [intOf]; omega
              · rw [h, show bs [108, 45] = (⟨#[108, 45]⟩ : ByteArray) from rfl] at x0
                clear h
                go_wp2_with fail
                go_round
                case rel => exact ⟨k + 1, by omega, by go_num⟩
                case measure => simp [intOf]; omega
              · rw [h, show bs [108, 42] = (⟨#[108, 42]⟩ : ByteArray) from rfl] at x0
                clear h
                go_wp2_with fail
                go_round
                case rel => exact ⟨k + 1, by omega, by go_num⟩
                case measure => simp [intOf]; omega
              · rw [h, show bs [108, 47] = (⟨#[108, 47]⟩ : ByteArray) from rfl] at x0
                clear h
                go_wp2_with fail
                go_round
                case rel => exact ⟨k + 1, by omega, by go_num⟩
                case measure => simp [intOf]; omega
              · rw [h, show bs [108, 115, 101, 108] = (⟨#[108, 115, 101, 108]⟩ : ByteArray) from rfl] at x0
                clear h
                go_wp2_with fail
                go_round
                case rel => exact ⟨k + 1, by omega, by go_num⟩
                case measure => simp [intOf]; omega
            · obtain rfl : k = v.cross.2.1 := by omega
              go_wp2_with (go_at_call 11; refine (awake_t _).mono ?_; rintro e w4 ⟨rfl, hb4⟩)
              go_ret
              exact ⟨rfl, (HL.out.later hb4).old⟩
theorem safeBodies_walk (c : CodeM) (v : CodeV) (w : World) (h : CodeIs w w.heap.size c v) : Calls Try.prog 5 #[codeV c v] w (LawPost w) := by
  cases hf : fewC c with
  | false => exact sb_1 c v w h hf
  | true =>
    by_cases hr : RightC c
    · exact sb_3 c v w h hf hr
    · exact sb_2 c v w h hf hr

end Go.Proofs.Ytcljmfhelgkfaaa
