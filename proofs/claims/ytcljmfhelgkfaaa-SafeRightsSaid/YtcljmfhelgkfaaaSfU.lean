/- What the small functions of the answer tell. No condition but bounds. -/
import Derived.Test.YtcljmfhelgkfaaaSfS
import Derived.Deep.RegionWith
import Derived.Deep.RegionHeld3
import Derived.Deep.DeepCutAuto
namespace Go.Proofs.Ytcljmfhelgkfaaa
set_option linter.unusedVariables false
set_option linter.unusedSimpArgs false
set_option maxRecDepth 100000
open Go.RowKit

theorem in_t (i n : Int) (b : Bool) (w : World) (h : inB i n = b) :
    Calls Try.prog 48 #[.int .i64 i, .int .i64 n] w fun e w' => e = .returned (.bool b) ∧ w' = w := by
  cases b with
  | true =>
    obtain ⟨j, rfl, h1⟩ := inB_yes h
    have g1 : decide (0 ≤ (j : Int)) = true := decide_eq_true (by omega)
    clear h
    go_enter Try.func48, Try.ntmps48
    go_wp2
    go_ret
    exact ⟨rfl, rfl⟩
  | false =>
    have h' := inB_no h
    clear h
    by_cases h0 : i < 0
    · have g1 : decide (0 ≤ i) = false := by rw [decide_eq_false_iff_not]; omega
      go_enter Try.func48, Try.ntmps48
      go_wp2
      go_ret
      exact ⟨rfl, rfl⟩
    · have h1 : n ≤ i := by omega
      have g1 : decide (0 ≤ i) = true := decide_eq_true (by omega)
      have h0' : 0 ≤ i := by omega
      have h2 : decide (i < n) = false := by rw [decide_eq_false_iff_not]; omega
      clear h' h0
      go_enter Try.func48, Try.ntmps48
      go_wp2
      go_ret
      exact ⟨by first | rfl | rw [h2], rfl⟩
theorem wTo_mem {l : List InsP} {k n : Nat} {x : InsP} (hx : l[k]? = some x) (hk : k < n) (he : isEnd x.op = false) : x.dst ∈ wTo (l.take n) := by
  unfold wTo
  rw [List.mem_filterMap]
  refine ⟨x, List.mem_of_getElem? (i := k) (by rw [List.getElem?_take_of_lt hk]; exact hx), by rw [he]; simp⟩
theorem lTo_mem {l : List InsP} {k n : Nat} {x : InsP} (hx : l[k]? = some x) (hk : k < n) (he : ¬ x.op = opAsk) : x.dst ∈ lTo (l.take n) := by
  unfold lTo
  rw [List.mem_filterMap]
  refine ⟨x, List.mem_of_getElem? (i := k) (by rw [List.getElem?_take_of_lt hk]; exact hx), by rw [if_neg he]⟩
theorem wrB_in {S : Int} {W : List Int} {j : Int} (h : j ∈ W) : wrB S W j = inB j S := by unfold wrB; rw [decide_eq_true h, Bool.and_true]
theorem wrB_out {S : Int} {W : List Int} {j : Int} (h : ¬ j ∈ W) : wrB S W j = false := by unfold wrB; rw [decide_eq_false h, Bool.and_false]
set_option maxHeartbeats 4000000 in
theorem written_r (B : Nat) (c : CodeM) (v : CodeV) (w : World) (h : CodeIs w B c v) (hB : B ≤ w.heap.size) (up : Nat) (hup : up ≤ v.step.2.1) (hok : OkS c up) (slot : Int) (b : Bool) (hv : wrB c.slots (wTo (c.step.take up)) slot = b) : Calls Try.prog 49 #[.agg #[.int .i64 c.ins, .int .i64 c.outs, .int .i64 c.slots, .int .i64 c.crosses, .int .i64 c.lines, .slice v.mems.1 v.mems.2.1 v.mems.2.2, .slice v.conts.1 v.conts.2.1 v.conts.2.2, .slice v.step.1 v.step.2.1 v.step.2.2, .slice v.deriv.1 v.deriv.2.1 v.deriv.2.2, .slice v.cross.1 v.cross.2.1 v.cross.2.2], .int .i64 (up : Nat), .int .i64 slot] w fun e w' => e = .returned (.bool b) ∧ Below w.heap.size w w' := by
  obtain ⟨W1, hW1⟩ : ∃ W1, W1 = w.alloc (.cells #[.int .i64 c.ins, .int .i64 c.outs, .int .i64 c.slots, .int .i64 c.crosses, .int .i64 c.lines, .slice v.mems.1 v.mems.2.1 v.mems.2.2, .slice v.conts.1 v.conts.2.1 v.conts.2.2, .slice v.step.1 v.step.2.1 v.step.2.2, .slice v.deriv.1 v.deriv.2.1 v.deriv.2.2, .slice v.cross.1 v.cross.2.1 v.cross.2.2] 25) := ⟨_, rfl⟩
  have HL := Lib.hid (show LwSt w c v W1 from by rw [hW1]; exact LwSt.start (h.more hB))
  clear h hB
  have HV := Lib.hid hv
  have HOK := Lib.hid hok
  have hm := HL.out.is.step.len_le
  unfold maxLen at hm
  clear hok hv
  obtain ⟨n0, n1, n2, n3, n4, n5, n6, n7, n8, n9⟩ := HL.out.blk.code
  go_enter Try.func49, Try.ntmps49
  go_upto_region 1 with fail
  rw [← hW1]
  clear hW1
  go_wp2_with fail
  go_loop [7] (fun t => ∃ k : Nat, k ≤ up ∧ t = .int .i64 k ∧ Hid (¬ slot ∈ wTo (c.step.take k))) (fun t => up - (intOf t).toNat)
  case atStart => exact ⟨0, Nat.zero_le _, rfl, Lib.hid (by simp [wTo])⟩
  case round =>
    obtain ⟨k, hk, rfl, HN⟩ := hrel
    by_cases hlt : k < up
    · have hlt' : k < v.step.2.1 := by omega
      obtain ⟨x, hx⟩ := HL.out.is.step.ex hlt'
      obtain ⟨bb, off, ha, hbl, hat⟩ := HL.out.is.step.at_ hx
      obtain ⟨x0, hsz⟩ := hat.op
      obtain ⟨x1, hd1⟩ := hat.dst
      have HX := Lib.hid hx
      have HEN := Lib.hid (stB_en (HOK.out k x hlt hx))
      have hkI : (k : Int) < (up : Int) := by omega
      have hkI2 : (k : Int) < (v.step.2.1 : Int) := by omega
      rw [ha] at n7
      obtain ⟨N1, hN1⟩ : ∃ N1, N1 = (argsV x.op).1 := ⟨_, rfl⟩
      obtain ⟨N2, hN2⟩ : ∃ N2, N2 = (argsV x.op).2 := ⟨_, rfl⟩
      have HAT := Lib.hid (args_t x.op)
      rw [← hN1, ← hN2] at HAT
      clear hx ha hat hbl hsz hd1
      cases hie : isEnd x.op with
      | true =>
        have h0 := (args_enS HEN.out).1 hie
        rw [← hN1] at h0
        subst h0
        have HIE := Lib.hid hie
        clear hie hN1 hN2
        go_wp2_with (go_at_call 15; (with_reducible refine (HAT.out _).mono ?_); rintro e w7 ⟨rfl, rfl⟩)
        go_round
        case rel => exact ⟨k + 1, by omega, by go_num, Lib.hid (by rw [take_snoc HX.out, wTo_end HIE.out]; exact HN.out)⟩
        case measure => simp [intOf]; omega
      | false =>
        have h0 := (args_enS HEN.out).2 hie
        rw [← hN1] at h0
        have g0 : decide (0 ≤ N1) = true := decide_eq_true h0
        have HIE := Lib.hid hie
        clear hie hN1 hN2
        by_cases he : x.dst = slot
        · have HBV : Hid (inB slot c.slots = b) := Lib.hid (by rw [← HV.out, ← he]; exact (wrB_in (wTo_mem HX.out hlt HIE.out)).symm)
          rw [he] at x1
          clear he
          go_wp2_with (first | (go_at_call 15; (with_reducible refine (HAT.out _).mono ?_); rintro e w7 ⟨rfl, rfl⟩) | (go_at_call 48; (with_reducible refine (in_t slot c.slots b _ HBV.out).mono ?_); rintro e w8 ⟨rfl, rfl⟩))
          go_ret
          exact ⟨rfl, HL.out.old⟩
        · have HNE := Lib.hid he
          have g1 : (x.dst == slot) = false := by rw [beq_eq_false_iff_ne]; exact he
          have g2 : decide (x.dst = slot) = false := decide_eq_false he
          go_wp2_with (go_at_call 15; (with_reducible refine (HAT.out _).mono ?_); rintro e w7 ⟨rfl, rfl⟩)
          go_round
          case rel => exact ⟨k + 1, by omega, by go_num, Lib.hid (by rw [take_snoc HX.out, wTo_eq HIE.out, List.mem_append, List.mem_singleton]; exact fun h => h.elim HN.out fun h => HNE.out h.symm)⟩
          case measure => simp [intOf]; omega
    · obtain rfl : k = up := by omega
      go_wp2
      go_ret
      exact ⟨ret_bool' (by rw [← HV.out, wrB_out HN.out]), HL.out.old⟩
set_option maxHeartbeats 4000000 in
theorem line_r (B : Nat) (c : CodeM) (v : CodeV) (w : World) (h : CodeIs w B c v) (hB : B ≤ w.heap.size) (up : Nat) (hup : up ≤ v.cross.2.1) (slot : Int) (b : Bool) (hv : wrB c.lines (lTo (c.cross.take up)) slot = b) : Calls Try.prog 50 #[.agg #[.int .i64 c.ins, .int .i64 c.outs, .int .i64 c.slots, .int .i64 c.crosses, .int .i64 c.lines, .slice v.mems.1 v.mems.2.1 v.mems.2.2, .slice v.conts.1 v.conts.2.1 v.conts.2.2, .slice v.step.1 v.step.2.1 v.step.2.2, .slice v.deriv.1 v.deriv.2.1 v.deriv.2.2, .slice v.cross.1 v.cross.2.1 v.cross.2.2], .int .i64 (up : Nat), .int .i64 slot] w fun e w' => e = .returned (.bool b) ∧ Below w.heap.size w w' := by
  obtain ⟨W1, hW1⟩ : ∃ W1, W1 = w.alloc (.cells #[.int .i64 c.ins, .int .i64 c.outs, .int .i64 c.slots, .int .i64 c.crosses, .int .i64 c.lines, .slice v.mems.1 v.mems.2.1 v.mems.2.2, .slice v.conts.1 v.conts.2.1 v.conts.2.2, .slice v.step.1 v.step.2.1 v.step.2.2, .slice v.deriv.1 v.deriv.2.1 v.deriv.2.2, .slice v.cross.1 v.cross.2.1 v.cross.2.2] 25) := ⟨_, rfl⟩
  have HL := Lib.hid (show LwSt w c v W1 from by rw [hW1]; exact LwSt.start (h.more hB))
  clear h hB
  have HV := Lib.hid hv
  have hm := HL.out.is.cross.len_le
  unfold maxLen at hm
  clear hv
  obtain ⟨n0, n1, n2, n3, n4, n5, n6, n7, n8, n9⟩ := HL.out.blk.code
  go_enter Try.func50, Try.ntmps50
  go_upto_region 1 with fail
  rw [← hW1]
  clear hW1
  go_wp2_with fail
  go_loop [7] (fun t => ∃ k : Nat, k ≤ up ∧ t = .int .i64 k ∧ Hid (¬ slot ∈ lTo (c.cross.take k))) (fun t => up - (intOf t).toNat)
  case atStart => exact ⟨0, Nat.zero_le _, rfl, Lib.hid (by simp [lTo])⟩
  case round =>
    obtain ⟨k, hk, rfl, HN⟩ := hrel
    by_cases hlt : k < up
    · have hlt' : k < v.cross.2.1 := by omega
      obtain ⟨x, hx⟩ := HL.out.is.cross.ex hlt'
      obtain ⟨bb, off, ha, hbl, hat⟩ := HL.out.is.cross.at_ hx
      obtain ⟨x0, hsz⟩ := hat.op
      obtain ⟨x1, hd1⟩ := hat.dst
      have HX := Lib.hid hx
      have hkI : (k : Int) < (up : Int) := by omega
      have hkI2 : (k : Int) < (v.cross.2.1 : Int) := by omega
      rw [ha] at n9
      clear hx ha hat hbl hsz hd1
      by_cases hie : x.op = opAsk
      · have HIE := Lib.hid hie
        rw [hie, show opAsk = (⟨#[97, 115, 107]⟩ : ByteArray) from rfl] at x0
        clear hie
        go_wp2_with fail
        go_round
        case rel => exact ⟨k + 1, by omega, by go_num, Lib.hid (by rw [take_snoc HX.out, lTo_ask HIE.out]; exact HN.out)⟩
        case measure => simp [intOf]; omega
      · have HIE := Lib.hid hie
        have g3 := str_no (l := [97, 115, 107]) hie
        clear hie
        by_cases he : x.dst = slot
        · have HBV : Hid (inB slot c.lines = b) := Lib.hid (by rw [← HV.out, ← he]; exact (wrB_in (lTo_mem HX.out hlt HIE.out)).symm)
          rw [he] at x1
          clear he
          go_wp2_with (go_at_call 48; (with_reducible refine (in_t slot c.lines b _ HBV.out).mono ?_); rintro e w8 ⟨rfl, rfl⟩)
          go_ret
          exact ⟨rfl, HL.out.old⟩
        · have HNE := Lib.hid he
          have g1 : (x.dst == slot) = false := by rw [beq_eq_false_iff_ne]; exact he
          have g2 : decide (x.dst = slot) = false := decide_eq_false he
          go_wp2_with fail
          go_round
          case rel => exact ⟨k + 1, by omega, by go_num, Lib.hid (by rw [take_snoc HX.out, lTo_line HIE.out, List.mem_append, List.mem_singleton]; exact fun h => h.elim HN.out fun h => HNE.out h.symm)⟩
          case measure => simp [intOf]; omega
    · obtain rfl : k = up := by omega
      go_wp2
      go_ret
      exact ⟨ret_bool' (by rw [← HV.out, wrB_out HN.out]), HL.out.old⟩
set_option maxHeartbeats 4000000 in
theorem guard_r (B : Nat) (c : CodeM) (v : CodeV) (w : World) (h : CodeIs w B c v) (hB : B ≤ w.heap.size) (up : Nat) (hup : up ≤ v.step.2.1) (hok : OkS c up) (slot : Int) (b : Bool) (hv : gdB c.slots (wTo (c.step.take up)) slot = b) : Calls Try.prog 46 #[.agg #[.int .i64 c.ins, .int .i64 c.outs, .int .i64 c.slots, .int .i64 c.crosses, .int .i64 c.lines, .slice v.mems.1 v.mems.2.1 v.mems.2.2, .slice v.conts.1 v.conts.2.1 v.conts.2.2, .slice v.step.1 v.step.2.1 v.step.2.2, .slice v.deriv.1 v.deriv.2.1 v.deriv.2.2, .slice v.cross.1 v.cross.2.1 v.cross.2.2], .int .i64 (up : Nat), .int .i64 slot] w fun e w' => e = .returned (.bool b) ∧ Below w.heap.size w w' := by
  obtain ⟨W1, hW1⟩ : ∃ W1, W1 = w.alloc (.cells #[.int .i64 c.ins, .int .i64 c.outs, .int .i64 c.slots, .int .i64 c.crosses, .int .i64 c.lines, .slice v.mems.1 v.mems.2.1 v.mems.2.2, .slice v.conts.1 v.conts.2.1 v.conts.2.2, .slice v.step.1 v.step.2.1 v.step.2.2, .slice v.deriv.1 v.deriv.2.1 v.deriv.2.2, .slice v.cross.1 v.cross.2.1 v.cross.2.2] 25) := ⟨_, rfl⟩
  have HL := Lib.hid (show LwSt w c v W1 from by rw [hW1]; exact LwSt.start (h.more hB))
  clear h hB
  have HOK := Lib.hid hok
  obtain ⟨n0, n1, n2, n3, n4, n5, n6, n7, n8, n9⟩ := HL.out.blk.code
  by_cases h0 : slot < 0
  · have : b = true := by rw [← hv]; unfold gdB; simp [h0]
    subst this
    clear hv hok
    go_enter Try.func46, Try.ntmps46
    go_upto_region 1 with fail
    rw [← hW1]
    clear hW1
    go_wp2
    go_ret
    exact ⟨rfl, HL.out.old⟩
  · have HV : Hid (wrB c.slots (wTo (c.step.take up)) slot = b) := Lib.hid (by rw [← hv]; unfold gdB; simp [h0])
    have g1 : decide (slot < 0) = false := decide_eq_false h0
    clear hv hok h0
    go_enter Try.func46, Try.ntmps46
    go_upto_region 1 with fail
    rw [← hW1]
    clear hW1
    go_wp2_with (go_at_call 49; (with_reducible refine (written_r w.heap.size c v _ HL.out.is HL.out.old.size up hup HOK.out slot b HV.out).mono ?_); rintro e w2 ⟨rfl, hb2⟩)
    go_ret
    exact ⟨by first | rfl | (rw [g1]; rfl), (HL.out.later hb2).old⟩
set_option maxHeartbeats 4000000 in
theorem all_r (B : Nat) (c : CodeM) (v : CodeV) (w : World) (h : CodeIs w B c v) (hB : B ≤ w.heap.size) (up : Nat) (hup : up ≤ v.step.2.1) (hok : OkS c up) (A : Option Addr) (n cc : Nat) (xs : List Int) (hr : IRow w B A n cc xs) (b : Bool) (hv : xs.all (wrB c.slots (wTo (c.step.take up))) = b) : Calls Try.prog 47 #[.agg #[.int .i64 c.ins, .int .i64 c.outs, .int .i64 c.slots, .int .i64 c.crosses, .int .i64 c.lines, .slice v.mems.1 v.mems.2.1 v.mems.2.2, .slice v.conts.1 v.conts.2.1 v.conts.2.2, .slice v.step.1 v.step.2.1 v.step.2.2, .slice v.deriv.1 v.deriv.2.1 v.deriv.2.2, .slice v.cross.1 v.cross.2.1 v.cross.2.2], .int .i64 (up : Nat), .slice A n cc] w fun e w' => e = .returned (.bool b) ∧ Below w.heap.size w w' := by
  obtain ⟨W1, hW1⟩ : ∃ W1, W1 = w.alloc (.cells #[.int .i64 c.ins, .int .i64 c.outs, .int .i64 c.slots, .int .i64 c.crosses, .int .i64 c.lines, .slice v.mems.1 v.mems.2.1 v.mems.2.2, .slice v.conts.1 v.conts.2.1 v.conts.2.2, .slice v.step.1 v.step.2.1 v.step.2.2, .slice v.deriv.1 v.deriv.2.1 v.deriv.2.2, .slice v.cross.1 v.cross.2.1 v.cross.2.2] 25) := ⟨_, rfl⟩
  have HL := Lib.hid (show LwSt w c v W1 from by rw [hW1]; exact LwSt.start (h.more hB))
  have HRW := Lib.hid ((hr.more hB).below HL.out.old)
  have hm := hr.len_le
  clear h hB hr
  have HV := Lib.hid hv
  have HOK := Lib.hid hok
  unfold maxLen at hm
  clear hok hv
  obtain ⟨n0, n1, n2, n3, n4, n5, n6, n7, n8, n9⟩ := HL.out.blk.code
  go_enter Try.func47, Try.ntmps47
  go_upto_region 1 with fail
  rw [← hW1]
  clear hW1
  go_wp2_with fail
  go_loopw [7] (fun t wr => ∃ k : Nat, k ≤ n ∧ t = .int .i64 k ∧ Hid ((xs.take k).all (wrB c.slots (wTo (c.step.take up))) = true) ∧ Hid (Below W1.heap.size W1 wr)) (fun t _ => n - (intOf t).toNat)
  case atStart => exact ⟨0, Nat.zero_le _, rfl, Lib.hid rfl, Lib.hid (Below.refl _ _)⟩
  case round =>
    obtain ⟨k, hk, rfl, HA, HB⟩ := hrel
    have HLq := Lib.hid (HL.out.later HB.out)
    clear n0 n1 n2 n3 n4 n5 n6 n7 n8 n9
    by_cases hlt : k < n
    · have HRq := Lib.hid (HRW.out.below (HB.out.mono HL.out.old.size))
      obtain ⟨g, off, hga, hg, hcell⟩ := HRq.out.at_ hlt
      have HX := Lib.hid (irow_get HRq.out hlt)
      obtain ⟨X, hX⟩ : ∃ X, xs.getD k 0 = X := ⟨_, rfl⟩
      rw [hX] at hcell HX
      have HGW : Hid (g < wr.drew.heap.size) := Lib.hid (Nat.lt_of_lt_of_le hg HLq.out.old.size)
      have HLd := Lib.hid (HLq.out.later (Below.refl _ _).drew)
      have HP := Lib.hid (show wr.drew.cell? ⟨w.heap.size, 0, none⟩ = some (.int .i64 c.ins) ∧ wr.drew.cell? ⟨w.heap.size, 1, none⟩ = some (.int .i64 c.outs) ∧ wr.drew.cell? ⟨w.heap.size, 2, none⟩ = some (.int .i64 c.slots) ∧ wr.drew.cell? ⟨w.heap.size, 3, none⟩ = some (.int .i64 c.crosses) ∧ wr.drew.cell? ⟨w.heap.size, 4, none⟩ = some (.int .i64 c.lines) ∧ wr.drew.cell? ⟨w.heap.size, 5, none⟩ = some (.slice v.mems.1 v.mems.2.1 v.mems.2.2) ∧ wr.drew.cell? ⟨w.heap.size, 6, none⟩ = some (.slice v.conts.1 v.conts.2.1 v.conts.2.2) ∧ wr.drew.cell? ⟨w.heap.size, 7, none⟩ = some (.slice v.step.1 v.step.2.1 v.step.2.2) ∧ wr.drew.cell? ⟨w.heap.size, 8, none⟩ = some (.slice v.deriv.1 v.deriv.2.1 v.deriv.2.2) ∧ wr.drew.cell? ⟨w.heap.size, 9, none⟩ = some (.slice v.cross.1 v.cross.2.1 v.cross.2.2) ∧ wr.drew.cell? ⟨g, off + k, none⟩ = some (.int .i64 X) from ⟨HLq.out.blk.cell 0 rfl, HLq.out.blk.cell 1 rfl, HLq.out.blk.cell 2 rfl, HLq.out.blk.cell 3 rfl, HLq.out.blk.cell 4 rfl, HLq.out.blk.cell 5 rfl, HLq.out.blk.cell 6 rfl, HLq.out.blk.cell 7 rfl, HLq.out.blk.cell 8 rfl, HLq.out.blk.cell 9 rfl, hcell⟩)
      have hkI : (k : Int) < (n : Int) := by omega
      subst hga
      clear hX hcell hg
      cases hp : wrB c.slots (wTo (c.step.take up)) X with
      | false =>
        have HP1 := Lib.hid hp
        clear hp
        go_wp2
        go_region_held3 (fun w' => w'.cell? ⟨w.heap.size, 0, none⟩ = some (.int .i64 c.ins) ∧ w'.cell? ⟨w.heap.size, 1, none⟩ = some (.int .i64 c.outs) ∧ w'.cell? ⟨w.heap.size, 2, none⟩ = some (.int .i64 c.slots) ∧ w'.cell? ⟨w.heap.size, 3, none⟩ = some (.int .i64 c.crosses) ∧ w'.cell? ⟨w.heap.size, 4, none⟩ = some (.int .i64 c.lines) ∧ w'.cell? ⟨w.heap.size, 5, none⟩ = some (.slice v.mems.1 v.mems.2.1 v.mems.2.2) ∧ w'.cell? ⟨w.heap.size, 6, none⟩ = some (.slice v.conts.1 v.conts.2.1 v.conts.2.2) ∧ w'.cell? ⟨w.heap.size, 7, none⟩ = some (.slice v.step.1 v.step.2.1 v.step.2.2) ∧ w'.cell? ⟨w.heap.size, 8, none⟩ = some (.slice v.deriv.1 v.deriv.2.1 v.deriv.2.2) ∧ w'.cell? ⟨w.heap.size, 9, none⟩ = some (.slice v.cross.1 v.cross.2.1 v.cross.2.2) ∧ w'.cell? ⟨g, off + k, none⟩ = some (.int .i64 X)) (first | with_reducible exact HP.out | exact HPa.out) (first
          | (go_at_call 49; (with_reducible refine (written_r w.heap.size c v _ HLd.out.is HLd.out.old.size up hup HOK.out X false HP1.out).mono ?_); rintro e w2 ⟨rfl, hb2⟩; have HL2 := Lib.hid (HLd.out.later hb2); have HPa := Lib.hid (show w2.cell? ⟨w.heap.size, 0, none⟩ = some (.int .i64 c.ins) ∧ w2.cell? ⟨w.heap.size, 1, none⟩ = some (.int .i64 c.outs) ∧ w2.cell? ⟨w.heap.size, 2, none⟩ = some (.int .i64 c.slots) ∧ w2.cell? ⟨w.heap.size, 3, none⟩ = some (.int .i64 c.crosses) ∧ w2.cell? ⟨w.heap.size, 4, none⟩ = some (.int .i64 c.lines) ∧ w2.cell? ⟨w.heap.size, 5, none⟩ = some (.slice v.mems.1 v.mems.2.1 v.mems.2.2) ∧ w2.cell? ⟨w.heap.size, 6, none⟩ = some (.slice v.conts.1 v.conts.2.1 v.conts.2.2) ∧ w2.cell? ⟨w.heap.size, 7, none⟩ = some (.slice v.step.1 v.step.2.1 v.step.2.2) ∧ w2.cell? ⟨w.heap.size, 8, none⟩ = some (.slice v.deriv.1 v.deriv.2.1 v.deriv.2.2) ∧ w2.cell? ⟨w.heap.size, 9, none⟩ = some (.slice v.cross.1 v.cross.2.1 v.cross.2.2) ∧ w2.cell? ⟨g, off + k, none⟩ = some (.int .i64 X) from ⟨HL2.out.blk.cell 0 rfl, HL2.out.blk.cell 1 rfl, HL2.out.blk.cell 2 rfl, HL2.out.blk.cell 3 rfl, HL2.out.blk.cell 4 rfl, HL2.out.blk.cell 5 rfl, HL2.out.blk.cell 6 rfl, HL2.out.blk.cell 7 rfl, HL2.out.blk.cell 8 rfl, HL2.out.blk.cell 9 rfl, (hb2.cell HGW.out).trans HP.out.2.2.2.2.2.2.2.2.2.2⟩)))
        go_wp2
        go_ret
        exact ⟨ret_bool' (by rw [← HV.out]; exact (all_no HX.out HP1.out).symm), HL2.out.old⟩
      | true =>
        have HP1 := Lib.hid hp
        clear hp
        go_wp2
        go_region_held3 (fun w' => w'.cell? ⟨w.heap.size, 0, none⟩ = some (.int .i64 c.ins) ∧ w'.cell? ⟨w.heap.size, 1, none⟩ = some (.int .i64 c.outs) ∧ w'.cell? ⟨w.heap.size, 2, none⟩ = some (.int .i64 c.slots) ∧ w'.cell? ⟨w.heap.size, 3, none⟩ = some (.int .i64 c.crosses) ∧ w'.cell? ⟨w.heap.size, 4, none⟩ = some (.int .i64 c.lines) ∧ w'.cell? ⟨w.heap.size, 5, none⟩ = some (.slice v.mems.1 v.mems.2.1 v.mems.2.2) ∧ w'.cell? ⟨w.heap.size, 6, none⟩ = some (.slice v.conts.1 v.conts.2.1 v.conts.2.2) ∧ w'.cell? ⟨w.heap.size, 7, none⟩ = some (.slice v.step.1 v.step.2.1 v.step.2.2) ∧ w'.cell? ⟨w.heap.size, 8, none⟩ = some (.slice v.deriv.1 v.deriv.2.1 v.deriv.2.2) ∧ w'.cell? ⟨w.heap.size, 9, none⟩ = some (.slice v.cross.1 v.cross.2.1 v.cross.2.2) ∧ w'.cell? ⟨g, off + k, none⟩ = some (.int .i64 X)) (first | with_reducible exact HP.out | exact HPa.out) (first
          | (go_at_call 49; (with_reducible refine (written_r w.heap.size c v _ HLd.out.is HLd.out.old.size up hup HOK.out X true HP1.out).mono ?_); rintro e w2 ⟨rfl, hb2⟩; have HL2 := Lib.hid (HLd.out.later hb2); have HPa := Lib.hid (show w2.cell? ⟨w.heap.size, 0, none⟩ = some (.int .i64 c.ins) ∧ w2.cell? ⟨w.heap.size, 1, none⟩ = some (.int .i64 c.outs) ∧ w2.cell? ⟨w.heap.size, 2, none⟩ = some (.int .i64 c.slots) ∧ w2.cell? ⟨w.heap.size, 3, none⟩ = some (.int .i64 c.crosses) ∧ w2.cell? ⟨w.heap.size, 4, none⟩ = some (.int .i64 c.lines) ∧ w2.cell? ⟨w.heap.size, 5, none⟩ = some (.slice v.mems.1 v.mems.2.1 v.mems.2.2) ∧ w2.cell? ⟨w.heap.size, 6, none⟩ = some (.slice v.conts.1 v.conts.2.1 v.conts.2.2) ∧ w2.cell? ⟨w.heap.size, 7, none⟩ = some (.slice v.step.1 v.step.2.1 v.step.2.2) ∧ w2.cell? ⟨w.heap.size, 8, none⟩ = some (.slice v.deriv.1 v.deriv.2.1 v.deriv.2.2) ∧ w2.cell? ⟨w.heap.size, 9, none⟩ = some (.slice v.cross.1 v.cross.2.1 v.cross.2.2) ∧ w2.cell? ⟨g, off + k, none⟩ = some (.int .i64 X) from ⟨HL2.out.blk.cell 0 rfl, HL2.out.blk.cell 1 rfl, HL2.out.blk.cell 2 rfl, HL2.out.blk.cell 3 rfl, HL2.out.blk.cell 4 rfl, HL2.out.blk.cell 5 rfl, HL2.out.blk.cell 6 rfl, HL2.out.blk.cell 7 rfl, HL2.out.blk.cell 8 rfl, HL2.out.blk.cell 9 rfl, (hb2.cell HGW.out).trans HP.out.2.2.2.2.2.2.2.2.2.2⟩)))
        go_wp2
        go_roundw
        case rel => exact ⟨k + 1, by omega, by go_num, Lib.hid (by rw [all_succ HX.out, HP1.out, HA.out]; rfl), Lib.hid (HB.out.drew.trans (hb2.mono HB.out.size))⟩
        case measure => simp [intOf]; omega
    · obtain rfl : k = n := by omega
      go_wp2
      go_ret
      exact ⟨ret_bool' (by rw [← HV.out]; exact (all_end HRW.out.1 HA.out).symm), HLq.out.old⟩

end Go.Proofs.Ytcljmfhelgkfaaa
