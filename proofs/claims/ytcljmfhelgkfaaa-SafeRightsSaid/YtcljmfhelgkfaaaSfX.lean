/- What deriv of the answer tells, in part. No condition but bounds. -/
import Derived.Test.YtcljmfhelgkfaaaSfU
import Derived.Deep.RegionWith
import Derived.Deep.RegionHeld3
import Derived.Deep.DeepCutAuto
import Derived.Deep.RegionLaw
import Derived.BigRegion
import Derived.IntWalk
namespace Go.Proofs.Ytcljmfhelgkfaaa
set_option linter.unusedVariables false
set_option linter.unusedSimpArgs false
set_option maxRecDepth 100000
open Go.RowKit

theorem drB_eq {w : World} {B : Nat} {c : CodeM} {v : CodeV} {W : List Int} {q : InsP} {a m d r : Option Addr × Nat × Nat} (hr : CodeIs w B c v) (hx : InsW w B q a m d r) :
    drB c W q = (decide (q.op = opSlope) && inB q.k v.conts.2.1 && (gdB c.slots W q.guard && decide (r.2.1 = 0)) && twoB c.slots W q.args) := by
  unfold drB
  rw [hx.resets.1, hr.conts.1]
theorem wTo_all {c : CodeM} {n : Nat} (h : c.step.length = n) : c.step.take n = c.step := by rw [← h, List.take_length]
set_option maxHeartbeats 4000000 in
theorem d6_1 (B : Nat) (c : CodeM) (v : CodeV) (w : World) (h : CodeIs w B c v) (hB : B ≤ w.heap.size) (hok : OkS c v.step.2.1) (q : InsP) (a m d r : Option Addr × Nat × Nat) (hx : InsW w B q a m d r) (h1 : ¬ q.op = opSlope) : Calls Try.prog 25 #[.agg #[.int .i64 c.ins, .int .i64 c.outs, .int .i64 c.slots, .int .i64 c.crosses, .int .i64 c.lines, .slice v.mems.1 v.mems.2.1 v.mems.2.2, .slice v.conts.1 v.conts.2.1 v.conts.2.2, .slice v.step.1 v.step.2.1 v.step.2.2, .slice v.deriv.1 v.deriv.2.1 v.deriv.2.2, .slice v.cross.1 v.cross.2.1 v.cross.2.2], .agg #[.string q.op, .int .i64 q.dst, .slice a.1 a.2.1 a.2.2, .int .i64 q.k, .int .i64 q.lit.kind, .bool q.lit.neg, .slice m.1 m.2.1 m.2.2, .slice d.1 d.2.1 d.2.2, .string q.lit.name, .int .i64 q.guard, .slice r.1 r.2.1 r.2.2]] w fun e w' => e = .returned (.bool (drB c (wTo c.step) q)) ∧ Below w.heap.size w w' := by
  obtain ⟨W1, hW1⟩ : ∃ W1, W1 = (w.alloc (.cells #[.int .i64 c.ins, .int .i64 c.outs, .int .i64 c.slots, .int .i64 c.crosses, .int .i64 c.lines, .slice v.mems.1 v.mems.2.1 v.mems.2.2, .slice v.conts.1 v.conts.2.1 v.conts.2.2, .slice v.step.1 v.step.2.1 v.step.2.2, .slice v.deriv.1 v.deriv.2.1 v.deriv.2.2, .slice v.cross.1 v.cross.2.1 v.cross.2.2] 25)).alloc (.cells #[.string q.op, .int .i64 q.dst, .slice a.1 a.2.1 a.2.2, .int .i64 q.k, .int .i64 q.lit.kind, .bool q.lit.neg, .slice m.1 m.2.1 m.2.2, .slice d.1 d.2.1 d.2.2, .string q.lit.name, .int .i64 q.guard, .slice r.1 r.2.1 r.2.2] 52) := ⟨_, rfl⟩
  have HV := Lib.hid (drB_eq (W := (wTo c.step)) h hx)
  have HL := Lib.hid (show LwSt w c v W1 from by rw [hW1]; exact (LwSt.start (h.more hB)).later ((Below.refl _ _).alloc (Nat.le_refl _) _))
  have HX := Lib.hid (show Blk W1 (w.heap.size + 1) 52 (ics q a m d r) from by rw [hW1]; have h := Blk.new (w.alloc (.cells #[.int .i64 c.ins, .int .i64 c.outs, .int .i64 c.slots, .int .i64 c.crosses, .int .i64 c.lines, .slice v.mems.1 v.mems.2.1 v.mems.2.2, .slice v.conts.1 v.conts.2.1 v.conts.2.2, .slice v.step.1 v.step.2.1 v.step.2.2, .slice v.deriv.1 v.deriv.2.1 v.deriv.2.2, .slice v.cross.1 v.cross.2.1 v.cross.2.2] 25)) 52 #[.string q.op, .int .i64 q.dst, .slice a.1 a.2.1 a.2.2, .int .i64 q.k, .int .i64 q.lit.kind, .bool q.lit.neg, .slice m.1 m.2.1 m.2.2, .slice d.1 d.2.1 d.2.2, .string q.lit.name, .int .i64 q.guard, .slice r.1 r.2.1 r.2.2]; rw [size_alloc] at h; exact h)
  have HIW := Lib.hid (show InsW W1 w.heap.size q a m d r from { hx with args := (hx.args.more hB).below HL.out.old, resets := (hx.resets.more hB).below HL.out.old })
  have HOK := Lib.hid hok
  have HWE := Lib.hid (wTo_all (c := c) h.step.1)
  have hma := hx.args.len_le
  have hmr := hx.resets.len_le
  have hm2 := h.conts.len_le
  unfold maxLen at hma hmr hm2
  clear h hB hok hx
  have g1 := str_no (l := [115, 108, 111, 112, 101]) h1
  have H1 : Hid (decide (q.op = opSlope) = false) := Lib.hid (decide_eq_false h1)
  clear h1
  obtain ⟨n0, n1, n2, n3, n4, n5, n6, n7, n8, n9⟩ := HL.out.blk.code
  obtain ⟨p0, p1, p2, p3, p4, p5, p6, p7, p8, p9, p10⟩ := HX.out.elev
  have hq0 := HX.out.lt
  go_enter Try.func25, Try.ntmps25
  go_upto_region 1 with fail
  rw [← hW1]
  clear hW1
  go_wp2_with fail
  go_ret
  exact ⟨ret_bool' (by rw [HV.out, H1.out]; simp), HL.out.old⟩
set_option maxHeartbeats 4000000 in
theorem d6_2 (B : Nat) (c : CodeM) (v : CodeV) (w : World) (h : CodeIs w B c v) (hB : B ≤ w.heap.size) (hok : OkS c v.step.2.1) (q : InsP) (a m d r : Option Addr × Nat × Nat) (hx : InsW w B q a m d r) (h1 : q.op = opSlope) (hk : inB q.k v.conts.2.1 = false) : Calls Try.prog 25 #[.agg #[.int .i64 c.ins, .int .i64 c.outs, .int .i64 c.slots, .int .i64 c.crosses, .int .i64 c.lines, .slice v.mems.1 v.mems.2.1 v.mems.2.2, .slice v.conts.1 v.conts.2.1 v.conts.2.2, .slice v.step.1 v.step.2.1 v.step.2.2, .slice v.deriv.1 v.deriv.2.1 v.deriv.2.2, .slice v.cross.1 v.cross.2.1 v.cross.2.2], .agg #[.string q.op, .int .i64 q.dst, .slice a.1 a.2.1 a.2.2, .int .i64 q.k, .int .i64 q.lit.kind, .bool q.lit.neg, .slice m.1 m.2.1 m.2.2, .slice d.1 d.2.1 d.2.2, .string q.lit.name, .int .i64 q.guard, .slice r.1 r.2.1 r.2.2]] w fun e w' => e = .returned (.bool (drB c (wTo c.step) q)) ∧ Below w.heap.size w w' := by
  obtain ⟨W1, hW1⟩ : ∃ W1, W1 = (w.alloc (.cells #[.int .i64 c.ins, .int .i64 c.outs, .int .i64 c.slots, .int .i64 c.crosses, .int .i64 c.lines, .slice v.mems.1 v.mems.2.1 v.mems.2.2, .slice v.conts.1 v.conts.2.1 v.conts.2.2, .slice v.step.1 v.step.2.1 v.step.2.2, .slice v.deriv.1 v.deriv.2.1 v.deriv.2.2, .slice v.cross.1 v.cross.2.1 v.cross.2.2] 25)).alloc (.cells #[.string q.op, .int .i64 q.dst, .slice a.1 a.2.1 a.2.2, .int .i64 q.k, .int .i64 q.lit.kind, .bool q.lit.neg, .slice m.1 m.2.1 m.2.2, .slice d.1 d.2.1 d.2.2, .string q.lit.name, .int .i64 q.guard, .slice r.1 r.2.1 r.2.2] 52) := ⟨_, rfl⟩
  have HV := Lib.hid (drB_eq (W := (wTo c.step)) h hx)
  have HL := Lib.hid (show LwSt w c v W1 from by rw [hW1]; exact (LwSt.start (h.more hB)).later ((Below.refl _ _).alloc (Nat.le_refl _) _))
  have HX := Lib.hid (show Blk W1 (w.heap.size + 1) 52 (ics q a m d r) from by rw [hW1]; have h := Blk.new (w.alloc (.cells #[.int .i64 c.ins, .int .i64 c.outs, .int .i64 c.slots, .int .i64 c.crosses, .int .i64 c.lines, .slice v.mems.1 v.mems.2.1 v.mems.2.2, .slice v.conts.1 v.conts.2.1 v.conts.2.2, .slice v.step.1 v.step.2.1 v.step.2.2, .slice v.deriv.1 v.deriv.2.1 v.deriv.2.2, .slice v.cross.1 v.cross.2.1 v.cross.2.2] 25)) 52 #[.string q.op, .int .i64 q.dst, .slice a.1 a.2.1 a.2.2, .int .i64 q.k, .int .i64 q.lit.kind, .bool q.lit.neg, .slice m.1 m.2.1 m.2.2, .slice d.1 d.2.1 d.2.2, .string q.lit.name, .int .i64 q.guard, .slice r.1 r.2.1 r.2.2]; rw [size_alloc] at h; exact h)
  have HIW := Lib.hid (show InsW W1 w.heap.size q a m d r from { hx with args := (hx.args.more hB).below HL.out.old, resets := (hx.resets.more hB).below HL.out.old })
  have HOK := Lib.hid hok
  have HWE := Lib.hid (wTo_all (c := c) h.step.1)
  have hma := hx.args.len_le
  have hmr := hx.resets.len_le
  have hm2 := h.conts.len_le
  unfold maxLen at hma hmr hm2
  clear h hB hok hx
  have g1 : (q.op.toList == [115, 108, 111, 112, 101]) = true := by rw [h1, Lib.toList_data]; rfl
  have H1 : Hid (decide (q.op = opSlope) = true) := Lib.hid (decide_eq_true h1)
  clear h1
  have HKI := Lib.hid hk
  clear hk
  obtain ⟨n0, n1, n2, n3, n4, n5, n6, n7, n8, n9⟩ := HL.out.blk.code
  obtain ⟨p0, p1, p2, p3, p4, p5, p6, p7, p8, p9, p10⟩ := HX.out.elev
  have hq0 := HX.out.lt
  go_enter Try.func25, Try.ntmps25
  go_upto_region 1 with fail
  rw [← hW1]
  clear hW1
  go_wp2_with (go_at_call 48; (with_reducible refine (in_t q.k (v.conts.2.1 : Int) false _ HKI.out).mono ?_); rintro e w9 ⟨rfl, rfl⟩)
  go_ret
  exact ⟨ret_bool' (by rw [HV.out, HKI.out]; simp), HL.out.old⟩
set_option maxHeartbeats 4000000 in
theorem d6_3 (B : Nat) (c : CodeM) (v : CodeV) (w : World) (h : CodeIs w B c v) (hB : B ≤ w.heap.size) (hok : OkS c v.step.2.1) (q : InsP) (a m d r : Option Addr × Nat × Nat) (hx : InsW w B q a m d r) (h1 : q.op = opSlope) (hk : inB q.k v.conts.2.1 = true) (ho : a.2.1 % 2 = 1) : Calls Try.prog 25 #[.agg #[.int .i64 c.ins, .int .i64 c.outs, .int .i64 c.slots, .int .i64 c.crosses, .int .i64 c.lines, .slice v.mems.1 v.mems.2.1 v.mems.2.2, .slice v.conts.1 v.conts.2.1 v.conts.2.2, .slice v.step.1 v.step.2.1 v.step.2.2, .slice v.deriv.1 v.deriv.2.1 v.deriv.2.2, .slice v.cross.1 v.cross.2.1 v.cross.2.2], .agg #[.string q.op, .int .i64 q.dst, .slice a.1 a.2.1 a.2.2, .int .i64 q.k, .int .i64 q.lit.kind, .bool q.lit.neg, .slice m.1 m.2.1 m.2.2, .slice d.1 d.2.1 d.2.2, .string q.lit.name, .int .i64 q.guard, .slice r.1 r.2.1 r.2.2]] w fun e w' => e = .returned (.bool (drB c (wTo c.step) q)) ∧ Below w.heap.size w w' := by
  obtain ⟨W1, hW1⟩ : ∃ W1, W1 = (w.alloc (.cells #[.int .i64 c.ins, .int .i64 c.outs, .int .i64 c.slots, .int .i64 c.crosses, .int .i64 c.lines, .slice v.mems.1 v.mems.2.1 v.mems.2.2, .slice v.conts.1 v.conts.2.1 v.conts.2.2, .slice v.step.1 v.step.2.1 v.step.2.2, .slice v.deriv.1 v.deriv.2.1 v.deriv.2.2, .slice v.cross.1 v.cross.2.1 v.cross.2.2] 25)).alloc (.cells #[.string q.op, .int .i64 q.dst, .slice a.1 a.2.1 a.2.2, .int .i64 q.k, .int .i64 q.lit.kind, .bool q.lit.neg, .slice m.1 m.2.1 m.2.2, .slice d.1 d.2.1 d.2.2, .string q.lit.name, .int .i64 q.guard, .slice r.1 r.2.1 r.2.2] 52) := ⟨_, rfl⟩
  have HV := Lib.hid (drB_eq (W := (wTo c.step)) h hx)
  have HL := Lib.hid (show LwSt w c v W1 from by rw [hW1]; exact (LwSt.start (h.more hB)).later ((Below.refl _ _).alloc (Nat.le_refl _) _))
  have HX := Lib.hid (show Blk W1 (w.heap.size + 1) 52 (ics q a m d r) from by rw [hW1]; have h := Blk.new (w.alloc (.cells #[.int .i64 c.ins, .int .i64 c.outs, .int .i64 c.slots, .int .i64 c.crosses, .int .i64 c.lines, .slice v.mems.1 v.mems.2.1 v.mems.2.2, .slice v.conts.1 v.conts.2.1 v.conts.2.2, .slice v.step.1 v.step.2.1 v.step.2.2, .slice v.deriv.1 v.deriv.2.1 v.deriv.2.2, .slice v.cross.1 v.cross.2.1 v.cross.2.2] 25)) 52 #[.string q.op, .int .i64 q.dst, .slice a.1 a.2.1 a.2.2, .int .i64 q.k, .int .i64 q.lit.kind, .bool q.lit.neg, .slice m.1 m.2.1 m.2.2, .slice d.1 d.2.1 d.2.2, .string q.lit.name, .int .i64 q.guard, .slice r.1 r.2.1 r.2.2]; rw [size_alloc] at h; exact h)
  have HIW := Lib.hid (show InsW W1 w.heap.size q a m d r from { hx with args := (hx.args.more hB).below HL.out.old, resets := (hx.resets.more hB).below HL.out.old })
  have HOK := Lib.hid hok
  have HWE := Lib.hid (wTo_all (c := c) h.step.1)
  have hma := hx.args.len_le
  have hmr := hx.resets.len_le
  have hm2 := h.conts.len_le
  unfold maxLen at hma hmr hm2
  clear h hB hok hx
  have g1 : (q.op.toList == [115, 108, 111, 112, 101]) = true := by rw [h1, Lib.toList_data]; rfl
  have H1 : Hid (decide (q.op = opSlope) = true) := Lib.hid (decide_eq_true h1)
  clear h1
  have HKI := Lib.hid hk
  clear hk
  have ho2 : (a.2.1 : Int) % 2 = 1 := by omega
  have HT : Hid (twoB c.slots (wTo c.step) q.args = false) := Lib.hid (twoB_odd _ _ q.args (by rw [HIW.out.args.1]; omega))
  obtain ⟨n0, n1, n2, n3, n4, n5, n6, n7, n8, n9⟩ := HL.out.blk.code
  obtain ⟨p0, p1, p2, p3, p4, p5, p6, p7, p8, p9, p10⟩ := HX.out.elev
  have hq0 := HX.out.lt
  go_enter Try.func25, Try.ntmps25
  go_upto_region 1 with fail
  rw [← hW1]
  clear hW1
  go_wp2_with (go_at_call 48; (with_reducible refine (in_t q.k (v.conts.2.1 : Int) true _ HKI.out).mono ?_); rintro e w9 ⟨rfl, rfl⟩)
  go_ret
  exact ⟨ret_bool' (by rw [HV.out, HT.out]; simp), HL.out.old⟩
set_option maxHeartbeats 4000000 in
theorem d6_4 (B : Nat) (c : CodeM) (v : CodeV) (w : World) (h : CodeIs w B c v) (hB : B ≤ w.heap.size) (hok : OkS c v.step.2.1) (q : InsP) (a m d r : Option Addr × Nat × Nat) (hx : InsW w B q a m d r) (h1 : q.op = opSlope) (hk : inB q.k v.conts.2.1 = true) (ho : a.2.1 % 2 = 0) (h0 : ¬ r.2.1 = 0) : Calls Try.prog 25 #[.agg #[.int .i64 c.ins, .int .i64 c.outs, .int .i64 c.slots, .int .i64 c.crosses, .int .i64 c.lines, .slice v.mems.1 v.mems.2.1 v.mems.2.2, .slice v.conts.1 v.conts.2.1 v.conts.2.2, .slice v.step.1 v.step.2.1 v.step.2.2, .slice v.deriv.1 v.deriv.2.1 v.deriv.2.2, .slice v.cross.1 v.cross.2.1 v.cross.2.2], .agg #[.string q.op, .int .i64 q.dst, .slice a.1 a.2.1 a.2.2, .int .i64 q.k, .int .i64 q.lit.kind, .bool q.lit.neg, .slice m.1 m.2.1 m.2.2, .slice d.1 d.2.1 d.2.2, .string q.lit.name, .int .i64 q.guard, .slice r.1 r.2.1 r.2.2]] w fun e w' => e = .returned (.bool (drB c (wTo c.step) q)) ∧ Below w.heap.size w w' := by
  obtain ⟨W1, hW1⟩ : ∃ W1, W1 = (w.alloc (.cells #[.int .i64 c.ins, .int .i64 c.outs, .int .i64 c.slots, .int .i64 c.crosses, .int .i64 c.lines, .slice v.mems.1 v.mems.2.1 v.mems.2.2, .slice v.conts.1 v.conts.2.1 v.conts.2.2, .slice v.step.1 v.step.2.1 v.step.2.2, .slice v.deriv.1 v.deriv.2.1 v.deriv.2.2, .slice v.cross.1 v.cross.2.1 v.cross.2.2] 25)).alloc (.cells #[.string q.op, .int .i64 q.dst, .slice a.1 a.2.1 a.2.2, .int .i64 q.k, .int .i64 q.lit.kind, .bool q.lit.neg, .slice m.1 m.2.1 m.2.2, .slice d.1 d.2.1 d.2.2, .string q.lit.name, .int .i64 q.guard, .slice r.1 r.2.1 r.2.2] 52) := ⟨_, rfl⟩
  have HV := Lib.hid (drB_eq (W := (wTo c.step)) h hx)
  have HL := Lib.hid (show LwSt w c v W1 from by rw [hW1]; exact (LwSt.start (h.more hB)).later ((Below.refl _ _).alloc (Nat.le_refl _) _))
  have HX := Lib.hid (show Blk W1 (w.heap.size + 1) 52 (ics q a m d r) from by rw [hW1]; have h := Blk.new (w.alloc (.cells #[.int .i64 c.ins, .int .i64 c.outs, .int .i64 c.slots, .int .i64 c.crosses, .int .i64 c.lines, .slice v.mems.1 v.mems.2.1 v.mems.2.2, .slice v.conts.1 v.conts.2.1 v.conts.2.2, .slice v.step.1 v.step.2.1 v.step.2.2, .slice v.deriv.1 v.deriv.2.1 v.deriv.2.2, .slice v.cross.1 v.cross.2.1 v.cross.2.2] 25)) 52 #[.string q.op, .int .i64 q.dst, .slice a.1 a.2.1 a.2.2, .int .i64 q.k, .int .i64 q.lit.kind, .bool q.lit.neg, .slice m.1 m.2.1 m.2.2, .slice d.1 d.2.1 d.2.2, .string q.lit.name, .int .i64 q.guard, .slice r.1 r.2.1 r.2.2]; rw [size_alloc] at h; exact h)
  have HIW := Lib.hid (show InsW W1 w.heap.size q a m d r from { hx with args := (hx.args.more hB).below HL.out.old, resets := (hx.resets.more hB).below HL.out.old })
  have HOK := Lib.hid hok
  have HWE := Lib.hid (wTo_all (c := c) h.step.1)
  have hma := hx.args.len_le
  have hmr := hx.resets.len_le
  have hm2 := h.conts.len_le
  unfold maxLen at hma hmr hm2
  clear h hB hok hx
  have g1 : (q.op.toList == [115, 108, 111, 112, 101]) = true := by rw [h1, Lib.toList_data]; rfl
  have H1 : Hid (decide (q.op = opSlope) = true) := Lib.hid (decide_eq_true h1)
  clear h1
  have HKI := Lib.hid hk
  clear hk
  have he2 : (a.2.1 : Int) % 2 = 0 := by omega
  have HR0 := Lib.hid (decide_eq_false h0)
  have hr1 : 0 < r.2.1 := by omega
  obtain ⟨n0, n1, n2, n3, n4, n5, n6, n7, n8, n9⟩ := HL.out.blk.code
  obtain ⟨p0, p1, p2, p3, p4, p5, p6, p7, p8, p9, p10⟩ := HX.out.elev
  have hq0 := HX.out.lt
  go_enter Try.func25, Try.ntmps25
  go_upto_region 1 with fail
  rw [← hW1]
  clear hW1
  go_wp2_with (go_at_call 48; (with_reducible refine (in_t q.k (v.conts.2.1 : Int) true _ HKI.out).mono ?_); rintro e w9 ⟨rfl, rfl⟩)
  go_ret
  exact ⟨ret_bool' (by rw [HV.out, HR0.out]; simp), HL.out.old⟩
set_option maxHeartbeats 4000000 in
theorem d6_5 (B : Nat) (c : CodeM) (v : CodeV) (w : World) (h : CodeIs w B c v) (hB : B ≤ w.heap.size) (hok : OkS c v.step.2.1) (q : InsP) (a m d r : Option Addr × Nat × Nat) (hx : InsW w B q a m d r) (h1 : q.op = opSlope) (hk : inB q.k v.conts.2.1 = true) (ho : a.2.1 % 2 = 0) (h0 : r.2.1 = 0) (hg : gdB c.slots (wTo c.step) q.guard = false) : Calls Try.prog 25 #[.agg #[.int .i64 c.ins, .int .i64 c.outs, .int .i64 c.slots, .int .i64 c.crosses, .int .i64 c.lines, .slice v.mems.1 v.mems.2.1 v.mems.2.2, .slice v.conts.1 v.conts.2.1 v.conts.2.2, .slice v.step.1 v.step.2.1 v.step.2.2, .slice v.deriv.1 v.deriv.2.1 v.deriv.2.2, .slice v.cross.1 v.cross.2.1 v.cross.2.2], .agg #[.string q.op, .int .i64 q.dst, .slice a.1 a.2.1 a.2.2, .int .i64 q.k, .int .i64 q.lit.kind, .bool q.lit.neg, .slice m.1 m.2.1 m.2.2, .slice d.1 d.2.1 d.2.2, .string q.lit.name, .int .i64 q.guard, .slice r.1 r.2.1 r.2.2]] w fun e w' => e = .returned (.bool (drB c (wTo c.step) q)) ∧ Below w.heap.size w w' := by
  obtain ⟨r1, rn, rc⟩ := r
  obtain rfl : rn = 0 := h0
  have HR0 : Hid (decide ((r1, 0, rc).2.1 = (0 : Nat)) = true) := Lib.hid rfl
  obtain ⟨W1, hW1⟩ : ∃ W1, W1 = (w.alloc (.cells #[.int .i64 c.ins, .int .i64 c.outs, .int .i64 c.slots, .int .i64 c.crosses, .int .i64 c.lines, .slice v.mems.1 v.mems.2.1 v.mems.2.2, .slice v.conts.1 v.conts.2.1 v.conts.2.2, .slice v.step.1 v.step.2.1 v.step.2.2, .slice v.deriv.1 v.deriv.2.1 v.deriv.2.2, .slice v.cross.1 v.cross.2.1 v.cross.2.2] 25)).alloc (.cells #[.string q.op, .int .i64 q.dst, .slice a.1 a.2.1 a.2.2, .int .i64 q.k, .int .i64 q.lit.kind, .bool q.lit.neg, .slice m.1 m.2.1 m.2.2, .slice d.1 d.2.1 d.2.2, .string q.lit.name, .int .i64 q.guard, .slice r1 0 rc] 52) := ⟨_, rfl⟩
  have HV := Lib.hid (drB_eq (W := (wTo c.step)) h hx)
  have HL := Lib.hid (show LwSt w c v W1 from by rw [hW1]; exact (LwSt.start (h.more hB)).later ((Below.refl _ _).alloc (Nat.le_refl _) _))
  have HX := Lib.hid (show Blk W1 (w.heap.size + 1) 52 (ics q a m d (r1, 0, rc)) from by rw [hW1]; have h := Blk.new (w.alloc (.cells #[.int .i64 c.ins, .int .i64 c.outs, .int .i64 c.slots, .int .i64 c.crosses, .int .i64 c.lines, .slice v.mems.1 v.mems.2.1 v.mems.2.2, .slice v.conts.1 v.conts.2.1 v.conts.2.2, .slice v.step.1 v.step.2.1 v.step.2.2, .slice v.deriv.1 v.deriv.2.1 v.deriv.2.2, .slice v.cross.1 v.cross.2.1 v.cross.2.2] 25)) 52 #[.string q.op, .int .i64 q.dst, .slice a.1 a.2.1 a.2.2, .int .i64 q.k, .int .i64 q.lit.kind, .bool q.lit.neg, .slice m.1 m.2.1 m.2.2, .slice d.1 d.2.1 d.2.2, .string q.lit.name, .int .i64 q.guard, .slice r1 0 rc]; rw [size_alloc] at h; exact h)
  have HIW := Lib.hid (show InsW W1 w.heap.size q a m d (r1, 0, rc) from { hx with args := (hx.args.more hB).below HL.out.old, resets := (hx.resets.more hB).below HL.out.old })
  have HOK := Lib.hid hok
  have HWE := Lib.hid (wTo_all (c := c) h.step.1)
  have hma := hx.args.len_le
  have hmr : 0 ≤ maxLen := Nat.zero_le _
  have hm2 := h.conts.len_le
  unfold maxLen at hma hmr hm2
  clear h hB hok hx
  have g1 : (q.op.toList == [115, 108, 111, 112, 101]) = true := by rw [h1, Lib.toList_data]; rfl
  have H1 : Hid (decide (q.op = opSlope) = true) := Lib.hid (decide_eq_true h1)
  clear h1
  have HKI := Lib.hid hk
  clear hk
  have he2 : (a.2.1 : Int) % 2 = 0 := by omega
  have HG : Hid (gdB c.slots (wTo (c.step.take v.step.2.1)) q.guard = false) := Lib.hid (by rw [HWE.out]; exact hg)
  have HGE := Lib.hid hg
  clear hg
  obtain ⟨n0, n1, n2, n3, n4, n5, n6, n7, n8, n9⟩ := HL.out.blk.code
  obtain ⟨p0, p1, p2, p3, p4, p5, p6, p7, p8, p9, p10⟩ := HX.out.elev
  have hq0 := HX.out.lt
  go_enter Try.func25, Try.ntmps25
  go_upto_region 1 with fail
  rw [← hW1]
  clear hW1
  go_wp2_with (first | (go_at_call 48; (with_reducible refine (in_t q.k (v.conts.2.1 : Int) true _ HKI.out).mono ?_); rintro e w9 ⟨rfl, rfl⟩) | (go_at_call 46; (with_reducible refine (guard_r w.heap.size c v _ HL.out.is HL.out.old.size v.step.2.1 (Nat.le_refl _) HOK.out q.guard false HG.out).mono ?_); rintro e w2 ⟨rfl, hb2⟩; have HIW := Lib.hid (HIW.out.keep (hb2.mono HL.out.old.size)); have HL := Lib.hid (HL.out.later hb2); have HX := Lib.hid (HX.out.later hb2); clear hb2 n0 n1 n2 n3 n4 n5 n6 n7 n8 n9 p0 p1 p2 p3 p4 p5 p6 p7 p8 p9 p10 hq0; obtain ⟨n0, n1, n2, n3, n4, n5, n6, n7, n8, n9⟩ := HL.out.blk.code; obtain ⟨p0, p1, p2, p3, p4, p5, p6, p7, p8, p9, p10⟩ := HX.out.elev; have hq0 := HX.out.lt))
  go_ret
  exact ⟨ret_bool' (by rw [HV.out, HGE.out]; simp), HL.out.old⟩

end Go.Proofs.Ytcljmfhelgkfaaa
