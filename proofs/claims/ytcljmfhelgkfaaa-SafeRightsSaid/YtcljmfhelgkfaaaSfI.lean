/- What isBetween and deriv of package safe tell. No condition but bounds. -/
import Derived.Test.YtcljmfhelgkfaaaSfH
import Derived.Deep.RegionWith
import Derived.Deep.RegionHeld3
import Derived.Deep.DeepCutAuto
namespace Go.Proofs.Ytcljmfhelgkfaaa
set_option linter.unusedVariables false
set_option linter.unusedSimpArgs false
set_option maxRecDepth 100000
open Go.RowKit

theorem twoB_odd (S : Int) (W : List Int) : ∀ (l : List Int), l.length % 2 = 1 → twoB S W l = false
  | [], h => by simp at h
  | [a], _ => rfl
  | a :: b :: l, h => by
    unfold twoB
    rw [twoB_odd S W l (by simp only [List.length_cons] at h; omega), Bool.and_false]
theorem drop_two {l : List Int} {k : Nat} (h : k + 1 < l.length) : l.drop k = l.getD k 0 :: l.getD (k + 1) 0 :: l.drop (k + 2) := by
  rw [List.drop_eq_getElem_cons (show k < l.length by omega), List.drop_eq_getElem_cons (show k + 1 < l.length by omega)]
  simp [show k < l.length by omega, h]
theorem twoB_at {S : Int} {W : List Int} {l : List Int} {k : Nat} (h : k + 1 < l.length) : twoB S W (l.drop k) = (gdB S W (l.getD k 0) && wrB S W (l.getD (k + 1) 0) && twoB S W (l.drop (k + 2))) := by
  rw [drop_two h]
  rfl
set_option maxHeartbeats 1000000 in
theorem ib_G (B g : Nat) (c : CodeM) (v : CodeV) (S N gs gl : Nat) (W L : List Int) (q : InsP) (a m d r : Option Addr × Nat × Nat) (w : World) (hr : Rd w B g c v S N gs gl W L) (hx : InsW w B q a m d r) (hg : gdB S W q.guard = false) : Calls Try.prog 44 #[.pointer (some ⟨g, 0, none⟩), .agg #[.string q.op, .int .i64 q.dst, .slice a.1 a.2.1 a.2.2, .int .i64 q.k, .int .i64 q.lit.kind, .bool q.lit.neg, .slice m.1 m.2.1 m.2.2, .slice d.1 d.2.1 d.2.2, .string q.lit.name, .int .i64 q.guard, .slice r.1 r.2.1 r.2.2]] w fun e w' => e = .returned (.bool false) ∧ Below w.heap.size w w' := by
  obtain ⟨W1, hW1⟩ : ∃ W1, W1 = w.alloc (.cells #[.string q.op, .int .i64 q.dst, .slice a.1 a.2.1 a.2.2, .int .i64 q.k, .int .i64 q.lit.kind, .bool q.lit.neg, .slice m.1 m.2.1 m.2.2, .slice d.1 d.2.1 d.2.2, .string q.lit.name, .int .i64 q.guard, .slice r.1 r.2.1 r.2.2] 52) := ⟨_, rfl⟩
  have hb1 : Below w.heap.size w W1 := by rw [hW1]; exact (Below.refl _ _).alloc (Nat.le_refl _) _
  have HX := Lib.hid (show Blk W1 w.heap.size 52 (ics q a m d r) from by rw [hW1]; exact Blk.new _ _ _)
  have HR := Lib.hid (hr.later hb1)
  have HB := Lib.hid (hb1.mono hr.hB)
  have HW := Lib.hid (hx.keep HB.out)
  have HV := Lib.hid (st_eq hr hx)
  have HGW : Hid (gs < w.heap.size) := Lib.hid hr.ms.lt
  have hma := hx.args.len_le
  have hmr := hx.resets.len_le
  have HMA := Lib.hid hma
  have hq0 : w.heap.size < W1.heap.size := HX.out.lt
  have HG := Lib.hid hg
  clear hg
  unfold maxLen at hma hmr
  obtain ⟨x0, x1, x2, x3, x4, x5, x6, x7, x8, x9, x10⟩ := HX.out.elev
  obtain ⟨n0, n1, n2, n3, n4, n5, n6, n7, n8, n9, n10, n11⟩ := HR.out.cells
  have HMS := Lib.hid HR.out.ms
  have HSS := Lib.hid HR.out.sS
  have HB1 := Lib.hid hb1
  clear n0 n1 n2 n3 n4 n5 n6 n7 n8 n9 hb1 hr hx
  go_enter Try.func44, Try.ntmps44
  go_upto_region 1 with fail
  rw [← hW1]
  clear hW1
  go_quiet ((go_at_call 40; exact Calls.quiet_of_same (mayGuard_q gs S W q.guard false _ _ HMS.out HSS.out HG.out)))
  go_wp2
  go_ret
  exact ⟨rfl, by first | exact HB1.out | exact below_drewN HB1.out⟩
set_option maxHeartbeats 1000000 in
theorem ib_z (B g : Nat) (c : CodeM) (v : CodeV) (S N gs gl : Nat) (W L : List Int) (q : InsP) (a m d r : Option Addr × Nat × Nat) (w : World) (hr : Rd w B g c v S N gs gl W L) (hx : InsW w B q a m d r) (hg : gdB S W q.guard = true) (h0 : r.2.1 = 0) : Calls Try.prog 44 #[.pointer (some ⟨g, 0, none⟩), .agg #[.string q.op, .int .i64 q.dst, .slice a.1 a.2.1 a.2.2, .int .i64 q.k, .int .i64 q.lit.kind, .bool q.lit.neg, .slice m.1 m.2.1 m.2.2, .slice d.1 d.2.1 d.2.2, .string q.lit.name, .int .i64 q.guard, .slice r.1 r.2.1 r.2.2]] w fun e w' => e = .returned (.bool true) ∧ Below w.heap.size w w' := by
  obtain ⟨r1, rn, rc⟩ := r
  obtain rfl : rn = 0 := h0
  have HR0 : Hid ((r1, 0, rc).2.1 = (0 : Nat)) := Lib.hid rfl
  obtain ⟨W1, hW1⟩ : ∃ W1, W1 = w.alloc (.cells #[.string q.op, .int .i64 q.dst, .slice a.1 a.2.1 a.2.2, .int .i64 q.k, .int .i64 q.lit.kind, .bool q.lit.neg, .slice m.1 m.2.1 m.2.2, .slice d.1 d.2.1 d.2.2, .string q.lit.name, .int .i64 q.guard, .slice r1 0 rc] 52) := ⟨_, rfl⟩
  have hb1 : Below w.heap.size w W1 := by rw [hW1]; exact (Below.refl _ _).alloc (Nat.le_refl _) _
  have HX := Lib.hid (show Blk W1 w.heap.size 52 (ics q a m d (r1, 0, rc)) from by rw [hW1]; exact Blk.new _ _ _)
  have HR := Lib.hid (hr.later hb1)
  have HB := Lib.hid (hb1.mono hr.hB)
  have HW := Lib.hid (hx.keep HB.out)
  have HV := Lib.hid (st_eq hr hx)
  have HGW : Hid (gs < w.heap.size) := Lib.hid hr.ms.lt
  have hma := hx.args.len_le
  have hmr := hx.resets.len_le
  have HMA := Lib.hid hma
  have hq0 : w.heap.size < W1.heap.size := HX.out.lt
  have HG := Lib.hid hg
  clear hg
  unfold maxLen at hma hmr
  obtain ⟨x0, x1, x2, x3, x4, x5, x6, x7, x8, x9, x10⟩ := HX.out.elev
  obtain ⟨n0, n1, n2, n3, n4, n5, n6, n7, n8, n9, n10, n11⟩ := HR.out.cells
  have HMS := Lib.hid HR.out.ms
  have HSS := Lib.hid HR.out.sS
  have HB1 := Lib.hid hb1
  clear n0 n1 n2 n3 n4 n5 n6 n7 n8 n9 hb1 hr hx
  go_enter Try.func44, Try.ntmps44
  go_upto_region 1 with fail
  rw [← hW1]
  clear hW1
  go_quiet ((go_at_call 40; exact Calls.quiet_of_same (mayGuard_q gs S W q.guard true _ _ HMS.out HSS.out HG.out)))
  go_wp2
  go_ret
  exact ⟨rfl, by first | exact HB1.out | exact below_drewN HB1.out⟩
set_option maxHeartbeats 1000000 in
theorem ib_p (B g : Nat) (c : CodeM) (v : CodeV) (S N gs gl : Nat) (W L : List Int) (q : InsP) (a m d r : Option Addr × Nat × Nat) (w : World) (hr : Rd w B g c v S N gs gl W L) (hx : InsW w B q a m d r) (hg : gdB S W q.guard = true) (h0 : ¬ r.2.1 = 0) : Calls Try.prog 44 #[.pointer (some ⟨g, 0, none⟩), .agg #[.string q.op, .int .i64 q.dst, .slice a.1 a.2.1 a.2.2, .int .i64 q.k, .int .i64 q.lit.kind, .bool q.lit.neg, .slice m.1 m.2.1 m.2.2, .slice d.1 d.2.1 d.2.2, .string q.lit.name, .int .i64 q.guard, .slice r.1 r.2.1 r.2.2]] w fun e w' => e = .returned (.bool false) ∧ Below w.heap.size w w' := by
  obtain ⟨W1, hW1⟩ : ∃ W1, W1 = w.alloc (.cells #[.string q.op, .int .i64 q.dst, .slice a.1 a.2.1 a.2.2, .int .i64 q.k, .int .i64 q.lit.kind, .bool q.lit.neg, .slice m.1 m.2.1 m.2.2, .slice d.1 d.2.1 d.2.2, .string q.lit.name, .int .i64 q.guard, .slice r.1 r.2.1 r.2.2] 52) := ⟨_, rfl⟩
  have hb1 : Below w.heap.size w W1 := by rw [hW1]; exact (Below.refl _ _).alloc (Nat.le_refl _) _
  have HX := Lib.hid (show Blk W1 w.heap.size 52 (ics q a m d r) from by rw [hW1]; exact Blk.new _ _ _)
  have HR := Lib.hid (hr.later hb1)
  have HB := Lib.hid (hb1.mono hr.hB)
  have HW := Lib.hid (hx.keep HB.out)
  have HV := Lib.hid (st_eq hr hx)
  have HGW : Hid (gs < w.heap.size) := Lib.hid hr.ms.lt
  have hma := hx.args.len_le
  have hmr := hx.resets.len_le
  have HMA := Lib.hid hma
  have hq0 : w.heap.size < W1.heap.size := HX.out.lt
  have HG := Lib.hid hg
  clear hg
  have hr0 : 0 < r.2.1 := by omega
  have hr1 : ((r.2.1 : Int) == 0) = false := by rw [beq_eq_false_iff_ne]; omega
  unfold maxLen at hma hmr
  obtain ⟨x0, x1, x2, x3, x4, x5, x6, x7, x8, x9, x10⟩ := HX.out.elev
  obtain ⟨n0, n1, n2, n3, n4, n5, n6, n7, n8, n9, n10, n11⟩ := HR.out.cells
  have HMS := Lib.hid HR.out.ms
  have HSS := Lib.hid HR.out.sS
  have HB1 := Lib.hid hb1
  clear n0 n1 n2 n3 n4 n5 n6 n7 n8 n9 hb1 hr hx
  go_enter Try.func44, Try.ntmps44
  go_upto_region 1 with fail
  rw [← hW1]
  clear hW1
  go_quiet ((go_at_call 40; exact Calls.quiet_of_same (mayGuard_q gs S W q.guard true _ _ HMS.out HSS.out HG.out)))
  go_wp2
  go_ret
  exact ⟨rfl, by first | exact HB1.out | exact below_drewN HB1.out⟩
theorem isBetween_b (b : Bool) (B g : Nat) (c : CodeM) (v : CodeV) (S N gs gl : Nat) (W L : List Int) (q : InsP) (a m d r : Option Addr × Nat × Nat) (w : World) (hr : Rd w B g c v S N gs gl W L) (hx : InsW w B q a m d r) (h : (gdB S W q.guard && decide (r.2.1 = 0)) = b) : Calls Try.prog 44 #[.pointer (some ⟨g, 0, none⟩), .agg #[.string q.op, .int .i64 q.dst, .slice a.1 a.2.1 a.2.2, .int .i64 q.k, .int .i64 q.lit.kind, .bool q.lit.neg, .slice m.1 m.2.1 m.2.2, .slice d.1 d.2.1 d.2.2, .string q.lit.name, .int .i64 q.guard, .slice r.1 r.2.1 r.2.2]] w fun e w' => e = .returned (.bool b) ∧ Below w.heap.size w w' := by
  subst h
  cases hg : gdB S W q.guard with
  | false => exact ib_G B g c v S N gs gl W L q a m d r w hr hx hg
  | true =>
    by_cases h0 : r.2.1 = 0
    · rw [decide_eq_true h0]; exact ib_z B g c v S N gs gl W L q a m d r w hr hx hg h0
    · rw [decide_eq_false h0]; exact ib_p B g c v S N gs gl W L q a m d r w hr hx hg h0
/-- what deriv tells -/
def DrPost (B : Nat) (c : CodeM) (W : List Int) (q : InsP) (w : World) (e : Ending) (w' : World) : Prop := e = .returned (.bool (drB c W q)) ∧ Below w.heap.size w w'
theorem dr_eq {w : World} {B g : Nat} {c : CodeM} {v : CodeV} {S N gs gl : Nat} {W L : List Int} {q : InsP} {a m d r : Option Addr × Nat × Nat} (hr : Rd w B g c v S N gs gl W L) (hx : InsW w B q a m d r) :
    drB c W q = (decide (q.op = opSlope) && inB q.k v.conts.2.1 && (gdB S W q.guard && decide (r.2.1 = 0)) && twoB S W q.args) := by
  unfold drB
  rw [hx.resets.1, hr.is.conts.1, hr.slots]
set_option maxHeartbeats 1000000 in
theorem dr_1 (B g : Nat) (c : CodeM) (v : CodeV) (S N gs gl : Nat) (W L : List Int) (q : InsP) (a m d r : Option Addr × Nat × Nat) (w : World) (hr : Rd w B g c v S N gs gl W L) (hx : InsW w B q a m d r) (h1 : ¬ q.op = opSlope) : Calls Try.prog 22 #[.pointer (some ⟨g, 0, none⟩), .agg #[.string q.op, .int .i64 q.dst, .slice a.1 a.2.1 a.2.2, .int .i64 q.k, .int .i64 q.lit.kind, .bool q.lit.neg, .slice m.1 m.2.1 m.2.2, .slice d.1 d.2.1 d.2.2, .string q.lit.name, .int .i64 q.guard, .slice r.1 r.2.1 r.2.2]] w (DrPost B c W q w) := by
  obtain ⟨W1, hW1⟩ : ∃ W1, W1 = w.alloc (.cells #[.string q.op, .int .i64 q.dst, .slice a.1 a.2.1 a.2.2, .int .i64 q.k, .int .i64 q.lit.kind, .bool q.lit.neg, .slice m.1 m.2.1 m.2.2, .slice d.1 d.2.1 d.2.2, .string q.lit.name, .int .i64 q.guard, .slice r.1 r.2.1 r.2.2] 52) := ⟨_, rfl⟩
  have hb1 : Below w.heap.size w W1 := by rw [hW1]; exact (Below.refl _ _).alloc (Nat.le_refl _) _
  have HX := Lib.hid (show Blk W1 w.heap.size 52 (ics q a m d r) from by rw [hW1]; exact Blk.new _ _ _)
  have HR := Lib.hid (hr.later hb1)
  have HB := Lib.hid (hb1.mono hr.hB)
  have HW := Lib.hid (hx.keep HB.out)
  have HV := Lib.hid (dr_eq hr hx)
  have HGW : Hid (gs < w.heap.size) := Lib.hid hr.ms.lt
  have hma := hx.args.len_le
  have hmr := hx.resets.len_le
  have HMA := Lib.hid hma
  have hq0 : w.heap.size < W1.heap.size := HX.out.lt
  have g1 := str_no (l := [115, 108, 111, 112, 101]) h1
  have g2 : decide (q.op = opSlope) = false := decide_eq_false h1
  have H1 := Lib.hid g2
  clear h1 g2
  unfold maxLen at hma hmr
  obtain ⟨x0, x1, x2, x3, x4, x5, x6, x7, x8, x9, x10⟩ := HX.out.elev
  obtain ⟨n0, n1, n2, n3, n4, n5, n6, n7, n8, n9, n10, n11⟩ := HR.out.cells
  have HB1 := Lib.hid hb1
  clear n0 n1 n2 n3 n4 n5 n6 n7 n8 n9 hb1 hr hx
  go_enter Try.func22, Try.ntmps22
  go_upto_region 1 with fail
  rw [← hW1]
  clear hW1
  go_wp2_with fail
  go_ret
  exact ⟨by rw [HV.out, H1.out, Bool.false_and, Bool.false_and, Bool.false_and]; rfl, HB1.out⟩
set_option maxHeartbeats 1000000 in
theorem dr_2 (B g : Nat) (c : CodeM) (v : CodeV) (S N gs gl : Nat) (W L : List Int) (q : InsP) (a m d r : Option Addr × Nat × Nat) (w : World) (hr : Rd w B g c v S N gs gl W L) (hx : InsW w B q a m d r) (h1 : q.op = opSlope) (ho : a.2.1 % 2 = 1) : Calls Try.prog 22 #[.pointer (some ⟨g, 0, none⟩), .agg #[.string q.op, .int .i64 q.dst, .slice a.1 a.2.1 a.2.2, .int .i64 q.k, .int .i64 q.lit.kind, .bool q.lit.neg, .slice m.1 m.2.1 m.2.2, .slice d.1 d.2.1 d.2.2, .string q.lit.name, .int .i64 q.guard, .slice r.1 r.2.1 r.2.2]] w (DrPost B c W q w) := by
  obtain ⟨W1, hW1⟩ : ∃ W1, W1 = w.alloc (.cells #[.string q.op, .int .i64 q.dst, .slice a.1 a.2.1 a.2.2, .int .i64 q.k, .int .i64 q.lit.kind, .bool q.lit.neg, .slice m.1 m.2.1 m.2.2, .slice d.1 d.2.1 d.2.2, .string q.lit.name, .int .i64 q.guard, .slice r.1 r.2.1 r.2.2] 52) := ⟨_, rfl⟩
  have hb1 : Below w.heap.size w W1 := by rw [hW1]; exact (Below.refl _ _).alloc (Nat.le_refl _) _
  have HX := Lib.hid (show Blk W1 w.heap.size 52 (ics q a m d r) from by rw [hW1]; exact Blk.new _ _ _)
  have HR := Lib.hid (hr.later hb1)
  have HB := Lib.hid (hb1.mono hr.hB)
  have HW := Lib.hid (hx.keep HB.out)
  have HV := Lib.hid (dr_eq hr hx)
  have HGW : Hid (gs < w.heap.size) := Lib.hid hr.ms.lt
  have hma := hx.args.len_le
  have hmr := hx.resets.len_le
  have HMA := Lib.hid hma
  have hq0 : w.heap.size < W1.heap.size := HX.out.lt
  have g1 : (q.op.toList == [115, 108, 111, 112, 101]) = true := by rw [h1, Lib.toList_data]; rfl
  have H1 : Hid (decide (q.op = opSlope) = true) := Lib.hid (decide_eq_true h1)
  have HOP := Lib.hid h1
  clear h1
  have ho2 : (a.2.1 : Int) % 2 = 1 := by omega
  have HT : Hid (twoB S W q.args = false) := Lib.hid (twoB_odd S W q.args (by rw [hx.args.1]; omega))
  unfold maxLen at hma hmr
  obtain ⟨x0, x1, x2, x3, x4, x5, x6, x7, x8, x9, x10⟩ := HX.out.elev
  obtain ⟨n0, n1, n2, n3, n4, n5, n6, n7, n8, n9, n10, n11⟩ := HR.out.cells
  have HB1 := Lib.hid hb1
  clear n0 n1 n2 n3 n4 n5 n6 n7 n8 n9 hb1 hr hx
  go_enter Try.func22, Try.ntmps22
  go_upto_region 1 with fail
  rw [← hW1]
  clear hW1
  go_wp2_with fail
  go_ret
  exact ⟨by rw [HV.out, HT.out, Bool.and_false]; rfl, HB1.out⟩
set_option maxHeartbeats 1000000 in
theorem dr_3 (B g : Nat) (c : CodeM) (v : CodeV) (S N gs gl : Nat) (W L : List Int) (q : InsP) (a m d r : Option Addr × Nat × Nat) (w : World) (hr : Rd w B g c v S N gs gl W L) (hx : InsW w B q a m d r) (h1 : q.op = opSlope) (ho : a.2.1 % 2 = 0) (h2 : plK q.op q.k c.ins c.outs v.mems.2.1 v.conts.2.1 c.crosses = false) : Calls Try.prog 22 #[.pointer (some ⟨g, 0, none⟩), .agg #[.string q.op, .int .i64 q.dst, .slice a.1 a.2.1 a.2.2, .int .i64 q.k, .int .i64 q.lit.kind, .bool q.lit.neg, .slice m.1 m.2.1 m.2.2, .slice d.1 d.2.1 d.2.2, .string q.lit.name, .int .i64 q.guard, .slice r.1 r.2.1 r.2.2]] w (DrPost B c W q w) := by
  obtain ⟨W1, hW1⟩ : ∃ W1, W1 = w.alloc (.cells #[.string q.op, .int .i64 q.dst, .slice a.1 a.2.1 a.2.2, .int .i64 q.k, .int .i64 q.lit.kind, .bool q.lit.neg, .slice m.1 m.2.1 m.2.2, .slice d.1 d.2.1 d.2.2, .string q.lit.name, .int .i64 q.guard, .slice r.1 r.2.1 r.2.2] 52) := ⟨_, rfl⟩
  have hb1 : Below w.heap.size w W1 := by rw [hW1]; exact (Below.refl _ _).alloc (Nat.le_refl _) _
  have HX := Lib.hid (show Blk W1 w.heap.size 52 (ics q a m d r) from by rw [hW1]; exact Blk.new _ _ _)
  have HR := Lib.hid (hr.later hb1)
  have HB := Lib.hid (hb1.mono hr.hB)
  have HW := Lib.hid (hx.keep HB.out)
  have HV := Lib.hid (dr_eq hr hx)
  have HGW : Hid (gs < w.heap.size) := Lib.hid hr.ms.lt
  have hma := hx.args.len_le
  have hmr := hx.resets.len_le
  have HMA := Lib.hid hma
  have hq0 : w.heap.size < W1.heap.size := HX.out.lt
  have g1 : (q.op.toList == [115, 108, 111, 112, 101]) = true := by rw [h1, Lib.toList_data]; rfl
  have HPK : Hid (inB q.k v.conts.2.1 = false) := Lib.hid (by rw [← h2, h1]; rfl)
  have H1 : Hid (decide (q.op = opSlope) = true) := Lib.hid (decide_eq_true h1)
  have HOP := Lib.hid h1
  clear h1
  have he2 : (a.2.1 : Int) % 2 = 0 := by omega
  have H2 := Lib.hid h2
  clear h2
  unfold maxLen at hma hmr
  obtain ⟨x0, x1, x2, x3, x4, x5, x6, x7, x8, x9, x10⟩ := HX.out.elev
  obtain ⟨n0, n1, n2, n3, n4, n5, n6, n7, n8, n9, n10, n11⟩ := HR.out.cells
  have HB1 := Lib.hid hb1
  clear n0 n1 n2 n3 n4 n5 n6 n7 n8 n9 hb1 hr hx
  go_enter Try.func22, Try.ntmps22
  go_upto_region 1 with fail
  rw [← hW1]
  clear hW1
  go_wp2_with (go_at_call 38; (with_reducible refine (hasPlace_b c v B g S N gs gl W L q a m d r false _ HR.out H2.out).mono ?_); rintro e w3 ⟨rfl, hb3⟩; have HB1 := Lib.hid (HB1.out.trans (hb3.mono HB1.out.size)); have HX := Lib.hid (HX.out.later hb3); have HW := Lib.hid (HW.out.keep (hb3.mono HR.out.hB)); have HB := Lib.hid (HB.out.trans (hb3.mono HR.out.hB)); have HR := Lib.hid (HR.out.later hb3); clear hb3 x0 x1 x2 x3 x4 x5 x6 x7 x8 x9 x10 n10 n11 hq0; obtain ⟨x0, x1, x2, x3, x4, x5, x6, x7, x8, x9, x10⟩ := HX.out.elev; obtain ⟨n0, n1, n2, n3, n4, n5, n6, n7, n8, n9, n10, n11⟩ := HR.out.cells; clear n0 n1 n2 n3 n4 n5 n6 n7 n8 n9; have hq0 := HX.out.lt)
  go_ret
  exact ⟨by rw [HV.out, HPK.out, Bool.and_false, Bool.false_and, Bool.false_and]; rfl, HB1.out⟩
set_option maxHeartbeats 1000000 in
theorem dr_4 (B g : Nat) (c : CodeM) (v : CodeV) (S N gs gl : Nat) (W L : List Int) (q : InsP) (a m d r : Option Addr × Nat × Nat) (w : World) (hr : Rd w B g c v S N gs gl W L) (hx : InsW w B q a m d r) (h1 : q.op = opSlope) (ho : a.2.1 % 2 = 0) (h2 : plK q.op q.k c.ins c.outs v.mems.2.1 v.conts.2.1 c.crosses = true) (h3 : (gdB S W q.guard && decide (r.2.1 = 0)) = false) : Calls Try.prog 22 #[.pointer (some ⟨g, 0, none⟩), .agg #[.string q.op, .int .i64 q.dst, .slice a.1 a.2.1 a.2.2, .int .i64 q.k, .int .i64 q.lit.kind, .bool q.lit.neg, .slice m.1 m.2.1 m.2.2, .slice d.1 d.2.1 d.2.2, .string q.lit.name, .int .i64 q.guard, .slice r.1 r.2.1 r.2.2]] w (DrPost B c W q w) := by
  obtain ⟨W1, hW1⟩ : ∃ W1, W1 = w.alloc (.cells #[.string q.op, .int .i64 q.dst, .slice a.1 a.2.1 a.2.2, .int .i64 q.k, .int .i64 q.lit.kind, .bool q.lit.neg, .slice m.1 m.2.1 m.2.2, .slice d.1 d.2.1 d.2.2, .string q.lit.name, .int .i64 q.guard, .slice r.1 r.2.1 r.2.2] 52) := ⟨_, rfl⟩
  have hb1 : Below w.heap.size w W1 := by rw [hW1]; exact (Below.refl _ _).alloc (Nat.le_refl _) _
  have HX := Lib.hid (show Blk W1 w.heap.size 52 (ics q a m d r) from by rw [hW1]; exact Blk.new _ _ _)
  have HR := Lib.hid (hr.later hb1)
  have HB := Lib.hid (hb1.mono hr.hB)
  have HW := Lib.hid (hx.keep HB.out)
  have HV := Lib.hid (dr_eq hr hx)
  have HGW : Hid (gs < w.heap.size) := Lib.hid hr.ms.lt
  have hma := hx.args.len_le
  have hmr := hx.resets.len_le
  have HMA := Lib.hid hma
  have hq0 : w.heap.size < W1.heap.size := HX.out.lt
  have g1 : (q.op.toList == [115, 108, 111, 112, 101]) = true := by rw [h1, Lib.toList_data]; rfl
  have HPK : Hid (inB q.k v.conts.2.1 = true) := Lib.hid (by rw [← h2, h1]; rfl)
  have H1 : Hid (decide (q.op = opSlope) = true) := Lib.hid (decide_eq_true h1)
  have HOP := Lib.hid h1
  clear h1
  have he2 : (a.2.1 : Int) % 2 = 0 := by omega
  have H2 := Lib.hid h2
  clear h2
  have H3 := Lib.hid h3
  clear h3
  unfold maxLen at hma hmr
  obtain ⟨x0, x1, x2, x3, x4, x5, x6, x7, x8, x9, x10⟩ := HX.out.elev
  obtain ⟨n0, n1, n2, n3, n4, n5, n6, n7, n8, n9, n10, n11⟩ := HR.out.cells
  have HB1 := Lib.hid hb1
  clear n0 n1 n2 n3 n4 n5 n6 n7 n8 n9 hb1 hr hx
  go_enter Try.func22, Try.ntmps22
  go_upto_region 1 with fail
  rw [← hW1]
  clear hW1
  go_wp2_with (first | (go_at_call 38; (with_reducible refine (hasPlace_b c v B g S N gs gl W L q a m d r true _ HR.out H2.out).mono ?_); rintro e w3 ⟨rfl, hb3⟩; have HB1 := Lib.hid (HB1.out.trans (hb3.mono HB1.out.size)); have HX := Lib.hid (HX.out.later hb3); have HW := Lib.hid (HW.out.keep (hb3.mono HR.out.hB)); have HB := Lib.hid (HB.out.trans (hb3.mono HR.out.hB)); have HR := Lib.hid (HR.out.later hb3); clear hb3 x0 x1 x2 x3 x4 x5 x6 x7 x8 x9 x10 n10 n11 hq0; obtain ⟨x0, x1, x2, x3, x4, x5, x6, x7, x8, x9, x10⟩ := HX.out.elev; obtain ⟨n0, n1, n2, n3, n4, n5, n6, n7, n8, n9, n10, n11⟩ := HR.out.cells; clear n0 n1 n2 n3 n4 n5 n6 n7 n8 n9; have hq0 := HX.out.lt) | (go_at_call 44; (with_reducible refine (isBetween_b false B g c v S N gs gl W L q a m d r _ HR.out HW.out H3.out).mono ?_); rintro e w4 ⟨rfl, hb4⟩; have HB1 := Lib.hid (HB1.out.trans (hb4.mono HB1.out.size)); have HX := Lib.hid (HX.out.later hb4); have HW := Lib.hid (HW.out.keep (hb4.mono HR.out.hB)); have HB := Lib.hid (HB.out.trans (hb4.mono HR.out.hB)); have HR := Lib.hid (HR.out.later hb4); clear hb4 x0 x1 x2 x3 x4 x5 x6 x7 x8 x9 x10 n10 n11 hq0; obtain ⟨x0, x1, x2, x3, x4, x5, x6, x7, x8, x9, x10⟩ := HX.out.elev; obtain ⟨n0, n1, n2, n3, n4, n5, n6, n7, n8, n9, n10, n11⟩ := HR.out.cells; clear n0 n1 n2 n3 n4 n5 n6 n7 n8 n9; have hq0 := HX.out.lt))
  go_ret
  exact ⟨by rw [HV.out, H3.out, Bool.and_false, Bool.false_and]; rfl, HB1.out⟩
set_option maxHeartbeats 1000000 in
theorem dr_5 (B g : Nat) (c : CodeM) (v : CodeV) (S N gs gl : Nat) (W L : List Int) (q : InsP) (a m d r : Option Addr × Nat × Nat) (w : World) (hr : Rd w B g c v S N gs gl W L) (hx : InsW w B q a m d r) (h1 : q.op = opSlope) (ho : a.2.1 % 2 = 0) (h2 : plK q.op q.k c.ins c.outs v.mems.2.1 v.conts.2.1 c.crosses = true) (h3 : (gdB S W q.guard && decide (r.2.1 = 0)) = true) : Calls Try.prog 22 #[.pointer (some ⟨g, 0, none⟩), .agg #[.string q.op, .int .i64 q.dst, .slice a.1 a.2.1 a.2.2, .int .i64 q.k, .int .i64 q.lit.kind, .bool q.lit.neg, .slice m.1 m.2.1 m.2.2, .slice d.1 d.2.1 d.2.2, .string q.lit.name, .int .i64 q.guard, .slice r.1 r.2.1 r.2.2]] w (DrPost B c W q w) := by
  obtain ⟨W1, hW1⟩ : ∃ W1, W1 = w.alloc (.cells #[.string q.op, .int .i64 q.dst, .slice a.1 a.2.1 a.2.2, .int .i64 q.k, .int .i64 q.lit.kind, .bool q.lit.neg, .slice m.1 m.2.1 m.2.2, .slice d.1 d.2.1 d.2.2, .string q.lit.name, .int .i64 q.guard, .slice r.1 r.2.1 r.2.2] 52) := ⟨_, rfl⟩
  have hb1 : Below w.heap.size w W1 := by rw [hW1]; exact (Below.refl _ _).alloc (Nat.le_refl _) _
  have HX := Lib.hid (show Blk W1 w.heap.size 52 (ics q a m d r) from by rw [hW1]; exact Blk.new _ _ _)
  have HR := Lib.hid (hr.later hb1)
  have HB := Lib.hid (hb1.mono hr.hB)
  have HW := Lib.hid (hx.keep HB.out)
  have HV := Lib.hid (dr_eq hr hx)
  have HGW : Hid (gs < w.heap.size) := Lib.hid hr.ms.lt
  have hma := hx.args.len_le
  have hmr := hx.resets.len_le
  have HMA := Lib.hid hma
  have hq0 : w.heap.size < W1.heap.size := HX.out.lt
  have g1 : (q.op.toList == [115, 108, 111, 112, 101]) = true := by rw [h1, Lib.toList_data]; rfl
  have HPK : Hid (inB q.k v.conts.2.1 = true) := Lib.hid (by rw [← h2, h1]; rfl)
  have H1 : Hid (decide (q.op = opSlope) = true) := Lib.hid (decide_eq_true h1)
  have HOP := Lib.hid h1
  clear h1
  have he2 : (a.2.1 : Int) % 2 = 0 := by omega
  have H2 := Lib.hid h2
  clear h2
  have H3 := Lib.hid h3
  clear h3
  unfold maxLen at hma hmr
  obtain ⟨x0, x1, x2, x3, x4, x5, x6, x7, x8, x9, x10⟩ := HX.out.elev
  obtain ⟨n0, n1, n2, n3, n4, n5, n6, n7, n8, n9, n10, n11⟩ := HR.out.cells
  have HB1 := Lib.hid hb1
  clear n0 n1 n2 n3 n4 n5 n6 n7 n8 n9 hb1 hr hx
  go_enter Try.func22, Try.ntmps22
  go_upto_region 1 with fail
  rw [← hW1]
  clear hW1
  go_upto_region 3 with (first | (go_at_call 38; (with_reducible refine (hasPlace_b c v B g S N gs gl W L q a m d r true _ HR.out H2.out).mono ?_); rintro e w3 ⟨rfl, hb3⟩; have HB1 := Lib.hid (HB1.out.trans (hb3.mono HB1.out.size)); have HX := Lib.hid (HX.out.later hb3); have HW := Lib.hid (HW.out.keep (hb3.mono HR.out.hB)); have HB := Lib.hid (HB.out.trans (hb3.mono HR.out.hB)); have HR := Lib.hid (HR.out.later hb3); clear hb3 x0 x1 x2 x3 x4 x5 x6 x7 x8 x9 x10 n10 n11 hq0; obtain ⟨x0, x1, x2, x3, x4, x5, x6, x7, x8, x9, x10⟩ := HX.out.elev; obtain ⟨n0, n1, n2, n3, n4, n5, n6, n7, n8, n9, n10, n11⟩ := HR.out.cells; clear n0 n1 n2 n3 n4 n5 n6 n7 n8 n9; have hq0 := HX.out.lt) | (go_at_call 44; (with_reducible refine (isBetween_b true B g c v S N gs gl W L q a m d r _ HR.out HW.out H3.out).mono ?_); rintro e w4 ⟨rfl, hb4⟩; have HB1 := Lib.hid (HB1.out.trans (hb4.mono HB1.out.size)); have HX := Lib.hid (HX.out.later hb4); have HW := Lib.hid (HW.out.keep (hb4.mono HR.out.hB)); have HB := Lib.hid (HB.out.trans (hb4.mono HR.out.hB)); have HR := Lib.hid (HR.out.later hb4); clear hb4 x0 x1 x2 x3 x4 x5 x6 x7 x8 x9 x10 n10 n11 hq0; obtain ⟨x0, x1, x2, x3, x4, x5, x6, x7, x8, x9, x10⟩ := HX.out.elev; obtain ⟨n0, n1, n2, n3, n4, n5, n6, n7, n8, n9, n10, n11⟩ := HR.out.cells; clear n0 n1 n2 n3 n4 n5 n6 n7 n8 n9; have hq0 := HX.out.lt))
  have HV2 : Hid (drB c W q = twoB S W q.args) := Lib.hid (by rw [HV.out, H1.out, HPK.out, H3.out]; rfl)
  have HMS := Lib.hid HR.out.ms
  have HSS := Lib.hid HR.out.sS
  have HWA := Lib.hid HW.out.args
  go_wp2_with fail
  go_loopw [5] (fun t wr => ∃ k : Nat, k * 2 ≤ a.2.1 ∧ t = .int .i64 ((k * 2 : Nat) : Int) ∧ Hid (twoB S W q.args = twoB S W (q.args.drop (k * 2))) ∧ Hid (Below w4.heap.size w4 wr)) (fun t _ => a.2.1 - (intOf t).toNat)
  case atStart => exact ⟨0, Nat.zero_le _, rfl, Lib.hid rfl, Lib.hid (Below.refl _ _)⟩
  case round =>
    obtain ⟨k, hk, rfl, HK, HBr⟩ := hrel
    obtain ⟨i, hi⟩ : ∃ i : Nat, i = k * 2 := ⟨_, rfl⟩
    have HIK := Lib.hid hi
    rw [← hi] at hk HK ⊢
    have hev : i % 2 = 0 := by omega
    clear hi x0 x1 x2 x3 x4 x5 x6 x7 x8 x9 x10 n10 n11 hq0
    have HXr := Lib.hid (HX.out.later HBr.out)
    have HRr := Lib.hid (HR.out.later HBr.out)
    obtain ⟨x0, x1, x2, x3, x4, x5, x6, x7, x8, x9, x10⟩ := HXr.out.elev
    have n10 := HRr.out.blk.cell 10 rfl
    have hq0 := HXr.out.lt
    by_cases hlt : i < a.2.1
    · have hl1 : i + 1 < a.2.1 := by omega
      have HWr := Lib.hid (HWA.out.below (HBr.out.mono HR.out.hB))
      obtain ⟨b, off, ha, hbl, hc0⟩ := HWr.out.at_ hlt
      obtain ⟨b', off', ha', hbl', hc1⟩ := HWr.out.at_ hl1
      obtain ⟨rfl, rfl⟩ : b = b' ∧ off = off' := by rw [ha] at ha'; injection ha' with ha'; injection ha' with e1 e2; exact ⟨e1, e2⟩
      obtain ⟨G0, hG0⟩ : ∃ G0, G0 = q.args.getD i 0 := ⟨_, rfl⟩
      obtain ⟨V0, hV0⟩ : ∃ V0, V0 = q.args.getD (i + 1) 0 := ⟨_, rfl⟩
      have HTW := Lib.hid (twoB_at (S := (S : Int)) (W := W) (l := q.args) (k := i) (by rw [HWA.out.1]; exact hl1))
      rw [← hG0, ← hV0] at HTW
      rw [← hG0] at hc0
      rw [← hV0] at hc1
      rw [ha] at x2
      have HMr := Lib.hid HRr.out.ms
      have hi63 : i + 2 < 9223372036854775807 := by omega
      clear ha ha' hG0 hV0 hbl'
      cases hg0 : gdB S W G0 with
      | false =>
        have HG0 := Lib.hid hg0
        clear hg0
        go_wp2
        go_quiet ((first | (go_at_call 40; exact Calls.quiet_of_same (mayGuard_q gs S W G0 false _ _ HMr.out HSS.out HG0.out)) | (go_at_call 41; exact Calls.quiet_of_same (written_q gs S W V0 false _ _ HMr.out HSS.out rfl))))
        go_wp2
        go_ret
        exact ⟨by rw [HV2.out, HK.out, HTW.out, HG0.out]; rfl, below_drewN (HB1.out.trans (HBr.out.mono HB1.out.size))⟩
      | true =>
        have HG0 := Lib.hid hg0
        clear hg0
        cases hv0 : wrB S W V0 with
        | false =>
          have HV0 := Lib.hid hv0
          clear hv0
          go_wp2
          go_quiet ((first | (go_at_call 40; exact Calls.quiet_of_same (mayGuard_q gs S W G0 true _ _ HMr.out HSS.out HG0.out)) | (go_at_call 41; exact Calls.quiet_of_same (written_q gs S W V0 false _ _ HMr.out HSS.out HV0.out))))
          go_wp2
          go_ret
          exact ⟨by rw [HV2.out, HK.out, HTW.out, HG0.out, HV0.out]; rfl, below_drewN (HB1.out.trans (HBr.out.mono HB1.out.size))⟩
        | true =>
          have HV0 := Lib.hid hv0
          clear hv0
          go_wp2
          go_quiet ((first | (go_at_call 40; exact Calls.quiet_of_same (mayGuard_q gs S W G0 true _ _ HMr.out HSS.out HG0.out)) | (go_at_call 41; exact Calls.quiet_of_same (written_q gs S W V0 true _ _ HMr.out HSS.out HV0.out))))
          go_wp2
          go_roundw
          case rel => exact ⟨k + 1, by have := HIK.out; omega, by rw [show (k + 1) * 2 = i + 2 by have := HIK.out; omega]; go_num, Lib.hid (by rw [HK.out, HTW.out, HG0.out, HV0.out, show (k + 1) * 2 = i + 2 by have := HIK.out; omega]; rfl), Lib.hid (below_drewN HBr.out)⟩
          case measure => simp [intOf]; omega
    · obtain rfl : i = a.2.1 := by omega
      go_wp2
      go_ret
      exact ⟨by rw [HV2.out, HK.out, ← HWA.out.1, List.drop_length]; rfl, HB1.out.trans (HBr.out.mono HB1.out.size)⟩
theorem deriv_t (B g : Nat) (c : CodeM) (v : CodeV) (S N gs gl : Nat) (W L : List Int) (q : InsP) (a m d r : Option Addr × Nat × Nat) (w : World) (hr : Rd w B g c v S N gs gl W L) (hx : InsW w B q a m d r) : Calls Try.prog 22 #[.pointer (some ⟨g, 0, none⟩), .agg #[.string q.op, .int .i64 q.dst, .slice a.1 a.2.1 a.2.2, .int .i64 q.k, .int .i64 q.lit.kind, .bool q.lit.neg, .slice m.1 m.2.1 m.2.2, .slice d.1 d.2.1 d.2.2, .string q.lit.name, .int .i64 q.guard, .slice r.1 r.2.1 r.2.2]] w (DrPost B c W q w) := by
  by_cases h1 : q.op = opSlope
  · by_cases ho : a.2.1 % 2 = 1
    · exact dr_2 B g c v S N gs gl W L q a m d r w hr hx h1 ho
    · have ho : a.2.1 % 2 = 0 := by omega
      cases h2 : plK q.op q.k c.ins c.outs v.mems.2.1 v.conts.2.1 c.crosses with
      | false => exact dr_3 B g c v S N gs gl W L q a m d r w hr hx h1 ho h2
      | true =>
      cases h3 : (gdB S W q.guard && decide (r.2.1 = 0)) with
      | false => exact dr_4 B g c v S N gs gl W L q a m d r w hr hx h1 ho h2 h3
      | true => exact dr_5 B g c v S N gs gl W L q a m d r w hr hx h1 ho h2 h3
  · exact dr_1 B g c v S N gs gl W L q a m d r w hr hx h1

end Go.Proofs.Ytcljmfhelgkfaaa
