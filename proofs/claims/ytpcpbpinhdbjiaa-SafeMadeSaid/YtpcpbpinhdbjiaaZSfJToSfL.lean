/- What cross of package safe tells. No condition but bounds. · What all of package safe tells of the three bodies. No condition but bounds. · What Right of package safe tells. No condition. -/
import Derived.Test.YtpcpbpinhdbjiaaZSfGToSfI
import Derived.Deep.RegionWith
import Derived.Deep.RegionHeld3
import Derived.Deep.DeepCutAuto
import Derived.Test.YtpcpbpinhdbjiaaZFlHToFlJ
import Derived.BigRegion
namespace Go.Proofs.Ytpcpbpinhdbjiaa
set_option linter.unusedVariables false
set_option linter.unusedSimpArgs false
set_option maxRecDepth 100000
open Go.RowKit

theorem IRow.takeS {w : World} {B : Nat} {a : Option Addr} {n c : Nat} {xs : List Int} (h : IRow w B a n c xs) {s : Nat} (hs : s ≤ n) : IRow w B a s c (xs.take s) := by
  obtain ⟨h1, h2, h3, hn, b, off, h6, h7⟩ := h
  refine ⟨by rw [List.length_take, h1]; omega, by omega, h3, hn, b, off, h6.imp (fun h => h) (fun h => by omega), fun i hi => ⟨(h7 i (by omega)).1, ?_⟩⟩
  rw [(h7 i (by omega)).2]
  congr 2
  simp [List.getD_eq_getElem?_getD, List.getElem?_take_of_lt hi]
theorem IRow.drop1 {w : World} {B : Nat} {b off n c : Nat} {xs : List Int} (h : IRow w B (some ⟨b, off, none⟩) n c xs) (hs : 1 ≤ n) : IRow w B (some ⟨b, off + 1, none⟩) (n - 1) (c - 1) (xs.drop 1) := by
  obtain ⟨h1, h2, h3, hn, b', off', h6, h7⟩ := h
  obtain ⟨rfl, rfl⟩ : b = b' ∧ off = off' := by
    rcases h6 with h | h
    · injection h with h; injection h with e1 e2; exact ⟨e1, e2⟩
    · omega
  refine ⟨by rw [List.length_drop, h1], by omega, by omega, (fun h => by cases h), b, off + 1, Or.inl rfl, fun i hi => ⟨(h7 (i + 1) (by omega)).1, ?_⟩⟩
  rw [show off + 1 + i = off + (i + 1) by omega, (h7 (i + 1) (by omega)).2]
  congr 2
  simp [List.getD_eq_getElem?_getD, Nat.add_comm]
theorem IRow.none0 {w : World} {B : Nat} {b off : Nat} {xs : List Int} (h : IRow w B (some ⟨b, off, none⟩) 1 1 xs) : IRow w B (some ⟨b, off, none⟩) 0 0 (xs.drop 1) := by
  obtain ⟨h1, h2, h3, hn, b', off', h6, h7⟩ := h
  exact ⟨by rw [List.length_drop, h1], Nat.le_refl _, by omega, (fun h => by cases h), b', off', Or.inr (Nat.le_refl _), fun i hi => by omega⟩
theorem nLn_le {op : ByteArray} {s l : Nat} (h : nLn op = some (s, l)) : s ≤ 1 ∧ l ≤ 2 := by
  unfold nLn at h
  repeat' split at h
  all_goals
    first
    | (injection h with h; injection h with h1 h2; omega)
    | cases h
def lNext (L : List Int) (q : InsP) : List Int := if q.op = opAsk then L else L ++ [q.dst]
/-- what cross tells -/
def CrPost (B g : Nat) (c : CodeM) (v : CodeV) (S N gs gl : Nat) (W L : List Int) (q : InsP) (w : World) (e : Ending) (w' : World) : Prop :=
  ∃ b, e = .returned (.bool b) ∧ crB c W L q = b ∧ (b = true → Rd w' B g c v S N gs gl W (lNext L q)) ∧ Below B w w'
theorem cr_eq {w : World} {B g : Nat} {c : CodeM} {v : CodeV} {S N gs gl : Nat} {W L : List Int} {q : InsP} {a m d r : Option Addr × Nat × Nat} {s l : Nat} (hn : nLn q.op = some (s, l)) (hr : Rd w B g c v S N gs gl W L) (hx : InsW w B q a m d r) :
    crB c W L q = (decide (a.2.1 = s + l) && plK q.op q.k c.ins c.outs v.mems.2.1 v.conts.2.1 c.crosses && (gdB S W q.guard && decide (r.2.1 = 0)) && ((q.args.take s).all (wrB S W) && (q.args.drop s).all (wrB N L)) && (decide (q.op = opAsk) || inB q.dst N)) := by
  unfold crB
  rw [hn]
  simp only []
  rw [hx.args.1, hx.resets.1, hr.is.mems.1, hr.is.conts.1, hr.slots, hr.lines]
theorem cr_none {c : CodeM} {W L : List Int} {q : InsP} (hn : nLn q.op = none) : crB c W L q = false := by unfold crB; rw [hn]
theorem opd_b (op : ByteArray) (s l : Nat) (w : World) (h : nLn op = some (s, l)) : Calls Try.prog 42 #[.string op] w fun e w' => e = .returned (.tuple #[.int .i64 (s : Nat), .int .i64 (l : Nat), .bool true]) ∧ w' = w := by
  have := operands_t op w
  rw [h] at this
  exact this
theorem opd_n (op : ByteArray) (w : World) (h : nLn op = none) : Calls Try.prog 42 #[.string op] w fun e w' => e = .returned (.tuple #[.int .i64 0, .int .i64 0, .bool false]) ∧ w' = w := by
  have := operands_t op w
  rw [h] at this
  exact this
set_option maxHeartbeats 1000000 in
theorem cr_0 (B g : Nat) (c : CodeM) (v : CodeV) (S N gs gl : Nat) (W L : List Int) (q : InsP) (a m d r : Option Addr × Nat × Nat) (w : World) (hr : Rd w B g c v S N gs gl W L) (hx : InsW w B q a m d r) (hn : nLn q.op = none) : Calls Try.prog 24 #[.pointer (some ⟨g, 0, none⟩), .agg #[.string q.op, .int .i64 q.dst, .slice a.1 a.2.1 a.2.2, .int .i64 q.k, .int .i64 q.lit.kind, .bool q.lit.neg, .slice m.1 m.2.1 m.2.2, .slice d.1 d.2.1 d.2.2, .string q.lit.name, .int .i64 q.guard, .slice r.1 r.2.1 r.2.2]] w (CrPost B g c v S N gs gl W L q w) := by
  obtain ⟨W1, hW1⟩ : ∃ W1, W1 = w.alloc (.cells #[.string q.op, .int .i64 q.dst, .slice a.1 a.2.1 a.2.2, .int .i64 q.k, .int .i64 q.lit.kind, .bool q.lit.neg, .slice m.1 m.2.1 m.2.2, .slice d.1 d.2.1 d.2.2, .string q.lit.name, .int .i64 q.guard, .slice r.1 r.2.1 r.2.2] 70) := ⟨_, rfl⟩
  have hb1 : Below w.heap.size w W1 := by rw [hW1]; exact (Below.refl _ _).alloc (Nat.le_refl _) _
  have HX := Lib.hid (show Blk W1 w.heap.size 70 (ics q a m d r) from by rw [hW1]; exact Blk.new _ _ _)
  have HR := Lib.hid (hr.later hb1)
  have HB := Lib.hid (hb1.mono hr.hB)
  have HW := Lib.hid (hx.keep HB.out)
  have HV : Hid (crB c W L q = false) := Lib.hid (cr_none hn)
  have HGW : Hid (gs < w.heap.size) := Lib.hid hr.ms.lt
  have HN := Lib.hid hn
  clear hn
  have hma := hx.args.len_le
  have hmr := hx.resets.len_le
  have HMA := Lib.hid hma
  have hq0 : w.heap.size < W1.heap.size := HX.out.lt
  unfold maxLen at hma hmr
  obtain ⟨x0, x1, x2, x3, x4, x5, x6, x7, x8, x9, x10⟩ := HX.out.elev
  obtain ⟨n0, n1, n2, n3, n4, n5, n6, n7, n8, n9, n10, n11⟩ := HR.out.cells
  clear n0 n1 n2 n3 n4 n5 n6 n7 n8 n9 hb1 hr hx
  go_enter Try.func24, Try.ntmps24
  go_upto_region 1 with fail
  rw [← hW1]
  clear hW1
  go_wp2_with (go_at_call 42; (with_reducible refine (opd_n q.op _ HN.out).mono ?_); rintro e w4 ⟨rfl, rfl⟩)
  go_ret
  exact ⟨false, rfl, by rw [HV.out], (fun h => by cases h), by first | exact HB.out | exact below_drewN HB.out⟩
set_option maxHeartbeats 1000000 in
theorem cr_1 (B g : Nat) (c : CodeM) (v : CodeV) (S N gs gl : Nat) (W L : List Int) (q : InsP) (a m d r : Option Addr × Nat × Nat) (w : World) (hr : Rd w B g c v S N gs gl W L) (hx : InsW w B q a m d r) (s l : Nat) (hn : nLn q.op = some (s, l)) (h1 : ¬ a.2.1 = s + l) : Calls Try.prog 24 #[.pointer (some ⟨g, 0, none⟩), .agg #[.string q.op, .int .i64 q.dst, .slice a.1 a.2.1 a.2.2, .int .i64 q.k, .int .i64 q.lit.kind, .bool q.lit.neg, .slice m.1 m.2.1 m.2.2, .slice d.1 d.2.1 d.2.2, .string q.lit.name, .int .i64 q.guard, .slice r.1 r.2.1 r.2.2]] w (CrPost B g c v S N gs gl W L q w) := by
  obtain ⟨W1, hW1⟩ : ∃ W1, W1 = w.alloc (.cells #[.string q.op, .int .i64 q.dst, .slice a.1 a.2.1 a.2.2, .int .i64 q.k, .int .i64 q.lit.kind, .bool q.lit.neg, .slice m.1 m.2.1 m.2.2, .slice d.1 d.2.1 d.2.2, .string q.lit.name, .int .i64 q.guard, .slice r.1 r.2.1 r.2.2] 70) := ⟨_, rfl⟩
  have hb1 : Below w.heap.size w W1 := by rw [hW1]; exact (Below.refl _ _).alloc (Nat.le_refl _) _
  have HX := Lib.hid (show Blk W1 w.heap.size 70 (ics q a m d r) from by rw [hW1]; exact Blk.new _ _ _)
  have HR := Lib.hid (hr.later hb1)
  have HB := Lib.hid (hb1.mono hr.hB)
  have HW := Lib.hid (hx.keep HB.out)
  have HV := Lib.hid (cr_eq hn hr hx)
  have HGW : Hid (gs < w.heap.size) := Lib.hid hr.ms.lt
  obtain ⟨hs1, hl2⟩ := nLn_le hn
  have HN := Lib.hid hn
  clear hn
  have hma := hx.args.len_le
  have hmr := hx.resets.len_le
  have HMA := Lib.hid hma
  have hq0 : w.heap.size < W1.heap.size := HX.out.lt
  have H1 := Lib.hid (decide_eq_false h1)
  have g1 : ((a.2.1 : Int) == (s : Int) + (l : Int)) = false := by rw [beq_eq_false_iff_ne]; omega
  have g2 : ((a.2.1 : Int) != (s : Int) + (l : Int)) = true := by show (!(_ == _)) = _; rw [g1]; rfl
  unfold maxLen at hma hmr
  obtain ⟨x0, x1, x2, x3, x4, x5, x6, x7, x8, x9, x10⟩ := HX.out.elev
  obtain ⟨n0, n1, n2, n3, n4, n5, n6, n7, n8, n9, n10, n11⟩ := HR.out.cells
  clear n0 n1 n2 n3 n4 n5 n6 n7 n8 n9 hb1 hr hx
  go_enter Try.func24, Try.ntmps24
  go_upto_region 1 with fail
  rw [← hW1]
  clear hW1
  go_wp2_with (go_at_call 42; (with_reducible refine (opd_b q.op s l _ HN.out).mono ?_); rintro e w4 ⟨rfl, rfl⟩)
  go_ret
  exact ⟨false, rfl, by rw [HV.out, H1.out]; simp, (fun h => by cases h), by first | exact HB.out | exact below_drewN HB.out⟩
set_option maxHeartbeats 1000000 in
theorem cr_2 (B g : Nat) (c : CodeM) (v : CodeV) (S N gs gl : Nat) (W L : List Int) (q : InsP) (a m d r : Option Addr × Nat × Nat) (w : World) (hr : Rd w B g c v S N gs gl W L) (hx : InsW w B q a m d r) (s l : Nat) (hn : nLn q.op = some (s, l)) (h1 : a.2.1 = s + l) (h2 : plK q.op q.k c.ins c.outs v.mems.2.1 v.conts.2.1 c.crosses = false) : Calls Try.prog 24 #[.pointer (some ⟨g, 0, none⟩), .agg #[.string q.op, .int .i64 q.dst, .slice a.1 a.2.1 a.2.2, .int .i64 q.k, .int .i64 q.lit.kind, .bool q.lit.neg, .slice m.1 m.2.1 m.2.2, .slice d.1 d.2.1 d.2.2, .string q.lit.name, .int .i64 q.guard, .slice r.1 r.2.1 r.2.2]] w (CrPost B g c v S N gs gl W L q w) := by
  obtain ⟨W1, hW1⟩ : ∃ W1, W1 = w.alloc (.cells #[.string q.op, .int .i64 q.dst, .slice a.1 a.2.1 a.2.2, .int .i64 q.k, .int .i64 q.lit.kind, .bool q.lit.neg, .slice m.1 m.2.1 m.2.2, .slice d.1 d.2.1 d.2.2, .string q.lit.name, .int .i64 q.guard, .slice r.1 r.2.1 r.2.2] 70) := ⟨_, rfl⟩
  have hb1 : Below w.heap.size w W1 := by rw [hW1]; exact (Below.refl _ _).alloc (Nat.le_refl _) _
  have HX := Lib.hid (show Blk W1 w.heap.size 70 (ics q a m d r) from by rw [hW1]; exact Blk.new _ _ _)
  have HR := Lib.hid (hr.later hb1)
  have HB := Lib.hid (hb1.mono hr.hB)
  have HW := Lib.hid (hx.keep HB.out)
  have HV := Lib.hid (cr_eq hn hr hx)
  have HGW : Hid (gs < w.heap.size) := Lib.hid hr.ms.lt
  obtain ⟨hs1, hl2⟩ := nLn_le hn
  have HN := Lib.hid hn
  clear hn
  have hma := hx.args.len_le
  have hmr := hx.resets.len_le
  have HMA := Lib.hid hma
  have hq0 : w.heap.size < W1.heap.size := HX.out.lt
  have H1 := Lib.hid (decide_eq_true h1)
  have g1 : ((a.2.1 : Int) == (s : Int) + (l : Int)) = true := by rw [beq_iff_eq]; omega
  have g2 : ((a.2.1 : Int) != (s : Int) + (l : Int)) = false := by show (!(_ == _)) = _; rw [g1]; rfl
  have H1N := Lib.hid h1
  clear h1
  have H2 := Lib.hid h2
  clear h2
  unfold maxLen at hma hmr
  obtain ⟨x0, x1, x2, x3, x4, x5, x6, x7, x8, x9, x10⟩ := HX.out.elev
  obtain ⟨n0, n1, n2, n3, n4, n5, n6, n7, n8, n9, n10, n11⟩ := HR.out.cells
  clear n0 n1 n2 n3 n4 n5 n6 n7 n8 n9 hb1 hr hx
  go_enter Try.func24, Try.ntmps24
  go_upto_region 1 with fail
  rw [← hW1]
  clear hW1
  go_wp2_with (first | (go_at_call 42; (with_reducible refine (opd_b q.op s l _ HN.out).mono ?_); rintro e w4 ⟨rfl, rfl⟩) | (go_at_call 35; (with_reducible refine (hasPlace_b c v B g S N gs gl W L q a m d r false _ HR.out H2.out).mono ?_); rintro e w3 ⟨rfl, hb3⟩; have HX := Lib.hid (HX.out.later hb3); have HW := Lib.hid (HW.out.keep (hb3.mono HR.out.hB)); have HB := Lib.hid (HB.out.trans (hb3.mono HR.out.hB)); have HR := Lib.hid (HR.out.later hb3); clear hb3 x0 x1 x2 x3 x4 x5 x6 x7 x8 x9 x10 n10 n11 hq0; obtain ⟨x0, x1, x2, x3, x4, x5, x6, x7, x8, x9, x10⟩ := HX.out.elev; obtain ⟨n0, n1, n2, n3, n4, n5, n6, n7, n8, n9, n10, n11⟩ := HR.out.cells; clear n0 n1 n2 n3 n4 n5 n6 n7 n8 n9; have hq0 := HX.out.lt))
  go_ret
  exact ⟨false, rfl, by rw [HV.out, H1.out, H2.out]; simp, (fun h => by cases h), by first | exact HB.out | exact below_drewN HB.out⟩
set_option maxHeartbeats 1000000 in
theorem cr_3 (B g : Nat) (c : CodeM) (v : CodeV) (S N gs gl : Nat) (W L : List Int) (q : InsP) (a m d r : Option Addr × Nat × Nat) (w : World) (hr : Rd w B g c v S N gs gl W L) (hx : InsW w B q a m d r) (s l : Nat) (hn : nLn q.op = some (s, l)) (h1 : a.2.1 = s + l) (h2 : plK q.op q.k c.ins c.outs v.mems.2.1 v.conts.2.1 c.crosses = true) (h3 : (gdB S W q.guard && decide (r.2.1 = 0)) = false) : Calls Try.prog 24 #[.pointer (some ⟨g, 0, none⟩), .agg #[.string q.op, .int .i64 q.dst, .slice a.1 a.2.1 a.2.2, .int .i64 q.k, .int .i64 q.lit.kind, .bool q.lit.neg, .slice m.1 m.2.1 m.2.2, .slice d.1 d.2.1 d.2.2, .string q.lit.name, .int .i64 q.guard, .slice r.1 r.2.1 r.2.2]] w (CrPost B g c v S N gs gl W L q w) := by
  obtain ⟨W1, hW1⟩ : ∃ W1, W1 = w.alloc (.cells #[.string q.op, .int .i64 q.dst, .slice a.1 a.2.1 a.2.2, .int .i64 q.k, .int .i64 q.lit.kind, .bool q.lit.neg, .slice m.1 m.2.1 m.2.2, .slice d.1 d.2.1 d.2.2, .string q.lit.name, .int .i64 q.guard, .slice r.1 r.2.1 r.2.2] 70) := ⟨_, rfl⟩
  have hb1 : Below w.heap.size w W1 := by rw [hW1]; exact (Below.refl _ _).alloc (Nat.le_refl _) _
  have HX := Lib.hid (show Blk W1 w.heap.size 70 (ics q a m d r) from by rw [hW1]; exact Blk.new _ _ _)
  have HR := Lib.hid (hr.later hb1)
  have HB := Lib.hid (hb1.mono hr.hB)
  have HW := Lib.hid (hx.keep HB.out)
  have HV := Lib.hid (cr_eq hn hr hx)
  have HGW : Hid (gs < w.heap.size) := Lib.hid hr.ms.lt
  obtain ⟨hs1, hl2⟩ := nLn_le hn
  have HN := Lib.hid hn
  clear hn
  have hma := hx.args.len_le
  have hmr := hx.resets.len_le
  have HMA := Lib.hid hma
  have hq0 : w.heap.size < W1.heap.size := HX.out.lt
  have H1 := Lib.hid (decide_eq_true h1)
  have g1 : ((a.2.1 : Int) == (s : Int) + (l : Int)) = true := by rw [beq_iff_eq]; omega
  have g2 : ((a.2.1 : Int) != (s : Int) + (l : Int)) = false := by show (!(_ == _)) = _; rw [g1]; rfl
  have H1N := Lib.hid h1
  clear h1
  have H2 := Lib.hid h2
  clear h2
  have H3 := Lib.hid h3
  clear h3
  unfold maxLen at hma hmr
  obtain ⟨x0, x1, x2, x3, x4, x5, x6, x7, x8, x9, x10⟩ := HX.out.elev
  obtain ⟨n0, n1, n2, n3, n4, n5, n6, n7, n8, n9, n10, n11⟩ := HR.out.cells
  clear n0 n1 n2 n3 n4 n5 n6 n7 n8 n9 hb1 hr hx
  go_enter Try.func24, Try.ntmps24
  go_upto_region 1 with fail
  rw [← hW1]
  clear hW1
  go_wp2_with (first | (go_at_call 42; (with_reducible refine (opd_b q.op s l _ HN.out).mono ?_); rintro e w4 ⟨rfl, rfl⟩) | (go_at_call 35; (with_reducible refine (hasPlace_b c v B g S N gs gl W L q a m d r true _ HR.out H2.out).mono ?_); rintro e w3 ⟨rfl, hb3⟩; have HX := Lib.hid (HX.out.later hb3); have HW := Lib.hid (HW.out.keep (hb3.mono HR.out.hB)); have HB := Lib.hid (HB.out.trans (hb3.mono HR.out.hB)); have HR := Lib.hid (HR.out.later hb3); clear hb3 x0 x1 x2 x3 x4 x5 x6 x7 x8 x9 x10 n10 n11 hq0; obtain ⟨x0, x1, x2, x3, x4, x5, x6, x7, x8, x9, x10⟩ := HX.out.elev; obtain ⟨n0, n1, n2, n3, n4, n5, n6, n7, n8, n9, n10, n11⟩ := HR.out.cells; clear n0 n1 n2 n3 n4 n5 n6 n7 n8 n9; have hq0 := HX.out.lt) | (go_at_call 41; (with_reducible refine (isBetween_b false B g c v S N gs gl W L q a m d r _ HR.out HW.out H3.out).mono ?_); rintro e w4 ⟨rfl, hb4⟩; have HX := Lib.hid (HX.out.later hb4); have HW := Lib.hid (HW.out.keep (hb4.mono HR.out.hB)); have HB := Lib.hid (HB.out.trans (hb4.mono HR.out.hB)); have HR := Lib.hid (HR.out.later hb4); clear hb4 x0 x1 x2 x3 x4 x5 x6 x7 x8 x9 x10 n10 n11 hq0; obtain ⟨x0, x1, x2, x3, x4, x5, x6, x7, x8, x9, x10⟩ := HX.out.elev; obtain ⟨n0, n1, n2, n3, n4, n5, n6, n7, n8, n9, n10, n11⟩ := HR.out.cells; clear n0 n1 n2 n3 n4 n5 n6 n7 n8 n9; have hq0 := HX.out.lt))
  go_ret
  exact ⟨false, rfl, by rw [HV.out, H1.out, H2.out, H3.out]; simp, (fun h => by cases h), by first | exact HB.out | exact below_drewN HB.out⟩
set_option maxHeartbeats 1000000 in
theorem cr_zA (B g : Nat) (c : CodeM) (v : CodeV) (S N gs gl : Nat) (W L : List Int) (q : InsP) (a m d r : Option Addr × Nat × Nat) (w : World) (hr : Rd w B g c v S N gs gl W L) (hx : InsW w B q a m d r) (l : Nat) (hn : nLn q.op = some (0, l)) (h1 : a.2.1 = 0 + l) (h2 : plK q.op q.k c.ins c.outs v.mems.2.1 v.conts.2.1 c.crosses = true) (h3 : (gdB S W q.guard && decide (r.2.1 = 0)) = true) (ha : (q.args.take 0).all (wrB S W) = false) : Calls Try.prog 24 #[.pointer (some ⟨g, 0, none⟩), .agg #[.string q.op, .int .i64 q.dst, .slice a.1 a.2.1 a.2.2, .int .i64 q.k, .int .i64 q.lit.kind, .bool q.lit.neg, .slice m.1 m.2.1 m.2.2, .slice d.1 d.2.1 d.2.2, .string q.lit.name, .int .i64 q.guard, .slice r.1 r.2.1 r.2.2]] w (CrPost B g c v S N gs gl W L q w) := by
  obtain ⟨W1, hW1⟩ : ∃ W1, W1 = w.alloc (.cells #[.string q.op, .int .i64 q.dst, .slice a.1 a.2.1 a.2.2, .int .i64 q.k, .int .i64 q.lit.kind, .bool q.lit.neg, .slice m.1 m.2.1 m.2.2, .slice d.1 d.2.1 d.2.2, .string q.lit.name, .int .i64 q.guard, .slice r.1 r.2.1 r.2.2] 70) := ⟨_, rfl⟩
  have hb1 : Below w.heap.size w W1 := by rw [hW1]; exact (Below.refl _ _).alloc (Nat.le_refl _) _
  have HX := Lib.hid (show Blk W1 w.heap.size 70 (ics q a m d r) from by rw [hW1]; exact Blk.new _ _ _)
  have HR := Lib.hid (hr.later hb1)
  have HB := Lib.hid (hb1.mono hr.hB)
  have HW := Lib.hid (hx.keep HB.out)
  have HV := Lib.hid (cr_eq hn hr hx)
  have HGW : Hid (gs < w.heap.size) := Lib.hid hr.ms.lt
  obtain ⟨hs1, hl2⟩ := nLn_le hn
  have HN := Lib.hid hn
  clear hn
  have hma := hx.args.len_le
  have hmr := hx.resets.len_le
  have HMA := Lib.hid hma
  have hq0 : w.heap.size < W1.heap.size := HX.out.lt
  have H1 := Lib.hid (decide_eq_true h1)
  have g1 : ((a.2.1 : Int) == (l : Int)) = true := by rw [beq_iff_eq]; omega
  have g2 : ((a.2.1 : Int) != (l : Int)) = false := by show (!(_ == _)) = _; rw [g1]; rfl
  have H1N := Lib.hid h1
  clear h1
  have H2 := Lib.hid h2
  clear h2
  have H3 := Lib.hid h3
  clear h3
  have HA := Lib.hid ha
  clear ha
  unfold maxLen at hma hmr
  obtain ⟨x0, x1, x2, x3, x4, x5, x6, x7, x8, x9, x10⟩ := HX.out.elev
  obtain ⟨n0, n1, n2, n3, n4, n5, n6, n7, n8, n9, n10, n11⟩ := HR.out.cells
  clear n0 n1 n2 n3 n4 n5 n6 n7 n8 n9 hb1 hr hx
  go_enter Try.func24, Try.ntmps24
  go_upto_region 1 with fail
  rw [← hW1]
  clear hW1
  go_upto_region 4 with (first | (go_at_call 42; (with_reducible refine (opd_b q.op 0 l _ HN.out).mono ?_); rintro e w4 ⟨rfl, rfl⟩) | (go_at_call 35; (with_reducible refine (hasPlace_b c v B g S N gs gl W L q a m d r true _ HR.out H2.out).mono ?_); rintro e w3 ⟨rfl, hb3⟩; have HX := Lib.hid (HX.out.later hb3); have HW := Lib.hid (HW.out.keep (hb3.mono HR.out.hB)); have HB := Lib.hid (HB.out.trans (hb3.mono HR.out.hB)); have HR := Lib.hid (HR.out.later hb3); clear hb3 x0 x1 x2 x3 x4 x5 x6 x7 x8 x9 x10 n10 n11 hq0; obtain ⟨x0, x1, x2, x3, x4, x5, x6, x7, x8, x9, x10⟩ := HX.out.elev; obtain ⟨n0, n1, n2, n3, n4, n5, n6, n7, n8, n9, n10, n11⟩ := HR.out.cells; clear n0 n1 n2 n3 n4 n5 n6 n7 n8 n9; have hq0 := HX.out.lt) | (go_at_call 41; (with_reducible refine (isBetween_b true B g c v S N gs gl W L q a m d r _ HR.out HW.out H3.out).mono ?_); rintro e w4 ⟨rfl, hb4⟩; have HX := Lib.hid (HX.out.later hb4); have HW := Lib.hid (HW.out.keep (hb4.mono HR.out.hB)); have HB := Lib.hid (HB.out.trans (hb4.mono HR.out.hB)); have HR := Lib.hid (HR.out.later hb4); clear hb4 x0 x1 x2 x3 x4 x5 x6 x7 x8 x9 x10 n10 n11 hq0; obtain ⟨x0, x1, x2, x3, x4, x5, x6, x7, x8, x9, x10⟩ := HX.out.elev; obtain ⟨n0, n1, n2, n3, n4, n5, n6, n7, n8, n9, n10, n11⟩ := HR.out.cells; clear n0 n1 n2 n3 n4 n5 n6 n7 n8 n9; have hq0 := HX.out.lt))
  have HMS := Lib.hid HR.out.ms
  have HML := Lib.hid HR.out.ml
  have HSS := Lib.hid HR.out.sS
  have HSN := Lib.hid HR.out.sN
  have HT1 := Lib.hid (HW.out.args.takeS (s := 0) (Nat.zero_le _))
  have HT2 := Lib.hid (show IRow w4 B a.1 a.2.1 a.2.2 (q.args.drop 0) from HW.out.args)
  go_quiet ((first | (go_at_call 19; with_reducible exact Calls.quiet_of_same (allW_q a.1 0 a.2.2 B (q.args.take 0) gs S W false _ _ HT1.out HMS.out HSS.out HA.out)) | (go_at_call 19; with_reducible exact Calls.quiet_of_same (allW_q a.1 a.2.1 a.2.2 B (q.args.drop 0) gl N L false _ _ HT2.out HML.out HSN.out rfl))))
  go_wp2
  go_ret
  exact ⟨false, rfl, by rw [HV.out, H1.out, H2.out, H3.out, HA.out]; simp, (fun h => by cases h), by first | exact HB.out | exact below_drewN HB.out⟩
set_option maxHeartbeats 1000000 in
theorem cr_zD (B g : Nat) (c : CodeM) (v : CodeV) (S N gs gl : Nat) (W L : List Int) (q : InsP) (a m d r : Option Addr × Nat × Nat) (w : World) (hr : Rd w B g c v S N gs gl W L) (hx : InsW w B q a m d r) (l : Nat) (hn : nLn q.op = some (0, l)) (h1 : a.2.1 = 0 + l) (h2 : plK q.op q.k c.ins c.outs v.mems.2.1 v.conts.2.1 c.crosses = true) (h3 : (gdB S W q.guard && decide (r.2.1 = 0)) = true) (ha : (q.args.take 0).all (wrB S W) = true) (hd : (q.args.drop 0).all (wrB N L) = false) : Calls Try.prog 24 #[.pointer (some ⟨g, 0, none⟩), .agg #[.string q.op, .int .i64 q.dst, .slice a.1 a.2.1 a.2.2, .int .i64 q.k, .int .i64 q.lit.kind, .bool q.lit.neg, .slice m.1 m.2.1 m.2.2, .slice d.1 d.2.1 d.2.2, .string q.lit.name, .int .i64 q.guard, .slice r.1 r.2.1 r.2.2]] w (CrPost B g c v S N gs gl W L q w) := by
  obtain ⟨W1, hW1⟩ : ∃ W1, W1 = w.alloc (.cells #[.string q.op, .int .i64 q.dst, .slice a.1 a.2.1 a.2.2, .int .i64 q.k, .int .i64 q.lit.kind, .bool q.lit.neg, .slice m.1 m.2.1 m.2.2, .slice d.1 d.2.1 d.2.2, .string q.lit.name, .int .i64 q.guard, .slice r.1 r.2.1 r.2.2] 70) := ⟨_, rfl⟩
  have hb1 : Below w.heap.size w W1 := by rw [hW1]; exact (Below.refl _ _).alloc (Nat.le_refl _) _
  have HX := Lib.hid (show Blk W1 w.heap.size 70 (ics q a m d r) from by rw [hW1]; exact Blk.new _ _ _)
  have HR := Lib.hid (hr.later hb1)
  have HB := Lib.hid (hb1.mono hr.hB)
  have HW := Lib.hid (hx.keep HB.out)
  have HV := Lib.hid (cr_eq hn hr hx)
  have HGW : Hid (gs < w.heap.size) := Lib.hid hr.ms.lt
  obtain ⟨hs1, hl2⟩ := nLn_le hn
  have HN := Lib.hid hn
  clear hn
  have hma := hx.args.len_le
  have hmr := hx.resets.len_le
  have HMA := Lib.hid hma
  have hq0 : w.heap.size < W1.heap.size := HX.out.lt
  have H1 := Lib.hid (decide_eq_true h1)
  have g1 : ((a.2.1 : Int) == (l : Int)) = true := by rw [beq_iff_eq]; omega
  have g2 : ((a.2.1 : Int) != (l : Int)) = false := by show (!(_ == _)) = _; rw [g1]; rfl
  have H1N := Lib.hid h1
  clear h1
  have H2 := Lib.hid h2
  clear h2
  have H3 := Lib.hid h3
  clear h3
  have HA := Lib.hid ha
  clear ha
  have HD := Lib.hid hd
  clear hd
  unfold maxLen at hma hmr
  obtain ⟨x0, x1, x2, x3, x4, x5, x6, x7, x8, x9, x10⟩ := HX.out.elev
  obtain ⟨n0, n1, n2, n3, n4, n5, n6, n7, n8, n9, n10, n11⟩ := HR.out.cells
  clear n0 n1 n2 n3 n4 n5 n6 n7 n8 n9 hb1 hr hx
  go_enter Try.func24, Try.ntmps24
  go_upto_region 1 with fail
  rw [← hW1]
  clear hW1
  go_upto_region 4 with (first | (go_at_call 42; (with_reducible refine (opd_b q.op 0 l _ HN.out).mono ?_); rintro e w4 ⟨rfl, rfl⟩) | (go_at_call 35; (with_reducible refine (hasPlace_b c v B g S N gs gl W L q a m d r true _ HR.out H2.out).mono ?_); rintro e w3 ⟨rfl, hb3⟩; have HX := Lib.hid (HX.out.later hb3); have HW := Lib.hid (HW.out.keep (hb3.mono HR.out.hB)); have HB := Lib.hid (HB.out.trans (hb3.mono HR.out.hB)); have HR := Lib.hid (HR.out.later hb3); clear hb3 x0 x1 x2 x3 x4 x5 x6 x7 x8 x9 x10 n10 n11 hq0; obtain ⟨x0, x1, x2, x3, x4, x5, x6, x7, x8, x9, x10⟩ := HX.out.elev; obtain ⟨n0, n1, n2, n3, n4, n5, n6, n7, n8, n9, n10, n11⟩ := HR.out.cells; clear n0 n1 n2 n3 n4 n5 n6 n7 n8 n9; have hq0 := HX.out.lt) | (go_at_call 41; (with_reducible refine (isBetween_b true B g c v S N gs gl W L q a m d r _ HR.out HW.out H3.out).mono ?_); rintro e w4 ⟨rfl, hb4⟩; have HX := Lib.hid (HX.out.later hb4); have HW := Lib.hid (HW.out.keep (hb4.mono HR.out.hB)); have HB := Lib.hid (HB.out.trans (hb4.mono HR.out.hB)); have HR := Lib.hid (HR.out.later hb4); clear hb4 x0 x1 x2 x3 x4 x5 x6 x7 x8 x9 x10 n10 n11 hq0; obtain ⟨x0, x1, x2, x3, x4, x5, x6, x7, x8, x9, x10⟩ := HX.out.elev; obtain ⟨n0, n1, n2, n3, n4, n5, n6, n7, n8, n9, n10, n11⟩ := HR.out.cells; clear n0 n1 n2 n3 n4 n5 n6 n7 n8 n9; have hq0 := HX.out.lt))
  have HMS := Lib.hid HR.out.ms
  have HML := Lib.hid HR.out.ml
  have HSS := Lib.hid HR.out.sS
  have HSN := Lib.hid HR.out.sN
  have HT1 := Lib.hid (HW.out.args.takeS (s := 0) (Nat.zero_le _))
  have HT2 := Lib.hid (show IRow w4 B a.1 a.2.1 a.2.2 (q.args.drop 0) from HW.out.args)
  go_quiet ((first | (go_at_call 19; with_reducible exact Calls.quiet_of_same (allW_q a.1 0 a.2.2 B (q.args.take 0) gs S W true _ _ HT1.out HMS.out HSS.out HA.out)) | (go_at_call 19; with_reducible exact Calls.quiet_of_same (allW_q a.1 a.2.1 a.2.2 B (q.args.drop 0) gl N L false _ _ HT2.out HML.out HSN.out HD.out))))
  go_wp2
  go_ret
  exact ⟨false, rfl, by rw [HV.out, H1.out, H2.out, H3.out, HA.out, HD.out]; simp, (fun h => by cases h), by first | exact HB.out | exact below_drewN HB.out⟩
set_option maxHeartbeats 1000000 in
theorem cr_zK (B g : Nat) (c : CodeM) (v : CodeV) (S N gs gl : Nat) (W L : List Int) (q : InsP) (a m d r : Option Addr × Nat × Nat) (w : World) (hr : Rd w B g c v S N gs gl W L) (hx : InsW w B q a m d r) (l : Nat) (hn : nLn q.op = some (0, l)) (h1 : a.2.1 = 0 + l) (h2 : plK q.op q.k c.ins c.outs v.mems.2.1 v.conts.2.1 c.crosses = true) (h3 : (gdB S W q.guard && decide (r.2.1 = 0)) = true) (ha : (q.args.take 0).all (wrB S W) = true) (hd : (q.args.drop 0).all (wrB N L) = true) (hk : q.op = opAsk) : Calls Try.prog 24 #[.pointer (some ⟨g, 0, none⟩), .agg #[.string q.op, .int .i64 q.dst, .slice a.1 a.2.1 a.2.2, .int .i64 q.k, .int .i64 q.lit.kind, .bool q.lit.neg, .slice m.1 m.2.1 m.2.2, .slice d.1 d.2.1 d.2.2, .string q.lit.name, .int .i64 q.guard, .slice r.1 r.2.1 r.2.2]] w (CrPost B g c v S N gs gl W L q w) := by
  obtain ⟨W1, hW1⟩ : ∃ W1, W1 = w.alloc (.cells #[.string q.op, .int .i64 q.dst, .slice a.1 a.2.1 a.2.2, .int .i64 q.k, .int .i64 q.lit.kind, .bool q.lit.neg, .slice m.1 m.2.1 m.2.2, .slice d.1 d.2.1 d.2.2, .string q.lit.name, .int .i64 q.guard, .slice r.1 r.2.1 r.2.2] 70) := ⟨_, rfl⟩
  have hb1 : Below w.heap.size w W1 := by rw [hW1]; exact (Below.refl _ _).alloc (Nat.le_refl _) _
  have HX := Lib.hid (show Blk W1 w.heap.size 70 (ics q a m d r) from by rw [hW1]; exact Blk.new _ _ _)
  have HR := Lib.hid (hr.later hb1)
  have HB := Lib.hid (hb1.mono hr.hB)
  have HW := Lib.hid (hx.keep HB.out)
  have HV := Lib.hid (cr_eq hn hr hx)
  have HGW : Hid (gs < w.heap.size) := Lib.hid hr.ms.lt
  obtain ⟨hs1, hl2⟩ := nLn_le hn
  have HN := Lib.hid hn
  clear hn
  have hma := hx.args.len_le
  have hmr := hx.resets.len_le
  have HMA := Lib.hid hma
  have hq0 : w.heap.size < W1.heap.size := HX.out.lt
  have H1 := Lib.hid (decide_eq_true h1)
  have g1 : ((a.2.1 : Int) == (l : Int)) = true := by rw [beq_iff_eq]; omega
  have g2 : ((a.2.1 : Int) != (l : Int)) = false := by show (!(_ == _)) = _; rw [g1]; rfl
  have H1N := Lib.hid h1
  clear h1
  have g3 : (q.op.toList == [97, 115, 107]) = true := by rw [hk, Lib.toList_data]; rfl
  have H2 := Lib.hid h2
  clear h2
  have H3 := Lib.hid h3
  clear h3
  have HA := Lib.hid ha
  clear ha
  have HD := Lib.hid hd
  clear hd
  have HK := Lib.hid hk
  have HKD := Lib.hid (decide_eq_true hk)
  clear hk
  unfold maxLen at hma hmr
  obtain ⟨x0, x1, x2, x3, x4, x5, x6, x7, x8, x9, x10⟩ := HX.out.elev
  obtain ⟨n0, n1, n2, n3, n4, n5, n6, n7, n8, n9, n10, n11⟩ := HR.out.cells
  clear n0 n1 n2 n3 n4 n5 n6 n7 n8 n9 hb1 hr hx
  go_enter Try.func24, Try.ntmps24
  go_upto_region 1 with fail
  rw [← hW1]
  clear hW1
  go_upto_region 4 with (first | (go_at_call 42; (with_reducible refine (opd_b q.op 0 l _ HN.out).mono ?_); rintro e w4 ⟨rfl, rfl⟩) | (go_at_call 35; (with_reducible refine (hasPlace_b c v B g S N gs gl W L q a m d r true _ HR.out H2.out).mono ?_); rintro e w3 ⟨rfl, hb3⟩; have HX := Lib.hid (HX.out.later hb3); have HW := Lib.hid (HW.out.keep (hb3.mono HR.out.hB)); have HB := Lib.hid (HB.out.trans (hb3.mono HR.out.hB)); have HR := Lib.hid (HR.out.later hb3); clear hb3 x0 x1 x2 x3 x4 x5 x6 x7 x8 x9 x10 n10 n11 hq0; obtain ⟨x0, x1, x2, x3, x4, x5, x6, x7, x8, x9, x10⟩ := HX.out.elev; obtain ⟨n0, n1, n2, n3, n4, n5, n6, n7, n8, n9, n10, n11⟩ := HR.out.cells; clear n0 n1 n2 n3 n4 n5 n6 n7 n8 n9; have hq0 := HX.out.lt) | (go_at_call 41; (with_reducible refine (isBetween_b true B g c v S N gs gl W L q a m d r _ HR.out HW.out H3.out).mono ?_); rintro e w4 ⟨rfl, hb4⟩; have HX := Lib.hid (HX.out.later hb4); have HW := Lib.hid (HW.out.keep (hb4.mono HR.out.hB)); have HB := Lib.hid (HB.out.trans (hb4.mono HR.out.hB)); have HR := Lib.hid (HR.out.later hb4); clear hb4 x0 x1 x2 x3 x4 x5 x6 x7 x8 x9 x10 n10 n11 hq0; obtain ⟨x0, x1, x2, x3, x4, x5, x6, x7, x8, x9, x10⟩ := HX.out.elev; obtain ⟨n0, n1, n2, n3, n4, n5, n6, n7, n8, n9, n10, n11⟩ := HR.out.cells; clear n0 n1 n2 n3 n4 n5 n6 n7 n8 n9; have hq0 := HX.out.lt))
  have HMS := Lib.hid HR.out.ms
  have HML := Lib.hid HR.out.ml
  have HSS := Lib.hid HR.out.sS
  have HSN := Lib.hid HR.out.sN
  have HT1 := Lib.hid (HW.out.args.takeS (s := 0) (Nat.zero_le _))
  have HT2 := Lib.hid (show IRow w4 B a.1 a.2.1 a.2.2 (q.args.drop 0) from HW.out.args)
  go_quiet ((first | (go_at_call 19; with_reducible exact Calls.quiet_of_same (allW_q a.1 0 a.2.2 B (q.args.take 0) gs S W true _ _ HT1.out HMS.out HSS.out HA.out)) | (go_at_call 19; with_reducible exact Calls.quiet_of_same (allW_q a.1 a.2.1 a.2.2 B (q.args.drop 0) gl N L true _ _ HT2.out HML.out HSN.out HD.out))))
  go_upto_region 6 with fail
  generalize hw5 : World.drewN _ _ = w5
  have HB5 := Lib.hid (show Below B w w5 from by rw [← hw5]; exact below_drewN HB.out)
  have HR5 := Lib.hid (show Rd w5 B g c v S N gs gl W L from by rw [← hw5]; exact HR.out.drewN)
  have HX5 := Lib.hid (show Blk w5 w.heap.size 70 (ics q a m d r) from by rw [← hw5]; exact HX.out)
  clear hw5 x0 x1 x2 x3 x4 x5 x6 x7 x8 x9 x10 n10 n11
  have n11 := HR5.out.blk.cell 11 rfl
  obtain ⟨x0, x1, x2, x3, x4, x5, x6, x7, x8, x9, x10⟩ := HX5.out.elev
  go_quiet (fail)
  go_wp2
  go_ret
  exact ⟨true, rfl, by rw [HV.out, H1.out, H2.out, H3.out, HA.out, HD.out, HKD.out]; simp, fun _ => by unfold lNext; rw [if_pos HK.out]; exact HR5.out.drewN, below_drewN HB5.out⟩
set_option maxHeartbeats 1000000 in
theorem cr_zF (B g : Nat) (c : CodeM) (v : CodeV) (S N gs gl : Nat) (W L : List Int) (q : InsP) (a m d r : Option Addr × Nat × Nat) (w : World) (hr : Rd w B g c v S N gs gl W L) (hx : InsW w B q a m d r) (l : Nat) (hn : nLn q.op = some (0, l)) (h1 : a.2.1 = 0 + l) (h2 : plK q.op q.k c.ins c.outs v.mems.2.1 v.conts.2.1 c.crosses = true) (h3 : (gdB S W q.guard && decide (r.2.1 = 0)) = true) (ha : (q.args.take 0).all (wrB S W) = true) (hd : (q.args.drop 0).all (wrB N L) = true) (hk : ¬ q.op = opAsk) (hi : inB q.dst N = false) : Calls Try.prog 24 #[.pointer (some ⟨g, 0, none⟩), .agg #[.string q.op, .int .i64 q.dst, .slice a.1 a.2.1 a.2.2, .int .i64 q.k, .int .i64 q.lit.kind, .bool q.lit.neg, .slice m.1 m.2.1 m.2.2, .slice d.1 d.2.1 d.2.2, .string q.lit.name, .int .i64 q.guard, .slice r.1 r.2.1 r.2.2]] w (CrPost B g c v S N gs gl W L q w) := by
  obtain ⟨W1, hW1⟩ : ∃ W1, W1 = w.alloc (.cells #[.string q.op, .int .i64 q.dst, .slice a.1 a.2.1 a.2.2, .int .i64 q.k, .int .i64 q.lit.kind, .bool q.lit.neg, .slice m.1 m.2.1 m.2.2, .slice d.1 d.2.1 d.2.2, .string q.lit.name, .int .i64 q.guard, .slice r.1 r.2.1 r.2.2] 70) := ⟨_, rfl⟩
  have hb1 : Below w.heap.size w W1 := by rw [hW1]; exact (Below.refl _ _).alloc (Nat.le_refl _) _
  have HX := Lib.hid (show Blk W1 w.heap.size 70 (ics q a m d r) from by rw [hW1]; exact Blk.new _ _ _)
  have HR := Lib.hid (hr.later hb1)
  have HB := Lib.hid (hb1.mono hr.hB)
  have HW := Lib.hid (hx.keep HB.out)
  have HV := Lib.hid (cr_eq hn hr hx)
  have HGW : Hid (gs < w.heap.size) := Lib.hid hr.ms.lt
  obtain ⟨hs1, hl2⟩ := nLn_le hn
  have HN := Lib.hid hn
  clear hn
  have hma := hx.args.len_le
  have hmr := hx.resets.len_le
  have HMA := Lib.hid hma
  have hq0 : w.heap.size < W1.heap.size := HX.out.lt
  have H1 := Lib.hid (decide_eq_true h1)
  have g1 : ((a.2.1 : Int) == (l : Int)) = true := by rw [beq_iff_eq]; omega
  have g2 : ((a.2.1 : Int) != (l : Int)) = false := by show (!(_ == _)) = _; rw [g1]; rfl
  have H1N := Lib.hid h1
  clear h1
  have g3 := str_no (l := [97, 115, 107]) hk
  have H2 := Lib.hid h2
  clear h2
  have H3 := Lib.hid h3
  clear h3
  have HA := Lib.hid ha
  clear ha
  have HD := Lib.hid hd
  clear hd
  have HI := Lib.hid hi
  clear hi
  have HK := Lib.hid hk
  have HKD := Lib.hid (decide_eq_false hk)
  clear hk
  unfold maxLen at hma hmr
  obtain ⟨x0, x1, x2, x3, x4, x5, x6, x7, x8, x9, x10⟩ := HX.out.elev
  obtain ⟨n0, n1, n2, n3, n4, n5, n6, n7, n8, n9, n10, n11⟩ := HR.out.cells
  clear n0 n1 n2 n3 n4 n5 n6 n7 n8 n9 hb1 hr hx
  go_enter Try.func24, Try.ntmps24
  go_upto_region 1 with fail
  rw [← hW1]
  clear hW1
  go_upto_region 4 with (first | (go_at_call 42; (with_reducible refine (opd_b q.op 0 l _ HN.out).mono ?_); rintro e w4 ⟨rfl, rfl⟩) | (go_at_call 35; (with_reducible refine (hasPlace_b c v B g S N gs gl W L q a m d r true _ HR.out H2.out).mono ?_); rintro e w3 ⟨rfl, hb3⟩; have HX := Lib.hid (HX.out.later hb3); have HW := Lib.hid (HW.out.keep (hb3.mono HR.out.hB)); have HB := Lib.hid (HB.out.trans (hb3.mono HR.out.hB)); have HR := Lib.hid (HR.out.later hb3); clear hb3 x0 x1 x2 x3 x4 x5 x6 x7 x8 x9 x10 n10 n11 hq0; obtain ⟨x0, x1, x2, x3, x4, x5, x6, x7, x8, x9, x10⟩ := HX.out.elev; obtain ⟨n0, n1, n2, n3, n4, n5, n6, n7, n8, n9, n10, n11⟩ := HR.out.cells; clear n0 n1 n2 n3 n4 n5 n6 n7 n8 n9; have hq0 := HX.out.lt) | (go_at_call 41; (with_reducible refine (isBetween_b true B g c v S N gs gl W L q a m d r _ HR.out HW.out H3.out).mono ?_); rintro e w4 ⟨rfl, hb4⟩; have HX := Lib.hid (HX.out.later hb4); have HW := Lib.hid (HW.out.keep (hb4.mono HR.out.hB)); have HB := Lib.hid (HB.out.trans (hb4.mono HR.out.hB)); have HR := Lib.hid (HR.out.later hb4); clear hb4 x0 x1 x2 x3 x4 x5 x6 x7 x8 x9 x10 n10 n11 hq0; obtain ⟨x0, x1, x2, x3, x4, x5, x6, x7, x8, x9, x10⟩ := HX.out.elev; obtain ⟨n0, n1, n2, n3, n4, n5, n6, n7, n8, n9, n10, n11⟩ := HR.out.cells; clear n0 n1 n2 n3 n4 n5 n6 n7 n8 n9; have hq0 := HX.out.lt))
  have HMS := Lib.hid HR.out.ms
  have HML := Lib.hid HR.out.ml
  have HSS := Lib.hid HR.out.sS
  have HSN := Lib.hid HR.out.sN
  have HT1 := Lib.hid (HW.out.args.takeS (s := 0) (Nat.zero_le _))
  have HT2 := Lib.hid (show IRow w4 B a.1 a.2.1 a.2.2 (q.args.drop 0) from HW.out.args)
  go_quiet ((first | (go_at_call 19; with_reducible exact Calls.quiet_of_same (allW_q a.1 0 a.2.2 B (q.args.take 0) gs S W true _ _ HT1.out HMS.out HSS.out HA.out)) | (go_at_call 19; with_reducible exact Calls.quiet_of_same (allW_q a.1 a.2.1 a.2.2 B (q.args.drop 0) gl N L true _ _ HT2.out HML.out HSN.out HD.out))))
  go_upto_region 6 with fail
  generalize hw5 : World.drewN _ _ = w5
  have HB5 := Lib.hid (show Below B w w5 from by rw [← hw5]; exact below_drewN HB.out)
  have HR5 := Lib.hid (show Rd w5 B g c v S N gs gl W L from by rw [← hw5]; exact HR.out.drewN)
  have HX5 := Lib.hid (show Blk w5 w.heap.size 70 (ics q a m d r) from by rw [← hw5]; exact HX.out)
  clear hw5 x0 x1 x2 x3 x4 x5 x6 x7 x8 x9 x10 n10 n11
  have n11 := HR5.out.blk.cell 11 rfl
  obtain ⟨x0, x1, x2, x3, x4, x5, x6, x7, x8, x9, x10⟩ := HX5.out.elev
  go_quiet ((go_at_call 40; exact Calls.quiet_of_same (write_no gl N q.dst _ HI.out)))
  go_wp2
  go_ret
  exact ⟨false, rfl, by rw [HV.out, H1.out, H2.out, H3.out, HA.out, HD.out, HKD.out, HI.out]; simp, (fun h => by cases h), below_drewN HB5.out⟩
set_option maxHeartbeats 1000000 in
theorem cr_zT (B g : Nat) (c : CodeM) (v : CodeV) (S N gs gl : Nat) (W L : List Int) (q : InsP) (a m d r : Option Addr × Nat × Nat) (w : World) (hr : Rd w B g c v S N gs gl W L) (hx : InsW w B q a m d r) (l : Nat) (hn : nLn q.op = some (0, l)) (h1 : a.2.1 = 0 + l) (h2 : plK q.op q.k c.ins c.outs v.mems.2.1 v.conts.2.1 c.crosses = true) (h3 : (gdB S W q.guard && decide (r.2.1 = 0)) = true) (ha : (q.args.take 0).all (wrB S W) = true) (hd : (q.args.drop 0).all (wrB N L) = true) (hk : ¬ q.op = opAsk) (hi : inB q.dst N = true) : Calls Try.prog 24 #[.pointer (some ⟨g, 0, none⟩), .agg #[.string q.op, .int .i64 q.dst, .slice a.1 a.2.1 a.2.2, .int .i64 q.k, .int .i64 q.lit.kind, .bool q.lit.neg, .slice m.1 m.2.1 m.2.2, .slice d.1 d.2.1 d.2.2, .string q.lit.name, .int .i64 q.guard, .slice r.1 r.2.1 r.2.2]] w (CrPost B g c v S N gs gl W L q w) := by
  obtain ⟨W1, hW1⟩ : ∃ W1, W1 = w.alloc (.cells #[.string q.op, .int .i64 q.dst, .slice a.1 a.2.1 a.2.2, .int .i64 q.k, .int .i64 q.lit.kind, .bool q.lit.neg, .slice m.1 m.2.1 m.2.2, .slice d.1 d.2.1 d.2.2, .string q.lit.name, .int .i64 q.guard, .slice r.1 r.2.1 r.2.2] 70) := ⟨_, rfl⟩
  have hb1 : Below w.heap.size w W1 := by rw [hW1]; exact (Below.refl _ _).alloc (Nat.le_refl _) _
  have HX := Lib.hid (show Blk W1 w.heap.size 70 (ics q a m d r) from by rw [hW1]; exact Blk.new _ _ _)
  have HR := Lib.hid (hr.later hb1)
  have HB := Lib.hid (hb1.mono hr.hB)
  have HW := Lib.hid (hx.keep HB.out)
  have HV := Lib.hid (cr_eq hn hr hx)
  have HGW : Hid (gs < w.heap.size) := Lib.hid hr.ms.lt
  obtain ⟨hs1, hl2⟩ := nLn_le hn
  have HN := Lib.hid hn
  clear hn
  have hma := hx.args.len_le
  have hmr := hx.resets.len_le
  have HMA := Lib.hid hma
  have hq0 : w.heap.size < W1.heap.size := HX.out.lt
  have H1 := Lib.hid (decide_eq_true h1)
  have g1 : ((a.2.1 : Int) == (l : Int)) = true := by rw [beq_iff_eq]; omega
  have g2 : ((a.2.1 : Int) != (l : Int)) = false := by show (!(_ == _)) = _; rw [g1]; rfl
  have H1N := Lib.hid h1
  clear h1
  have g3 := str_no (l := [97, 115, 107]) hk
  have HGL : Hid (gl < w.heap.size) := Lib.hid hr.ml.lt
  have H2 := Lib.hid h2
  clear h2
  have H3 := Lib.hid h3
  clear h3
  have HA := Lib.hid ha
  clear ha
  have HD := Lib.hid hd
  clear hd
  have HK := Lib.hid hk
  have HKD := Lib.hid (decide_eq_false hk)
  clear hk
  obtain ⟨j, hj, hjS⟩ := inB_yes hi
  have HI := Lib.hid hi
  have HJ := Lib.hid hj
  clear hi hj
  unfold maxLen at hma hmr
  obtain ⟨x0, x1, x2, x3, x4, x5, x6, x7, x8, x9, x10⟩ := HX.out.elev
  obtain ⟨n0, n1, n2, n3, n4, n5, n6, n7, n8, n9, n10, n11⟩ := HR.out.cells
  clear n0 n1 n2 n3 n4 n5 n6 n7 n8 n9 hb1 hr hx
  go_enter Try.func24, Try.ntmps24
  go_upto_region 1 with fail
  rw [← hW1]
  clear hW1
  go_upto_region 4 with (first | (go_at_call 42; (with_reducible refine (opd_b q.op 0 l _ HN.out).mono ?_); rintro e w4 ⟨rfl, rfl⟩) | (go_at_call 35; (with_reducible refine (hasPlace_b c v B g S N gs gl W L q a m d r true _ HR.out H2.out).mono ?_); rintro e w3 ⟨rfl, hb3⟩; have HX := Lib.hid (HX.out.later hb3); have HW := Lib.hid (HW.out.keep (hb3.mono HR.out.hB)); have HB := Lib.hid (HB.out.trans (hb3.mono HR.out.hB)); have HR := Lib.hid (HR.out.later hb3); clear hb3 x0 x1 x2 x3 x4 x5 x6 x7 x8 x9 x10 n10 n11 hq0; obtain ⟨x0, x1, x2, x3, x4, x5, x6, x7, x8, x9, x10⟩ := HX.out.elev; obtain ⟨n0, n1, n2, n3, n4, n5, n6, n7, n8, n9, n10, n11⟩ := HR.out.cells; clear n0 n1 n2 n3 n4 n5 n6 n7 n8 n9; have hq0 := HX.out.lt) | (go_at_call 41; (with_reducible refine (isBetween_b true B g c v S N gs gl W L q a m d r _ HR.out HW.out H3.out).mono ?_); rintro e w4 ⟨rfl, hb4⟩; have HX := Lib.hid (HX.out.later hb4); have HW := Lib.hid (HW.out.keep (hb4.mono HR.out.hB)); have HB := Lib.hid (HB.out.trans (hb4.mono HR.out.hB)); have HR := Lib.hid (HR.out.later hb4); clear hb4 x0 x1 x2 x3 x4 x5 x6 x7 x8 x9 x10 n10 n11 hq0; obtain ⟨x0, x1, x2, x3, x4, x5, x6, x7, x8, x9, x10⟩ := HX.out.elev; obtain ⟨n0, n1, n2, n3, n4, n5, n6, n7, n8, n9, n10, n11⟩ := HR.out.cells; clear n0 n1 n2 n3 n4 n5 n6 n7 n8 n9; have hq0 := HX.out.lt))
  have HMS := Lib.hid HR.out.ms
  have HML := Lib.hid HR.out.ml
  have HSS := Lib.hid HR.out.sS
  have HSN := Lib.hid HR.out.sN
  have HT1 := Lib.hid (HW.out.args.takeS (s := 0) (Nat.zero_le _))
  have HT2 := Lib.hid (show IRow w4 B a.1 a.2.1 a.2.2 (q.args.drop 0) from HW.out.args)
  go_quiet ((first | (go_at_call 19; with_reducible exact Calls.quiet_of_same (allW_q a.1 0 a.2.2 B (q.args.take 0) gs S W true _ _ HT1.out HMS.out HSS.out HA.out)) | (go_at_call 19; with_reducible exact Calls.quiet_of_same (allW_q a.1 a.2.1 a.2.2 B (q.args.drop 0) gl N L true _ _ HT2.out HML.out HSN.out HD.out))))
  go_upto_region 6 with fail
  generalize hw5 : World.drewN _ _ = w5
  have HB5 := Lib.hid (show Below B w w5 from by rw [← hw5]; exact below_drewN HB.out)
  have HR5 := Lib.hid (show Rd w5 B g c v S N gs gl W L from by rw [← hw5]; exact HR.out.drewN)
  have HX5 := Lib.hid (show Blk w5 w.heap.size 70 (ics q a m d r) from by rw [← hw5]; exact HX.out)
  clear hw5 x0 x1 x2 x3 x4 x5 x6 x7 x8 x9 x10 n10 n11
  have HR6 := Lib.hid HR5.out.drew
  have HX6 := Lib.hid (show Blk w5.drew w.heap.size 70 (ics q a m d r) from HX5.out)
  have HP := Lib.hid (show w5.drew.cell? ⟨g, 11, none⟩ = some (.slice (some ⟨gl, 0, none⟩) N N) ∧ w5.drew.cell? ⟨w.heap.size, 0, none⟩ = some (.string q.op) ∧ w5.drew.cell? ⟨w.heap.size, 1, none⟩ = some (.int .i64 (j : Int)) from ⟨HR6.out.blk.cell 11 rfl, HX6.out.cell 0 rfl, by rw [← HJ.out]; exact HX6.out.cell 1 rfl⟩)
  go_region_held3 (fun w' => w'.cell? ⟨g, 11, none⟩ = some (.slice (some ⟨gl, 0, none⟩) N N) ∧ w'.cell? ⟨w.heap.size, 0, none⟩ = some (.string q.op) ∧ w'.cell? ⟨w.heap.size, 1, none⟩ = some (.int .i64 (j : Int))) (first | with_reducible exact HP.out | exact HPa.out) (first
    | (go_at_call 40; (with_reducible refine (write_yes gl N L j _ HR6.out.ml HSN.out (by rw [← HJ.out]; exact HI.out)).mono ?_); rintro e w7 ⟨rfl, rfl⟩; have HR7 := Lib.hid (HR6.out.putL j); have HPa := Lib.hid (show (w5.drew.setCell ⟨gl, j, none⟩ (.bool true)).cell? ⟨g, 11, none⟩ = some (.slice (some ⟨gl, 0, none⟩) N N) ∧ (w5.drew.setCell ⟨gl, j, none⟩ (.bool true)).cell? ⟨w.heap.size, 0, none⟩ = some (.string q.op) ∧ (w5.drew.setCell ⟨gl, j, none⟩ (.bool true)).cell? ⟨w.heap.size, 1, none⟩ = some (.int .i64 (j : Int)) from ⟨HR7.out.blk.cell 11 rfl, (World.cell?_of_block (Below.heap_setCell _ _ _ w.heap.size (Nat.ne_of_gt HGL.out))).trans HP.out.2.1, (World.cell?_of_block (Below.heap_setCell _ _ _ w.heap.size (Nat.ne_of_gt HGL.out))).trans HP.out.2.2⟩)))
  go_wp2
  go_ret
  exact ⟨true, rfl, by rw [HV.out, H1.out, H2.out, H3.out, HA.out, HD.out, HKD.out, HI.out]; simp, fun _ => by unfold lNext; rw [if_neg HK.out, HJ.out]; exact HR6.out.putL j, HB5.out.drew.setCell HR5.out.hl _⟩
set_option maxHeartbeats 1000000 in
theorem cr_eA (B g : Nat) (c : CodeM) (v : CodeV) (S N gs gl : Nat) (W L : List Int) (q : InsP) (a m d r : Option Addr × Nat × Nat) (w : World) (hr : Rd w B g c v S N gs gl W L) (hx : InsW w B q a m d r) (l : Nat) (hn : nLn q.op = some (1, l)) (hc : a.2.2 = 1) (h1 : a.2.1 = 1 + l) (h2 : plK q.op q.k c.ins c.outs v.mems.2.1 v.conts.2.1 c.crosses = true) (h3 : (gdB S W q.guard && decide (r.2.1 = 0)) = true) (ha : (q.args.take 1).all (wrB S W) = false) : Calls Try.prog 24 #[.pointer (some ⟨g, 0, none⟩), .agg #[.string q.op, .int .i64 q.dst, .slice a.1 a.2.1 a.2.2, .int .i64 q.k, .int .i64 q.lit.kind, .bool q.lit.neg, .slice m.1 m.2.1 m.2.2, .slice d.1 d.2.1 d.2.2, .string q.lit.name, .int .i64 q.guard, .slice r.1 r.2.1 r.2.2]] w (CrPost B g c v S N gs gl W L q w) := by
  obtain ⟨W1, hW1⟩ : ∃ W1, W1 = w.alloc (.cells #[.string q.op, .int .i64 q.dst, .slice a.1 a.2.1 a.2.2, .int .i64 q.k, .int .i64 q.lit.kind, .bool q.lit.neg, .slice m.1 m.2.1 m.2.2, .slice d.1 d.2.1 d.2.2, .string q.lit.name, .int .i64 q.guard, .slice r.1 r.2.1 r.2.2] 70) := ⟨_, rfl⟩
  have hb1 : Below w.heap.size w W1 := by rw [hW1]; exact (Below.refl _ _).alloc (Nat.le_refl _) _
  have HX := Lib.hid (show Blk W1 w.heap.size 70 (ics q a m d r) from by rw [hW1]; exact Blk.new _ _ _)
  have HR := Lib.hid (hr.later hb1)
  have HB := Lib.hid (hb1.mono hr.hB)
  have HW := Lib.hid (hx.keep HB.out)
  have HV := Lib.hid (cr_eq hn hr hx)
  have HGW : Hid (gs < w.heap.size) := Lib.hid hr.ms.lt
  obtain ⟨hs1, hl2⟩ := nLn_le hn
  have HN := Lib.hid hn
  clear hn
  have hma := hx.args.len_le
  have hmr := hx.resets.len_le
  have HMA := Lib.hid hma
  have hq0 : w.heap.size < W1.heap.size := HX.out.lt
  have H1 := Lib.hid (decide_eq_true h1)
  have g1 : ((a.2.1 : Int) == 1 + (l : Int)) = true := by rw [beq_iff_eq]; omega
  have g2 : ((a.2.1 : Int) != 1 + (l : Int)) = false := by show (!(_ == _)) = _; rw [g1]; rfl
  have H1N := Lib.hid h1
  clear h1
  have HC := Lib.hid hc
  clear hc
  have H2 := Lib.hid h2
  clear h2
  have H3 := Lib.hid h3
  clear h3
  have HA := Lib.hid ha
  clear ha
  unfold maxLen at hma hmr
  obtain ⟨x0, x1, x2, x3, x4, x5, x6, x7, x8, x9, x10⟩ := HX.out.elev
  obtain ⟨n0, n1, n2, n3, n4, n5, n6, n7, n8, n9, n10, n11⟩ := HR.out.cells
  clear n0 n1 n2 n3 n4 n5 n6 n7 n8 n9 hb1 hr hx
  go_enter Try.func24, Try.ntmps24
  go_upto_region 1 with fail
  rw [← hW1]
  clear hW1
  go_upto_region 4 with (first | (go_at_call 42; (with_reducible refine (opd_b q.op 1 l _ HN.out).mono ?_); rintro e w4 ⟨rfl, rfl⟩) | (go_at_call 35; (with_reducible refine (hasPlace_b c v B g S N gs gl W L q a m d r true _ HR.out H2.out).mono ?_); rintro e w3 ⟨rfl, hb3⟩; have HX := Lib.hid (HX.out.later hb3); have HW := Lib.hid (HW.out.keep (hb3.mono HR.out.hB)); have HB := Lib.hid (HB.out.trans (hb3.mono HR.out.hB)); have HR := Lib.hid (HR.out.later hb3); clear hb3 x0 x1 x2 x3 x4 x5 x6 x7 x8 x9 x10 n10 n11 hq0; obtain ⟨x0, x1, x2, x3, x4, x5, x6, x7, x8, x9, x10⟩ := HX.out.elev; obtain ⟨n0, n1, n2, n3, n4, n5, n6, n7, n8, n9, n10, n11⟩ := HR.out.cells; clear n0 n1 n2 n3 n4 n5 n6 n7 n8 n9; have hq0 := HX.out.lt) | (go_at_call 41; (with_reducible refine (isBetween_b true B g c v S N gs gl W L q a m d r _ HR.out HW.out H3.out).mono ?_); rintro e w4 ⟨rfl, hb4⟩; have HX := Lib.hid (HX.out.later hb4); have HW := Lib.hid (HW.out.keep (hb4.mono HR.out.hB)); have HB := Lib.hid (HB.out.trans (hb4.mono HR.out.hB)); have HR := Lib.hid (HR.out.later hb4); clear hb4 x0 x1 x2 x3 x4 x5 x6 x7 x8 x9 x10 n10 n11 hq0; obtain ⟨x0, x1, x2, x3, x4, x5, x6, x7, x8, x9, x10⟩ := HX.out.elev; obtain ⟨n0, n1, n2, n3, n4, n5, n6, n7, n8, n9, n10, n11⟩ := HR.out.cells; clear n0 n1 n2 n3 n4 n5 n6 n7 n8 n9; have hq0 := HX.out.lt))
  have HMS := Lib.hid HR.out.ms
  have HML := Lib.hid HR.out.ml
  have HSS := Lib.hid HR.out.sS
  have HSN := Lib.hid HR.out.sN
  have hn1 : 1 ≤ a.2.1 := by have := H1N.out; omega
  obtain ⟨b, off, hab, hbl, _⟩ := HW.out.args.at_ (i := 0) hn1
  have HAB := Lib.hid HW.out.args
  rw [hab] at HAB x2
  have HT1 := Lib.hid (show IRow w4 B (some ⟨b, off, none⟩) 1 1 (q.args.take 1) from by have h := HAB.out.takeS (s := 1) hn1; rw [HC.out] at h; exact h)
  have hac : a.2.1 ≤ a.2.2 := HAB.out.2.1
  have hn2 : a.2.1 = 1 := by have := HC.out; omega
  have HT2 := Lib.hid (show IRow w4 B (some ⟨b, off, none⟩) 0 0 (q.args.drop 1) from by have h := HAB.out; rw [hn2, HC.out] at h; exact h.none0)
  rw [hn2, HC.out] at x2
  clear hab hn1 hac
  go_quiet ((first | (go_at_call 19; with_reducible exact Calls.quiet_of_same (allW_q (some ⟨b, off, none⟩) 1 1 B (q.args.take 1) gs S W false _ _ HT1.out HMS.out HSS.out HA.out)) | (go_at_call 19; with_reducible exact Calls.quiet_of_same (allW_q (some ⟨b, off, none⟩) 0 0 B (q.args.drop 1) gl N L false _ _ HT2.out HML.out HSN.out rfl))))
  go_wp2
  go_ret
  exact ⟨false, rfl, by rw [HV.out, H1.out, H2.out, H3.out, HA.out]; simp, (fun h => by cases h), by first | exact HB.out | exact below_drewN HB.out⟩
set_option maxHeartbeats 1000000 in
theorem cr_eD (B g : Nat) (c : CodeM) (v : CodeV) (S N gs gl : Nat) (W L : List Int) (q : InsP) (a m d r : Option Addr × Nat × Nat) (w : World) (hr : Rd w B g c v S N gs gl W L) (hx : InsW w B q a m d r) (l : Nat) (hn : nLn q.op = some (1, l)) (hc : a.2.2 = 1) (h1 : a.2.1 = 1 + l) (h2 : plK q.op q.k c.ins c.outs v.mems.2.1 v.conts.2.1 c.crosses = true) (h3 : (gdB S W q.guard && decide (r.2.1 = 0)) = true) (ha : (q.args.take 1).all (wrB S W) = true) (hd : (q.args.drop 1).all (wrB N L) = false) : Calls Try.prog 24 #[.pointer (some ⟨g, 0, none⟩), .agg #[.string q.op, .int .i64 q.dst, .slice a.1 a.2.1 a.2.2, .int .i64 q.k, .int .i64 q.lit.kind, .bool q.lit.neg, .slice m.1 m.2.1 m.2.2, .slice d.1 d.2.1 d.2.2, .string q.lit.name, .int .i64 q.guard, .slice r.1 r.2.1 r.2.2]] w (CrPost B g c v S N gs gl W L q w) := by
  obtain ⟨W1, hW1⟩ : ∃ W1, W1 = w.alloc (.cells #[.string q.op, .int .i64 q.dst, .slice a.1 a.2.1 a.2.2, .int .i64 q.k, .int .i64 q.lit.kind, .bool q.lit.neg, .slice m.1 m.2.1 m.2.2, .slice d.1 d.2.1 d.2.2, .string q.lit.name, .int .i64 q.guard, .slice r.1 r.2.1 r.2.2] 70) := ⟨_, rfl⟩
  have hb1 : Below w.heap.size w W1 := by rw [hW1]; exact (Below.refl _ _).alloc (Nat.le_refl _) _
  have HX := Lib.hid (show Blk W1 w.heap.size 70 (ics q a m d r) from by rw [hW1]; exact Blk.new _ _ _)
  have HR := Lib.hid (hr.later hb1)
  have HB := Lib.hid (hb1.mono hr.hB)
  have HW := Lib.hid (hx.keep HB.out)
  have HV := Lib.hid (cr_eq hn hr hx)
  have HGW : Hid (gs < w.heap.size) := Lib.hid hr.ms.lt
  obtain ⟨hs1, hl2⟩ := nLn_le hn
  have HN := Lib.hid hn
  clear hn
  have hma := hx.args.len_le
  have hmr := hx.resets.len_le
  have HMA := Lib.hid hma
  have hq0 : w.heap.size < W1.heap.size := HX.out.lt
  have H1 := Lib.hid (decide_eq_true h1)
  have g1 : ((a.2.1 : Int) == 1 + (l : Int)) = true := by rw [beq_iff_eq]; omega
  have g2 : ((a.2.1 : Int) != 1 + (l : Int)) = false := by show (!(_ == _)) = _; rw [g1]; rfl
  have H1N := Lib.hid h1
  clear h1
  have HC := Lib.hid hc
  clear hc
  have H2 := Lib.hid h2
  clear h2
  have H3 := Lib.hid h3
  clear h3
  have HA := Lib.hid ha
  clear ha
  have HD := Lib.hid hd
  clear hd
  unfold maxLen at hma hmr
  obtain ⟨x0, x1, x2, x3, x4, x5, x6, x7, x8, x9, x10⟩ := HX.out.elev
  obtain ⟨n0, n1, n2, n3, n4, n5, n6, n7, n8, n9, n10, n11⟩ := HR.out.cells
  clear n0 n1 n2 n3 n4 n5 n6 n7 n8 n9 hb1 hr hx
  go_enter Try.func24, Try.ntmps24
  go_upto_region 1 with fail
  rw [← hW1]
  clear hW1
  go_upto_region 4 with (first | (go_at_call 42; (with_reducible refine (opd_b q.op 1 l _ HN.out).mono ?_); rintro e w4 ⟨rfl, rfl⟩) | (go_at_call 35; (with_reducible refine (hasPlace_b c v B g S N gs gl W L q a m d r true _ HR.out H2.out).mono ?_); rintro e w3 ⟨rfl, hb3⟩; have HX := Lib.hid (HX.out.later hb3); have HW := Lib.hid (HW.out.keep (hb3.mono HR.out.hB)); have HB := Lib.hid (HB.out.trans (hb3.mono HR.out.hB)); have HR := Lib.hid (HR.out.later hb3); clear hb3 x0 x1 x2 x3 x4 x5 x6 x7 x8 x9 x10 n10 n11 hq0; obtain ⟨x0, x1, x2, x3, x4, x5, x6, x7, x8, x9, x10⟩ := HX.out.elev; obtain ⟨n0, n1, n2, n3, n4, n5, n6, n7, n8, n9, n10, n11⟩ := HR.out.cells; clear n0 n1 n2 n3 n4 n5 n6 n7 n8 n9; have hq0 := HX.out.lt) | (go_at_call 41; (with_reducible refine (isBetween_b true B g c v S N gs gl W L q a m d r _ HR.out HW.out H3.out).mono ?_); rintro e w4 ⟨rfl, hb4⟩; have HX := Lib.hid (HX.out.later hb4); have HW := Lib.hid (HW.out.keep (hb4.mono HR.out.hB)); have HB := Lib.hid (HB.out.trans (hb4.mono HR.out.hB)); have HR := Lib.hid (HR.out.later hb4); clear hb4 x0 x1 x2 x3 x4 x5 x6 x7 x8 x9 x10 n10 n11 hq0; obtain ⟨x0, x1, x2, x3, x4, x5, x6, x7, x8, x9, x10⟩ := HX.out.elev; obtain ⟨n0, n1, n2, n3, n4, n5, n6, n7, n8, n9, n10, n11⟩ := HR.out.cells; clear n0 n1 n2 n3 n4 n5 n6 n7 n8 n9; have hq0 := HX.out.lt))
  have HMS := Lib.hid HR.out.ms
  have HML := Lib.hid HR.out.ml
  have HSS := Lib.hid HR.out.sS
  have HSN := Lib.hid HR.out.sN
  have hn1 : 1 ≤ a.2.1 := by have := H1N.out; omega
  obtain ⟨b, off, hab, hbl, _⟩ := HW.out.args.at_ (i := 0) hn1
  have HAB := Lib.hid HW.out.args
  rw [hab] at HAB x2
  have HT1 := Lib.hid (show IRow w4 B (some ⟨b, off, none⟩) 1 1 (q.args.take 1) from by have h := HAB.out.takeS (s := 1) hn1; rw [HC.out] at h; exact h)
  have hac : a.2.1 ≤ a.2.2 := HAB.out.2.1
  have hn2 : a.2.1 = 1 := by have := HC.out; omega
  have HT2 := Lib.hid (show IRow w4 B (some ⟨b, off, none⟩) 0 0 (q.args.drop 1) from by have h := HAB.out; rw [hn2, HC.out] at h; exact h.none0)
  rw [hn2, HC.out] at x2
  clear hab hn1 hac
  go_quiet ((first | (go_at_call 19; with_reducible exact Calls.quiet_of_same (allW_q (some ⟨b, off, none⟩) 1 1 B (q.args.take 1) gs S W true _ _ HT1.out HMS.out HSS.out HA.out)) | (go_at_call 19; with_reducible exact Calls.quiet_of_same (allW_q (some ⟨b, off, none⟩) 0 0 B (q.args.drop 1) gl N L false _ _ HT2.out HML.out HSN.out HD.out))))
  go_wp2
  go_ret
  exact ⟨false, rfl, by rw [HV.out, H1.out, H2.out, H3.out, HA.out, HD.out]; simp, (fun h => by cases h), by first | exact HB.out | exact below_drewN HB.out⟩
set_option maxHeartbeats 1000000 in
theorem cr_eK (B g : Nat) (c : CodeM) (v : CodeV) (S N gs gl : Nat) (W L : List Int) (q : InsP) (a m d r : Option Addr × Nat × Nat) (w : World) (hr : Rd w B g c v S N gs gl W L) (hx : InsW w B q a m d r) (l : Nat) (hn : nLn q.op = some (1, l)) (hc : a.2.2 = 1) (h1 : a.2.1 = 1 + l) (h2 : plK q.op q.k c.ins c.outs v.mems.2.1 v.conts.2.1 c.crosses = true) (h3 : (gdB S W q.guard && decide (r.2.1 = 0)) = true) (ha : (q.args.take 1).all (wrB S W) = true) (hd : (q.args.drop 1).all (wrB N L) = true) (hk : q.op = opAsk) : Calls Try.prog 24 #[.pointer (some ⟨g, 0, none⟩), .agg #[.string q.op, .int .i64 q.dst, .slice a.1 a.2.1 a.2.2, .int .i64 q.k, .int .i64 q.lit.kind, .bool q.lit.neg, .slice m.1 m.2.1 m.2.2, .slice d.1 d.2.1 d.2.2, .string q.lit.name, .int .i64 q.guard, .slice r.1 r.2.1 r.2.2]] w (CrPost B g c v S N gs gl W L q w) := by
  obtain ⟨W1, hW1⟩ : ∃ W1, W1 = w.alloc (.cells #[.string q.op, .int .i64 q.dst, .slice a.1 a.2.1 a.2.2, .int .i64 q.k, .int .i64 q.lit.kind, .bool q.lit.neg, .slice m.1 m.2.1 m.2.2, .slice d.1 d.2.1 d.2.2, .string q.lit.name, .int .i64 q.guard, .slice r.1 r.2.1 r.2.2] 70) := ⟨_, rfl⟩
  have hb1 : Below w.heap.size w W1 := by rw [hW1]; exact (Below.refl _ _).alloc (Nat.le_refl _) _
  have HX := Lib.hid (show Blk W1 w.heap.size 70 (ics q a m d r) from by rw [hW1]; exact Blk.new _ _ _)
  have HR := Lib.hid (hr.later hb1)
  have HB := Lib.hid (hb1.mono hr.hB)
  have HW := Lib.hid (hx.keep HB.out)
  have HV := Lib.hid (cr_eq hn hr hx)
  have HGW : Hid (gs < w.heap.size) := Lib.hid hr.ms.lt
  obtain ⟨hs1, hl2⟩ := nLn_le hn
  have HN := Lib.hid hn
  clear hn
  have hma := hx.args.len_le
  have hmr := hx.resets.len_le
  have HMA := Lib.hid hma
  have hq0 : w.heap.size < W1.heap.size := HX.out.lt
  have H1 := Lib.hid (decide_eq_true h1)
  have g1 : ((a.2.1 : Int) == 1 + (l : Int)) = true := by rw [beq_iff_eq]; omega
  have g2 : ((a.2.1 : Int) != 1 + (l : Int)) = false := by show (!(_ == _)) = _; rw [g1]; rfl
  have H1N := Lib.hid h1
  clear h1
  have HC := Lib.hid hc
  clear hc
  have g3 : (q.op.toList == [97, 115, 107]) = true := by rw [hk, Lib.toList_data]; rfl
  have H2 := Lib.hid h2
  clear h2
  have H3 := Lib.hid h3
  clear h3
  have HA := Lib.hid ha
  clear ha
  have HD := Lib.hid hd
  clear hd
  have HK := Lib.hid hk
  have HKD := Lib.hid (decide_eq_true hk)
  clear hk
  unfold maxLen at hma hmr
  obtain ⟨x0, x1, x2, x3, x4, x5, x6, x7, x8, x9, x10⟩ := HX.out.elev
  obtain ⟨n0, n1, n2, n3, n4, n5, n6, n7, n8, n9, n10, n11⟩ := HR.out.cells
  clear n0 n1 n2 n3 n4 n5 n6 n7 n8 n9 hb1 hr hx
  go_enter Try.func24, Try.ntmps24
  go_upto_region 1 with fail
  rw [← hW1]
  clear hW1
  go_upto_region 4 with (first | (go_at_call 42; (with_reducible refine (opd_b q.op 1 l _ HN.out).mono ?_); rintro e w4 ⟨rfl, rfl⟩) | (go_at_call 35; (with_reducible refine (hasPlace_b c v B g S N gs gl W L q a m d r true _ HR.out H2.out).mono ?_); rintro e w3 ⟨rfl, hb3⟩; have HX := Lib.hid (HX.out.later hb3); have HW := Lib.hid (HW.out.keep (hb3.mono HR.out.hB)); have HB := Lib.hid (HB.out.trans (hb3.mono HR.out.hB)); have HR := Lib.hid (HR.out.later hb3); clear hb3 x0 x1 x2 x3 x4 x5 x6 x7 x8 x9 x10 n10 n11 hq0; obtain ⟨x0, x1, x2, x3, x4, x5, x6, x7, x8, x9, x10⟩ := HX.out.elev; obtain ⟨n0, n1, n2, n3, n4, n5, n6, n7, n8, n9, n10, n11⟩ := HR.out.cells; clear n0 n1 n2 n3 n4 n5 n6 n7 n8 n9; have hq0 := HX.out.lt) | (go_at_call 41; (with_reducible refine (isBetween_b true B g c v S N gs gl W L q a m d r _ HR.out HW.out H3.out).mono ?_); rintro e w4 ⟨rfl, hb4⟩; have HX := Lib.hid (HX.out.later hb4); have HW := Lib.hid (HW.out.keep (hb4.mono HR.out.hB)); have HB := Lib.hid (HB.out.trans (hb4.mono HR.out.hB)); have HR := Lib.hid (HR.out.later hb4); clear hb4 x0 x1 x2 x3 x4 x5 x6 x7 x8 x9 x10 n10 n11 hq0; obtain ⟨x0, x1, x2, x3, x4, x5, x6, x7, x8, x9, x10⟩ := HX.out.elev; obtain ⟨n0, n1, n2, n3, n4, n5, n6, n7, n8, n9, n10, n11⟩ := HR.out.cells; clear n0 n1 n2 n3 n4 n5 n6 n7 n8 n9; have hq0 := HX.out.lt))
  have HMS := Lib.hid HR.out.ms
  have HML := Lib.hid HR.out.ml
  have HSS := Lib.hid HR.out.sS
  have HSN := Lib.hid HR.out.sN
  have hn1 : 1 ≤ a.2.1 := by have := H1N.out; omega
  obtain ⟨b, off, hab, hbl, _⟩ := HW.out.args.at_ (i := 0) hn1
  have HAB := Lib.hid HW.out.args
  rw [hab] at HAB x2
  have HT1 := Lib.hid (show IRow w4 B (some ⟨b, off, none⟩) 1 1 (q.args.take 1) from by have h := HAB.out.takeS (s := 1) hn1; rw [HC.out] at h; exact h)
  have hac : a.2.1 ≤ a.2.2 := HAB.out.2.1
  have hn2 : a.2.1 = 1 := by have := HC.out; omega
  have HT2 := Lib.hid (show IRow w4 B (some ⟨b, off, none⟩) 0 0 (q.args.drop 1) from by have h := HAB.out; rw [hn2, HC.out] at h; exact h.none0)
  rw [hn2, HC.out] at x2
  clear hab hn1 hac
  go_quiet ((first | (go_at_call 19; with_reducible exact Calls.quiet_of_same (allW_q (some ⟨b, off, none⟩) 1 1 B (q.args.take 1) gs S W true _ _ HT1.out HMS.out HSS.out HA.out)) | (go_at_call 19; with_reducible exact Calls.quiet_of_same (allW_q (some ⟨b, off, none⟩) 0 0 B (q.args.drop 1) gl N L true _ _ HT2.out HML.out HSN.out HD.out))))
  go_upto_region 6 with fail
  generalize hw5 : World.drewN _ _ = w5
  have HB5 := Lib.hid (show Below B w w5 from by rw [← hw5]; exact below_drewN HB.out)
  have HR5 := Lib.hid (show Rd w5 B g c v S N gs gl W L from by rw [← hw5]; exact HR.out.drewN)
  have HX5 := Lib.hid (show Blk w5 w.heap.size 70 (ics q a m d r) from by rw [← hw5]; exact HX.out)
  clear hw5 x0 x1 x2 x3 x4 x5 x6 x7 x8 x9 x10 n10 n11
  have n11 := HR5.out.blk.cell 11 rfl
  obtain ⟨x0, x1, x2, x3, x4, x5, x6, x7, x8, x9, x10⟩ := HX5.out.elev
  go_quiet (fail)
  go_wp2
  go_ret
  exact ⟨true, rfl, by rw [HV.out, H1.out, H2.out, H3.out, HA.out, HD.out, HKD.out]; simp, fun _ => by unfold lNext; rw [if_pos HK.out]; exact HR5.out.drewN, below_drewN HB5.out⟩
set_option maxHeartbeats 1000000 in
theorem cr_eF (B g : Nat) (c : CodeM) (v : CodeV) (S N gs gl : Nat) (W L : List Int) (q : InsP) (a m d r : Option Addr × Nat × Nat) (w : World) (hr : Rd w B g c v S N gs gl W L) (hx : InsW w B q a m d r) (l : Nat) (hn : nLn q.op = some (1, l)) (hc : a.2.2 = 1) (h1 : a.2.1 = 1 + l) (h2 : plK q.op q.k c.ins c.outs v.mems.2.1 v.conts.2.1 c.crosses = true) (h3 : (gdB S W q.guard && decide (r.2.1 = 0)) = true) (ha : (q.args.take 1).all (wrB S W) = true) (hd : (q.args.drop 1).all (wrB N L) = true) (hk : ¬ q.op = opAsk) (hi : inB q.dst N = false) : Calls Try.prog 24 #[.pointer (some ⟨g, 0, none⟩), .agg #[.string q.op, .int .i64 q.dst, .slice a.1 a.2.1 a.2.2, .int .i64 q.k, .int .i64 q.lit.kind, .bool q.lit.neg, .slice m.1 m.2.1 m.2.2, .slice d.1 d.2.1 d.2.2, .string q.lit.name, .int .i64 q.guard, .slice r.1 r.2.1 r.2.2]] w (CrPost B g c v S N gs gl W L q w) := by
  obtain ⟨W1, hW1⟩ : ∃ W1, W1 = w.alloc (.cells #[.string q.op, .int .i64 q.dst, .slice a.1 a.2.1 a.2.2, .int .i64 q.k, .int .i64 q.lit.kind, .bool q.lit.neg, .slice m.1 m.2.1 m.2.2, .slice d.1 d.2.1 d.2.2, .string q.lit.name, .int .i64 q.guard, .slice r.1 r.2.1 r.2.2] 70) := ⟨_, rfl⟩
  have hb1 : Below w.heap.size w W1 := by rw [hW1]; exact (Below.refl _ _).alloc (Nat.le_refl _) _
  have HX := Lib.hid (show Blk W1 w.heap.size 70 (ics q a m d r) from by rw [hW1]; exact Blk.new _ _ _)
  have HR := Lib.hid (hr.later hb1)
  have HB := Lib.hid (hb1.mono hr.hB)
  have HW := Lib.hid (hx.keep HB.out)
  have HV := Lib.hid (cr_eq hn hr hx)
  have HGW : Hid (gs < w.heap.size) := Lib.hid hr.ms.lt
  obtain ⟨hs1, hl2⟩ := nLn_le hn
  have HN := Lib.hid hn
  clear hn
  have hma := hx.args.len_le
  have hmr := hx.resets.len_le
  have HMA := Lib.hid hma
  have hq0 : w.heap.size < W1.heap.size := HX.out.lt
  have H1 := Lib.hid (decide_eq_true h1)
  have g1 : ((a.2.1 : Int) == 1 + (l : Int)) = true := by rw [beq_iff_eq]; omega
  have g2 : ((a.2.1 : Int) != 1 + (l : Int)) = false := by show (!(_ == _)) = _; rw [g1]; rfl
  have H1N := Lib.hid h1
  clear h1
  have HC := Lib.hid hc
  clear hc
  have g3 := str_no (l := [97, 115, 107]) hk
  have H2 := Lib.hid h2
  clear h2
  have H3 := Lib.hid h3
  clear h3
  have HA := Lib.hid ha
  clear ha
  have HD := Lib.hid hd
  clear hd
  have HI := Lib.hid hi
  clear hi
  have HK := Lib.hid hk
  have HKD := Lib.hid (decide_eq_false hk)
  clear hk
  unfold maxLen at hma hmr
  obtain ⟨x0, x1, x2, x3, x4, x5, x6, x7, x8, x9, x10⟩ := HX.out.elev
  obtain ⟨n0, n1, n2, n3, n4, n5, n6, n7, n8, n9, n10, n11⟩ := HR.out.cells
  clear n0 n1 n2 n3 n4 n5 n6 n7 n8 n9 hb1 hr hx
  go_enter Try.func24, Try.ntmps24
  go_upto_region 1 with fail
  rw [← hW1]
  clear hW1
  go_upto_region 4 with (first | (go_at_call 42; (with_reducible refine (opd_b q.op 1 l _ HN.out).mono ?_); rintro e w4 ⟨rfl, rfl⟩) | (go_at_call 35; (with_reducible refine (hasPlace_b c v B g S N gs gl W L q a m d r true _ HR.out H2.out).mono ?_); rintro e w3 ⟨rfl, hb3⟩; have HX := Lib.hid (HX.out.later hb3); have HW := Lib.hid (HW.out.keep (hb3.mono HR.out.hB)); have HB := Lib.hid (HB.out.trans (hb3.mono HR.out.hB)); have HR := Lib.hid (HR.out.later hb3); clear hb3 x0 x1 x2 x3 x4 x5 x6 x7 x8 x9 x10 n10 n11 hq0; obtain ⟨x0, x1, x2, x3, x4, x5, x6, x7, x8, x9, x10⟩ := HX.out.elev; obtain ⟨n0, n1, n2, n3, n4, n5, n6, n7, n8, n9, n10, n11⟩ := HR.out.cells; clear n0 n1 n2 n3 n4 n5 n6 n7 n8 n9; have hq0 := HX.out.lt) | (go_at_call 41; (with_reducible refine (isBetween_b true B g c v S N gs gl W L q a m d r _ HR.out HW.out H3.out).mono ?_); rintro e w4 ⟨rfl, hb4⟩; have HX := Lib.hid (HX.out.later hb4); have HW := Lib.hid (HW.out.keep (hb4.mono HR.out.hB)); have HB := Lib.hid (HB.out.trans (hb4.mono HR.out.hB)); have HR := Lib.hid (HR.out.later hb4); clear hb4 x0 x1 x2 x3 x4 x5 x6 x7 x8 x9 x10 n10 n11 hq0; obtain ⟨x0, x1, x2, x3, x4, x5, x6, x7, x8, x9, x10⟩ := HX.out.elev; obtain ⟨n0, n1, n2, n3, n4, n5, n6, n7, n8, n9, n10, n11⟩ := HR.out.cells; clear n0 n1 n2 n3 n4 n5 n6 n7 n8 n9; have hq0 := HX.out.lt))
  have HMS := Lib.hid HR.out.ms
  have HML := Lib.hid HR.out.ml
  have HSS := Lib.hid HR.out.sS
  have HSN := Lib.hid HR.out.sN
  have hn1 : 1 ≤ a.2.1 := by have := H1N.out; omega
  obtain ⟨b, off, hab, hbl, _⟩ := HW.out.args.at_ (i := 0) hn1
  have HAB := Lib.hid HW.out.args
  rw [hab] at HAB x2
  have HT1 := Lib.hid (show IRow w4 B (some ⟨b, off, none⟩) 1 1 (q.args.take 1) from by have h := HAB.out.takeS (s := 1) hn1; rw [HC.out] at h; exact h)
  have hac : a.2.1 ≤ a.2.2 := HAB.out.2.1
  have hn2 : a.2.1 = 1 := by have := HC.out; omega
  have HT2 := Lib.hid (show IRow w4 B (some ⟨b, off, none⟩) 0 0 (q.args.drop 1) from by have h := HAB.out; rw [hn2, HC.out] at h; exact h.none0)
  rw [hn2, HC.out] at x2
  clear hab hn1 hac
  go_quiet ((first | (go_at_call 19; with_reducible exact Calls.quiet_of_same (allW_q (some ⟨b, off, none⟩) 1 1 B (q.args.take 1) gs S W true _ _ HT1.out HMS.out HSS.out HA.out)) | (go_at_call 19; with_reducible exact Calls.quiet_of_same (allW_q (some ⟨b, off, none⟩) 0 0 B (q.args.drop 1) gl N L true _ _ HT2.out HML.out HSN.out HD.out))))
  go_upto_region 6 with fail
  generalize hw5 : World.drewN _ _ = w5
  have HB5 := Lib.hid (show Below B w w5 from by rw [← hw5]; exact below_drewN HB.out)
  have HR5 := Lib.hid (show Rd w5 B g c v S N gs gl W L from by rw [← hw5]; exact HR.out.drewN)
  have HX5 := Lib.hid (show Blk w5 w.heap.size 70 (ics q a m d r) from by rw [← hw5]; exact HX.out)
  clear hw5 x0 x1 x2 x3 x4 x5 x6 x7 x8 x9 x10 n10 n11
  have n11 := HR5.out.blk.cell 11 rfl
  obtain ⟨x0, x1, x2, x3, x4, x5, x6, x7, x8, x9, x10⟩ := HX5.out.elev
  go_quiet ((go_at_call 40; exact Calls.quiet_of_same (write_no gl N q.dst _ HI.out)))
  go_wp2
  go_ret
  exact ⟨false, rfl, by rw [HV.out, H1.out, H2.out, H3.out, HA.out, HD.out, HKD.out, HI.out]; simp, (fun h => by cases h), below_drewN HB5.out⟩
set_option maxHeartbeats 1000000 in
theorem cr_eT (B g : Nat) (c : CodeM) (v : CodeV) (S N gs gl : Nat) (W L : List Int) (q : InsP) (a m d r : Option Addr × Nat × Nat) (w : World) (hr : Rd w B g c v S N gs gl W L) (hx : InsW w B q a m d r) (l : Nat) (hn : nLn q.op = some (1, l)) (hc : a.2.2 = 1) (h1 : a.2.1 = 1 + l) (h2 : plK q.op q.k c.ins c.outs v.mems.2.1 v.conts.2.1 c.crosses = true) (h3 : (gdB S W q.guard && decide (r.2.1 = 0)) = true) (ha : (q.args.take 1).all (wrB S W) = true) (hd : (q.args.drop 1).all (wrB N L) = true) (hk : ¬ q.op = opAsk) (hi : inB q.dst N = true) : Calls Try.prog 24 #[.pointer (some ⟨g, 0, none⟩), .agg #[.string q.op, .int .i64 q.dst, .slice a.1 a.2.1 a.2.2, .int .i64 q.k, .int .i64 q.lit.kind, .bool q.lit.neg, .slice m.1 m.2.1 m.2.2, .slice d.1 d.2.1 d.2.2, .string q.lit.name, .int .i64 q.guard, .slice r.1 r.2.1 r.2.2]] w (CrPost B g c v S N gs gl W L q w) := by
  obtain ⟨W1, hW1⟩ : ∃ W1, W1 = w.alloc (.cells #[.string q.op, .int .i64 q.dst, .slice a.1 a.2.1 a.2.2, .int .i64 q.k, .int .i64 q.lit.kind, .bool q.lit.neg, .slice m.1 m.2.1 m.2.2, .slice d.1 d.2.1 d.2.2, .string q.lit.name, .int .i64 q.guard, .slice r.1 r.2.1 r.2.2] 70) := ⟨_, rfl⟩
  have hb1 : Below w.heap.size w W1 := by rw [hW1]; exact (Below.refl _ _).alloc (Nat.le_refl _) _
  have HX := Lib.hid (show Blk W1 w.heap.size 70 (ics q a m d r) from by rw [hW1]; exact Blk.new _ _ _)
  have HR := Lib.hid (hr.later hb1)
  have HB := Lib.hid (hb1.mono hr.hB)
  have HW := Lib.hid (hx.keep HB.out)
  have HV := Lib.hid (cr_eq hn hr hx)
  have HGW : Hid (gs < w.heap.size) := Lib.hid hr.ms.lt
  obtain ⟨hs1, hl2⟩ := nLn_le hn
  have HN := Lib.hid hn
  clear hn
  have hma := hx.args.len_le
  have hmr := hx.resets.len_le
  have HMA := Lib.hid hma
  have hq0 : w.heap.size < W1.heap.size := HX.out.lt
  have H1 := Lib.hid (decide_eq_true h1)
  have g1 : ((a.2.1 : Int) == 1 + (l : Int)) = true := by rw [beq_iff_eq]; omega
  have g2 : ((a.2.1 : Int) != 1 + (l : Int)) = false := by show (!(_ == _)) = _; rw [g1]; rfl
  have H1N := Lib.hid h1
  clear h1
  have HC := Lib.hid hc
  clear hc
  have g3 := str_no (l := [97, 115, 107]) hk
  have HGL : Hid (gl < w.heap.size) := Lib.hid hr.ml.lt
  have H2 := Lib.hid h2
  clear h2
  have H3 := Lib.hid h3
  clear h3
  have HA := Lib.hid ha
  clear ha
  have HD := Lib.hid hd
  clear hd
  have HK := Lib.hid hk
  have HKD := Lib.hid (decide_eq_false hk)
  clear hk
  obtain ⟨j, hj, hjS⟩ := inB_yes hi
  have HI := Lib.hid hi
  have HJ := Lib.hid hj
  clear hi hj
  unfold maxLen at hma hmr
  obtain ⟨x0, x1, x2, x3, x4, x5, x6, x7, x8, x9, x10⟩ := HX.out.elev
  obtain ⟨n0, n1, n2, n3, n4, n5, n6, n7, n8, n9, n10, n11⟩ := HR.out.cells
  clear n0 n1 n2 n3 n4 n5 n6 n7 n8 n9 hb1 hr hx
  go_enter Try.func24, Try.ntmps24
  go_upto_region 1 with fail
  rw [← hW1]
  clear hW1
  go_upto_region 4 with (first | (go_at_call 42; (with_reducible refine (opd_b q.op 1 l _ HN.out).mono ?_); rintro e w4 ⟨rfl, rfl⟩) | (go_at_call 35; (with_reducible refine (hasPlace_b c v B g S N gs gl W L q a m d r true _ HR.out H2.out).mono ?_); rintro e w3 ⟨rfl, hb3⟩; have HX := Lib.hid (HX.out.later hb3); have HW := Lib.hid (HW.out.keep (hb3.mono HR.out.hB)); have HB := Lib.hid (HB.out.trans (hb3.mono HR.out.hB)); have HR := Lib.hid (HR.out.later hb3); clear hb3 x0 x1 x2 x3 x4 x5 x6 x7 x8 x9 x10 n10 n11 hq0; obtain ⟨x0, x1, x2, x3, x4, x5, x6, x7, x8, x9, x10⟩ := HX.out.elev; obtain ⟨n0, n1, n2, n3, n4, n5, n6, n7, n8, n9, n10, n11⟩ := HR.out.cells; clear n0 n1 n2 n3 n4 n5 n6 n7 n8 n9; have hq0 := HX.out.lt) | (go_at_call 41; (with_reducible refine (isBetween_b true B g c v S N gs gl W L q a m d r _ HR.out HW.out H3.out).mono ?_); rintro e w4 ⟨rfl, hb4⟩; have HX := Lib.hid (HX.out.later hb4); have HW := Lib.hid (HW.out.keep (hb4.mono HR.out.hB)); have HB := Lib.hid (HB.out.trans (hb4.mono HR.out.hB)); have HR := Lib.hid (HR.out.later hb4); clear hb4 x0 x1 x2 x3 x4 x5 x6 x7 x8 x9 x10 n10 n11 hq0; obtain ⟨x0, x1, x2, x3, x4, x5, x6, x7, x8, x9, x10⟩ := HX.out.elev; obtain ⟨n0, n1, n2, n3, n4, n5, n6, n7, n8, n9, n10, n11⟩ := HR.out.cells; clear n0 n1 n2 n3 n4 n5 n6 n7 n8 n9; have hq0 := HX.out.lt))
  have HMS := Lib.hid HR.out.ms
  have HML := Lib.hid HR.out.ml
  have HSS := Lib.hid HR.out.sS
  have HSN := Lib.hid HR.out.sN
  have hn1 : 1 ≤ a.2.1 := by have := H1N.out; omega
  obtain ⟨b, off, hab, hbl, _⟩ := HW.out.args.at_ (i := 0) hn1
  have HAB := Lib.hid HW.out.args
  rw [hab] at HAB x2
  have HT1 := Lib.hid (show IRow w4 B (some ⟨b, off, none⟩) 1 1 (q.args.take 1) from by have h := HAB.out.takeS (s := 1) hn1; rw [HC.out] at h; exact h)
  have hac : a.2.1 ≤ a.2.2 := HAB.out.2.1
  have hn2 : a.2.1 = 1 := by have := HC.out; omega
  have HT2 := Lib.hid (show IRow w4 B (some ⟨b, off, none⟩) 0 0 (q.args.drop 1) from by have h := HAB.out; rw [hn2, HC.out] at h; exact h.none0)
  rw [hn2, HC.out] at x2
  clear hab hn1 hac
  go_quiet ((first | (go_at_call 19; with_reducible exact Calls.quiet_of_same (allW_q (some ⟨b, off, none⟩) 1 1 B (q.args.take 1) gs S W true _ _ HT1.out HMS.out HSS.out HA.out)) | (go_at_call 19; with_reducible exact Calls.quiet_of_same (allW_q (some ⟨b, off, none⟩) 0 0 B (q.args.drop 1) gl N L true _ _ HT2.out HML.out HSN.out HD.out))))
  go_upto_region 6 with fail
  generalize hw5 : World.drewN _ _ = w5
  have HB5 := Lib.hid (show Below B w w5 from by rw [← hw5]; exact below_drewN HB.out)
  have HR5 := Lib.hid (show Rd w5 B g c v S N gs gl W L from by rw [← hw5]; exact HR.out.drewN)
  have HX5 := Lib.hid (show Blk w5 w.heap.size 70 (ics q a m d r) from by rw [← hw5]; exact HX.out)
  clear hw5 x0 x1 x2 x3 x4 x5 x6 x7 x8 x9 x10 n10 n11
  have HR6 := Lib.hid HR5.out.drew
  have HX6 := Lib.hid (show Blk w5.drew w.heap.size 70 (ics q a m d r) from HX5.out)
  have HP := Lib.hid (show w5.drew.cell? ⟨g, 11, none⟩ = some (.slice (some ⟨gl, 0, none⟩) N N) ∧ w5.drew.cell? ⟨w.heap.size, 0, none⟩ = some (.string q.op) ∧ w5.drew.cell? ⟨w.heap.size, 1, none⟩ = some (.int .i64 (j : Int)) from ⟨HR6.out.blk.cell 11 rfl, HX6.out.cell 0 rfl, by rw [← HJ.out]; exact HX6.out.cell 1 rfl⟩)
  go_region_held3 (fun w' => w'.cell? ⟨g, 11, none⟩ = some (.slice (some ⟨gl, 0, none⟩) N N) ∧ w'.cell? ⟨w.heap.size, 0, none⟩ = some (.string q.op) ∧ w'.cell? ⟨w.heap.size, 1, none⟩ = some (.int .i64 (j : Int))) (first | with_reducible exact HP.out | exact HPa.out) (first
    | (go_at_call 40; (with_reducible refine (write_yes gl N L j _ HR6.out.ml HSN.out (by rw [← HJ.out]; exact HI.out)).mono ?_); rintro e w7 ⟨rfl, rfl⟩; have HR7 := Lib.hid (HR6.out.putL j); have HPa := Lib.hid (show (w5.drew.setCell ⟨gl, j, none⟩ (.bool true)).cell? ⟨g, 11, none⟩ = some (.slice (some ⟨gl, 0, none⟩) N N) ∧ (w5.drew.setCell ⟨gl, j, none⟩ (.bool true)).cell? ⟨w.heap.size, 0, none⟩ = some (.string q.op) ∧ (w5.drew.setCell ⟨gl, j, none⟩ (.bool true)).cell? ⟨w.heap.size, 1, none⟩ = some (.int .i64 (j : Int)) from ⟨HR7.out.blk.cell 11 rfl, (World.cell?_of_block (Below.heap_setCell _ _ _ w.heap.size (Nat.ne_of_gt HGL.out))).trans HP.out.2.1, (World.cell?_of_block (Below.heap_setCell _ _ _ w.heap.size (Nat.ne_of_gt HGL.out))).trans HP.out.2.2⟩)))
  go_wp2
  go_ret
  exact ⟨true, rfl, by rw [HV.out, H1.out, H2.out, H3.out, HA.out, HD.out, HKD.out, HI.out]; simp, fun _ => by unfold lNext; rw [if_neg HK.out, HJ.out]; exact HR6.out.putL j, HB5.out.drew.setCell HR5.out.hl _⟩
set_option maxHeartbeats 1000000 in
theorem cr_fA (B g : Nat) (c : CodeM) (v : CodeV) (S N gs gl : Nat) (W L : List Int) (q : InsP) (a m d r : Option Addr × Nat × Nat) (w : World) (hr : Rd w B g c v S N gs gl W L) (hx : InsW w B q a m d r) (l : Nat) (hn : nLn q.op = some (1, l)) (hc : ¬ a.2.2 = 1) (h1 : a.2.1 = 1 + l) (h2 : plK q.op q.k c.ins c.outs v.mems.2.1 v.conts.2.1 c.crosses = true) (h3 : (gdB S W q.guard && decide (r.2.1 = 0)) = true) (ha : (q.args.take 1).all (wrB S W) = false) : Calls Try.prog 24 #[.pointer (some ⟨g, 0, none⟩), .agg #[.string q.op, .int .i64 q.dst, .slice a.1 a.2.1 a.2.2, .int .i64 q.k, .int .i64 q.lit.kind, .bool q.lit.neg, .slice m.1 m.2.1 m.2.2, .slice d.1 d.2.1 d.2.2, .string q.lit.name, .int .i64 q.guard, .slice r.1 r.2.1 r.2.2]] w (CrPost B g c v S N gs gl W L q w) := by
  obtain ⟨W1, hW1⟩ : ∃ W1, W1 = w.alloc (.cells #[.string q.op, .int .i64 q.dst, .slice a.1 a.2.1 a.2.2, .int .i64 q.k, .int .i64 q.lit.kind, .bool q.lit.neg, .slice m.1 m.2.1 m.2.2, .slice d.1 d.2.1 d.2.2, .string q.lit.name, .int .i64 q.guard, .slice r.1 r.2.1 r.2.2] 70) := ⟨_, rfl⟩
  have hb1 : Below w.heap.size w W1 := by rw [hW1]; exact (Below.refl _ _).alloc (Nat.le_refl _) _
  have HX := Lib.hid (show Blk W1 w.heap.size 70 (ics q a m d r) from by rw [hW1]; exact Blk.new _ _ _)
  have HR := Lib.hid (hr.later hb1)
  have HB := Lib.hid (hb1.mono hr.hB)
  have HW := Lib.hid (hx.keep HB.out)
  have HV := Lib.hid (cr_eq hn hr hx)
  have HGW : Hid (gs < w.heap.size) := Lib.hid hr.ms.lt
  obtain ⟨hs1, hl2⟩ := nLn_le hn
  have HN := Lib.hid hn
  clear hn
  have hma := hx.args.len_le
  have hmr := hx.resets.len_le
  have HMA := Lib.hid hma
  have hq0 : w.heap.size < W1.heap.size := HX.out.lt
  have H1 := Lib.hid (decide_eq_true h1)
  have g1 : ((a.2.1 : Int) == 1 + (l : Int)) = true := by rw [beq_iff_eq]; omega
  have g2 : ((a.2.1 : Int) != 1 + (l : Int)) = false := by show (!(_ == _)) = _; rw [g1]; rfl
  have H1N := Lib.hid h1
  clear h1
  have H2 := Lib.hid h2
  clear h2
  have H3 := Lib.hid h3
  clear h3
  have HA := Lib.hid ha
  clear ha
  unfold maxLen at hma hmr
  obtain ⟨x0, x1, x2, x3, x4, x5, x6, x7, x8, x9, x10⟩ := HX.out.elev
  obtain ⟨n0, n1, n2, n3, n4, n5, n6, n7, n8, n9, n10, n11⟩ := HR.out.cells
  clear n0 n1 n2 n3 n4 n5 n6 n7 n8 n9 hb1 hr hx
  go_enter Try.func24, Try.ntmps24
  go_upto_region 1 with fail
  rw [← hW1]
  clear hW1
  go_upto_region 4 with (first | (go_at_call 42; (with_reducible refine (opd_b q.op 1 l _ HN.out).mono ?_); rintro e w4 ⟨rfl, rfl⟩) | (go_at_call 35; (with_reducible refine (hasPlace_b c v B g S N gs gl W L q a m d r true _ HR.out H2.out).mono ?_); rintro e w3 ⟨rfl, hb3⟩; have HX := Lib.hid (HX.out.later hb3); have HW := Lib.hid (HW.out.keep (hb3.mono HR.out.hB)); have HB := Lib.hid (HB.out.trans (hb3.mono HR.out.hB)); have HR := Lib.hid (HR.out.later hb3); clear hb3 x0 x1 x2 x3 x4 x5 x6 x7 x8 x9 x10 n10 n11 hq0; obtain ⟨x0, x1, x2, x3, x4, x5, x6, x7, x8, x9, x10⟩ := HX.out.elev; obtain ⟨n0, n1, n2, n3, n4, n5, n6, n7, n8, n9, n10, n11⟩ := HR.out.cells; clear n0 n1 n2 n3 n4 n5 n6 n7 n8 n9; have hq0 := HX.out.lt) | (go_at_call 41; (with_reducible refine (isBetween_b true B g c v S N gs gl W L q a m d r _ HR.out HW.out H3.out).mono ?_); rintro e w4 ⟨rfl, hb4⟩; have HX := Lib.hid (HX.out.later hb4); have HW := Lib.hid (HW.out.keep (hb4.mono HR.out.hB)); have HB := Lib.hid (HB.out.trans (hb4.mono HR.out.hB)); have HR := Lib.hid (HR.out.later hb4); clear hb4 x0 x1 x2 x3 x4 x5 x6 x7 x8 x9 x10 n10 n11 hq0; obtain ⟨x0, x1, x2, x3, x4, x5, x6, x7, x8, x9, x10⟩ := HX.out.elev; obtain ⟨n0, n1, n2, n3, n4, n5, n6, n7, n8, n9, n10, n11⟩ := HR.out.cells; clear n0 n1 n2 n3 n4 n5 n6 n7 n8 n9; have hq0 := HX.out.lt))
  have HMS := Lib.hid HR.out.ms
  have HML := Lib.hid HR.out.ml
  have HSS := Lib.hid HR.out.sS
  have HSN := Lib.hid HR.out.sN
  have hn1 : 1 ≤ a.2.1 := by have := H1N.out; omega
  obtain ⟨b, off, hab, hbl, _⟩ := HW.out.args.at_ (i := 0) hn1
  have HAB := Lib.hid HW.out.args
  rw [hab] at HAB x2
  have HT1 := Lib.hid (HAB.out.takeS (s := 1) hn1)
  have hac : a.2.1 ≤ a.2.2 := HAB.out.2.1
  have HT2 := Lib.hid (HAB.out.drop1 hn1)
  have hc2 : ¬ a.2.2 ≤ 1 := by omega
  clear hab
  go_quiet ((first | (go_at_call 19; with_reducible exact Calls.quiet_of_same (allW_q (some ⟨b, off, none⟩) 1 a.2.2 B (q.args.take 1) gs S W false _ _ HT1.out HMS.out HSS.out HA.out)) | (go_at_call 19; with_reducible exact Calls.quiet_of_same (allW_q (some ⟨b, off + 1, none⟩) (a.2.1 - 1) (a.2.2 - 1) B (q.args.drop 1) gl N L false _ _ HT2.out HML.out HSN.out rfl))))
  go_wp2
  go_ret
  exact ⟨false, rfl, by rw [HV.out, H1.out, H2.out, H3.out, HA.out]; simp, (fun h => by cases h), by first | exact HB.out | exact below_drewN HB.out⟩
set_option maxHeartbeats 1000000 in
theorem cr_fD (B g : Nat) (c : CodeM) (v : CodeV) (S N gs gl : Nat) (W L : List Int) (q : InsP) (a m d r : Option Addr × Nat × Nat) (w : World) (hr : Rd w B g c v S N gs gl W L) (hx : InsW w B q a m d r) (l : Nat) (hn : nLn q.op = some (1, l)) (hc : ¬ a.2.2 = 1) (h1 : a.2.1 = 1 + l) (h2 : plK q.op q.k c.ins c.outs v.mems.2.1 v.conts.2.1 c.crosses = true) (h3 : (gdB S W q.guard && decide (r.2.1 = 0)) = true) (ha : (q.args.take 1).all (wrB S W) = true) (hd : (q.args.drop 1).all (wrB N L) = false) : Calls Try.prog 24 #[.pointer (some ⟨g, 0, none⟩), .agg #[.string q.op, .int .i64 q.dst, .slice a.1 a.2.1 a.2.2, .int .i64 q.k, .int .i64 q.lit.kind, .bool q.lit.neg, .slice m.1 m.2.1 m.2.2, .slice d.1 d.2.1 d.2.2, .string q.lit.name, .int .i64 q.guard, .slice r.1 r.2.1 r.2.2]] w (CrPost B g c v S N gs gl W L q w) := by
  obtain ⟨W1, hW1⟩ : ∃ W1, W1 = w.alloc (.cells #[.string q.op, .int .i64 q.dst, .slice a.1 a.2.1 a.2.2, .int .i64 q.k, .int .i64 q.lit.kind, .bool q.lit.neg, .slice m.1 m.2.1 m.2.2, .slice d.1 d.2.1 d.2.2, .string q.lit.name, .int .i64 q.guard, .slice r.1 r.2.1 r.2.2] 70) := ⟨_, rfl⟩
  have hb1 : Below w.heap.size w W1 := by rw [hW1]; exact (Below.refl _ _).alloc (Nat.le_refl _) _
  have HX := Lib.hid (show Blk W1 w.heap.size 70 (ics q a m d r) from by rw [hW1]; exact Blk.new _ _ _)
  have HR := Lib.hid (hr.later hb1)
  have HB := Lib.hid (hb1.mono hr.hB)
  have HW := Lib.hid (hx.keep HB.out)
  have HV := Lib.hid (cr_eq hn hr hx)
  have HGW : Hid (gs < w.heap.size) := Lib.hid hr.ms.lt
  obtain ⟨hs1, hl2⟩ := nLn_le hn
  have HN := Lib.hid hn
  clear hn
  have hma := hx.args.len_le
  have hmr := hx.resets.len_le
  have HMA := Lib.hid hma
  have hq0 : w.heap.size < W1.heap.size := HX.out.lt
  have H1 := Lib.hid (decide_eq_true h1)
  have g1 : ((a.2.1 : Int) == 1 + (l : Int)) = true := by rw [beq_iff_eq]; omega
  have g2 : ((a.2.1 : Int) != 1 + (l : Int)) = false := by show (!(_ == _)) = _; rw [g1]; rfl
  have H1N := Lib.hid h1
  clear h1
  have H2 := Lib.hid h2
  clear h2
  have H3 := Lib.hid h3
  clear h3
  have HA := Lib.hid ha
  clear ha
  have HD := Lib.hid hd
  clear hd
  unfold maxLen at hma hmr
  obtain ⟨x0, x1, x2, x3, x4, x5, x6, x7, x8, x9, x10⟩ := HX.out.elev
  obtain ⟨n0, n1, n2, n3, n4, n5, n6, n7, n8, n9, n10, n11⟩ := HR.out.cells
  clear n0 n1 n2 n3 n4 n5 n6 n7 n8 n9 hb1 hr hx
  go_enter Try.func24, Try.ntmps24
  go_upto_region 1 with fail
  rw [← hW1]
  clear hW1
  go_upto_region 4 with (first | (go_at_call 42; (with_reducible refine (opd_b q.op 1 l _ HN.out).mono ?_); rintro e w4 ⟨rfl, rfl⟩) | (go_at_call 35; (with_reducible refine (hasPlace_b c v B g S N gs gl W L q a m d r true _ HR.out H2.out).mono ?_); rintro e w3 ⟨rfl, hb3⟩; have HX := Lib.hid (HX.out.later hb3); have HW := Lib.hid (HW.out.keep (hb3.mono HR.out.hB)); have HB := Lib.hid (HB.out.trans (hb3.mono HR.out.hB)); have HR := Lib.hid (HR.out.later hb3); clear hb3 x0 x1 x2 x3 x4 x5 x6 x7 x8 x9 x10 n10 n11 hq0; obtain ⟨x0, x1, x2, x3, x4, x5, x6, x7, x8, x9, x10⟩ := HX.out.elev; obtain ⟨n0, n1, n2, n3, n4, n5, n6, n7, n8, n9, n10, n11⟩ := HR.out.cells; clear n0 n1 n2 n3 n4 n5 n6 n7 n8 n9; have hq0 := HX.out.lt) | (go_at_call 41; (with_reducible refine (isBetween_b true B g c v S N gs gl W L q a m d r _ HR.out HW.out H3.out).mono ?_); rintro e w4 ⟨rfl, hb4⟩; have HX := Lib.hid (HX.out.later hb4); have HW := Lib.hid (HW.out.keep (hb4.mono HR.out.hB)); have HB := Lib.hid (HB.out.trans (hb4.mono HR.out.hB)); have HR := Lib.hid (HR.out.later hb4); clear hb4 x0 x1 x2 x3 x4 x5 x6 x7 x8 x9 x10 n10 n11 hq0; obtain ⟨x0, x1, x2, x3, x4, x5, x6, x7, x8, x9, x10⟩ := HX.out.elev; obtain ⟨n0, n1, n2, n3, n4, n5, n6, n7, n8, n9, n10, n11⟩ := HR.out.cells; clear n0 n1 n2 n3 n4 n5 n6 n7 n8 n9; have hq0 := HX.out.lt))
  have HMS := Lib.hid HR.out.ms
  have HML := Lib.hid HR.out.ml
  have HSS := Lib.hid HR.out.sS
  have HSN := Lib.hid HR.out.sN
  have hn1 : 1 ≤ a.2.1 := by have := H1N.out; omega
  obtain ⟨b, off, hab, hbl, _⟩ := HW.out.args.at_ (i := 0) hn1
  have HAB := Lib.hid HW.out.args
  rw [hab] at HAB x2
  have HT1 := Lib.hid (HAB.out.takeS (s := 1) hn1)
  have hac : a.2.1 ≤ a.2.2 := HAB.out.2.1
  have HT2 := Lib.hid (HAB.out.drop1 hn1)
  have hc2 : ¬ a.2.2 ≤ 1 := by omega
  clear hab
  go_quiet ((first | (go_at_call 19; with_reducible exact Calls.quiet_of_same (allW_q (some ⟨b, off, none⟩) 1 a.2.2 B (q.args.take 1) gs S W true _ _ HT1.out HMS.out HSS.out HA.out)) | (go_at_call 19; with_reducible exact Calls.quiet_of_same (allW_q (some ⟨b, off + 1, none⟩) (a.2.1 - 1) (a.2.2 - 1) B (q.args.drop 1) gl N L false _ _ HT2.out HML.out HSN.out HD.out))))
  go_wp2
  go_ret
  exact ⟨false, rfl, by rw [HV.out, H1.out, H2.out, H3.out, HA.out, HD.out]; simp, (fun h => by cases h), by first | exact HB.out | exact below_drewN HB.out⟩
set_option maxHeartbeats 1000000 in
theorem cr_fK (B g : Nat) (c : CodeM) (v : CodeV) (S N gs gl : Nat) (W L : List Int) (q : InsP) (a m d r : Option Addr × Nat × Nat) (w : World) (hr : Rd w B g c v S N gs gl W L) (hx : InsW w B q a m d r) (l : Nat) (hn : nLn q.op = some (1, l)) (hc : ¬ a.2.2 = 1) (h1 : a.2.1 = 1 + l) (h2 : plK q.op q.k c.ins c.outs v.mems.2.1 v.conts.2.1 c.crosses = true) (h3 : (gdB S W q.guard && decide (r.2.1 = 0)) = true) (ha : (q.args.take 1).all (wrB S W) = true) (hd : (q.args.drop 1).all (wrB N L) = true) (hk : q.op = opAsk) : Calls Try.prog 24 #[.pointer (some ⟨g, 0, none⟩), .agg #[.string q.op, .int .i64 q.dst, .slice a.1 a.2.1 a.2.2, .int .i64 q.k, .int .i64 q.lit.kind, .bool q.lit.neg, .slice m.1 m.2.1 m.2.2, .slice d.1 d.2.1 d.2.2, .string q.lit.name, .int .i64 q.guard, .slice r.1 r.2.1 r.2.2]] w (CrPost B g c v S N gs gl W L q w) := by
  obtain ⟨W1, hW1⟩ : ∃ W1, W1 = w.alloc (.cells #[.string q.op, .int .i64 q.dst, .slice a.1 a.2.1 a.2.2, .int .i64 q.k, .int .i64 q.lit.kind, .bool q.lit.neg, .slice m.1 m.2.1 m.2.2, .slice d.1 d.2.1 d.2.2, .string q.lit.name, .int .i64 q.guard, .slice r.1 r.2.1 r.2.2] 70) := ⟨_, rfl⟩
  have hb1 : Below w.heap.size w W1 := by rw [hW1]; exact (Below.refl _ _).alloc (Nat.le_refl _) _
  have HX := Lib.hid (show Blk W1 w.heap.size 70 (ics q a m d r) from by rw [hW1]; exact Blk.new _ _ _)
  have HR := Lib.hid (hr.later hb1)
  have HB := Lib.hid (hb1.mono hr.hB)
  have HW := Lib.hid (hx.keep HB.out)
  have HV := Lib.hid (cr_eq hn hr hx)
  have HGW : Hid (gs < w.heap.size) := Lib.hid hr.ms.lt
  obtain ⟨hs1, hl2⟩ := nLn_le hn
  have HN := Lib.hid hn
  clear hn
  have hma := hx.args.len_le
  have hmr := hx.resets.len_le
  have HMA := Lib.hid hma
  have hq0 : w.heap.size < W1.heap.size := HX.out.lt
  have H1 := Lib.hid (decide_eq_true h1)
  have g1 : ((a.2.1 : Int) == 1 + (l : Int)) = true := by rw [beq_iff_eq]; omega
  have g2 : ((a.2.1 : Int) != 1 + (l : Int)) = false := by show (!(_ == _)) = _; rw [g1]; rfl
  have H1N := Lib.hid h1
  clear h1
  have g3 : (q.op.toList == [97, 115, 107]) = true := by rw [hk, Lib.toList_data]; rfl
  have H2 := Lib.hid h2
  clear h2
  have H3 := Lib.hid h3
  clear h3
  have HA := Lib.hid ha
  clear ha
  have HD := Lib.hid hd
  clear hd
  have HK := Lib.hid hk
  have HKD := Lib.hid (decide_eq_true hk)
  clear hk
  unfold maxLen at hma hmr
  obtain ⟨x0, x1, x2, x3, x4, x5, x6, x7, x8, x9, x10⟩ := HX.out.elev
  obtain ⟨n0, n1, n2, n3, n4, n5, n6, n7, n8, n9, n10, n11⟩ := HR.out.cells
  clear n0 n1 n2 n3 n4 n5 n6 n7 n8 n9 hb1 hr hx
  go_enter Try.func24, Try.ntmps24
  go_upto_region 1 with fail
  rw [← hW1]
  clear hW1
  go_upto_region 4 with (first | (go_at_call 42; (with_reducible refine (opd_b q.op 1 l _ HN.out).mono ?_); rintro e w4 ⟨rfl, rfl⟩) | (go_at_call 35; (with_reducible refine (hasPlace_b c v B g S N gs gl W L q a m d r true _ HR.out H2.out).mono ?_); rintro e w3 ⟨rfl, hb3⟩; have HX := Lib.hid (HX.out.later hb3); have HW := Lib.hid (HW.out.keep (hb3.mono HR.out.hB)); have HB := Lib.hid (HB.out.trans (hb3.mono HR.out.hB)); have HR := Lib.hid (HR.out.later hb3); clear hb3 x0 x1 x2 x3 x4 x5 x6 x7 x8 x9 x10 n10 n11 hq0; obtain ⟨x0, x1, x2, x3, x4, x5, x6, x7, x8, x9, x10⟩ := HX.out.elev; obtain ⟨n0, n1, n2, n3, n4, n5, n6, n7, n8, n9, n10, n11⟩ := HR.out.cells; clear n0 n1 n2 n3 n4 n5 n6 n7 n8 n9; have hq0 := HX.out.lt) | (go_at_call 41; (with_reducible refine (isBetween_b true B g c v S N gs gl W L q a m d r _ HR.out HW.out H3.out).mono ?_); rintro e w4 ⟨rfl, hb4⟩; have HX := Lib.hid (HX.out.later hb4); have HW := Lib.hid (HW.out.keep (hb4.mono HR.out.hB)); have HB := Lib.hid (HB.out.trans (hb4.mono HR.out.hB)); have HR := Lib.hid (HR.out.later hb4); clear hb4 x0 x1 x2 x3 x4 x5 x6 x7 x8 x9 x10 n10 n11 hq0; obtain ⟨x0, x1, x2, x3, x4, x5, x6, x7, x8, x9, x10⟩ := HX.out.elev; obtain ⟨n0, n1, n2, n3, n4, n5, n6, n7, n8, n9, n10, n11⟩ := HR.out.cells; clear n0 n1 n2 n3 n4 n5 n6 n7 n8 n9; have hq0 := HX.out.lt))
  have HMS := Lib.hid HR.out.ms
  have HML := Lib.hid HR.out.ml
  have HSS := Lib.hid HR.out.sS
  have HSN := Lib.hid HR.out.sN
  have hn1 : 1 ≤ a.2.1 := by have := H1N.out; omega
  obtain ⟨b, off, hab, hbl, _⟩ := HW.out.args.at_ (i := 0) hn1
  have HAB := Lib.hid HW.out.args
  rw [hab] at HAB x2
  have HT1 := Lib.hid (HAB.out.takeS (s := 1) hn1)
  have hac : a.2.1 ≤ a.2.2 := HAB.out.2.1
  have HT2 := Lib.hid (HAB.out.drop1 hn1)
  have hc2 : ¬ a.2.2 ≤ 1 := by omega
  clear hab
  go_quiet ((first | (go_at_call 19; with_reducible exact Calls.quiet_of_same (allW_q (some ⟨b, off, none⟩) 1 a.2.2 B (q.args.take 1) gs S W true _ _ HT1.out HMS.out HSS.out HA.out)) | (go_at_call 19; with_reducible exact Calls.quiet_of_same (allW_q (some ⟨b, off + 1, none⟩) (a.2.1 - 1) (a.2.2 - 1) B (q.args.drop 1) gl N L true _ _ HT2.out HML.out HSN.out HD.out))))
  go_upto_region 6 with fail
  generalize hw5 : World.drewN _ _ = w5
  have HB5 := Lib.hid (show Below B w w5 from by rw [← hw5]; exact below_drewN HB.out)
  have HR5 := Lib.hid (show Rd w5 B g c v S N gs gl W L from by rw [← hw5]; exact HR.out.drewN)
  have HX5 := Lib.hid (show Blk w5 w.heap.size 70 (ics q a m d r) from by rw [← hw5]; exact HX.out)
  clear hw5 x0 x1 x2 x3 x4 x5 x6 x7 x8 x9 x10 n10 n11
  have n11 := HR5.out.blk.cell 11 rfl
  obtain ⟨x0, x1, x2, x3, x4, x5, x6, x7, x8, x9, x10⟩ := HX5.out.elev
  go_quiet (fail)
  go_wp2
  go_ret
  exact ⟨true, rfl, by rw [HV.out, H1.out, H2.out, H3.out, HA.out, HD.out, HKD.out]; simp, fun _ => by unfold lNext; rw [if_pos HK.out]; exact HR5.out.drewN, below_drewN HB5.out⟩
set_option maxHeartbeats 1000000 in
theorem cr_fF (B g : Nat) (c : CodeM) (v : CodeV) (S N gs gl : Nat) (W L : List Int) (q : InsP) (a m d r : Option Addr × Nat × Nat) (w : World) (hr : Rd w B g c v S N gs gl W L) (hx : InsW w B q a m d r) (l : Nat) (hn : nLn q.op = some (1, l)) (hc : ¬ a.2.2 = 1) (h1 : a.2.1 = 1 + l) (h2 : plK q.op q.k c.ins c.outs v.mems.2.1 v.conts.2.1 c.crosses = true) (h3 : (gdB S W q.guard && decide (r.2.1 = 0)) = true) (ha : (q.args.take 1).all (wrB S W) = true) (hd : (q.args.drop 1).all (wrB N L) = true) (hk : ¬ q.op = opAsk) (hi : inB q.dst N = false) : Calls Try.prog 24 #[.pointer (some ⟨g, 0, none⟩), .agg #[.string q.op, .int .i64 q.dst, .slice a.1 a.2.1 a.2.2, .int .i64 q.k, .int .i64 q.lit.kind, .bool q.lit.neg, .slice m.1 m.2.1 m.2.2, .slice d.1 d.2.1 d.2.2, .string q.lit.name, .int .i64 q.guard, .slice r.1 r.2.1 r.2.2]] w (CrPost B g c v S N gs gl W L q w) := by
  obtain ⟨W1, hW1⟩ : ∃ W1, W1 = w.alloc (.cells #[.string q.op, .int .i64 q.dst, .slice a.1 a.2.1 a.2.2, .int .i64 q.k, .int .i64 q.lit.kind, .bool q.lit.neg, .slice m.1 m.2.1 m.2.2, .slice d.1 d.2.1 d.2.2, .string q.lit.name, .int .i64 q.guard, .slice r.1 r.2.1 r.2.2] 70) := ⟨_, rfl⟩
  have hb1 : Below w.heap.size w W1 := by rw [hW1]; exact (Below.refl _ _).alloc (Nat.le_refl _) _
  have HX := Lib.hid (show Blk W1 w.heap.size 70 (ics q a m d r) from by rw [hW1]; exact Blk.new _ _ _)
  have HR := Lib.hid (hr.later hb1)
  have HB := Lib.hid (hb1.mono hr.hB)
  have HW := Lib.hid (hx.keep HB.out)
  have HV := Lib.hid (cr_eq hn hr hx)
  have HGW : Hid (gs < w.heap.size) := Lib.hid hr.ms.lt
  obtain ⟨hs1, hl2⟩ := nLn_le hn
  have HN := Lib.hid hn
  clear hn
  have hma := hx.args.len_le
  have hmr := hx.resets.len_le
  have HMA := Lib.hid hma
  have hq0 : w.heap.size < W1.heap.size := HX.out.lt
  have H1 := Lib.hid (decide_eq_true h1)
  have g1 : ((a.2.1 : Int) == 1 + (l : Int)) = true := by rw [beq_iff_eq]; omega
  have g2 : ((a.2.1 : Int) != 1 + (l : Int)) = false := by show (!(_ == _)) = _; rw [g1]; rfl
  have H1N := Lib.hid h1
  clear h1
  have g3 := str_no (l := [97, 115, 107]) hk
  have H2 := Lib.hid h2
  clear h2
  have H3 := Lib.hid h3
  clear h3
  have HA := Lib.hid ha
  clear ha
  have HD := Lib.hid hd
  clear hd
  have HI := Lib.hid hi
  clear hi
  have HK := Lib.hid hk
  have HKD := Lib.hid (decide_eq_false hk)
  clear hk
  unfold maxLen at hma hmr
  obtain ⟨x0, x1, x2, x3, x4, x5, x6, x7, x8, x9, x10⟩ := HX.out.elev
  obtain ⟨n0, n1, n2, n3, n4, n5, n6, n7, n8, n9, n10, n11⟩ := HR.out.cells
  clear n0 n1 n2 n3 n4 n5 n6 n7 n8 n9 hb1 hr hx
  go_enter Try.func24, Try.ntmps24
  go_upto_region 1 with fail
  rw [← hW1]
  clear hW1
  go_upto_region 4 with (first | (go_at_call 42; (with_reducible refine (opd_b q.op 1 l _ HN.out).mono ?_); rintro e w4 ⟨rfl, rfl⟩) | (go_at_call 35; (with_reducible refine (hasPlace_b c v B g S N gs gl W L q a m d r true _ HR.out H2.out).mono ?_); rintro e w3 ⟨rfl, hb3⟩; have HX := Lib.hid (HX.out.later hb3); have HW := Lib.hid (HW.out.keep (hb3.mono HR.out.hB)); have HB := Lib.hid (HB.out.trans (hb3.mono HR.out.hB)); have HR := Lib.hid (HR.out.later hb3); clear hb3 x0 x1 x2 x3 x4 x5 x6 x7 x8 x9 x10 n10 n11 hq0; obtain ⟨x0, x1, x2, x3, x4, x5, x6, x7, x8, x9, x10⟩ := HX.out.elev; obtain ⟨n0, n1, n2, n3, n4, n5, n6, n7, n8, n9, n10, n11⟩ := HR.out.cells; clear n0 n1 n2 n3 n4 n5 n6 n7 n8 n9; have hq0 := HX.out.lt) | (go_at_call 41; (with_reducible refine (isBetween_b true B g c v S N gs gl W L q a m d r _ HR.out HW.out H3.out).mono ?_); rintro e w4 ⟨rfl, hb4⟩; have HX := Lib.hid (HX.out.later hb4); have HW := Lib.hid (HW.out.keep (hb4.mono HR.out.hB)); have HB := Lib.hid (HB.out.trans (hb4.mono HR.out.hB)); have HR := Lib.hid (HR.out.later hb4); clear hb4 x0 x1 x2 x3 x4 x5 x6 x7 x8 x9 x10 n10 n11 hq0; obtain ⟨x0, x1, x2, x3, x4, x5, x6, x7, x8, x9, x10⟩ := HX.out.elev; obtain ⟨n0, n1, n2, n3, n4, n5, n6, n7, n8, n9, n10, n11⟩ := HR.out.cells; clear n0 n1 n2 n3 n4 n5 n6 n7 n8 n9; have hq0 := HX.out.lt))
  have HMS := Lib.hid HR.out.ms
  have HML := Lib.hid HR.out.ml
  have HSS := Lib.hid HR.out.sS
  have HSN := Lib.hid HR.out.sN
  have hn1 : 1 ≤ a.2.1 := by have := H1N.out; omega
  obtain ⟨b, off, hab, hbl, _⟩ := HW.out.args.at_ (i := 0) hn1
  have HAB := Lib.hid HW.out.args
  rw [hab] at HAB x2
  have HT1 := Lib.hid (HAB.out.takeS (s := 1) hn1)
  have hac : a.2.1 ≤ a.2.2 := HAB.out.2.1
  have HT2 := Lib.hid (HAB.out.drop1 hn1)
  have hc2 : ¬ a.2.2 ≤ 1 := by omega
  clear hab
  go_quiet ((first | (go_at_call 19; with_reducible exact Calls.quiet_of_same (allW_q (some ⟨b, off, none⟩) 1 a.2.2 B (q.args.take 1) gs S W true _ _ HT1.out HMS.out HSS.out HA.out)) | (go_at_call 19; with_reducible exact Calls.quiet_of_same (allW_q (some ⟨b, off + 1, none⟩) (a.2.1 - 1) (a.2.2 - 1) B (q.args.drop 1) gl N L true _ _ HT2.out HML.out HSN.out HD.out))))
  go_upto_region 6 with fail
  generalize hw5 : World.drewN _ _ = w5
  have HB5 := Lib.hid (show Below B w w5 from by rw [← hw5]; exact below_drewN HB.out)
  have HR5 := Lib.hid (show Rd w5 B g c v S N gs gl W L from by rw [← hw5]; exact HR.out.drewN)
  have HX5 := Lib.hid (show Blk w5 w.heap.size 70 (ics q a m d r) from by rw [← hw5]; exact HX.out)
  clear hw5 x0 x1 x2 x3 x4 x5 x6 x7 x8 x9 x10 n10 n11
  have n11 := HR5.out.blk.cell 11 rfl
  obtain ⟨x0, x1, x2, x3, x4, x5, x6, x7, x8, x9, x10⟩ := HX5.out.elev
  go_quiet ((go_at_call 40; exact Calls.quiet_of_same (write_no gl N q.dst _ HI.out)))
  go_wp2
  go_ret
  exact ⟨false, rfl, by rw [HV.out, H1.out, H2.out, H3.out, HA.out, HD.out, HKD.out, HI.out]; simp, (fun h => by cases h), below_drewN HB5.out⟩
set_option maxHeartbeats 1000000 in
theorem cr_fT (B g : Nat) (c : CodeM) (v : CodeV) (S N gs gl : Nat) (W L : List Int) (q : InsP) (a m d r : Option Addr × Nat × Nat) (w : World) (hr : Rd w B g c v S N gs gl W L) (hx : InsW w B q a m d r) (l : Nat) (hn : nLn q.op = some (1, l)) (hc : ¬ a.2.2 = 1) (h1 : a.2.1 = 1 + l) (h2 : plK q.op q.k c.ins c.outs v.mems.2.1 v.conts.2.1 c.crosses = true) (h3 : (gdB S W q.guard && decide (r.2.1 = 0)) = true) (ha : (q.args.take 1).all (wrB S W) = true) (hd : (q.args.drop 1).all (wrB N L) = true) (hk : ¬ q.op = opAsk) (hi : inB q.dst N = true) : Calls Try.prog 24 #[.pointer (some ⟨g, 0, none⟩), .agg #[.string q.op, .int .i64 q.dst, .slice a.1 a.2.1 a.2.2, .int .i64 q.k, .int .i64 q.lit.kind, .bool q.lit.neg, .slice m.1 m.2.1 m.2.2, .slice d.1 d.2.1 d.2.2, .string q.lit.name, .int .i64 q.guard, .slice r.1 r.2.1 r.2.2]] w (CrPost B g c v S N gs gl W L q w) := by
  obtain ⟨W1, hW1⟩ : ∃ W1, W1 = w.alloc (.cells #[.string q.op, .int .i64 q.dst, .slice a.1 a.2.1 a.2.2, .int .i64 q.k, .int .i64 q.lit.kind, .bool q.lit.neg, .slice m.1 m.2.1 m.2.2, .slice d.1 d.2.1 d.2.2, .string q.lit.name, .int .i64 q.guard, .slice r.1 r.2.1 r.2.2] 70) := ⟨_, rfl⟩
  have hb1 : Below w.heap.size w W1 := by rw [hW1]; exact (Below.refl _ _).alloc (Nat.le_refl _) _
  have HX := Lib.hid (show Blk W1 w.heap.size 70 (ics q a m d r) from by rw [hW1]; exact Blk.new _ _ _)
  have HR := Lib.hid (hr.later hb1)
  have HB := Lib.hid (hb1.mono hr.hB)
  have HW := Lib.hid (hx.keep HB.out)
  have HV := Lib.hid (cr_eq hn hr hx)
  have HGW : Hid (gs < w.heap.size) := Lib.hid hr.ms.lt
  obtain ⟨hs1, hl2⟩ := nLn_le hn
  have HN := Lib.hid hn
  clear hn
  have hma := hx.args.len_le
  have hmr := hx.resets.len_le
  have HMA := Lib.hid hma
  have hq0 : w.heap.size < W1.heap.size := HX.out.lt
  have H1 := Lib.hid (decide_eq_true h1)
  have g1 : ((a.2.1 : Int) == 1 + (l : Int)) = true := by rw [beq_iff_eq]; omega
  have g2 : ((a.2.1 : Int) != 1 + (l : Int)) = false := by show (!(_ == _)) = _; rw [g1]; rfl
  have H1N := Lib.hid h1
  clear h1
  have g3 := str_no (l := [97, 115, 107]) hk
  have HGL : Hid (gl < w.heap.size) := Lib.hid hr.ml.lt
  have H2 := Lib.hid h2
  clear h2
  have H3 := Lib.hid h3
  clear h3
  have HA := Lib.hid ha
  clear ha
  have HD := Lib.hid hd
  clear hd
  have HK := Lib.hid hk
  have HKD := Lib.hid (decide_eq_false hk)
  clear hk
  obtain ⟨j, hj, hjS⟩ := inB_yes hi
  have HI := Lib.hid hi
  have HJ := Lib.hid hj
  clear hi hj
  unfold maxLen at hma hmr
  obtain ⟨x0, x1, x2, x3, x4, x5, x6, x7, x8, x9, x10⟩ := HX.out.elev
  obtain ⟨n0, n1, n2, n3, n4, n5, n6, n7, n8, n9, n10, n11⟩ := HR.out.cells
  clear n0 n1 n2 n3 n4 n5 n6 n7 n8 n9 hb1 hr hx
  go_enter Try.func24, Try.ntmps24
  go_upto_region 1 with fail
  rw [← hW1]
  clear hW1
  go_upto_region 4 with (first | (go_at_call 42; (with_reducible refine (opd_b q.op 1 l _ HN.out).mono ?_); rintro e w4 ⟨rfl, rfl⟩) | (go_at_call 35; (with_reducible refine (hasPlace_b c v B g S N gs gl W L q a m d r true _ HR.out H2.out).mono ?_); rintro e w3 ⟨rfl, hb3⟩; have HX := Lib.hid (HX.out.later hb3); have HW := Lib.hid (HW.out.keep (hb3.mono HR.out.hB)); have HB := Lib.hid (HB.out.trans (hb3.mono HR.out.hB)); have HR := Lib.hid (HR.out.later hb3); clear hb3 x0 x1 x2 x3 x4 x5 x6 x7 x8 x9 x10 n10 n11 hq0; obtain ⟨x0, x1, x2, x3, x4, x5, x6, x7, x8, x9, x10⟩ := HX.out.elev; obtain ⟨n0, n1, n2, n3, n4, n5, n6, n7, n8, n9, n10, n11⟩ := HR.out.cells; clear n0 n1 n2 n3 n4 n5 n6 n7 n8 n9; have hq0 := HX.out.lt) | (go_at_call 41; (with_reducible refine (isBetween_b true B g c v S N gs gl W L q a m d r _ HR.out HW.out H3.out).mono ?_); rintro e w4 ⟨rfl, hb4⟩; have HX := Lib.hid (HX.out.later hb4); have HW := Lib.hid (HW.out.keep (hb4.mono HR.out.hB)); have HB := Lib.hid (HB.out.trans (hb4.mono HR.out.hB)); have HR := Lib.hid (HR.out.later hb4); clear hb4 x0 x1 x2 x3 x4 x5 x6 x7 x8 x9 x10 n10 n11 hq0; obtain ⟨x0, x1, x2, x3, x4, x5, x6, x7, x8, x9, x10⟩ := HX.out.elev; obtain ⟨n0, n1, n2, n3, n4, n5, n6, n7, n8, n9, n10, n11⟩ := HR.out.cells; clear n0 n1 n2 n3 n4 n5 n6 n7 n8 n9; have hq0 := HX.out.lt))
  have HMS := Lib.hid HR.out.ms
  have HML := Lib.hid HR.out.ml
  have HSS := Lib.hid HR.out.sS
  have HSN := Lib.hid HR.out.sN
  have hn1 : 1 ≤ a.2.1 := by have := H1N.out; omega
  obtain ⟨b, off, hab, hbl, _⟩ := HW.out.args.at_ (i := 0) hn1
  have HAB := Lib.hid HW.out.args
  rw [hab] at HAB x2
  have HT1 := Lib.hid (HAB.out.takeS (s := 1) hn1)
  have hac : a.2.1 ≤ a.2.2 := HAB.out.2.1
  have HT2 := Lib.hid (HAB.out.drop1 hn1)
  have hc2 : ¬ a.2.2 ≤ 1 := by omega
  clear hab
  go_quiet ((first | (go_at_call 19; with_reducible exact Calls.quiet_of_same (allW_q (some ⟨b, off, none⟩) 1 a.2.2 B (q.args.take 1) gs S W true _ _ HT1.out HMS.out HSS.out HA.out)) | (go_at_call 19; with_reducible exact Calls.quiet_of_same (allW_q (some ⟨b, off + 1, none⟩) (a.2.1 - 1) (a.2.2 - 1) B (q.args.drop 1) gl N L true _ _ HT2.out HML.out HSN.out HD.out))))
  go_upto_region 6 with fail
  generalize hw5 : World.drewN _ _ = w5
  have HB5 := Lib.hid (show Below B w w5 from by rw [← hw5]; exact below_drewN HB.out)
  have HR5 := Lib.hid (show Rd w5 B g c v S N gs gl W L from by rw [← hw5]; exact HR.out.drewN)
  have HX5 := Lib.hid (show Blk w5 w.heap.size 70 (ics q a m d r) from by rw [← hw5]; exact HX.out)
  clear hw5 x0 x1 x2 x3 x4 x5 x6 x7 x8 x9 x10 n10 n11
  have HR6 := Lib.hid HR5.out.drew
  have HX6 := Lib.hid (show Blk w5.drew w.heap.size 70 (ics q a m d r) from HX5.out)
  have HP := Lib.hid (show w5.drew.cell? ⟨g, 11, none⟩ = some (.slice (some ⟨gl, 0, none⟩) N N) ∧ w5.drew.cell? ⟨w.heap.size, 0, none⟩ = some (.string q.op) ∧ w5.drew.cell? ⟨w.heap.size, 1, none⟩ = some (.int .i64 (j : Int)) from ⟨HR6.out.blk.cell 11 rfl, HX6.out.cell 0 rfl, by rw [← HJ.out]; exact HX6.out.cell 1 rfl⟩)
  go_region_held3 (fun w' => w'.cell? ⟨g, 11, none⟩ = some (.slice (some ⟨gl, 0, none⟩) N N) ∧ w'.cell? ⟨w.heap.size, 0, none⟩ = some (.string q.op) ∧ w'.cell? ⟨w.heap.size, 1, none⟩ = some (.int .i64 (j : Int))) (first | with_reducible exact HP.out | exact HPa.out) (first
    | (go_at_call 40; (with_reducible refine (write_yes gl N L j _ HR6.out.ml HSN.out (by rw [← HJ.out]; exact HI.out)).mono ?_); rintro e w7 ⟨rfl, rfl⟩; have HR7 := Lib.hid (HR6.out.putL j); have HPa := Lib.hid (show (w5.drew.setCell ⟨gl, j, none⟩ (.bool true)).cell? ⟨g, 11, none⟩ = some (.slice (some ⟨gl, 0, none⟩) N N) ∧ (w5.drew.setCell ⟨gl, j, none⟩ (.bool true)).cell? ⟨w.heap.size, 0, none⟩ = some (.string q.op) ∧ (w5.drew.setCell ⟨gl, j, none⟩ (.bool true)).cell? ⟨w.heap.size, 1, none⟩ = some (.int .i64 (j : Int)) from ⟨HR7.out.blk.cell 11 rfl, (World.cell?_of_block (Below.heap_setCell _ _ _ w.heap.size (Nat.ne_of_gt HGL.out))).trans HP.out.2.1, (World.cell?_of_block (Below.heap_setCell _ _ _ w.heap.size (Nat.ne_of_gt HGL.out))).trans HP.out.2.2⟩)))
  go_wp2
  go_ret
  exact ⟨true, rfl, by rw [HV.out, H1.out, H2.out, H3.out, HA.out, HD.out, HKD.out, HI.out]; simp, fun _ => by unfold lNext; rw [if_neg HK.out, HJ.out]; exact HR6.out.putL j, HB5.out.drew.setCell HR5.out.hl _⟩
theorem cross_t (B g : Nat) (c : CodeM) (v : CodeV) (S N gs gl : Nat) (W L : List Int) (q : InsP) (a m d r : Option Addr × Nat × Nat) (w : World) (hr : Rd w B g c v S N gs gl W L) (hx : InsW w B q a m d r) : Calls Try.prog 24 #[.pointer (some ⟨g, 0, none⟩), .agg #[.string q.op, .int .i64 q.dst, .slice a.1 a.2.1 a.2.2, .int .i64 q.k, .int .i64 q.lit.kind, .bool q.lit.neg, .slice m.1 m.2.1 m.2.2, .slice d.1 d.2.1 d.2.2, .string q.lit.name, .int .i64 q.guard, .slice r.1 r.2.1 r.2.2]] w (CrPost B g c v S N gs gl W L q w) := by
  cases hn : nLn q.op with
  | none => exact cr_0 B g c v S N gs gl W L q a m d r w hr hx hn
  | some p =>
  obtain ⟨s, l⟩ := p
  by_cases h1 : a.2.1 = s + l
  · cases h2 : plK q.op q.k c.ins c.outs v.mems.2.1 v.conts.2.1 c.crosses with
    | false => exact cr_2 B g c v S N gs gl W L q a m d r w hr hx s l hn h1 h2
    | true =>
    cases h3 : (gdB S W q.guard && decide (r.2.1 = 0)) with
    | false => exact cr_3 B g c v S N gs gl W L q a m d r w hr hx s l hn h1 h2 h3
    | true =>
    have hs := (nLn_le hn).1
    rcases Nat.eq_zero_or_pos s with h0 | h0
    · subst h0
      cases ha : (q.args.take 0).all (wrB S W) with
      | false => exact cr_zA B g c v S N gs gl W L q a m d r w hr hx l hn h1 h2 h3 ha
      | true =>
      cases hd : (q.args.drop 0).all (wrB N L) with
      | false => exact cr_zD B g c v S N gs gl W L q a m d r w hr hx l hn h1 h2 h3 ha hd
      | true =>
      by_cases hk : q.op = opAsk
      · exact cr_zK B g c v S N gs gl W L q a m d r w hr hx l hn h1 h2 h3 ha hd hk
      cases hi : inB q.dst N with
      | false => exact cr_zF B g c v S N gs gl W L q a m d r w hr hx l hn h1 h2 h3 ha hd hk hi
      | true => exact cr_zT B g c v S N gs gl W L q a m d r w hr hx l hn h1 h2 h3 ha hd hk hi
    · obtain rfl : s = 1 := by omega
      by_cases hc : a.2.2 = 1
      · cases ha : (q.args.take 1).all (wrB S W) with
        | false => exact cr_eA B g c v S N gs gl W L q a m d r w hr hx l hn hc h1 h2 h3 ha
        | true =>
        cases hd : (q.args.drop 1).all (wrB N L) with
        | false => exact cr_eD B g c v S N gs gl W L q a m d r w hr hx l hn hc h1 h2 h3 ha hd
        | true =>
        by_cases hk : q.op = opAsk
        · exact cr_eK B g c v S N gs gl W L q a m d r w hr hx l hn hc h1 h2 h3 ha hd hk
        cases hi : inB q.dst N with
        | false => exact cr_eF B g c v S N gs gl W L q a m d r w hr hx l hn hc h1 h2 h3 ha hd hk hi
        | true => exact cr_eT B g c v S N gs gl W L q a m d r w hr hx l hn hc h1 h2 h3 ha hd hk hi
      · cases ha : (q.args.take 1).all (wrB S W) with
        | false => exact cr_fA B g c v S N gs gl W L q a m d r w hr hx l hn hc h1 h2 h3 ha
        | true =>
        cases hd : (q.args.drop 1).all (wrB N L) with
        | false => exact cr_fD B g c v S N gs gl W L q a m d r w hr hx l hn hc h1 h2 h3 ha hd
        | true =>
        by_cases hk : q.op = opAsk
        · exact cr_fK B g c v S N gs gl W L q a m d r w hr hx l hn hc h1 h2 h3 ha hd hk
        cases hi : inB q.dst N with
        | false => exact cr_fF B g c v S N gs gl W L q a m d r w hr hx l hn hc h1 h2 h3 ha hd hk hi
        | true => exact cr_fT B g c v S N gs gl W L q a m d r w hr hx l hn hc h1 h2 h3 ha hd hk hi
  · exact cr_1 B g c v S N gs gl W L q a m d r w hr hx s l hn h1

end Go.Proofs.Ytpcpbpinhdbjiaa

namespace Go.Proofs.Ytpcpbpinhdbjiaa
set_option linter.unusedVariables false
set_option linter.unusedSimpArgs false
set_option maxRecDepth 100000
open Go.RowKit

theorem wTo_next {l : List InsP} {k : Nat} {x : InsP} (h : l[k]? = some x) : wNext (wTo (l.take k)) x = wTo (l.take (k + 1)) := by
  rw [take_snoc h]
  unfold wNext
  by_cases he : isEnd x.op = true
  · rw [if_pos he, wTo_end he]
  · rw [if_neg he, wTo_eq (by simpa using he)]
theorem lTo_next {l : List InsP} {k : Nat} {x : InsP} (h : l[k]? = some x) : lNext (lTo (l.take k)) x = lTo (l.take (k + 1)) := by
  rw [take_snoc h]
  unfold lNext
  by_cases he : x.op = opAsk
  · rw [if_pos he, lTo_ask he]
  · rw [if_neg he, lTo_line he]
/-- all of a body are right -/
def OkS (c : CodeM) (n : Nat) : Prop := ∀ (i : Nat) (x : InsP), i < n → c.step[i]? = some x → stB c (wTo (c.step.take i)) x = true
def OkD (c : CodeM) (n : Nat) : Prop := ∀ (i : Nat) (x : InsP), i < n → c.deriv[i]? = some x → drB c (wTo c.step) x = true
def OkX (c : CodeM) (n : Nat) : Prop := ∀ (i : Nat) (x : InsP), i < n → c.cross[i]? = some x → crB c (wTo c.step) (lTo (c.cross.take i)) x = true
theorem OkS.next {c : CodeM} {k : Nat} {x : InsP} (h : OkS c k) (hx : c.step[k]? = some x) (hb : stB c (wTo (c.step.take k)) x = true) : OkS c (k + 1) := by
  intro i y hi hy
  rcases Nat.lt_or_ge i k with q | q
  · exact h i y q hy
  · obtain rfl : i = k := by omega
    rw [hx] at hy; injection hy with hy; subst hy; exact hb
theorem OkD.next {c : CodeM} {k : Nat} {x : InsP} (h : OkD c k) (hx : c.deriv[k]? = some x) (hb : drB c (wTo c.step) x = true) : OkD c (k + 1) := by
  intro i y hi hy
  rcases Nat.lt_or_ge i k with q | q
  · exact h i y q hy
  · obtain rfl : i = k := by omega
    rw [hx] at hy; injection hy with hy; subst hy; exact hb
theorem OkX.next {c : CodeM} {k : Nat} {x : InsP} (h : OkX c k) (hx : c.cross[k]? = some x) (hb : crB c (wTo c.step) (lTo (c.cross.take k)) x = true) : OkX c (k + 1) := by
  intro i y hi hy
  rcases Nat.lt_or_ge i k with q | q
  · exact h i y q hy
  · obtain rfl : i = k := by omega
    rw [hx] at hy; injection hy with hy; subst hy; exact hb
theorem step_no (B g : Nat) (c : CodeM) (v : CodeV) (S N gs gl : Nat) (W L : List Int) (q : InsP) (a m d r : Option Addr × Nat × Nat) (w : World) (hr : Rd w B g c v S N gs gl W L) (hx : InsW w B q a m d r) (h : stB c W q = false) : Calls Try.prog 22 #[.pointer (some ⟨g, 0, none⟩), .agg #[.string q.op, .int .i64 q.dst, .slice a.1 a.2.1 a.2.2, .int .i64 q.k, .int .i64 q.lit.kind, .bool q.lit.neg, .slice m.1 m.2.1 m.2.2, .slice d.1 d.2.1 d.2.2, .string q.lit.name, .int .i64 q.guard, .slice r.1 r.2.1 r.2.2]] w fun e w' => e = .returned (.bool false) ∧ Below B w w' :=
  (step_t B g c v S N gs gl W L q a m d r w hr hx).mono fun e w' ⟨b, h1, h2, _, h4⟩ => ⟨by rw [h1, ← h2, h], h4⟩
theorem step_yes (B g : Nat) (c : CodeM) (v : CodeV) (S N gs gl : Nat) (W L : List Int) (q : InsP) (a m d r : Option Addr × Nat × Nat) (w : World) (hr : Rd w B g c v S N gs gl W L) (hx : InsW w B q a m d r) (h : stB c W q = true) : Calls Try.prog 22 #[.pointer (some ⟨g, 0, none⟩), .agg #[.string q.op, .int .i64 q.dst, .slice a.1 a.2.1 a.2.2, .int .i64 q.k, .int .i64 q.lit.kind, .bool q.lit.neg, .slice m.1 m.2.1 m.2.2, .slice d.1 d.2.1 d.2.2, .string q.lit.name, .int .i64 q.guard, .slice r.1 r.2.1 r.2.2]] w fun e w' => e = .returned (.bool true) ∧ Rd w' B g c v S N gs gl (wNext W q) L ∧ Below B w w' :=
  (step_t B g c v S N gs gl W L q a m d r w hr hx).mono fun e w' ⟨b, h1, h2, h3, h4⟩ => ⟨by rw [h1, ← h2, h], h3 (by rw [← h2, h]), h4⟩
theorem cross_no (B g : Nat) (c : CodeM) (v : CodeV) (S N gs gl : Nat) (W L : List Int) (q : InsP) (a m d r : Option Addr × Nat × Nat) (w : World) (hr : Rd w B g c v S N gs gl W L) (hx : InsW w B q a m d r) (h : crB c W L q = false) : Calls Try.prog 24 #[.pointer (some ⟨g, 0, none⟩), .agg #[.string q.op, .int .i64 q.dst, .slice a.1 a.2.1 a.2.2, .int .i64 q.k, .int .i64 q.lit.kind, .bool q.lit.neg, .slice m.1 m.2.1 m.2.2, .slice d.1 d.2.1 d.2.2, .string q.lit.name, .int .i64 q.guard, .slice r.1 r.2.1 r.2.2]] w fun e w' => e = .returned (.bool false) ∧ Below B w w' :=
  (cross_t B g c v S N gs gl W L q a m d r w hr hx).mono fun e w' ⟨b, h1, h2, _, h4⟩ => ⟨by rw [h1, ← h2, h], h4⟩
theorem cross_yes (B g : Nat) (c : CodeM) (v : CodeV) (S N gs gl : Nat) (W L : List Int) (q : InsP) (a m d r : Option Addr × Nat × Nat) (w : World) (hr : Rd w B g c v S N gs gl W L) (hx : InsW w B q a m d r) (h : crB c W L q = true) : Calls Try.prog 24 #[.pointer (some ⟨g, 0, none⟩), .agg #[.string q.op, .int .i64 q.dst, .slice a.1 a.2.1 a.2.2, .int .i64 q.k, .int .i64 q.lit.kind, .bool q.lit.neg, .slice m.1 m.2.1 m.2.2, .slice d.1 d.2.1 d.2.2, .string q.lit.name, .int .i64 q.guard, .slice r.1 r.2.1 r.2.2]] w fun e w' => e = .returned (.bool true) ∧ Rd w' B g c v S N gs gl W (lNext L q) ∧ Below B w w' :=
  (cross_t B g c v S N gs gl W L q a m d r w hr hx).mono fun e w' ⟨b, h1, h2, h3, h4⟩ => ⟨by rw [h1, ← h2, h], h3 (by rw [← h2, h]), h4⟩
theorem deriv_b (b : Bool) (B g : Nat) (c : CodeM) (v : CodeV) (S N gs gl : Nat) (W L : List Int) (q : InsP) (a m d r : Option Addr × Nat × Nat) (w : World) (hr : Rd w B g c v S N gs gl W L) (hx : InsW w B q a m d r) (h : drB c W q = b) : Calls Try.prog 23 #[.pointer (some ⟨g, 0, none⟩), .agg #[.string q.op, .int .i64 q.dst, .slice a.1 a.2.1 a.2.2, .int .i64 q.k, .int .i64 q.lit.kind, .bool q.lit.neg, .slice m.1 m.2.1 m.2.2, .slice d.1 d.2.1 d.2.2, .string q.lit.name, .int .i64 q.guard, .slice r.1 r.2.1 r.2.2]] w fun e w' => e = .returned (.bool b) ∧ Below w.heap.size w w' :=
  (deriv_t B g c v S N gs gl W L q a m d r w hr hx).mono fun e w' ⟨h1, h2⟩ => ⟨by rw [h1, h], h2⟩
set_option maxHeartbeats 2000000 in
theorem allS_t (B g : Nat) (c : CodeM) (v : CodeV) (S N gs gl : Nat) (w : World) (hr : Rd w B g c v S N gs gl (wTo (c.step.take 0)) []) :
    Calls Try.prog 21 #[.slice v.step.1 v.step.2.1 v.step.2.2, .func (.func 22) #[.pointer (some ⟨g, 0, none⟩)] #[]] w fun e w' => ∃ b, e = .returned (.bool b) ∧ (b = true → OkS c v.step.2.1 ∧ Rd w' B g c v S N gs gl (wTo (c.step.take v.step.2.1)) []) ∧ (b = false → ¬ OkS c v.step.2.1) ∧ Below B w w' := by
  have hm := hr.is.step.len_le
  have HR := Lib.hid hr
  have HBW := Lib.hid hr.hB
  clear hr
  unfold maxLen at hm
  go_enter Try.func21, Try.ntmps21
  go_wp2_with fail
  go_loopw [9] (fun t wr => ∃ k : Nat, k ≤ v.step.2.1 ∧ t = .int .i64 k ∧ Hid (OkS c k) ∧ Hid (Rd wr B g c v S N gs gl (wTo (c.step.take k)) []) ∧ Hid (Below B w wr)) (fun t _ => v.step.2.1 - (intOf t).toNat)
  case atStart => exact ⟨0, Nat.zero_le _, rfl, Lib.hid (fun i x hi => by omega), HR, Lib.hid (Below.refl _ _)⟩
  case round =>
    obtain ⟨k, hk, rfl, HO, HRr, HB⟩ := hrel
    by_cases hlt : k < v.step.2.1
    · obtain ⟨x, hx⟩ := HRr.out.is.step.ex hlt
      obtain ⟨b, off, ha, hbl, hat⟩ := HRr.out.is.step.at_ hx
      obtain ⟨a, m, d, r, hiw, _, _, _, x0, x1, x2, x3, x4, x5, x6, x7, x8, x9, x10⟩ := hat.cells
      have HX := Lib.hid hx
      have HIW := Lib.hid (hiw.keep ((Below.refl B wr).alloc HRr.out.hB (.cells #[.string x.op, .int .i64 x.dst, .slice a.1 a.2.1 a.2.2, .int .i64 x.k, .int .i64 x.lit.kind, .bool x.lit.neg, .slice m.1 m.2.1 m.2.2, .slice d.1 d.2.1 d.2.2, .string x.lit.name, .int .i64 x.guard, .slice r.1 r.2.1 r.2.2] 70)))
      have HR1 := Lib.hid (HRr.out.alloc (.cells #[.string x.op, .int .i64 x.dst, .slice a.1 a.2.1 a.2.2, .int .i64 x.k, .int .i64 x.lit.kind, .bool x.lit.neg, .slice m.1 m.2.1 m.2.2, .slice d.1 d.2.1 d.2.2, .string x.lit.name, .int .i64 x.guard, .slice r.1 r.2.1 r.2.2] 70))
      have HB1 := Lib.hid (HB.out.alloc HRr.out.hB (.cells #[.string x.op, .int .i64 x.dst, .slice a.1 a.2.1 a.2.2, .int .i64 x.k, .int .i64 x.lit.kind, .bool x.lit.neg, .slice m.1 m.2.1 m.2.2, .slice d.1 d.2.1 d.2.2, .string x.lit.name, .int .i64 x.guard, .slice r.1 r.2.1 r.2.2] 70))
      have hbw : b < wr.heap.size := Nat.lt_of_lt_of_le hbl HRr.out.hB
      have hkI : (k : Int) < (v.step.2.1 : Int) := by omega
      obtain ⟨EA, hEA⟩ : ∃ EA, EA = v.step.1 := ⟨_, rfl⟩
      rw [← hEA] at ha ⊢
      clear hEA
      subst ha
      clear hx hiw hat hbl
      cases hs : stB c (wTo (c.step.take k)) x with
      | false =>
        have HS := Lib.hid hs
        clear hs
        go_wp2_with (go_at_call 22; (with_reducible refine (step_no B g c v S N gs gl (wTo (c.step.take k)) [] x a m d r _ HR1.out HIW.out HS.out).mono ?_); rintro e w2 ⟨rfl, hb2⟩)
        go_ret
        exact ⟨false, rfl, (fun h => by cases h), (fun _ h => by have := h k x hlt HX.out; rw [HS.out] at this; cases this), HB1.out.trans hb2⟩
      | true =>
        have HS := Lib.hid hs
        clear hs
        go_wp2_with (go_at_call 22; (with_reducible refine (step_yes B g c v S N gs gl (wTo (c.step.take k)) [] x a m d r _ HR1.out HIW.out HS.out).mono ?_); rintro e w2 ⟨rfl, hr2, hb2⟩)
        go_roundw
        case rel => exact ⟨k + 1, by omega, by go_num, Lib.hid (HO.out.next HX.out HS.out), Lib.hid (by rw [← wTo_next HX.out]; exact hr2), Lib.hid (HB1.out.trans hb2)⟩
        case measure => simp [intOf]; omega
    · obtain rfl : k = v.step.2.1 := by omega
      go_wp2
      go_ret
      exact ⟨true, rfl, (fun _ => ⟨HO.out, HRr.out⟩), (fun h => by cases h), HB.out⟩
set_option maxHeartbeats 2000000 in
theorem allX_t (B g : Nat) (c : CodeM) (v : CodeV) (S N gs gl : Nat) (w : World) (hr : Rd w B g c v S N gs gl (wTo c.step) (lTo (c.cross.take 0))) :
    Calls Try.prog 21 #[.slice v.cross.1 v.cross.2.1 v.cross.2.2, .func (.func 24) #[.pointer (some ⟨g, 0, none⟩)] #[]] w fun e w' => ∃ b, e = .returned (.bool b) ∧ (b = true → OkX c v.cross.2.1 ∧ Rd w' B g c v S N gs gl (wTo c.step) (lTo (c.cross.take v.cross.2.1))) ∧ (b = false → ¬ OkX c v.cross.2.1) ∧ Below B w w' := by
  have hm := hr.is.cross.len_le
  have HR := Lib.hid hr
  have HBW := Lib.hid hr.hB
  clear hr
  unfold maxLen at hm
  go_enter Try.func21, Try.ntmps21
  go_wp2_with fail
  go_loopw [9] (fun t wr => ∃ k : Nat, k ≤ v.cross.2.1 ∧ t = .int .i64 k ∧ Hid (OkX c k) ∧ Hid (Rd wr B g c v S N gs gl (wTo c.step) (lTo (c.cross.take k))) ∧ Hid (Below B w wr)) (fun t _ => v.cross.2.1 - (intOf t).toNat)
  case atStart => exact ⟨0, Nat.zero_le _, rfl, Lib.hid (fun i x hi => by omega), HR, Lib.hid (Below.refl _ _)⟩
  case round =>
    obtain ⟨k, hk, rfl, HO, HRr, HB⟩ := hrel
    by_cases hlt : k < v.cross.2.1
    · obtain ⟨x, hx⟩ := HRr.out.is.cross.ex hlt
      obtain ⟨b, off, ha, hbl, hat⟩ := HRr.out.is.cross.at_ hx
      obtain ⟨a, m, d, r, hiw, _, _, _, x0, x1, x2, x3, x4, x5, x6, x7, x8, x9, x10⟩ := hat.cells
      have HX := Lib.hid hx
      have HIW := Lib.hid (hiw.keep ((Below.refl B wr).alloc HRr.out.hB (.cells #[.string x.op, .int .i64 x.dst, .slice a.1 a.2.1 a.2.2, .int .i64 x.k, .int .i64 x.lit.kind, .bool x.lit.neg, .slice m.1 m.2.1 m.2.2, .slice d.1 d.2.1 d.2.2, .string x.lit.name, .int .i64 x.guard, .slice r.1 r.2.1 r.2.2] 70)))
      have HR1 := Lib.hid (HRr.out.alloc (.cells #[.string x.op, .int .i64 x.dst, .slice a.1 a.2.1 a.2.2, .int .i64 x.k, .int .i64 x.lit.kind, .bool x.lit.neg, .slice m.1 m.2.1 m.2.2, .slice d.1 d.2.1 d.2.2, .string x.lit.name, .int .i64 x.guard, .slice r.1 r.2.1 r.2.2] 70))
      have HB1 := Lib.hid (HB.out.alloc HRr.out.hB (.cells #[.string x.op, .int .i64 x.dst, .slice a.1 a.2.1 a.2.2, .int .i64 x.k, .int .i64 x.lit.kind, .bool x.lit.neg, .slice m.1 m.2.1 m.2.2, .slice d.1 d.2.1 d.2.2, .string x.lit.name, .int .i64 x.guard, .slice r.1 r.2.1 r.2.2] 70))
      have hbw : b < wr.heap.size := Nat.lt_of_lt_of_le hbl HRr.out.hB
      have hkI : (k : Int) < (v.cross.2.1 : Int) := by omega
      obtain ⟨EA, hEA⟩ : ∃ EA, EA = v.cross.1 := ⟨_, rfl⟩
      rw [← hEA] at ha ⊢
      clear hEA
      subst ha
      clear hx hiw hat hbl
      cases hs : crB c (wTo c.step) (lTo (c.cross.take k)) x with
      | false =>
        have HS := Lib.hid hs
        clear hs
        go_wp2_with (go_at_call 24; (with_reducible refine (cross_no B g c v S N gs gl (wTo c.step) (lTo (c.cross.take k)) x a m d r _ HR1.out HIW.out HS.out).mono ?_); rintro e w2 ⟨rfl, hb2⟩)
        go_ret
        exact ⟨false, rfl, (fun h => by cases h), (fun _ h => by have := h k x hlt HX.out; rw [HS.out] at this; cases this), HB1.out.trans hb2⟩
      | true =>
        have HS := Lib.hid hs
        clear hs
        go_wp2_with (go_at_call 24; (with_reducible refine (cross_yes B g c v S N gs gl (wTo c.step) (lTo (c.cross.take k)) x a m d r _ HR1.out HIW.out HS.out).mono ?_); rintro e w2 ⟨rfl, hr2, hb2⟩)
        go_roundw
        case rel => exact ⟨k + 1, by omega, by go_num, Lib.hid (HO.out.next HX.out HS.out), Lib.hid (by rw [← lTo_next HX.out]; exact hr2), Lib.hid (HB1.out.trans hb2)⟩
        case measure => simp [intOf]; omega
    · obtain rfl : k = v.cross.2.1 := by omega
      go_wp2
      go_ret
      exact ⟨true, rfl, (fun _ => ⟨HO.out, HRr.out⟩), (fun h => by cases h), HB.out⟩
set_option maxHeartbeats 2000000 in
theorem allD_t (B g : Nat) (c : CodeM) (v : CodeV) (S N gs gl : Nat) (w : World) (hr : Rd w B g c v S N gs gl (wTo c.step) []) :
    Calls Try.prog 21 #[.slice v.deriv.1 v.deriv.2.1 v.deriv.2.2, .func (.func 23) #[.pointer (some ⟨g, 0, none⟩)] #[]] w fun e w' => ∃ b, e = .returned (.bool b) ∧ (b = true → OkD c v.deriv.2.1 ∧ Rd w' B g c v S N gs gl (wTo c.step) []) ∧ (b = false → ¬ OkD c v.deriv.2.1) ∧ Below B w w' := by
  have hm := hr.is.deriv.len_le
  have HR := Lib.hid hr
  have HBW := Lib.hid hr.hB
  clear hr
  unfold maxLen at hm
  go_enter Try.func21, Try.ntmps21
  go_wp2_with fail
  go_loopw [9] (fun t wr => ∃ k : Nat, k ≤ v.deriv.2.1 ∧ t = .int .i64 k ∧ Hid (OkD c k) ∧ Hid (Rd wr B g c v S N gs gl (wTo c.step) []) ∧ Hid (Below B w wr)) (fun t _ => v.deriv.2.1 - (intOf t).toNat)
  case atStart => exact ⟨0, Nat.zero_le _, rfl, Lib.hid (fun i x hi => by omega), HR, Lib.hid (Below.refl _ _)⟩
  case round =>
    obtain ⟨k, hk, rfl, HO, HRr, HB⟩ := hrel
    by_cases hlt : k < v.deriv.2.1
    · obtain ⟨x, hx⟩ := HRr.out.is.deriv.ex hlt
      obtain ⟨b, off, ha, hbl, hat⟩ := HRr.out.is.deriv.at_ hx
      obtain ⟨a, m, d, r, hiw, _, _, _, x0, x1, x2, x3, x4, x5, x6, x7, x8, x9, x10⟩ := hat.cells
      have HX := Lib.hid hx
      have HIW := Lib.hid (hiw.keep ((Below.refl B wr).alloc HRr.out.hB (.cells #[.string x.op, .int .i64 x.dst, .slice a.1 a.2.1 a.2.2, .int .i64 x.k, .int .i64 x.lit.kind, .bool x.lit.neg, .slice m.1 m.2.1 m.2.2, .slice d.1 d.2.1 d.2.2, .string x.lit.name, .int .i64 x.guard, .slice r.1 r.2.1 r.2.2] 70)))
      have HR1 := Lib.hid (HRr.out.alloc (.cells #[.string x.op, .int .i64 x.dst, .slice a.1 a.2.1 a.2.2, .int .i64 x.k, .int .i64 x.lit.kind, .bool x.lit.neg, .slice m.1 m.2.1 m.2.2, .slice d.1 d.2.1 d.2.2, .string x.lit.name, .int .i64 x.guard, .slice r.1 r.2.1 r.2.2] 70))
      have HB1 := Lib.hid (HB.out.alloc HRr.out.hB (.cells #[.string x.op, .int .i64 x.dst, .slice a.1 a.2.1 a.2.2, .int .i64 x.k, .int .i64 x.lit.kind, .bool x.lit.neg, .slice m.1 m.2.1 m.2.2, .slice d.1 d.2.1 d.2.2, .string x.lit.name, .int .i64 x.guard, .slice r.1 r.2.1 r.2.2] 70))
      have hbw : b < wr.heap.size := Nat.lt_of_lt_of_le hbl HRr.out.hB
      have hkI : (k : Int) < (v.deriv.2.1 : Int) := by omega
      obtain ⟨EA, hEA⟩ : ∃ EA, EA = v.deriv.1 := ⟨_, rfl⟩
      rw [← hEA] at ha ⊢
      clear hEA
      subst ha
      clear hx hiw hat hbl
      cases hs : drB c (wTo c.step) x with
      | false =>
        have HS := Lib.hid hs
        clear hs
        go_wp2_with (go_at_call 23; (with_reducible refine (deriv_b false B g c v S N gs gl (wTo c.step) [] x a m d r _ HR1.out HIW.out HS.out).mono ?_); rintro e w2 ⟨rfl, hb2⟩)
        go_ret
        exact ⟨false, rfl, (fun h => by cases h), (fun _ h => by have := h k x hlt HX.out; rw [HS.out] at this; cases this), HB1.out.trans (hb2.mono HR1.out.hB)⟩
      | true =>
        have HS := Lib.hid hs
        clear hs
        go_wp2_with (go_at_call 23; (with_reducible refine (deriv_b true B g c v S N gs gl (wTo c.step) [] x a m d r _ HR1.out HIW.out HS.out).mono ?_); rintro e w2 ⟨rfl, hb2⟩)
        go_roundw
        case rel => exact ⟨k + 1, by omega, by go_num, Lib.hid (HO.out.next HX.out HS.out), Lib.hid (HR1.out.later hb2), Lib.hid (HB1.out.trans (hb2.mono HR1.out.hB))⟩
        case measure => simp [intOf]; omega
    · obtain rfl : k = v.deriv.2.1 := by omega
      go_wp2
      go_ret
      exact ⟨true, rfl, (fun _ => ⟨HO.out, HRr.out⟩), (fun h => by cases h), HB.out⟩

end Go.Proofs.Ytpcpbpinhdbjiaa

namespace Go.Proofs.Ytpcpbpinhdbjiaa
set_option linter.unusedVariables false
set_option linter.unusedSimpArgs false
set_option maxRecDepth 100000
open Go.RowKit

section
variable {w : World} {B B' b o : Nat}
theorem URow.more {a : Option Addr} {n c : Nat} {xs : List Nat} (h : URow w B a n c xs) (hB : B ≤ B') : URow w B' a n c xs := by
  obtain ⟨h1, h2, h3, h4, h5, h8, b, off, h6, h7⟩ := h
  exact ⟨h1, h2, h3, h4, h5, h8, b, off, h6, fun i hi => ⟨Nat.lt_of_lt_of_le (h7 i hi).1 hB, (h7 i hi).2⟩⟩
theorem SRow.more {α : Type} {sz : Nat} {R : World → Nat → Nat → Nat → α → Prop} {a : Option Addr} {n c : Nat} {xs : List α} (h : SRow sz R w B a n c xs) (hB : B ≤ B') (hR : ∀ b o x, R w B b o x → R w B' b o x) : SRow sz R w B' a n c xs := by
  obtain ⟨h1, h2, h3, b, off, h6, h7⟩ := h
  exact ⟨h1, h2, h3, b, off, h6, fun i x hx => ⟨Nat.lt_of_lt_of_le (h7 i x hx).1 hB, hR b _ x (h7 i x hx).2⟩⟩
theorem IsAt.more {x : List Int} (h : IsAt w B b o x) (hB : B ≤ B') : IsAt w B' b o x := by
  obtain ⟨A, L, C, h1, h2⟩ := h; exact ⟨A, L, C, h1, h2.more hB⟩
theorem UsAt.more {x : List Nat} (h : UsAt w B b o x) (hB : B ≤ B') : UsAt w B' b o x := by
  obtain ⟨A, L, C, h1, h2⟩ := h; exact ⟨A, L, C, h1, h2.more hB⟩
theorem ValAt.more {v : ValM} (h : ValAt w B b o v) (hB : B ≤ B') : ValAt w B' b o v := ⟨h.kind, h.neg, h.mag.more hB, h.den.more hB, h.name⟩
theorem InsAt.more {v : InsP} (h : InsAt w B b o v) (hB : B ≤ B') : InsAt w B' b o v := ⟨h.op, h.dst, h.args.more hB, h.k, h.lit.more hB, h.guard, h.resets.more hB⟩
theorem CodeIs.more {c : CodeM} {v : CodeV} (h : CodeIs w B c v) (hB : B ≤ B') : CodeIs w B' c v :=
  { h with mems := h.mems.more hB fun _ _ _ q => q.more hB, conts := h.conts.more hB fun _ _ _ q => q.more hB, step := h.step.more hB fun _ _ _ q => q.more hB, deriv := h.deriv.more hB fun _ _ _ q => q.more hB, cross := h.cross.more hB fun _ _ _ q => q.more hB }
end
/-- five numbers in a block -/
theorem irow5 {w : World} {g T : Nat} {a b c d e : Int} (h : Blk w g T #[.int .i64 a, .int .i64 b, .int .i64 c, .int .i64 d, .int .i64 e]) : IRow w w.heap.size (some ⟨g, 0, none⟩) 5 5 [a, b, c, d, e] := by
  refine ⟨rfl, Nat.le_refl _, by unfold maxLen; omega, (fun h => by cases h), g, 0, Or.inl rfl, fun i hi => ⟨h.lt, ?_⟩⟩
  rw [Nat.zero_add]
  match i, hi with
  | 0, _ => exact h.cell 0 rfl
  | 1, _ => exact h.cell 1 rfl
  | 2, _ => exact h.cell 2 rfl
  | 3, _ => exact h.cell 3 rfl
  | 4, _ => exact h.cell 4 rfl
/-- the row that make(places, n) lays -/
def zb (n : Nat) : Obj := .cells (List.replicate n (Value.bool false)).toArray 4
theorem zb_mem (w : World) (n : Nat) : BMem (w.alloc (zb n)) w.heap.size (mkB n []) := by
  rw [mkB_nil]
  unfold BMem zb
  rw [heap_alloc_new]
  simp
theorem zb_run (n : Nat) (hn : n ≤ 1000000000) (w : World) : (Instr.makeSlice 79 (.int .i64 (n : Int)) (.int .i64 (n : Int))).run Try.prog w = .ok (.slice (some ⟨w.heap.size, 0, none⟩) n n) (w.alloc (zb n)) := by
  obtain ⟨i, hi, hz0, hz1, hz2⟩ := info_parts Try.info4
  have hr := run_make (P := Try.prog) w 79 4 i (.bool false) Try.underlying79 hi hz0 .i64 .i64 n n (by omega) (Int.le_refl _) (by rw [hz2]; omega) (by omega)
  simp only [Int.toNat_natCast] at hr
  rw [hr]
  congr 2
  unfold zb
  congr 1
  rw [hz1, Nat.mul_one]
  apply Array.ext'
  show (madeCells #[Value.bool false] n).toList = _
  rw [toList_madeCells_one]
theorem OkS_all {c : CodeM} {n : Nat} (hn : c.step.length = n) : OkS c n ↔ ∀ (i : Nat) (x : InsP), c.step[i]? = some x → stB c (wTo (c.step.take i)) x = true :=
  ⟨fun h i x hx => h i x (by rw [← hn]; exact (List.getElem?_eq_some_iff.1 hx).1) hx, fun h i x _ hx => h i x hx⟩
theorem OkD_all {c : CodeM} {n : Nat} (hn : c.deriv.length = n) : OkD c n ↔ ∀ (i : Nat) (x : InsP), c.deriv[i]? = some x → drB c (wTo c.step) x = true :=
  ⟨fun h i x hx => h i x (by rw [← hn]; exact (List.getElem?_eq_some_iff.1 hx).1) hx, fun h i x _ hx => h i x hx⟩
theorem OkX_all {c : CodeM} {n : Nat} (hn : c.cross.length = n) : OkX c n ↔ ∀ (i : Nat) (x : InsP), c.cross[i]? = some x → crB c (wTo c.step) (lTo (c.cross.take i)) x = true :=
  ⟨fun h i x hx => h i x (by rw [← hn]; exact (List.getElem?_eq_some_iff.1 hx).1) hx, fun h i x _ hx => h i x hx⟩
theorem cnt_five {a b c d e : Int} : [a, b, c, d, e].all cntB = true ↔ cntB a = true ∧ cntB b = true ∧ cntB c = true ∧ cntB d = true ∧ cntB e = true := by simp
/-- the reader that Right makes: its slots first, or its lines first -/
theorem rd_a {W : World} {B : Nat} {c : CodeM} {v : CodeV} {S N : Nat} (hi : CodeIs W B c v) (hB : B ≤ W.heap.size) (hS : c.slots = (S : Int)) (hN : c.lines = (N : Int)) (h1 : S ≤ 65536) (h2 : N ≤ 65536) :
    Rd (((W.alloc (zb S)).alloc (zb N)).alloc (.cells #[.int .i64 c.ins, .int .i64 c.outs, .int .i64 c.slots, .int .i64 c.crosses, .int .i64 c.lines, .slice v.mems.1 v.mems.2.1 v.mems.2.2, .slice v.conts.1 v.conts.2.1 v.conts.2.2, .slice v.step.1 v.step.2.1 v.step.2.2, .slice v.deriv.1 v.deriv.2.1 v.deriv.2.2, .slice v.cross.1 v.cross.2.1 v.cross.2.2, .slice (some ⟨W.heap.size, 0, none⟩) S S, .slice (some ⟨W.heap.size + 1, 0, none⟩) N N] 81)) B (W.heap.size + 1 + 1) c v S N W.heap.size (W.heap.size + 1) [] [] := by
  have s1 : (W.alloc (zb S)).heap.size = W.heap.size + 1 := size_alloc _ _
  have s2 : ((W.alloc (zb S)).alloc (zb N)).heap.size = W.heap.size + 1 + 1 := by rw [size_alloc, s1]
  have hb := Blk.new ((W.alloc (zb S)).alloc (zb N)) 81 #[.int .i64 c.ins, .int .i64 c.outs, .int .i64 c.slots, .int .i64 c.crosses, .int .i64 c.lines, .slice v.mems.1 v.mems.2.1 v.mems.2.2, .slice v.conts.1 v.conts.2.1 v.conts.2.2, .slice v.step.1 v.step.2.1 v.step.2.2, .slice v.deriv.1 v.deriv.2.1 v.deriv.2.2, .slice v.cross.1 v.cross.2.1 v.cross.2.2, .slice (some ⟨W.heap.size, 0, none⟩) S S, .slice (some ⟨W.heap.size + 1, 0, none⟩) N N]
  rw [s2] at hb
  have m1 := zb_mem W S
  have m2 := zb_mem (W.alloc (zb S)) N
  rw [s1] at m2
  refine ⟨hb, hi.below ((((Below.refl _ _).alloc hB _).alloc (by rw [s1]; omega) _).alloc (by rw [s2]; omega) _), (m1.alloc _).alloc _, m2.alloc _, by omega, hB, by omega, by omega, by omega, by omega, hS, hN, h1, h2⟩
theorem rd_b {W : World} {B : Nat} {c : CodeM} {v : CodeV} {S N : Nat} (hi : CodeIs W B c v) (hB : B ≤ W.heap.size) (hS : c.slots = (S : Int)) (hN : c.lines = (N : Int)) (h1 : S ≤ 65536) (h2 : N ≤ 65536) :
    Rd (((W.alloc (zb N)).alloc (zb S)).alloc (.cells #[.int .i64 c.ins, .int .i64 c.outs, .int .i64 c.slots, .int .i64 c.crosses, .int .i64 c.lines, .slice v.mems.1 v.mems.2.1 v.mems.2.2, .slice v.conts.1 v.conts.2.1 v.conts.2.2, .slice v.step.1 v.step.2.1 v.step.2.2, .slice v.deriv.1 v.deriv.2.1 v.deriv.2.2, .slice v.cross.1 v.cross.2.1 v.cross.2.2, .slice (some ⟨W.heap.size + 1, 0, none⟩) S S, .slice (some ⟨W.heap.size, 0, none⟩) N N] 81)) B (W.heap.size + 1 + 1) c v S N (W.heap.size + 1) W.heap.size [] [] := by
  have s1 : (W.alloc (zb N)).heap.size = W.heap.size + 1 := size_alloc _ _
  have s2 : ((W.alloc (zb N)).alloc (zb S)).heap.size = W.heap.size + 1 + 1 := by rw [size_alloc, s1]
  have hb := Blk.new ((W.alloc (zb N)).alloc (zb S)) 81 #[.int .i64 c.ins, .int .i64 c.outs, .int .i64 c.slots, .int .i64 c.crosses, .int .i64 c.lines, .slice v.mems.1 v.mems.2.1 v.mems.2.2, .slice v.conts.1 v.conts.2.1 v.conts.2.2, .slice v.step.1 v.step.2.1 v.step.2.2, .slice v.deriv.1 v.deriv.2.1 v.deriv.2.2, .slice v.cross.1 v.cross.2.1 v.cross.2.2, .slice (some ⟨W.heap.size + 1, 0, none⟩) S S, .slice (some ⟨W.heap.size, 0, none⟩) N N]
  rw [s2] at hb
  have m1 := zb_mem W N
  have m2 := zb_mem (W.alloc (zb N)) S
  rw [s1] at m2
  refine ⟨hb, hi.below ((((Below.refl _ _).alloc hB _).alloc (by rw [s1]; omega) _).alloc (by rw [s2]; omega) _), m2.alloc _, (m1.alloc _).alloc _, by omega, by omega, hB, by omega, by omega, by omega, hS, hN, h1, h2⟩
theorem allS_no (B g : Nat) (c : CodeM) (v : CodeV) (S N gs gl : Nat) (w : World) (hr : Rd w B g c v S N gs gl [] []) (h : ¬ OkS c v.step.2.1) :
    Calls Try.prog 21 #[.slice v.step.1 v.step.2.1 v.step.2.2, .func (.func 22) #[.pointer (some ⟨g, 0, none⟩)] #[]] w fun e w' => e = .returned (.bool false) ∧ Below B w w' :=
  (allS_t B g c v S N gs gl w hr).mono fun e w' ⟨b, h1, h2, h3, h4⟩ => by
    cases b with
    | true => exact absurd (h2 rfl).1 h
    | false => exact ⟨h1, h4⟩
theorem allS_yes (B g : Nat) (c : CodeM) (v : CodeV) (S N gs gl : Nat) (w : World) (hr : Rd w B g c v S N gs gl [] []) (h : OkS c v.step.2.1) :
    Calls Try.prog 21 #[.slice v.step.1 v.step.2.1 v.step.2.2, .func (.func 22) #[.pointer (some ⟨g, 0, none⟩)] #[]] w fun e w' => e = .returned (.bool true) ∧ Rd w' B g c v S N gs gl (wTo c.step) [] ∧ Below B w w' :=
  (allS_t B g c v S N gs gl w hr).mono fun e w' ⟨b, h1, h2, h3, h4⟩ => by
    cases b with
    | true => exact ⟨h1, by have h5 := (h2 rfl).2; rw [← hr.is.step.1, List.take_length] at h5; exact h5, h4⟩
    | false => exact absurd h (h3 rfl)
theorem allD_no (B g : Nat) (c : CodeM) (v : CodeV) (S N gs gl : Nat) (w : World) (hr : Rd w B g c v S N gs gl (wTo c.step) []) (h : ¬ OkD c v.deriv.2.1) :
    Calls Try.prog 21 #[.slice v.deriv.1 v.deriv.2.1 v.deriv.2.2, .func (.func 23) #[.pointer (some ⟨g, 0, none⟩)] #[]] w fun e w' => e = .returned (.bool false) ∧ Below B w w' :=
  (allD_t B g c v S N gs gl w hr).mono fun e w' ⟨b, h1, h2, h3, h4⟩ => by
    cases b with
    | true => exact absurd (h2 rfl).1 h
    | false => exact ⟨h1, h4⟩
theorem allD_yes (B g : Nat) (c : CodeM) (v : CodeV) (S N gs gl : Nat) (w : World) (hr : Rd w B g c v S N gs gl (wTo c.step) []) (h : OkD c v.deriv.2.1) :
    Calls Try.prog 21 #[.slice v.deriv.1 v.deriv.2.1 v.deriv.2.2, .func (.func 23) #[.pointer (some ⟨g, 0, none⟩)] #[]] w fun e w' => e = .returned (.bool true) ∧ Rd w' B g c v S N gs gl (wTo c.step) [] ∧ Below B w w' :=
  (allD_t B g c v S N gs gl w hr).mono fun e w' ⟨b, h1, h2, h3, h4⟩ => by
    cases b with
    | true => exact ⟨h1, by exact (h2 rfl).2, h4⟩
    | false => exact absurd h (h3 rfl)
theorem allX_no (B g : Nat) (c : CodeM) (v : CodeV) (S N gs gl : Nat) (w : World) (hr : Rd w B g c v S N gs gl (wTo c.step) []) (h : ¬ OkX c v.cross.2.1) :
    Calls Try.prog 21 #[.slice v.cross.1 v.cross.2.1 v.cross.2.2, .func (.func 24) #[.pointer (some ⟨g, 0, none⟩)] #[]] w fun e w' => e = .returned (.bool false) ∧ Below B w w' :=
  (allX_t B g c v S N gs gl w hr).mono fun e w' ⟨b, h1, h2, h3, h4⟩ => by
    cases b with
    | true => exact absurd (h2 rfl).1 h
    | false => exact ⟨h1, h4⟩
theorem allX_yes (B g : Nat) (c : CodeM) (v : CodeV) (S N gs gl : Nat) (w : World) (hr : Rd w B g c v S N gs gl (wTo c.step) []) (h : OkX c v.cross.2.1) :
    Calls Try.prog 21 #[.slice v.cross.1 v.cross.2.1 v.cross.2.2, .func (.func 24) #[.pointer (some ⟨g, 0, none⟩)] #[]] w fun e w' => e = .returned (.bool true) ∧ Rd w' B g c v S N gs gl (wTo c.step) (lTo c.cross) ∧ Below B w w' :=
  (allX_t B g c v S N gs gl w hr).mono fun e w' ⟨b, h1, h2, h3, h4⟩ => by
    cases b with
    | true => exact ⟨h1, by have h5 := (h2 rfl).2; rw [← hr.is.cross.1, List.take_length] at h5; exact h5, h4⟩
    | false => exact absurd h (h3 rfl)
/-- what Right tells -/
def RightPost (c : CodeM) (w : World) (e : Ending) (w' : World) : Prop := ∃ b, e = .returned (.bool b) ∧ (b = true ↔ RightC c) ∧ Below w.heap.size w w'
set_option maxHeartbeats 4000000 in
theorem sright_t (B : Nat) (c : CodeM) (v : CodeV) (w : World) (h : CodeIs w B c v) (hB : B ≤ w.heap.size) : Calls Try.prog 8 #[codeV c v] w (RightPost c w) := by
  obtain ⟨W1, hW1⟩ : ∃ W1, W1 = w.alloc (.cells #[.int .i64 c.ins, .int .i64 c.outs, .int .i64 c.slots, .int .i64 c.crosses, .int .i64 c.lines, .slice v.mems.1 v.mems.2.1 v.mems.2.2, .slice v.conts.1 v.conts.2.1 v.conts.2.2, .slice v.step.1 v.step.2.1 v.step.2.2, .slice v.deriv.1 v.deriv.2.1 v.deriv.2.2, .slice v.cross.1 v.cross.2.1 v.cross.2.2] 40) := ⟨_, rfl⟩
  have hb1 : Below w.heap.size w W1 := by rw [hW1]; exact (Below.refl _ _).alloc (Nat.le_refl _) _
  have HK := Lib.hid (show Blk W1 w.heap.size 40 (cvs c v) from by rw [hW1]; exact Blk.new _ _ _)
  have HI := Lib.hid ((h.more hB).below hb1)
  have HB1 := Lib.hid hb1
  clear h hB hb1
  unfold codeV
  obtain ⟨n0, n1, n2, n3, n4, n5, n6, n7, n8, n9⟩ := HK.out.code
  obtain ⟨W2, hW2⟩ : ∃ W2, W2 = W1.alloc (.cells #[.int .i64 c.ins, .int .i64 c.outs, .int .i64 c.slots, .int .i64 c.crosses, .int .i64 c.lines] 3) := ⟨_, rfl⟩
  have HF := Lib.hid (show Blk W2 W1.heap.size 3 #[.int .i64 c.ins, .int .i64 c.outs, .int .i64 c.slots, .int .i64 c.crosses, .int .i64 c.lines] from by rw [hW2]; exact Blk.new _ _ _)
  have HB2 := Lib.hid (show Below W1.heap.size W1 W2 from by rw [hW2]; exact (Below.refl _ _).alloc (Nat.le_refl _) _)
  cases hc : [c.ins, c.outs, c.slots, c.crosses, c.lines].all cntB with
  | false =>
    have HC := Lib.hid hc
    have HAC := Lib.hid (allC_t (some ⟨W1.heap.size, 0, none⟩) 5 5 W2.heap.size [c.ins, c.outs, c.slots, c.crosses, c.lines] false W2 (irow5 HF.out) hc)
    clear hc
    rw [hW2] at HAC
    go_enter Try.func8, Try.ntmps8
    go_upto_region 1 with fail
    rw [← hW1]
    clear hW1
    go_wp2_with (go_at_call 19; refine HAC.out.mono ?_; rintro e w3 ⟨rfl, rfl⟩)
    go_ret
    rw [← hW2]
    exact ⟨false, rfl, ⟨(fun h => by cases h), (fun h => by have := HC.out; rw [cnt_five.2 ⟨h.ins, h.outs, h.slots, h.crosses, h.lines⟩] at this; cases this)⟩, HB1.out.trans (HB2.out.mono HB1.out.size)⟩
  | true =>
    obtain ⟨k0, k1, k2, k3, k4⟩ := cnt_five.1 hc
    obtain ⟨S, hS, hS2⟩ : ∃ S : Nat, c.slots = (S : Int) ∧ S ≤ 65536 := by
      unfold cntB at k2
      simp at k2
      exact ⟨c.slots.toNat, by omega, by omega⟩
    obtain ⟨N, hN, hN2⟩ : ∃ N : Nat, c.lines = (N : Int) ∧ N ≤ 65536 := by
      unfold cntB at k4
      simp at k4
      exact ⟨c.lines.toNat, by omega, by omega⟩
    have HCN := Lib.hid (And.intro k0 (And.intro k1 (And.intro k2 (And.intro k3 k4))))
    have HAC := Lib.hid (allC_t (some ⟨W1.heap.size, 0, none⟩) 5 5 W2.heap.size [c.ins, c.outs, c.slots, c.crosses, c.lines] true W2 (irow5 HF.out) hc)
    have HSE := Lib.hid hS
    have HNE := Lib.hid hN
    clear hc hS hN k0 k1 k2 k3 k4
    rw [hW2] at HAC
    go_enter Try.func8, Try.ntmps8
    go_upto_region 1 with fail
    rw [← hW1]
    clear hW1
    go_upto_region 3 with (go_at_call 19; refine HAC.out.mono ?_; rintro e w3 ⟨rfl, rfl⟩)
    rw [← hW2]
    clear hW2
    have HK2 := Lib.hid (HK.out.later HB2.out)
    have HI2 := Lib.hid (HI.out.below (HB2.out.mono HB1.out.size))
    have HB3 := Lib.hid (HB1.out.trans (HB2.out.mono HB1.out.size))
    have HSB : Hid (w.heap.size + 1 ≤ W2.heap.size) := Lib.hid HK2.out.lt
    have HI3 := Lib.hid (HI2.out.more (Nat.le_succ w.heap.size))
    clear n0 n1 n2 n3 n4 n5 n6 n7 n8 n9 HAC HF
    obtain ⟨n0, n1, n2, n3, n4, n5, n6, n7, n8, n9⟩ := HK2.out.code
    go_cut [3] (fun s3 wx => ∃ g gs gl : Nat, s3 = .pointer (some ⟨g, 0, none⟩) ∧ Hid (Rd wx (w.heap.size + 1) g c v S N gs gl [] []) ∧ Hid (Below W2.heap.size W2 wx))
    case first =>
      have hk1 : ∀ w : World, (Instr.makeSlice 79 (.int .i64 c.slots) (.int .i64 c.slots)).run Try.prog w = .ok (.slice (some ⟨w.heap.size, 0, none⟩) S S) (w.alloc (zb S)) := by rw [HSE.out]; exact zb_run S (by omega)
      have hk2 : ∀ w : World, (Instr.makeSlice 79 (.int .i64 c.lines) (.int .i64 c.lines)).run Try.prog w = .ok (.slice (some ⟨w.heap.size, 0, none⟩) N N) (w.alloc (zb N)) := by rw [HNE.out]; exact zb_run N (by omega)
      have hq0 : w.heap.size < W2.heap.size := HK2.out.lt
      have HBD := Lib.hid (((Below.refl W2.heap.size W2).drew))
      go_region
      all_goals
        go_wp2_with fail
        go_meet
        case rel =>
          first
          | exact ⟨_, _, _, rfl, Lib.hid (rd_a (W := W2.drew) (HI3.out.below (Below.refl _ _).drew) HSB.out HSE.out HNE.out hS2 hN2), Lib.hid (((HBD.out.alloc (Nat.le_refl _) _).alloc (by simp) _).alloc (by simp; omega) _)⟩
          | exact ⟨_, _, _, rfl, Lib.hid (rd_b (W := W2.drew) (HI3.out.below (Below.refl _ _).drew) HSB.out HSE.out HNE.out hS2 hN2), Lib.hid (((HBD.out.alloc (Nat.le_refl _) _).alloc (by simp) _).alloc (by simp; omega) _)⟩
    case rest =>
      obtain ⟨g, gs, gl, rfl, HR, HBc⟩ := hcut
      obtain ⟨W6, rfl⟩ : ∃ W6 : World, W6 = wc := ⟨_, rfl⟩
      clear n0 n1 n2 n3 n4 n5 n6 n7 n8 n9
      have HK6 := Lib.hid (HK2.out.later HBc.out)
      have HB6 := Lib.hid (HB3.out.trans (HBc.out.mono HB3.out.size))
      obtain ⟨n0, n1, n2, n3, n4, n5, n6, n7, n8, n9⟩ := HK6.out.code
      by_cases h1 : OkS c v.step.2.1
      · have H1 := Lib.hid h1
        clear h1
        by_cases h2 : OkD c v.deriv.2.1
        · have H2 := Lib.hid h2
          clear h2
          by_cases h3 : OkX c v.cross.2.1
          · have H3 := Lib.hid h3
            clear h3
            go_wp2_with (first | (go_at_call 21; (with_reducible refine (allS_yes (w.heap.size + 1) g c v S N gs gl _ HR.out H1.out).mono ?_); rintro e w7 ⟨rfl, hr7, hb7⟩; have HB7 := Lib.hid (HB6.out.trans (hb7.mono (Nat.le_succ _))); have HR7 := Lib.hid hr7; have HK7 := Lib.hid (HK6.out.below hb7 (Nat.lt_succ_self _)); clear hr7 hb7 n0 n1 n2 n3 n4 n5 n6 n7 n8 n9; obtain ⟨n0, n1, n2, n3, n4, n5, n6, n7, n8, n9⟩ := HK7.out.code) | (go_at_call 21; (with_reducible refine (allD_yes (w.heap.size + 1) g c v S N gs gl _ HR7.out H2.out).mono ?_); rintro e w8 ⟨rfl, hr8, hb8⟩; have HB8 := Lib.hid (HB7.out.trans (hb8.mono (Nat.le_succ _))); have HR8 := Lib.hid hr8; have HK8 := Lib.hid (HK7.out.below hb8 (Nat.lt_succ_self _)); clear hr8 hb8 n0 n1 n2 n3 n4 n5 n6 n7 n8 n9; obtain ⟨n0, n1, n2, n3, n4, n5, n6, n7, n8, n9⟩ := HK8.out.code) | (go_at_call 21; (with_reducible refine (allX_yes (w.heap.size + 1) g c v S N gs gl _ HR8.out H3.out).mono ?_); rintro e w9 ⟨rfl, hr9, hb9⟩; have HB9 := Lib.hid (HB8.out.trans (hb9.mono (Nat.le_succ _))); have HR9 := Lib.hid hr9; have HK9 := Lib.hid (HK8.out.below hb9 (Nat.lt_succ_self _)); clear hr9 hb9 n0 n1 n2 n3 n4 n5 n6 n7 n8 n9; obtain ⟨n0, n1, n2, n3, n4, n5, n6, n7, n8, n9⟩ := HK9.out.code))
            go_ret
            exact ⟨true, rfl, ⟨fun _ => ⟨HCN.out.1, HCN.out.2.1, HCN.out.2.2.1, HCN.out.2.2.2.1, HCN.out.2.2.2.2, (OkS_all HI2.out.step.1).1 H1.out, (OkD_all HI2.out.deriv.1).1 H2.out, (OkX_all HI2.out.cross.1).1 H3.out⟩, fun _ => rfl⟩, HB9.out⟩
          · have H3 := Lib.hid h3
            clear h3
            go_wp2_with (first | (go_at_call 21; (with_reducible refine (allS_yes (w.heap.size + 1) g c v S N gs gl _ HR.out H1.out).mono ?_); rintro e w7 ⟨rfl, hr7, hb7⟩; have HB7 := Lib.hid (HB6.out.trans (hb7.mono (Nat.le_succ _))); have HR7 := Lib.hid hr7; have HK7 := Lib.hid (HK6.out.below hb7 (Nat.lt_succ_self _)); clear hr7 hb7 n0 n1 n2 n3 n4 n5 n6 n7 n8 n9; obtain ⟨n0, n1, n2, n3, n4, n5, n6, n7, n8, n9⟩ := HK7.out.code) | (go_at_call 21; (with_reducible refine (allD_yes (w.heap.size + 1) g c v S N gs gl _ HR7.out H2.out).mono ?_); rintro e w8 ⟨rfl, hr8, hb8⟩; have HB8 := Lib.hid (HB7.out.trans (hb8.mono (Nat.le_succ _))); have HR8 := Lib.hid hr8; have HK8 := Lib.hid (HK7.out.below hb8 (Nat.lt_succ_self _)); clear hr8 hb8 n0 n1 n2 n3 n4 n5 n6 n7 n8 n9; obtain ⟨n0, n1, n2, n3, n4, n5, n6, n7, n8, n9⟩ := HK8.out.code) | (go_at_call 21; (with_reducible refine (allX_no (w.heap.size + 1) g c v S N gs gl _ HR8.out H3.out).mono ?_); rintro e w9 ⟨rfl, hb9⟩; have HB9 := Lib.hid (HB8.out.trans (hb9.mono (Nat.le_succ _)))))
            go_ret
            exact ⟨false, rfl, ⟨(fun h => by cases h), (fun h => absurd ((OkX_all HI2.out.cross.1).2 h.cross) H3.out)⟩, HB9.out⟩
        · have H2 := Lib.hid h2
          clear h2
          go_wp2_with (first | (go_at_call 21; (with_reducible refine (allS_yes (w.heap.size + 1) g c v S N gs gl _ HR.out H1.out).mono ?_); rintro e w7 ⟨rfl, hr7, hb7⟩; have HB7 := Lib.hid (HB6.out.trans (hb7.mono (Nat.le_succ _))); have HR7 := Lib.hid hr7; have HK7 := Lib.hid (HK6.out.below hb7 (Nat.lt_succ_self _)); clear hr7 hb7 n0 n1 n2 n3 n4 n5 n6 n7 n8 n9; obtain ⟨n0, n1, n2, n3, n4, n5, n6, n7, n8, n9⟩ := HK7.out.code) | (go_at_call 21; (with_reducible refine (allD_no (w.heap.size + 1) g c v S N gs gl _ HR7.out H2.out).mono ?_); rintro e w8 ⟨rfl, hb8⟩; have HB8 := Lib.hid (HB7.out.trans (hb8.mono (Nat.le_succ _)))))
          go_ret
          exact ⟨false, rfl, ⟨(fun h => by cases h), (fun h => absurd ((OkD_all HI2.out.deriv.1).2 h.deriv) H2.out)⟩, HB8.out⟩
      · have H1 := Lib.hid h1
        clear h1
        go_wp2_with (go_at_call 21; (with_reducible refine (allS_no (w.heap.size + 1) g c v S N gs gl _ HR.out H1.out).mono ?_); rintro e w7 ⟨rfl, hb7⟩; have HB7 := Lib.hid (HB6.out.trans (hb7.mono (Nat.le_succ _))))
        go_ret
        exact ⟨false, rfl, ⟨(fun h => by cases h), (fun h => absurd ((OkS_all HI2.out.step.1).2 h.step) H1.out)⟩, HB7.out⟩

end Go.Proofs.Ytpcpbpinhdbjiaa
