/- What cross of package safe tells. No condition but bounds. -/
import Derived.Test.YtcljmfhelgkfaaaSfI
import Derived.Deep.RegionWith
import Derived.Deep.RegionHeld3
import Derived.Deep.DeepCutAuto
namespace Go.Proofs.Ytcljmfhelgkfaaa
set_option linter.unusedVariables false
set_option linter.unusedSimpArgs false
set_option maxRecDepth 100000
open Go.RowKit

theorem IRow.take {w : World} {B : Nat} {a : Option Addr} {n c : Nat} {xs : List Int} (h : IRow w B a n c xs) {s : Nat} (hs : s ≤ n) : IRow w B a s c (xs.take s) := by
  obtain ⟨h1, h2, h3, hn, b, off, h6, h7⟩ := h
  refine ⟨by rw [List.length_take, h1]; omega, by omega, h3, hn, b, off, h6.imp (fun h => h) (fun h => by omega), fun i hi => ⟨(h7 i (by omega)).1, ?_⟩⟩
  rw [(h7 i (by omega)).2]
  congr 2
  simp [List.getD_eq_getElem?_getD, List.getElem?_take_of_lt hi]
theorem IRow.drop1 {w : World} {B : Nat} {b off n c : Nat} {xs : List Int} (h : IRow w B (some ⟨b, off, none⟩) n c xs) (hs : 1 ≤ n) : IRow w B (some ⟨b, off + 1, none⟩) (n - 1) (c - 1) (xs.drop 1) := by
  obtain ⟨h1, h2, h3, hn, b', off', h6, h7⟩ := h
  obtain ⟨rfl, rfl⟩ : b = b' ∧ off = off' := by
    rcases h6 with h | h
    · injection h with h; injection h with e1 e2; exact ⟨e1, e2⟩
    · omega
  refine ⟨by rw [List.length_drop, h1], by omega, by omega, (fun h => by cases h), b, off + 1, Or.inl rfl, fun i hi => ⟨(h7 (i + 1) (by omega)).1, ?_⟩⟩
  rw [show off + 1 + i = off + (i + 1) by omega, (h7 (i + 1) (by omega)).2]
  congr 2
  simp [List.getD_eq_getElem?_getD, Nat.add_comm]
theorem IRow.none0 {w : World} {B : Nat} {b off : Nat} {xs : List Int} (h : IRow w B (some ⟨b, off, none⟩) 1 1 xs) : IRow w B (some ⟨b, off, none⟩) 0 0 (xs.drop 1) := by
  obtain ⟨h1, h2, h3, hn, b', off', h6, h7⟩ := h
  exact ⟨by rw [List.length_drop, h1], Nat.le_refl _, by omega, (fun h => by cases h), b', off', Or.inr (Nat.le_refl _), fun i hi => by omega⟩
theorem nLn_le {op : ByteArray} {s l : Nat} (h : nLn op = some (s, l)) : s ≤ 1 ∧ l ≤ 2 := by
  unfold nLn at h
  repeat' split at h
  all_goals
    first
    | (injection h with h; injection h with h1 h2; omega)
    | cases h
def lNext (L : List Int) (q : InsP) : List Int := if q.op = opAsk then L else L ++ [q.dst]
/-- what cross tells -/
def CrPost (B g : Nat) (c : CodeM) (v : CodeV) (S N gs gl : Nat) (W L : List Int) (q : InsP) (w : World) (e : Ending) (w' : World) : Prop :=
  ∃ b, e = .returned (.bool b) ∧ crB c W L q = b ∧ (b = true → Rd w' B g c v S N gs gl W (lNext L q)) ∧ Below B w w'
theorem cr_eq {w : World} {B g : Nat} {c : CodeM} {v : CodeV} {S N gs gl : Nat} {W L : List Int} {q : InsP} {a m d r : Option Addr × Nat × Nat} {s l : Nat} (hn : nLn q.op = some (s, l)) (hr : Rd w B g c v S N gs gl W L) (hx : InsW w B q a m d r) :
    crB c W L q = (decide (a.2.1 = s + l) && plK q.op q.k c.ins c.outs v.mems.2.1 v.conts.2.1 c.crosses && (gdB S W q.guard && decide (r.2.1 = 0)) && ((q.args.take s).all (wrB S W) && (q.args.drop s).all (wrB N L)) && (decide (q.op = opAsk) || inB q.dst N)) := by
  unfold crB
  rw [hn]
  simp only []
  rw [hx.args.1, hx.resets.1, hr.is.mems.1, hr.is.conts.1, hr.slots, hr.lines]
theorem cr_none {c : CodeM} {W L : List Int} {q : InsP} (hn : nLn q.op = none) : crB c W L q = false := by unfold crB; rw [hn]
theorem opd_b (op : ByteArray) (s l : Nat) (w : World) (h : nLn op = some (s, l)) : Calls Try.prog 45 #[.string op] w fun e w' => e = .returned (.tuple #[.int .i64 (s : Nat), .int .i64 (l : Nat), .bool true]) ∧ w' = w := by
  have := operands_t op w
  rw [h] at this
  exact this
theorem opd_n (op : ByteArray) (w : World) (h : nLn op = none) : Calls Try.prog 45 #[.string op] w fun e w' => e = .returned (.tuple #[.int .i64 0, .int .i64 0, .bool false]) ∧ w' = w := by
  have := operands_t op w
  rw [h] at this
  exact this
set_option maxHeartbeats 1000000 in
theorem cr_0 (B g : Nat) (c : CodeM) (v : CodeV) (S N gs gl : Nat) (W L : List Int) (q : InsP) (a m d r : Option Addr × Nat × Nat) (w : World) (hr : Rd w B g c v S N gs gl W L) (hx : InsW w B q a m d r) (hn : nLn q.op = none) : Calls Try.prog 23 #[.pointer (some ⟨g, 0, none⟩), .agg #[.string q.op, .int .i64 q.dst, .slice a.1 a.2.1 a.2.2, .int .i64 q.k, .int .i64 q.lit.kind, .bool q.lit.neg, .slice m.1 m.2.1 m.2.2, .slice d.1 d.2.1 d.2.2, .string q.lit.name, .int .i64 q.guard, .slice r.1 r.2.1 r.2.2]] w (CrPost B g c v S N gs gl W L q w) := by
  obtain ⟨W1, hW1⟩ : ∃ W1, W1 = w.alloc (.cells #[.string q.op, .int .i64 q.dst, .slice a.1 a.2.1 a.2.2, .int .i64 q.k, .int .i64 q.lit.kind, .bool q.lit.neg, .slice m.1 m.2.1 m.2.2, .slice d.1 d.2.1 d.2.2, .string q.lit.name, .int .i64 q.guard, .slice r.1 r.2.1 r.2.2] 52) := ⟨_, rfl⟩
  have hb1 : Below w.heap.size w W1 := by rw [hW1]; exact (Below.refl _ _).alloc (Nat.le_refl _) _
  have HX := Lib.hid (show Blk W1 w.heap.size 52 (ics q a m d r) from by rw [hW1]; exact Blk.new _ _ _)
  have HR := Lib.hid (hr.later hb1)
  have HB := Lib.hid (hb1.mono hr.hB)
  have HW := Lib.hid (hx.keep HB.out)
  have HV : Hid (crB c W L q = false) := Lib.hid (cr_none hn)
  have HGW : Hid (gs < w.heap.size) := Lib.hid hr.ms.lt
  have HN := Lib.hid hn
  clear hn
  have hma := hx.args.len_le
  have hmr := hx.resets.len_le
  have HMA := Lib.hid hma
  have hq0 : w.heap.size < W1.heap.size := HX.out.lt
  unfold maxLen at hma hmr
  obtain ⟨x0, x1, x2, x3, x4, x5, x6, x7, x8, x9, x10⟩ := HX.out.elev
  obtain ⟨n0, n1, n2, n3, n4, n5, n6, n7, n8, n9, n10, n11⟩ := HR.out.cells
  clear n0 n1 n2 n3 n4 n5 n6 n7 n8 n9 hb1 hr hx
  go_enter Try.func23, Try.ntmps23
  go_upto_region 1 with fail
  rw [← hW1]
  clear hW1
  go_wp2_with (go_at_call 45; (with_reducible refine (opd_n q.op _ HN.out).mono ?_); rintro e w4 ⟨rfl, rfl⟩)
  go_ret
  exact ⟨false, rfl, by rw [HV.out], (fun h => by cases h), by first | exact HB.out | exact below_drewN HB.out⟩
set_option maxHeartbeats 1000000 in
theorem cr_1 (B g : Nat) (c : CodeM) (v : CodeV) (S N gs gl : Nat) (W L : List Int) (q : InsP) (a m d r : Option Addr × Nat × Nat) (w : World) (hr : Rd w B g c v S N gs gl W L) (hx : InsW w B q a m d r) (s l : Nat) (hn : nLn q.op = some (s, l)) (h1 : ¬ a.2.1 = s + l) : Calls Try.prog 23 #[.pointer (some ⟨g, 0, none⟩), .agg #[.string q.op, .int .i64 q.dst, .slice a.1 a.2.1 a.2.2, .int .i64 q.k, .int .i64 q.lit.kind, .bool q.lit.neg, .slice m.1 m.2.1 m.2.2, .slice d.1 d.2.1 d.2.2, .string q.lit.name, .int .i64 q.guard, .slice r.1 r.2.1 r.2.2]] w (CrPost B g c v S N gs gl W L q w) := by
  obtain ⟨W1, hW1⟩ : ∃ W1, W1 = w.alloc (.cells #[.string q.op, .int .i64 q.dst, .slice a.1 a.2.1 a.2.2, .int .i64 q.k, .int .i64 q.lit.kind, .bool q.lit.neg, .slice m.1 m.2.1 m.2.2, .slice d.1 d.2.1 d.2.2, .string q.lit.name, .int .i64 q.guard, .slice r.1 r.2.1 r.2.2] 52) := ⟨_, rfl⟩
  have hb1 : Below w.heap.size w W1 := by rw [hW1]; exact (Below.refl _ _).alloc (Nat.le_refl _) _
  have HX := Lib.hid (show Blk W1 w.heap.size 52 (ics q a m d r) from by rw [hW1]; exact Blk.new _ _ _)
  have HR := Lib.hid (hr.later hb1)
  have HB := Lib.hid (hb1.mono hr.hB)
  have HW := Lib.hid (hx.keep HB.out)
  have HV := Lib.hid (cr_eq hn hr hx)
  have HGW : Hid (gs < w.heap.size) := Lib.hid hr.ms.lt
  obtain ⟨hs1, hl2⟩ := nLn_le hn
  have HN := Lib.hid hn
  clear hn
  have hma := hx.args.len_le
  have hmr := hx.resets.len_le
  have HMA := Lib.hid hma
  have hq0 : w.heap.size < W1.heap.size := HX.out.lt
  have H1 := Lib.hid (decide_eq_false h1)
  have g1 : ((a.2.1 : Int) == (s : Int) + (l : Int)) = false := by rw [beq_eq_false_iff_ne]; omega
  have g2 : ((a.2.1 : Int) != (s : Int) + (l : Int)) = true := by show (!(_ == _)) = _; rw [g1]; rfl
  unfold maxLen at hma hmr
  obtain ⟨x0, x1, x2, x3, x4, x5, x6, x7, x8, x9, x10⟩ := HX.out.elev
  obtain ⟨n0, n1, n2, n3, n4, n5, n6, n7, n8, n9, n10, n11⟩ := HR.out.cells
  clear n0 n1 n2 n3 n4 n5 n6 n7 n8 n9 hb1 hr hx
  go_enter Try.func23, Try.ntmps23
  go_upto_region 1 with fail
  rw [← hW1]
  clear hW1
  go_wp2_with (go_at_call 45; (with_reducible refine (opd_b q.op s l _ HN.out).mono ?_); rintro e w4 ⟨rfl, rfl⟩)
  go_ret
  exact ⟨false, rfl, by rw [HV.out, H1.out]; simp, (fun h => by cases h), by first | exact HB.out | exact below_drewN HB.out⟩
set_option maxHeartbeats 1000000 in
theorem cr_2 (B g : Nat) (c : CodeM) (v : CodeV) (S N gs gl : Nat) (W L : List Int) (q : InsP) (a m d r : Option Addr × Nat × Nat) (w : World) (hr : Rd w B g c v S N gs gl W L) (hx : InsW w B q a m d r) (s l : Nat) (hn : nLn q.op = some (s, l)) (h1 : a.2.1 = s + l) (h2 : plK q.op q.k c.ins c.outs v.mems.2.1 v.conts.2.1 c.crosses = false) : Calls Try.prog 23 #[.pointer (some ⟨g, 0, none⟩), .agg #[.string q.op, .int .i64 q.dst, .slice a.1 a.2.1 a.2.2, .int .i64 q.k, .int .i64 q.lit.kind, .bool q.lit.neg, .slice m.1 m.2.1 m.2.2, .slice d.1 d.2.1 d.2.2, .string q.lit.name, .int .i64 q.guard, .slice r.1 r.2.1 r.2.2]] w (CrPost B g c v S N gs gl W L q w) := by
  obtain ⟨W1, hW1⟩ : ∃ W1, W1 = w.alloc (.cells #[.string q.op, .int .i64 q.dst, .slice a.1 a.2.1 a.2.2, .int .i64 q.k, .int .i64 q.lit.kind, .bool q.lit.neg, .slice m.1 m.2.1 m.2.2, .slice d.1 d.2.1 d.2.2, .string q.lit.name, .int .i64 q.guard, .slice r.1 r.2.1 r.2.2] 52) := ⟨_, rfl⟩
  have hb1 : Below w.heap.size w W1 := by rw [hW1]; exact (Below.refl _ _).alloc (Nat.le_refl _) _
  have HX := Lib.hid (show Blk W1 w.heap.size 52 (ics q a m d r) from by rw [hW1]; exact Blk.new _ _ _)
  have HR := Lib.hid (hr.later hb1)
  have HB := Lib.hid (hb1.mono hr.hB)
  have HW := Lib.hid (hx.keep HB.out)
  have HV := Lib.hid (cr_eq hn hr hx)
  have HGW : Hid (gs < w.heap.size) := Lib.hid hr.ms.lt
  obtain ⟨hs1, hl2⟩ := nLn_le hn
  have HN := Lib.hid hn
  clear hn
  have hma := hx.args.len_le
  have hmr := hx.resets.len_le
  have HMA := Lib.hid hma
  have hq0 : w.heap.size < W1.heap.size := HX.out.lt
  have H1 := Lib.hid (decide_eq_true h1)
  have g1 : ((a.2.1 : Int) == (s : Int) + (l : Int)) = true := by rw [beq_iff_eq]; omega
  have g2 : ((a.2.1 : Int) != (s : Int) + (l : Int)) = false := by show (!(_ == _)) = _; rw [g1]; rfl
  have H1N := Lib.hid h1
  clear h1
  have H2 := Lib.hid h2
  clear h2
  unfold maxLen at hma hmr
  obtain ⟨x0, x1, x2, x3, x4, x5, x6, x7, x8, x9, x10⟩ := HX.out.elev
  obtain ⟨n0, n1, n2, n3, n4, n5, n6, n7, n8, n9, n10, n11⟩ := HR.out.cells
  clear n0 n1 n2 n3 n4 n5 n6 n7 n8 n9 hb1 hr hx
  go_enter Try.func23, Try.ntmps23
  go_upto_region 1 with fail
  rw [← hW1]
  clear hW1
  go_wp2_with (first | (go_at_call 45; (with_reducible refine (opd_b q.op s l _ HN.out).mono ?_); rintro e w4 ⟨rfl, rfl⟩) | (go_at_call 38; (with_reducible refine (hasPlace_b c v B g S N gs gl W L q a m d r false _ HR.out H2.out).mono ?_); rintro e w3 ⟨rfl, hb3⟩; have HX := Lib.hid (HX.out.later hb3); have HW := Lib.hid (HW.out.keep (hb3.mono HR.out.hB)); have HB := Lib.hid (HB.out.trans (hb3.mono HR.out.hB)); have HR := Lib.hid (HR.out.later hb3); clear hb3 x0 x1 x2 x3 x4 x5 x6 x7 x8 x9 x10 n10 n11 hq0; obtain ⟨x0, x1, x2, x3, x4, x5, x6, x7, x8, x9, x10⟩ := HX.out.elev; obtain ⟨n0, n1, n2, n3, n4, n5, n6, n7, n8, n9, n10, n11⟩ := HR.out.cells; clear n0 n1 n2 n3 n4 n5 n6 n7 n8 n9; have hq0 := HX.out.lt))
  go_ret
  exact ⟨false, rfl, by rw [HV.out, H1.out, H2.out]; simp, (fun h => by cases h), by first | exact HB.out | exact below_drewN HB.out⟩
set_option maxHeartbeats 1000000 in
theorem cr_3 (B g : Nat) (c : CodeM) (v : CodeV) (S N gs gl : Nat) (W L : List Int) (q : InsP) (a m d r : Option Addr × Nat × Nat) (w : World) (hr : Rd w B g c v S N gs gl W L) (hx : InsW w B q a m d r) (s l : Nat) (hn : nLn q.op = some (s, l)) (h1 : a.2.1 = s + l) (h2 : plK q.op q.k c.ins c.outs v.mems.2.1 v.conts.2.1 c.crosses = true) (h3 : (gdB S W q.guard && decide (r.2.1 = 0)) = false) : Calls Try.prog 23 #[.pointer (some ⟨g, 0, none⟩), .agg #[.string q.op, .int .i64 q.dst, .slice a.1 a.2.1 a.2.2, .int .i64 q.k, .int .i64 q.lit.kind, .bool q.lit.neg, .slice m.1 m.2.1 m.2.2, .slice d.1 d.2.1 d.2.2, .string q.lit.name, .int .i64 q.guard, .slice r.1 r.2.1 r.2.2]] w (CrPost B g c v S N gs gl W L q w) := by
  obtain ⟨W1, hW1⟩ : ∃ W1, W1 = w.alloc (.cells #[.string q.op, .int .i64 q.dst, .slice a.1 a.2.1 a.2.2, .int .i64 q.k, .int .i64 q.lit.kind, .bool q.lit.neg, .slice m.1 m.2.1 m.2.2, .slice d.1 d.2.1 d.2.2, .string q.lit.name, .int .i64 q.guard, .slice r.1 r.2.1 r.2.2] 52) := ⟨_, rfl⟩
  have hb1 : Below w.heap.size w W1 := by rw [hW1]; exact (Below.refl _ _).alloc (Nat.le_refl _) _
  have HX := Lib.hid (show Blk W1 w.heap.size 52 (ics q a m d r) from by rw [hW1]; exact Blk.new _ _ _)
  have HR := Lib.hid (hr.later hb1)
  have HB := Lib.hid (hb1.mono hr.hB)
  have HW := Lib.hid (hx.keep HB.out)
  have HV := Lib.hid (cr_eq hn hr hx)
  have HGW : Hid (gs < w.heap.size) := Lib.hid hr.ms.lt
  obtain ⟨hs1, hl2⟩ := nLn_le hn
  have HN := Lib.hid hn
  clear hn
  have hma := hx.args.len_le
  have hmr := hx.resets.len_le
  have HMA := Lib.hid hma
  have hq0 : w.heap.size < W1.heap.size := HX.out.lt
  have H1 := Lib.hid (decide_eq_true h1)
  have g1 : ((a.2.1 : Int) == (s : Int) + (l : Int)) = true := by rw [beq_iff_eq]; omega
  have g2 : ((a.2.1 : Int) != (s : Int) + (l : Int)) = false := by show (!(_ == _)) = _; rw [g1]; rfl
  have H1N := Lib.hid h1
  clear h1
  have H2 := Lib.hid h2
  clear h2
  have H3 := Lib.hid h3
  clear h3
  unfold maxLen at hma hmr
  obtain ⟨x0, x1, x2, x3, x4, x5, x6, x7, x8, x9, x10⟩ := HX.out.elev
  obtain ⟨n0, n1, n2, n3, n4, n5, n6, n7, n8, n9, n10, n11⟩ := HR.out.cells
  clear n0 n1 n2 n3 n4 n5 n6 n7 n8 n9 hb1 hr hx
  go_enter Try.func23, Try.ntmps23
  go_upto_region 1 with fail
  rw [← hW1]
  clear hW1
  go_wp2_with (first | (go_at_call 45; (with_reducible refine (opd_b q.op s l _ HN.out).mono ?_); rintro e w4 ⟨rfl, rfl⟩) | (go_at_call 38; (with_reducible refine (hasPlace_b c v B g S N gs gl W L q a m d r true _ HR.out H2.out).mono ?_); rintro e w3 ⟨rfl, hb3⟩; have HX := Lib.hid (HX.out.later hb3); have HW := Lib.hid (HW.out.keep (hb3.mono HR.out.hB)); have HB := Lib.hid (HB.out.trans (hb3.mono HR.out.hB)); have HR := Lib.hid (HR.out.later hb3); clear hb3 x0 x1 x2 x3 x4 x5 x6 x7 x8 x9 x10 n10 n11 hq0; obtain ⟨x0, x1, x2, x3, x4, x5, x6, x7, x8, x9, x10⟩ := HX.out.elev; obtain ⟨n0, n1, n2, n3, n4, n5, n6, n7, n8, n9, n10, n11⟩ := HR.out.cells; clear n0 n1 n2 n3 n4 n5 n6 n7 n8 n9; have hq0 := HX.out.lt) | (go_at_call 44; (with_reducible refine (isBetween_b false B g c v S N gs gl W L q a m d r _ HR.out HW.out H3.out).mono ?_); rintro e w4 ⟨rfl, hb4⟩; have HX := Lib.hid (HX.out.later hb4); have HW := Lib.hid (HW.out.keep (hb4.mono HR.out.hB)); have HB := Lib.hid (HB.out.trans (hb4.mono HR.out.hB)); have HR := Lib.hid (HR.out.later hb4); clear hb4 x0 x1 x2 x3 x4 x5 x6 x7 x8 x9 x10 n10 n11 hq0; obtain ⟨x0, x1, x2, x3, x4, x5, x6, x7, x8, x9, x10⟩ := HX.out.elev; obtain ⟨n0, n1, n2, n3, n4, n5, n6, n7, n8, n9, n10, n11⟩ := HR.out.cells; clear n0 n1 n2 n3 n4 n5 n6 n7 n8 n9; have hq0 := HX.out.lt))
  go_ret
  exact ⟨false, rfl, by rw [HV.out, H1.out, H2.out, H3.out]; simp, (fun h => by cases h), by first | exact HB.out | exact below_drewN HB.out⟩
set_option maxHeartbeats 1000000 in
theorem cr_zA (B g : Nat) (c : CodeM) (v : CodeV) (S N gs gl : Nat) (W L : List Int) (q : InsP) (a m d r : Option Addr × Nat × Nat) (w : World) (hr : Rd w B g c v S N gs gl W L) (hx : InsW w B q a m d r) (l : Nat) (hn : nLn q.op = some (0, l)) (h1 : a.2.1 = 0 + l) (h2 : plK q.op q.k c.ins c.outs v.mems.2.1 v.conts.2.1 c.crosses = true) (h3 : (gdB S W q.guard && decide (r.2.1 = 0)) = true) (ha : (q.args.take 0).all (wrB S W) = false) : Calls Try.prog 23 #[.pointer (some ⟨g, 0, none⟩), .agg #[.string q.op, .int .i64 q.dst, .slice a.1 a.2.1 a.2.2, .int .i64 q.k, .int .i64 q.lit.kind, .bool q.lit.neg, .slice m.1 m.2.1 m.2.2, .slice d.1 d.2.1 d.2.2, .string q.lit.name, .int .i64 q.guard, .slice r.1 r.2.1 r.2.2]] w (CrPost B g c v S N gs gl W L q w) := by
  obtain ⟨W1, hW1⟩ : ∃ W1, W1 = w.alloc (.cells #[.string q.op, .int .i64 q.dst, .slice a.1 a.2.1 a.2.2, .int .i64 q.k, .int .i64 q.lit.kind, .bool q.lit.neg, .slice m.1 m.2.1 m.2.2, .slice d.1 d.2.1 d.2.2, .string q.lit.name, .int .i64 q.guard, .slice r.1 r.2.1 r.2.2] 52) := ⟨_, rfl⟩
  have hb1 : Below w.heap.size w W1 := by rw [hW1]; exact (Below.refl _ _).alloc (Nat.le_refl _) _
  have HX := Lib.hid (show Blk W1 w.heap.size 52 (ics q a m d r) from by rw [hW1]; exact Blk.new _ _ _)
  have HR := Lib.hid (hr.later hb1)
  have HB := Lib.hid (hb1.mono hr.hB)
  have HW := Lib.hid (hx.keep HB.out)
  have HV := Lib.hid (cr_eq hn hr hx)
  have HGW : Hid (gs < w.heap.size) := Lib.hid hr.ms.lt
  obtain ⟨hs1, hl2⟩ := nLn_le hn
  have HN := Lib.hid hn
  clear hn
  have hma := hx.args.len_le
  have hmr := hx.resets.len_le
  have HMA := Lib.hid hma
  have hq0 : w.heap.size < W1.heap.size := HX.out.lt
  have H1 := Lib.hid (decide_eq_true h1)
  have g1 : ((a.2.1 : Int) == (l : Int)) = true := by rw [beq_iff_eq]; omega
  have g2 : ((a.2.1 : Int) != (l : Int)) = false := by show (!(_ == _)) = _; rw [g1]; rfl
  have H1N := Lib.hid h1
  clear h1
  have H2 := Lib.hid h2
  clear h2
  have H3 := Lib.hid h3
  clear h3
  have HA := Lib.hid ha
  clear ha
  unfold maxLen at hma hmr
  obtain ⟨x0, x1, x2, x3, x4, x5, x6, x7, x8, x9, x10⟩ := HX.out.elev
  obtain ⟨n0, n1, n2, n3, n4, n5, n6, n7, n8, n9, n10, n11⟩ := HR.out.cells
  clear n0 n1 n2 n3 n4 n5 n6 n7 n8 n9 hb1 hr hx
  go_enter Try.func23, Try.ntmps23
  go_upto_region 1 with fail
  rw [← hW1]
  clear hW1
  go_upto_region 4 with (first | (go_at_call 45; (with_reducible refine (opd_b q.op 0 l _ HN.out).mono ?_); rintro e w4 ⟨rfl, rfl⟩) | (go_at_call 38; (with_reducible refine (hasPlace_b c v B g S N gs gl W L q a m d r true _ HR.out H2.out).mono ?_); rintro e w3 ⟨rfl, hb3⟩; have HX := Lib.hid (HX.out.later hb3); have HW := Lib.hid (HW.out.keep (hb3.mono HR.out.hB)); have HB := Lib.hid (HB.out.trans (hb3.mono HR.out.hB)); have HR := Lib.hid (HR.out.later hb3); clear hb3 x0 x1 x2 x3 x4 x5 x6 x7 x8 x9 x10 n10 n11 hq0; obtain ⟨x0, x1, x2, x3, x4, x5, x6, x7, x8, x9, x10⟩ := HX.out.elev; obtain ⟨n0, n1, n2, n3, n4, n5, n6, n7, n8, n9, n10, n11⟩ := HR.out.cells; clear n0 n1 n2 n3 n4 n5 n6 n7 n8 n9; have hq0 := HX.out.lt) | (go_at_call 44; (with_reducible refine (isBetween_b true B g c v S N gs gl W L q a m d r _ HR.out HW.out H3.out).mono ?_); rintro e w4 ⟨rfl, hb4⟩; have HX := Lib.hid (HX.out.later hb4); have HW := Lib.hid (HW.out.keep (hb4.mono HR.out.hB)); have HB := Lib.hid (HB.out.trans (hb4.mono HR.out.hB)); have HR := Lib.hid (HR.out.later hb4); clear hb4 x0 x1 x2 x3 x4 x5 x6 x7 x8 x9 x10 n10 n11 hq0; obtain ⟨x0, x1, x2, x3, x4, x5, x6, x7, x8, x9, x10⟩ := HX.out.elev; obtain ⟨n0, n1, n2, n3, n4, n5, n6, n7, n8, n9, n10, n11⟩ := HR.out.cells; clear n0 n1 n2 n3 n4 n5 n6 n7 n8 n9; have hq0 := HX.out.lt))
  have HMS := Lib.hid HR.out.ms
  have HML := Lib.hid HR.out.ml
  have HSS := Lib.hid HR.out.sS
  have HSN := Lib.hid HR.out.sN
  have HT1 := Lib.hid (HW.out.args.take (s := 0) (Nat.zero_le _))
  have HT2 := Lib.hid (show IRow w4 B a.1 a.2.1 a.2.2 (q.args.drop 0) from HW.out.args)
  go_quiet ((first | (go_at_call 18; with_reducible exact Calls.quiet_of_same (allW_q a.1 0 a.2.2 B (q.args.take 0) gs S W false _ _ HT1.out HMS.out HSS.out HA.out)) | (go_at_call 18; with_reducible exact Calls.quiet_of_same (allW_q a.1 a.2.1 a.2.2 B (q.args.drop 0) gl N L false _ _ HT2.out HML.out HSN.out rfl))))
  go_wp2
  go_ret
  exact ⟨false, rfl, by rw [HV.out, H1.out, H2.out, H3.out, HA.out]; simp, (fun h => by cases h), by first | exact HB.out | exact below_drewN HB.out⟩
set_option maxHeartbeats 1000000 in
theorem cr_zD (B g : Nat) (c : CodeM) (v : CodeV) (S N gs gl : Nat) (W L : List Int) (q : InsP) (a m d r : Option Addr × Nat × Nat) (w : World) (hr : Rd w B g c v S N gs gl W L) (hx : InsW w B q a m d r) (l : Nat) (hn : nLn q.op = some (0, l)) (h1 : a.2.1 = 0 + l) (h2 : plK q.op q.k c.ins c.outs v.mems.2.1 v.conts.2.1 c.crosses = true) (h3 : (gdB S W q.guard && decide (r.2.1 = 0)) = true) (ha : (q.args.take 0).all (wrB S W) = true) (hd : (q.args.drop 0).all (wrB N L) = false) : Calls Try.prog 23 #[.pointer (some ⟨g, 0, none⟩), .agg #[.string q.op, .int .i64 q.dst, .slice a.1 a.2.1 a.2.2, .int .i64 q.k, .int .i64 q.lit.kind, .bool q.lit.neg, .slice m.1 m.2.1 m.2.2, .slice d.1 d.2.1 d.2.2, .string q.lit.name, .int .i64 q.guard, .slice r.1 r.2.1 r.2.2]] w (CrPost B g c v S N gs gl W L q w) := by
  obtain ⟨W1, hW1⟩ : ∃ W1, W1 = w.alloc (.cells #[.string q.op, .int .i64 q.dst, .slice a.1 a.2.1 a.2.2, .int .i64 q.k, .int .i64 q.lit.kind, .bool q.lit.neg, .slice m.1 m.2.1 m.2.2, .slice d.1 d.2.1 d.2.2, .string q.lit.name, .int .i64 q.guard, .slice r.1 r.2.1 r.2.2] 52) := ⟨_, rfl⟩
  have hb1 : Below w.heap.size w W1 := by rw [hW1]; exact (Below.refl _ _).alloc (Nat.le_refl _) _
  have HX := Lib.hid (show Blk W1 w.heap.size 52 (ics q a m d r) from by rw [hW1]; exact Blk.new _ _ _)
  have HR := Lib.hid (hr.later hb1)
  have HB := Lib.hid (hb1.mono hr.hB)
  have HW := Lib.hid (hx.keep HB.out)
  have HV := Lib.hid (cr_eq hn hr hx)
  have HGW : Hid (gs < w.heap.size) := Lib.hid hr.ms.lt
  obtain ⟨hs1, hl2⟩ := nLn_le hn
  have HN := Lib.hid hn
  clear hn
  have hma := hx.args.len_le
  have hmr := hx.resets.len_le
  have HMA := Lib.hid hma
  have hq0 : w.heap.size < W1.heap.size := HX.out.lt
  have H1 := Lib.hid (decide_eq_true h1)
  have g1 : ((a.2.1 : Int) == (l : Int)) = true := by rw [beq_iff_eq]; omega
  have g2 : ((a.2.1 : Int) != (l : Int)) = false := by show (!(_ == _)) = _; rw [g1]; rfl
  have H1N := Lib.hid h1
  clear h1
  have H2 := Lib.hid h2
  clear h2
  have H3 := Lib.hid h3
  clear h3
  have HA := Lib.hid ha
  clear ha
  have HD := Lib.hid hd
  clear hd
  unfold maxLen at hma hmr
  obtain ⟨x0, x1, x2, x3, x4, x5, x6, x7, x8, x9, x10⟩ := HX.out.elev
  obtain ⟨n0, n1, n2, n3, n4, n5, n6, n7, n8, n9, n10, n11⟩ := HR.out.cells
  clear n0 n1 n2 n3 n4 n5 n6 n7 n8 n9 hb1 hr hx
  go_enter Try.func23, Try.ntmps23
  go_upto_region 1 with fail
  rw [← hW1]
  clear hW1
  go_upto_region 4 with (first | (go_at_call 45; (with_reducible refine (opd_b q.op 0 l _ HN.out).mono ?_); rintro e w4 ⟨rfl, rfl⟩) | (go_at_call 38; (with_reducible refine (hasPlace_b c v B g S N gs gl W L q a m d r true _ HR.out H2.out).mono ?_); rintro e w3 ⟨rfl, hb3⟩; have HX := Lib.hid (HX.out.later hb3); have HW := Lib.hid (HW.out.keep (hb3.mono HR.out.hB)); have HB := Lib.hid (HB.out.trans (hb3.mono HR.out.hB)); have HR := Lib.hid (HR.out.later hb3); clear hb3 x0 x1 x2 x3 x4 x5 x6 x7 x8 x9 x10 n10 n11 hq0; obtain ⟨x0, x1, x2, x3, x4, x5, x6, x7, x8, x9, x10⟩ := HX.out.elev; obtain ⟨n0, n1, n2, n3, n4, n5, n6, n7, n8, n9, n10, n11⟩ := HR.out.cells; clear n0 n1 n2 n3 n4 n5 n6 n7 n8 n9; have hq0 := HX.out.lt) | (go_at_call 44; (with_reducible refine (isBetween_b true B g c v S N gs gl W L q a m d r _ HR.out HW.out H3.out).mono ?_); rintro e w4 ⟨rfl, hb4⟩; have HX := Lib.hid (HX.out.later hb4); have HW := Lib.hid (HW.out.keep (hb4.mono HR.out.hB)); have HB := Lib.hid (HB.out.trans (hb4.mono HR.out.hB)); have HR := Lib.hid (HR.out.later hb4); clear hb4 x0 x1 x2 x3 x4 x5 x6 x7 x8 x9 x10 n10 n11 hq0; obtain ⟨x0, x1, x2, x3, x4, x5, x6, x7, x8, x9, x10⟩ := HX.out.elev; obtain ⟨n0, n1, n2, n3, n4, n5, n6, n7, n8, n9, n10, n11⟩ := HR.out.cells; clear n0 n1 n2 n3 n4 n5 n6 n7 n8 n9; have hq0 := HX.out.lt))
  have HMS := Lib.hid HR.out.ms
  have HML := Lib.hid HR.out.ml
  have HSS := Lib.hid HR.out.sS
  have HSN := Lib.hid HR.out.sN
  have HT1 := Lib.hid (HW.out.args.take (s := 0) (Nat.zero_le _))
  have HT2 := Lib.hid (show IRow w4 B a.1 a.2.1 a.2.2 (q.args.drop 0) from HW.out.args)
  go_quiet ((first | (go_at_call 18; with_reducible exact Calls.quiet_of_same (allW_q a.1 0 a.2.2 B (q.args.take 0) gs S W true _ _ HT1.out HMS.out HSS.out HA.out)) | (go_at_call 18; with_reducible exact Calls.quiet_of_same (allW_q a.1 a.2.1 a.2.2 B (q.args.drop 0) gl N L false _ _ HT2.out HML.out HSN.out HD.out))))
  go_wp2
  go_ret
  exact ⟨false, rfl, by rw [HV.out, H1.out, H2.out, H3.out, HA.out, HD.out]; simp, (fun h => by cases h), by first | exact HB.out | exact below_drewN HB.out⟩
set_option maxHeartbeats 1000000 in
theorem cr_zK (B g : Nat) (c : CodeM) (v : CodeV) (S N gs gl : Nat) (W L : List Int) (q : InsP) (a m d r : Option Addr × Nat × Nat) (w : World) (hr : Rd w B g c v S N gs gl W L) (hx : InsW w B q a m d r) (l : Nat) (hn : nLn q.op = some (0, l)) (h1 : a.2.1 = 0 + l) (h2 : plK q.op q.k c.ins c.outs v.mems.2.1 v.conts.2.1 c.crosses = true) (h3 : (gdB S W q.guard && decide (r.2.1 = 0)) = true) (ha : (q.args.take 0).all (wrB S W) = true) (hd : (q.args.drop 0).all (wrB N L) = true) (hk : q.op = opAsk) : Calls Try.prog 23 #[.pointer (some ⟨g, 0, none⟩), .agg #[.string q.op, .int .i64 q.dst, .slice a.1 a.2.1 a.2.2, .int .i64 q.k, .int .i64 q.lit.kind, .bool q.lit.neg, .slice m.1 m.2.1 m.2.2, .slice d.1 d.2.1 d.2.2, .string q.lit.name, .int .i64 q.guard, .slice r.1 r.2.1 r.2.2]] w (CrPost B g c v S N gs gl W L q w) := by
  obtain ⟨W1, hW1⟩ : ∃ W1, W1 = w.alloc (.cells #[.string q.op, .int .i64 q.dst, .slice a.1 a.2.1 a.2.2, .int .i64 q.k, .int .i64 q.lit.kind, .bool q.lit.neg, .slice m.1 m.2.1 m.2.2, .slice d.1 d.2.1 d.2.2, .string q.lit.name, .int .i64 q.guard, .slice r.1 r.2.1 r.2.2] 52) := ⟨_, rfl⟩
  have hb1 : Below w.heap.size w W1 := by rw [hW1]; exact (Below.refl _ _).alloc (Nat.le_refl _) _
  have HX := Lib.hid (show Blk W1 w.heap.size 52 (ics q a m d r) from by rw [hW1]; exact Blk.new _ _ _)
  have HR := Lib.hid (hr.later hb1)
  have HB := Lib.hid (hb1.mono hr.hB)
  have HW := Lib.hid (hx.keep HB.out)
  have HV := Lib.hid (cr_eq hn hr hx)
  have HGW : Hid (gs < w.heap.size) := Lib.hid hr.ms.lt
  obtain ⟨hs1, hl2⟩ := nLn_le hn
  have HN := Lib.hid hn
  clear hn
  have hma := hx.args.len_le
  have hmr := hx.resets.len_le
  have HMA := Lib.hid hma
  have hq0 : w.heap.size < W1.heap.size := HX.out.lt
  have H1 := Lib.hid (decide_eq_true h1)
  have g1 : ((a.2.1 : Int) == (l : Int)) = true := by rw [beq_iff_eq]; omega
  have g2 : ((a.2.1 : Int) != (l : Int)) = false := by show (!(_ == _)) = _; rw [g1]; rfl
  have H1N := Lib.hid h1
  clear h1
  have g3 : (q.op.toList == [97, 115, 107]) = true := by rw [hk, Lib.toList_data]; rfl
  have H2 := Lib.hid h2
  clear h2
  have H3 := Lib.hid h3
  clear h3
  have HA := Lib.hid ha
  clear ha
  have HD := Lib.hid hd
  clear hd
  have HK := Lib.hid hk
  have HKD := Lib.hid (decide_eq_true hk)
  clear hk
  unfold maxLen at hma hmr
  obtain ⟨x0, x1, x2, x3, x4, x5, x6, x7, x8, x9, x10⟩ := HX.out.elev
  obtain ⟨n0, n1, n2, n3, n4, n5, n6, n7, n8, n9, n10, n11⟩ := HR.out.cells
  clear n0 n1 n2 n3 n4 n5 n6 n7 n8 n9 hb1 hr hx
  go_enter Try.func23, Try.ntmps23
  go_upto_region 1 with fail
  rw [← hW1]
  clear hW1
  go_upto_region 4 with (first | (go_at_call 45; (with_reducible refine (opd_b q.op 0 l _ HN.out).mono ?_); rintro e w4 ⟨rfl, rfl⟩) | (go_at_call 38; (with_reducible refine (hasPlace_b c v B g S N gs gl W L q a m d r true _ HR.out H2.out).mono ?_); rintro e w3 ⟨rfl, hb3⟩; have HX := Lib.hid (HX.out.later hb3); have HW := Lib.hid (HW.out.keep (hb3.mono HR.out.hB)); have HB := Lib.hid (HB.out.trans (hb3.mono HR.out.hB)); have HR := Lib.hid (HR.out.later hb3); clear hb3 x0 x1 x2 x3 x4 x5 x6 x7 x8 x9 x10 n10 n11 hq0; obtain ⟨x0, x1, x2, x3, x4, x5, x6, x7, x8, x9, x10⟩ := HX.out.elev; obtain ⟨n0, n1, n2, n3, n4, n5, n6, n7, n8, n9, n10, n11⟩ := HR.out.cells; clear n0 n1 n2 n3 n4 n5 n6 n7 n8 n9; have hq0 := HX.out.lt) | (go_at_call 44; (with_reducible refine (isBetween_b true B g c v S N gs gl W L q a m d r _ HR.out HW.out H3.out).mono ?_); rintro e w4 ⟨rfl, hb4⟩; have HX := Lib.hid (HX.out.later hb4); have HW := Lib.hid (HW.out.keep (hb4.mono HR.out.hB)); have HB := Lib.hid (HB.out.trans (hb4.mono HR.out.hB)); have HR := Lib.hid (HR.out.later hb4); clear hb4 x0 x1 x2 x3 x4 x5 x6 x7 x8 x9 x10 n10 n11 hq0; obtain ⟨x0, x1, x2, x3, x4, x5, x6, x7, x8, x9, x10⟩ := HX.out.elev; obtain ⟨n0, n1, n2, n3, n4, n5, n6, n7, n8, n9, n10, n11⟩ := HR.out.cells; clear n0 n1 n2 n3 n4 n5 n6 n7 n8 n9; have hq0 := HX.out.lt))
  have HMS := Lib.hid HR.out.ms
  have HML := Lib.hid HR.out.ml
  have HSS := Lib.hid HR.out.sS
  have HSN := Lib.hid HR.out.sN
  have HT1 := Lib.hid (HW.out.args.take (s := 0) (Nat.zero_le _))
  have HT2 := Lib.hid (show IRow w4 B a.1 a.2.1 a.2.2 (q.args.drop 0) from HW.out.args)
  go_quiet ((first | (go_at_call 18; with_reducible exact Calls.quiet_of_same (allW_q a.1 0 a.2.2 B (q.args.take 0) gs S W true _ _ HT1.out HMS.out HSS.out HA.out)) | (go_at_call 18; with_reducible exact Calls.quiet_of_same (allW_q a.1 a.2.1 a.2.2 B (q.args.drop 0) gl N L true _ _ HT2.out HML.out HSN.out HD.out))))
  go_upto_region 6 with fail
  generalize hw5 : World.drewN _ _ = w5
  have HB5 := Lib.hid (show Below B w w5 from by rw [← hw5]; exact below_drewN HB.out)
  have HR5 := Lib.hid (show Rd w5 B g c v S N gs gl W L from by rw [← hw5]; exact HR.out.drewN)
  have HX5 := Lib.hid (show Blk w5 w.heap.size 52 (ics q a m d r) from by rw [← hw5]; exact HX.out)
  clear hw5 x0 x1 x2 x3 x4 x5 x6 x7 x8 x9 x10 n10 n11
  have n11 := HR5.out.blk.cell 11 rfl
  obtain ⟨x0, x1, x2, x3, x4, x5, x6, x7, x8, x9, x10⟩ := HX5.out.elev
  go_quiet (fail)
  go_wp2
  go_ret
  exact ⟨true, rfl, by rw [HV.out, H1.out, H2.out, H3.out, HA.out, HD.out, HKD.out]; simp, fun _ => by unfold lNext; rw [if_pos HK.out]; exact HR5.out.drewN, below_drewN HB5.out⟩
set_option maxHeartbeats 1000000 in
theorem cr_zF (B g : Nat) (c : CodeM) (v : CodeV) (S N gs gl : Nat) (W L : List Int) (q : InsP) (a m d r : Option Addr × Nat × Nat) (w : World) (hr : Rd w B g c v S N gs gl W L) (hx : InsW w B q a m d r) (l : Nat) (hn : nLn q.op = some (0, l)) (h1 : a.2.1 = 0 + l) (h2 : plK q.op q.k c.ins c.outs v.mems.2.1 v.conts.2.1 c.crosses = true) (h3 : (gdB S W q.guard && decide (r.2.1 = 0)) = true) (ha : (q.args.take 0).all (wrB S W) = true) (hd : (q.args.drop 0).all (wrB N L) = true) (hk : ¬ q.op = opAsk) (hi : inB q.dst N = false) : Calls Try.prog 23 #[.pointer (some ⟨g, 0, none⟩), .agg #[.string q.op, .int .i64 q.dst, .slice a.1 a.2.1 a.2.2, .int .i64 q.k, .int .i64 q.lit.kind, .bool q.lit.neg, .slice m.1 m.2.1 m.2.2, .slice d.1 d.2.1 d.2.2, .string q.lit.name, .int .i64 q.guard, .slice r.1 r.2.1 r.2.2]] w (CrPost B g c v S N gs gl W L q w) := by
  obtain ⟨W1, hW1⟩ : ∃ W1, W1 = w.alloc (.cells #[.string q.op, .int .i64 q.dst, .slice a.1 a.2.1 a.2.2, .int .i64 q.k, .int .i64 q.lit.kind, .bool q.lit.neg, .slice m.1 m.2.1 m.2.2, .slice d.1 d.2.1 d.2.2, .string q.lit.name, .int .i64 q.guard, .slice r.1 r.2.1 r.2.2] 52) := ⟨_, rfl⟩
  have hb1 : Below w.heap.size w W1 := by rw [hW1]; exact (Below.refl _ _).alloc (Nat.le_refl _) _
  have HX := Lib.hid (show Blk W1 w.heap.size 52 (ics q a m d r) from by rw [hW1]; exact Blk.new _ _ _)
  have HR := Lib.hid (hr.later hb1)
  have HB := Lib.hid (hb1.mono hr.hB)
  have HW := Lib.hid (hx.keep HB.out)
  have HV := Lib.hid (cr_eq hn hr hx)
  have HGW : Hid (gs < w.heap.size) := Lib.hid hr.ms.lt
  obtain ⟨hs1, hl2⟩ := nLn_le hn
  have HN := Lib.hid hn
  clear hn
  have hma := hx.args.len_le
  have hmr := hx.resets.len_le
  have HMA := Lib.hid hma
  have hq0 : w.heap.size < W1.heap.size := HX.out.lt
  have H1 := Lib.hid (decide_eq_true h1)
  have g1 : ((a.2.1 : Int) == (l : Int)) = true := by rw [beq_iff_eq]; omega
  have g2 : ((a.2.1 : Int) != (l : Int)) = false := by show (!(_ == _)) = _; rw [g1]; rfl
  have H1N := Lib.hid h1
  clear h1
  have g3 := str_no (l := [97, 115, 107]) hk
  have H2 := Lib.hid h2
  clear h2
  have H3 := Lib.hid h3
  clear h3
  have HA := Lib.hid ha
  clear ha
  have HD := Lib.hid hd
  clear hd
  have HI := Lib.hid hi
  clear hi
  have HK := Lib.hid hk
  have HKD := Lib.hid (decide_eq_false hk)
  clear hk
  unfold maxLen at hma hmr
  obtain ⟨x0, x1, x2, x3, x4, x5, x6, x7, x8, x9, x10⟩ := HX.out.elev
  obtain ⟨n0, n1, n2, n3, n4, n5, n6, n7, n8, n9, n10, n11⟩ := HR.out.cells
  clear n0 n1 n2 n3 n4 n5 n6 n7 n8 n9 hb1 hr hx
  go_enter Try.func23, Try.ntmps23
  go_upto_region 1 with fail
  rw [← hW1]
  clear hW1
  go_upto_region 4 with (first | (go_at_call 45; (with_reducible refine (opd_b q.op 0 l _ HN.out).mono ?_); rintro e w4 ⟨rfl, rfl⟩) | (go_at_call 38; (with_reducible refine (hasPlace_b c v B g S N gs gl W L q a m d r true _ HR.out H2.out).mono ?_); rintro e w3 ⟨rfl, hb3⟩; have HX := Lib.hid (HX.out.later hb3); have HW := Lib.hid (HW.out.keep (hb3.mono HR.out.hB)); have HB := Lib.hid (HB.out.trans (hb3.mono HR.out.hB)); have HR := Lib.hid (HR.out.later hb3); clear hb3 x0 x1 x2 x3 x4 x5 x6 x7 x8 x9 x10 n10 n11 hq0; obtain ⟨x0, x1, x2, x3, x4, x5, x6, x7, x8, x9, x10⟩ := HX.out.elev; obtain ⟨n0, n1, n2, n3, n4, n5, n6, n7, n8, n9, n10, n11⟩ := HR.out.cells; clear n0 n1 n2 n3 n4 n5 n6 n7 n8 n9; have hq0 := HX.out.lt) | (go_at_call 44; (with_reducible refine (isBetween_b true B g c v S N gs gl W L q a m d r _ HR.out HW.out H3.out).mono ?_); rintro e w4 ⟨rfl, hb4⟩; have HX := Lib.hid (HX.out.later hb4); have HW := Lib.hid (HW.out.keep (hb4.mono HR.out.hB)); have HB := Lib.hid (HB.out.trans (hb4.mono HR.out.hB)); have HR := Lib.hid (HR.out.later hb4); clear hb4 x0 x1 x2 x3 x4 x5 x6 x7 x8 x9 x10 n10 n11 hq0; obtain ⟨x0, x1, x2, x3, x4, x5, x6, x7, x8, x9, x10⟩ := HX.out.elev; obtain ⟨n0, n1, n2, n3, n4, n5, n6, n7, n8, n9, n10, n11⟩ := HR.out.cells; clear n0 n1 n2 n3 n4 n5 n6 n7 n8 n9; have hq0 := HX.out.lt))
  have HMS := Lib.hid HR.out.ms
  have HML := Lib.hid HR.out.ml
  have HSS := Lib.hid HR.out.sS
  have HSN := Lib.hid HR.out.sN
  have HT1 := Lib.hid (HW.out.args.take (s := 0) (Nat.zero_le _))
  have HT2 := Lib.hid (show IRow w4 B a.1 a.2.1 a.2.2 (q.args.drop 0) from HW.out.args)
  go_quiet ((first | (go_at_call 18; with_reducible exact Calls.quiet_of_same (allW_q a.1 0 a.2.2 B (q.args.take 0) gs S W true _ _ HT1.out HMS.out HSS.out HA.out)) | (go_at_call 18; with_reducible exact Calls.quiet_of_same (allW_q a.1 a.2.1 a.2.2 B (q.args.drop 0) gl N L true _ _ HT2.out HML.out HSN.out HD.out))))
  go_upto_region 6 with fail
  generalize hw5 : World.drewN _ _ = w5
  have HB5 := Lib.hid (show Below B w w5 from by rw [← hw5]; exact below_drewN HB.out)
  have HR5 := Lib.hid (show Rd w5 B g c v S N gs gl W L from by rw [← hw5]; exact HR.out.drewN)
  have HX5 := Lib.hid (show Blk w5 w.heap.size 52 (ics q a m d r) from by rw [← hw5]; exact HX.out)
  clear hw5 x0 x1 x2 x3 x4 x5 x6 x7 x8 x9 x10 n10 n11
  have n11 := HR5.out.blk.cell 11 rfl
  obtain ⟨x0, x1, x2, x3, x4, x5, x6, x7, x8, x9, x10⟩ := HX5.out.elev
  go_quiet ((go_at_call 43; exact Calls.quiet_of_same (write_no gl N q.dst _ HI.out)))
  go_wp2
  go_ret
  exact ⟨false, rfl, by rw [HV.out, H1.out, H2.out, H3.out, HA.out, HD.out, HKD.out, HI.out]; simp, (fun h => by cases h), below_drewN HB5.out⟩
set_option maxHeartbeats 1000000 in
theorem cr_zT (B g : Nat) (c : CodeM) (v : CodeV) (S N gs gl : Nat) (W L : List Int) (q : InsP) (a m d r : Option Addr × Nat × Nat) (w : World) (hr : Rd w B g c v S N gs gl W L) (hx : InsW w B q a m d r) (l : Nat) (hn : nLn q.op = some (0, l)) (h1 : a.2.1 = 0 + l) (h2 : plK q.op q.k c.ins c.outs v.mems.2.1 v.conts.2.1 c.crosses = true) (h3 : (gdB S W q.guard && decide (r.2.1 = 0)) = true) (ha : (q.args.take 0).all (wrB S W) = true) (hd : (q.args.drop 0).all (wrB N L) = true) (hk : ¬ q.op = opAsk) (hi : inB q.dst N = true) : Calls Try.prog 23 #[.pointer (some ⟨g, 0, none⟩), .agg #[.string q.op, .int .i64 q.dst, .slice a.1 a.2.1 a.2.2, .int .i64 q.k, .int .i64 q.lit.kind, .bool q.lit.neg, .slice m.1 m.2.1 m.2.2, .slice d.1 d.2.1 d.2.2, .string q.lit.name, .int .i64 q.guard, .slice r.1 r.2.1 r.2.2]] w (CrPost B g c v S N gs gl W L q w) := by
  obtain ⟨W1, hW1⟩ : ∃ W1, W1 = w.alloc (.cells #[.string q.op, .int .i64 q.dst, .slice a.1 a.2.1 a.2.2, .int .i64 q.k, .int .i64 q.lit.kind, .bool q.lit.neg, .slice m.1 m.2.1 m.2.2, .slice d.1 d.2.1 d.2.2, .string q.lit.name, .int .i64 q.guard, .slice r.1 r.2.1 r.2.2] 52) := ⟨_, rfl⟩
  have hb1 : Below w.heap.size w W1 := by rw [hW1]; exact (Below.refl _ _).alloc (Nat.le_refl _) _
  have HX := Lib.hid (show Blk W1 w.heap.size 52 (ics q a m d r) from by rw [hW1]; exact Blk.new _ _ _)
  have HR := Lib.hid (hr.later hb1)
  have HB := Lib.hid (hb1.mono hr.hB)
  have HW := Lib.hid (hx.keep HB.out)
  have HV := Lib.hid (cr_eq hn hr hx)
  have HGW : Hid (gs < w.heap.size) := Lib.hid hr.ms.lt
  obtain ⟨hs1, hl2⟩ := nLn_le hn
  have HN := Lib.hid hn
  clear hn
  have hma := hx.args.len_le
  have hmr := hx.resets.len_le
  have HMA := Lib.hid hma
  have hq0 : w.heap.size < W1.heap.size := HX.out.lt
  have H1 := Lib.hid (decide_eq_true h1)
  have g1 : ((a.2.1 : Int) == (l : Int)) = true := by rw [beq_iff_eq]; omega
  have g2 : ((a.2.1 : Int) != (l : Int)) = false := by show (!(_ == _)) = _; rw [g1]; rfl
  have H1N := Lib.hid h1
  clear h1
  have g3 := str_no (l := [97, 115, 107]) hk
  have HGL : Hid (gl < w.heap.size) := Lib.hid hr.ml.lt
  have H2 := Lib.hid h2
  clear h2
  have H3 := Lib.hid h3
  clear h3
  have HA := Lib.hid ha
  clear ha
  have HD := Lib.hid hd
  clear hd
  have HK := Lib.hid hk
  have HKD := Lib.hid (decide_eq_false hk)
  clear hk
  obtain ⟨j, hj, hjS⟩ := inB_yes hi
  have HI := Lib.hid hi
  have HJ := Lib.hid hj
  clear hi hj
  unfold maxLen at hma hmr
  obtain ⟨x0, x1, x2, x3, x4, x5, x6, x7, x8, x9, x10⟩ := HX.out.elev
  obtain ⟨n0, n1, n2, n3, n4, n5, n6, n7, n8, n9, n10, n11⟩ := HR.out.cells
  clear n0 n1 n2 n3 n4 n5 n6 n7 n8 n9 hb1 hr hx
  go_enter Try.func23, Try.ntmps23
  go_upto_region 1 with fail
  rw [← hW1]
  clear hW1
  go_upto_region 4 with (first | (go_at_call 45; (with_reducible refine (opd_b q.op 0 l _ HN.out).mono ?_); rintro e w4 ⟨rfl, rfl⟩) | (go_at_call 38; (with_reducible refine (hasPlace_b c v B g S N gs gl W L q a m d r true _ HR.out H2.out).mono ?_); rintro e w3 ⟨rfl, hb3⟩; have HX := Lib.hid (HX.out.later hb3); have HW := Lib.hid (HW.out.keep (hb3.mono HR.out.hB)); have HB := Lib.hid (HB.out.trans (hb3.mono HR.out.hB)); have HR := Lib.hid (HR.out.later hb3); clear hb3 x0 x1 x2 x3 x4 x5 x6 x7 x8 x9 x10 n10 n11 hq0; obtain ⟨x0, x1, x2, x3, x4, x5, x6, x7, x8, x9, x10⟩ := HX.out.elev; obtain ⟨n0, n1, n2, n3, n4, n5, n6, n7, n8, n9, n10, n11⟩ := HR.out.cells; clear n0 n1 n2 n3 n4 n5 n6 n7 n8 n9; have hq0 := HX.out.lt) | (go_at_call 44; (with_reducible refine (isBetween_b true B g c v S N gs gl W L q a m d r _ HR.out HW.out H3.out).mono ?_); rintro e w4 ⟨rfl, hb4⟩; have HX := Lib.hid (HX.out.later hb4); have HW := Lib.hid (HW.out.keep (hb4.mono HR.out.hB)); have HB := Lib.hid (HB.out.trans (hb4.mono HR.out.hB)); have HR := Lib.hid (HR.out.later hb4); clear hb4 x0 x1 x2 x3 x4 x5 x6 x7 x8 x9 x10 n10 n11 hq0; obtain ⟨x0, x1, x2, x3, x4, x5, x6, x7, x8, x9, x10⟩ := HX.out.elev; obtain ⟨n0, n1, n2, n3, n4, n5, n6, n7, n8, n9, n10, n11⟩ := HR.out.cells; clear n0 n1 n2 n3 n4 n5 n6 n7 n8 n9; have hq0 := HX.out.lt))
  have HMS := Lib.hid HR.out.ms
  have HML := Lib.hid HR.out.ml
  have HSS := Lib.hid HR.out.sS
  have HSN := Lib.hid HR.out.sN
  have HT1 := Lib.hid (HW.out.args.take (s := 0) (Nat.zero_le _))
  have HT2 := Lib.hid (show IRow w4 B a.1 a.2.1 a.2.2 (q.args.drop 0) from HW.out.args)
  go_quiet ((first | (go_at_call 18; with_reducible exact Calls.quiet_of_same (allW_q a.1 0 a.2.2 B (q.args.take 0) gs S W true _ _ HT1.out HMS.out HSS.out HA.out)) | (go_at_call 18; with_reducible exact Calls.quiet_of_same (allW_q a.1 a.2.1 a.2.2 B (q.args.drop 0) gl N L true _ _ HT2.out HML.out HSN.out HD.out))))
  go_upto_region 6 with fail
  generalize hw5 : World.drewN _ _ = w5
  have HB5 := Lib.hid (show Below B w w5 from by rw [← hw5]; exact below_drewN HB.out)
  have HR5 := Lib.hid (show Rd w5 B g c v S N gs gl W L from by rw [← hw5]; exact HR.out.drewN)
  have HX5 := Lib.hid (show Blk w5 w.heap.size 52 (ics q a m d r) from by rw [← hw5]; exact HX.out)
  clear hw5 x0 x1 x2 x3 x4 x5 x6 x7 x8 x9 x10 n10 n11
  have HR6 := Lib.hid HR5.out.drew
  have HX6 := Lib.hid (show Blk w5.drew w.heap.size 52 (ics q a m d r) from HX5.out)
  have HP := Lib.hid (show w5.drew.cell? ⟨g, 11, none⟩ = some (.slice (some ⟨gl, 0, none⟩) N N) ∧ w5.drew.cell? ⟨w.heap.size, 0, none⟩ = some (.string q.op) ∧ w5.drew.cell? ⟨w.heap.size, 1, none⟩ = some (.int .i64 (j : Int)) from ⟨HR6.out.blk.cell 11 rfl, HX6.out.cell 0 rfl, by rw [← HJ.out]; exact HX6.out.cell 1 rfl⟩)
  go_region_held3 (fun w' => w'.cell? ⟨g, 11, none⟩ = some (.slice (some ⟨gl, 0, none⟩) N N) ∧ w'.cell? ⟨w.heap.size, 0, none⟩ = some (.string q.op) ∧ w'.cell? ⟨w.heap.size, 1, none⟩ = some (.int .i64 (j : Int))) (first | with_reducible exact HP.out | exact HPa.out) (first
    | (go_at_call 43; (with_reducible refine (write_yes gl N L j _ HR6.out.ml HSN.out (by rw [← HJ.out]; exact HI.out)).mono ?_); rintro e w7 ⟨rfl, rfl⟩; have HR7 := Lib.hid (HR6.out.putL j); have HPa := Lib.hid (show (w5.drew.setCell ⟨gl, j, none⟩ (.bool true)).cell? ⟨g, 11, none⟩ = some (.slice (some ⟨gl, 0, none⟩) N N) ∧ (w5.drew.setCell ⟨gl, j, none⟩ (.bool true)).cell? ⟨w.heap.size, 0, none⟩ = some (.string q.op) ∧ (w5.drew.setCell ⟨gl, j, none⟩ (.bool true)).cell? ⟨w.heap.size, 1, none⟩ = some (.int .i64 (j : Int)) from ⟨HR7.out.blk.cell 11 rfl, (World.cell?_of_block (Below.heap_setCell _ _ _ w.heap.size (Nat.ne_of_gt HGL.out))).trans HP.out.2.1, (World.cell?_of_block (Below.heap_setCell _ _ _ w.heap.size (Nat.ne_of_gt HGL.out))).trans HP.out.2.2⟩)))
  go_wp2
  go_ret
  exact ⟨true, rfl, by rw [HV.out, H1.out, H2.out, H3.out, HA.out, HD.out, HKD.out, HI.out]; simp, fun _ => by unfold lNext; rw [if_neg HK.out, HJ.out]; exact HR6.out.putL j, HB5.out.drew.setCell HR5.out.hl _⟩
set_option maxHeartbeats 1000000 in
theorem cr_eA (B g : Nat) (c : CodeM) (v : CodeV) (S N gs gl : Nat) (W L : List Int) (q : InsP) (a m d r : Option Addr × Nat × Nat) (w : World) (hr : Rd w B g c v S N gs gl W L) (hx : InsW w B q a m d r) (l : Nat) (hn : nLn q.op = some (1, l)) (hc : a.2.2 = 1) (h1 : a.2.1 = 1 + l) (h2 : plK q.op q.k c.ins c.outs v.mems.2.1 v.conts.2.1 c.crosses = true) (h3 : (gdB S W q.guard && decide (r.2.1 = 0)) = true) (ha : (q.args.take 1).all (wrB S W) = false) : Calls Try.prog 23 #[.pointer (some ⟨g, 0, none⟩), .agg #[.string q.op, .int .i64 q.dst, .slice a.1 a.2.1 a.2.2, .int .i64 q.k, .int .i64 q.lit.kind, .bool q.lit.neg, .slice m.1 m.2.1 m.2.2, .slice d.1 d.2.1 d.2.2, .string q.lit.name, .int .i64 q.guard, .slice r.1 r.2.1 r.2.2]] w (CrPost B g c v S N gs gl W L q w) := by
  obtain ⟨W1, hW1⟩ : ∃ W1, W1 = w.alloc (.cells #[.string q.op, .int .i64 q.dst, .slice a.1 a.2.1 a.2.2, .int .i64 q.k, .int .i64 q.lit.kind, .bool q.lit.neg, .slice m.1 m.2.1 m.2.2, .slice d.1 d.2.1 d.2.2, .string q.lit.name, .int .i64 q.guard, .slice r.1 r.2.1 r.2.2] 52) := ⟨_, rfl⟩
  have hb1 : Below w.heap.size w W1 := by rw [hW1]; exact (Below.refl _ _).alloc (Nat.le_refl _) _
  have HX := Lib.hid (show Blk W1 w.heap.size 52 (ics q a m d r) from by rw [hW1]; exact Blk.new _ _ _)
  have HR := Lib.hid (hr.later hb1)
  have HB := Lib.hid (hb1.mono hr.hB)
  have HW := Lib.hid (hx.keep HB.out)
  have HV := Lib.hid (cr_eq hn hr hx)
  have HGW : Hid (gs < w.heap.size) := Lib.hid hr.ms.lt
  obtain ⟨hs1, hl2⟩ := nLn_le hn
  have HN := Lib.hid hn
  clear hn
  have hma := hx.args.len_le
  have hmr := hx.resets.len_le
  have HMA := Lib.hid hma
  have hq0 : w.heap.size < W1.heap.size := HX.out.lt
  have H1 := Lib.hid (decide_eq_true h1)
  have g1 : ((a.2.1 : Int) == 1 + (l : Int)) = true := by rw [beq_iff_eq]; omega
  have g2 : ((a.2.1 : Int) != 1 + (l : Int)) = false := by show (!(_ == _)) = _; rw [g1]; rfl
  have H1N := Lib.hid h1
  clear h1
  have HC := Lib.hid hc
  clear hc
  have H2 := Lib.hid h2
  clear h2
  have H3 := Lib.hid h3
  clear h3
  have HA := Lib.hid ha
  clear ha
  unfold maxLen at hma hmr
  obtain ⟨x0, x1, x2, x3, x4, x5, x6, x7, x8, x9, x10⟩ := HX.out.elev
  obtain ⟨n0, n1, n2, n3, n4, n5, n6, n7, n8, n9, n10, n11⟩ := HR.out.cells
  clear n0 n1 n2 n3 n4 n5 n6 n7 n8 n9 hb1 hr hx
  go_enter Try.func23, Try.ntmps23
  go_upto_region 1 with fail
  rw [← hW1]
  clear hW1
  go_upto_region 4 with (first | (go_at_call 45; (with_reducible refine (opd_b q.op 1 l _ HN.out).mono ?_); rintro e w4 ⟨rfl, rfl⟩) | (go_at_call 38; (with_reducible refine (hasPlace_b c v B g S N gs gl W L q a m d r true _ HR.out H2.out).mono ?_); rintro e w3 ⟨rfl, hb3⟩; have HX := Lib.hid (HX.out.later hb3); have HW := Lib.hid (HW.out.keep (hb3.mono HR.out.hB)); have HB := Lib.hid (HB.out.trans (hb3.mono HR.out.hB)); have HR := Lib.hid (HR.out.later hb3); clear hb3 x0 x1 x2 x3 x4 x5 x6 x7 x8 x9 x10 n10 n11 hq0; obtain ⟨x0, x1, x2, x3, x4, x5, x6, x7, x8, x9, x10⟩ := HX.out.elev; obtain ⟨n0, n1, n2, n3, n4, n5, n6, n7, n8, n9, n10, n11⟩ := HR.out.cells; clear n0 n1 n2 n3 n4 n5 n6 n7 n8 n9; have hq0 := HX.out.lt) | (go_at_call 44; (with_reducible refine (isBetween_b true B g c v S N gs gl W L q a m d r _ HR.out HW.out H3.out).mono ?_); rintro e w4 ⟨rfl, hb4⟩; have HX := Lib.hid (HX.out.later hb4); have HW := Lib.hid (HW.out.keep (hb4.mono HR.out.hB)); have HB := Lib.hid (HB.out.trans (hb4.mono HR.out.hB)); have HR := Lib.hid (HR.out.later hb4); clear hb4 x0 x1 x2 x3 x4 x5 x6 x7 x8 x9 x10 n10 n11 hq0; obtain ⟨x0, x1, x2, x3, x4, x5, x6, x7, x8, x9, x10⟩ := HX.out.elev; obtain ⟨n0, n1, n2, n3, n4, n5, n6, n7, n8, n9, n10, n11⟩ := HR.out.cells; clear n0 n1 n2 n3 n4 n5 n6 n7 n8 n9; have hq0 := HX.out.lt))
  have HMS := Lib.hid HR.out.ms
  have HML := Lib.hid HR.out.ml
  have HSS := Lib.hid HR.out.sS
  have HSN := Lib.hid HR.out.sN
  have hn1 : 1 ≤ a.2.1 := by have := H1N.out; omega
  obtain ⟨b, off, hab, hbl, _⟩ := HW.out.args.at_ (i := 0) hn1
  have HAB := Lib.hid HW.out.args
  rw [hab] at HAB x2
  have HT1 := Lib.hid (show IRow w4 B (some ⟨b, off, none⟩) 1 1 (q.args.take 1) from by have h := HAB.out.take (s := 1) hn1; rw [HC.out] at h; exact h)
  have hac : a.2.1 ≤ a.2.2 := HAB.out.2.1
  have hn2 : a.2.1 = 1 := by have := HC.out; omega
  have HT2 := Lib.hid (show IRow w4 B (some ⟨b, off, none⟩) 0 0 (q.args.drop 1) from by have h := HAB.out; rw [hn2, HC.out] at h; exact h.none0)
  rw [hn2, HC.out] at x2
  clear hab hn1 hac
  go_quiet ((first | (go_at_call 18; with_reducible exact Calls.quiet_of_same (allW_q (some ⟨b, off, none⟩) 1 1 B (q.args.take 1) gs S W false _ _ HT1.out HMS.out HSS.out HA.out)) | (go_at_call 18; with_reducible exact Calls.quiet_of_same (allW_q (some ⟨b, off, none⟩) 0 0 B (q.args.drop 1) gl N L false _ _ HT2.out HML.out HSN.out rfl))))
  go_wp2
  go_ret
  exact ⟨false, rfl, by rw [HV.out, H1.out, H2.out, H3.out, HA.out]; simp, (fun h => by cases h), by first | exact HB.out | exact below_drewN HB.out⟩
set_option maxHeartbeats 1000000 in
theorem cr_eD (B g : Nat) (c : CodeM) (v : CodeV) (S N gs gl : Nat) (W L : List Int) (q : InsP) (a m d r : Option Addr × Nat × Nat) (w : World) (hr : Rd w B g c v S N gs gl W L) (hx : InsW w B q a m d r) (l : Nat) (hn : nLn q.op = some (1, l)) (hc : a.2.2 = 1) (h1 : a.2.1 = 1 + l) (h2 : plK q.op q.k c.ins c.outs v.mems.2.1 v.conts.2.1 c.crosses = true) (h3 : (gdB S W q.guard && decide (r.2.1 = 0)) = true) (ha : (q.args.take 1).all (wrB S W) = true) (hd : (q.args.drop 1).all (wrB N L) = false) : Calls Try.prog 23 #[.pointer (some ⟨g, 0, none⟩), .agg #[.string q.op, .int .i64 q.dst, .slice a.1 a.2.1 a.2.2, .int .i64 q.k, .int .i64 q.lit.kind, .bool q.lit.neg, .slice m.1 m.2.1 m.2.2, .slice d.1 d.2.1 d.2.2, .string q.lit.name, .int .i64 q.guard, .slice r.1 r.2.1 r.2.2]] w (CrPost B g c v S N gs gl W L q w) := by
  obtain ⟨W1, hW1⟩ : ∃ W1, W1 = w.alloc (.cells #[.string q.op, .int .i64 q.dst, .slice a.1 a.2.1 a.2.2, .int .i64 q.k, .int .i64 q.lit.kind, .bool q.lit.neg, .slice m.1 m.2.1 m.2.2, .slice d.1 d.2.1 d.2.2, .string q.lit.name, .int .i64 q.guard, .slice r.1 r.2.1 r.2.2] 52) := ⟨_, rfl⟩
  have hb1 : Below w.heap.size w W1 := by rw [hW1]; exact (Below.refl _ _).alloc (Nat.le_refl _) _
  have HX := Lib.hid (show Blk W1 w.heap.size 52 (ics q a m d r) from by rw [hW1]; exact Blk.new _ _ _)
  have HR := Lib.hid (hr.later hb1)
  have HB := Lib.hid (hb1.mono hr.hB)
  have HW := Lib.hid (hx.keep HB.out)
  have HV := Lib.hid (cr_eq hn hr hx)
  have HGW : Hid (gs < w.heap.size) := Lib.hid hr.ms.lt
  obtain ⟨hs1, hl2⟩ := nLn_le hn
  have HN := Lib.hid hn
  clear hn
  have hma := hx.args.len_le
  have hmr := hx.resets.len_le
  have HMA := Lib.hid hma
  have hq0 : w.heap.size < W1.heap.size := HX.out.lt
  have H1 := Lib.hid (decide_eq_true h1)
  have g1 : ((a.2.1 : Int) == 1 + (l : Int)) = true := by rw [beq_iff_eq]; omega
  have g2 : ((a.2.1 : Int) != 1 + (l : Int)) = false := by show (!(_ == _)) = _; rw [g1]; rfl
  have H1N := Lib.hid h1
  clear h1
  have HC := Lib.hid hc
  clear hc
  have H2 := Lib.hid h2
  clear h2
  have H3 := Lib.hid h3
  clear h3
  have HA := Lib.hid ha
  clear ha
  have HD := Lib.hid hd
  clear hd
  unfold maxLen at hma hmr
  obtain ⟨x0, x1, x2, x3, x4, x5, x6, x7, x8, x9, x10⟩ := HX.out.elev
  obtain ⟨n0, n1, n2, n3, n4, n5, n6, n7, n8, n9, n10, n11⟩ := HR.out.cells
  clear n0 n1 n2 n3 n4 n5 n6 n7 n8 n9 hb1 hr hx
  go_enter Try.func23, Try.ntmps23
  go_upto_region 1 with fail
  rw [← hW1]
  clear hW1
  go_upto_region 4 with (first | (go_at_call 45; (with_reducible refine (opd_b q.op 1 l _ HN.out).mono ?_); rintro e w4 ⟨rfl, rfl⟩) | (go_at_call 38; (with_reducible refine (hasPlace_b c v B g S N gs gl W L q a m d r true _ HR.out H2.out).mono ?_); rintro e w3 ⟨rfl, hb3⟩; have HX := Lib.hid (HX.out.later hb3); have HW := Lib.hid (HW.out.keep (hb3.mono HR.out.hB)); have HB := Lib.hid (HB.out.trans (hb3.mono HR.out.hB)); have HR := Lib.hid (HR.out.later hb3); clear hb3 x0 x1 x2 x3 x4 x5 x6 x7 x8 x9 x10 n10 n11 hq0; obtain ⟨x0, x1, x2, x3, x4, x5, x6, x7, x8, x9, x10⟩ := HX.out.elev; obtain ⟨n0, n1, n2, n3, n4, n5, n6, n7, n8, n9, n10, n11⟩ := HR.out.cells; clear n0 n1 n2 n3 n4 n5 n6 n7 n8 n9; have hq0 := HX.out.lt) | (go_at_call 44; (with_reducible refine (isBetween_b true B g c v S N gs gl W L q a m d r _ HR.out HW.out H3.out).mono ?_); rintro e w4 ⟨rfl, hb4⟩; have HX := Lib.hid (HX.out.later hb4); have HW := Lib.hid (HW.out.keep (hb4.mono HR.out.hB)); have HB := Lib.hid (HB.out.trans (hb4.mono HR.out.hB)); have HR := Lib.hid (HR.out.later hb4); clear hb4 x0 x1 x2 x3 x4 x5 x6 x7 x8 x9 x10 n10 n11 hq0; obtain ⟨x0, x1, x2, x3, x4, x5, x6, x7, x8, x9, x10⟩ := HX.out.elev; obtain ⟨n0, n1, n2, n3, n4, n5, n6, n7, n8, n9, n10, n11⟩ := HR.out.cells; clear n0 n1 n2 n3 n4 n5 n6 n7 n8 n9; have hq0 := HX.out.lt))
  have HMS := Lib.hid HR.out.ms
  have HML := Lib.hid HR.out.ml
  have HSS := Lib.hid HR.out.sS
  have HSN := Lib.hid HR.out.sN
  have hn1 : 1 ≤ a.2.1 := by have := H1N.out; omega
  obtain ⟨b, off, hab, hbl, _⟩ := HW.out.args.at_ (i := 0) hn1
  have HAB := Lib.hid HW.out.args
  rw [hab] at HAB x2
  have HT1 := Lib.hid (show IRow w4 B (some ⟨b, off, none⟩) 1 1 (q.args.take 1) from by have h := HAB.out.take (s := 1) hn1; rw [HC.out] at h; exact h)
  have hac : a.2.1 ≤ a.2.2 := HAB.out.2.1
  have hn2 : a.2.1 = 1 := by have := HC.out; omega
  have HT2 := Lib.hid (show IRow w4 B (some ⟨b, off, none⟩) 0 0 (q.args.drop 1) from by have h := HAB.out; rw [hn2, HC.out] at h; exact h.none0)
  rw [hn2, HC.out] at x2
  clear hab hn1 hac
  go_quiet ((first | (go_at_call 18; with_reducible exact Calls.quiet_of_same (allW_q (some ⟨b, off, none⟩) 1 1 B (q.args.take 1) gs S W true _ _ HT1.out HMS.out HSS.out HA.out)) | (go_at_call 18; with_reducible exact Calls.quiet_of_same (allW_q (some ⟨b, off, none⟩) 0 0 B (q.args.drop 1) gl N L false _ _ HT2.out HML.out HSN.out HD.out))))
  go_wp2
  go_ret
  exact ⟨false, rfl, by rw [HV.out, H1.out, H2.out, H3.out, HA.out, HD.out]; simp, (fun h => by cases h), by first | exact HB.out | exact below_drewN HB.out⟩
set_option maxHeartbeats 1000000 in
theorem cr_eK (B g : Nat) (c : CodeM) (v : CodeV) (S N gs gl : Nat) (W L : List Int) (q : InsP) (a m d r : Option Addr × Nat × Nat) (w : World) (hr : Rd w B g c v S N gs gl W L) (hx : InsW w B q a m d r) (l : Nat) (hn : nLn q.op = some (1, l)) (hc : a.2.2 = 1) (h1 : a.2.1 = 1 + l) (h2 : plK q.op q.k c.ins c.outs v.mems.2.1 v.conts.2.1 c.crosses = true) (h3 : (gdB S W q.guard && decide (r.2.1 = 0)) = true) (ha : (q.args.take 1).all (wrB S W) = true) (hd : (q.args.drop 1).all (wrB N L) = true) (hk : q.op = opAsk) : Calls Try.prog 23 #[.pointer (some ⟨g, 0, none⟩), .agg #[.string q.op, .int .i64 q.dst, .slice a.1 a.2.1 a.2.2, .int .i64 q.k, .int .i64 q.lit.kind, .bool q.lit.neg, .slice m.1 m.2.1 m.2.2, .slice d.1 d.2.1 d.2.2, .string q.lit.name, .int .i64 q.guard, .slice r.1 r.2.1 r.2.2]] w (CrPost B g c v S N gs gl W L q w) := by
  obtain ⟨W1, hW1⟩ : ∃ W1, W1 = w.alloc (.cells #[.string q.op, .int .i64 q.dst, .slice a.1 a.2.1 a.2.2, .int .i64 q.k, .int .i64 q.lit.kind, .bool q.lit.neg, .slice m.1 m.2.1 m.2.2, .slice d.1 d.2.1 d.2.2, .string q.lit.name, .int .i64 q.guard, .slice r.1 r.2.1 r.2.2] 52) := ⟨_, rfl⟩
  have hb1 : Below w.heap.size w W1 := by rw [hW1]; exact (Below.refl _ _).alloc (Nat.le_refl _) _
  have HX := Lib.hid (show Blk W1 w.heap.size 52 (ics q a m d r) from by rw [hW1]; exact Blk.new _ _ _)
  have HR := Lib.hid (hr.later hb1)
  have HB := Lib.hid (hb1.mono hr.hB)
  have HW := Lib.hid (hx.keep HB.out)
  have HV := Lib.hid (cr_eq hn hr hx)
  have HGW : Hid (gs < w.heap.size) := Lib.hid hr.ms.lt
  obtain ⟨hs1, hl2⟩ := nLn_le hn
  have HN := Lib.hid hn
  clear hn
  have hma := hx.args.len_le
  have hmr := hx.resets.len_le
  have HMA := Lib.hid hma
  have hq0 : w.heap.size < W1.heap.size := HX.out.lt
  have H1 := Lib.hid (decide_eq_true h1)
  have g1 : ((a.2.1 : Int) == 1 + (l : Int)) = true := by rw [beq_iff_eq]; omega
  have g2 : ((a.2.1 : Int) != 1 + (l : Int)) = false := by show (!(_ == _)) = _; rw [g1]; rfl
  have H1N := Lib.hid h1
  clear h1
  have HC := Lib.hid hc
  clear hc
  have g3 : (q.op.toList == [97, 115, 107]) = true := by rw [hk, Lib.toList_data]; rfl
  have H2 := Lib.hid h2
  clear h2
  have H3 := Lib.hid h3
  clear h3
  have HA := Lib.hid ha
  clear ha
  have HD := Lib.hid hd
  clear hd
  have HK := Lib.hid hk
  have HKD := Lib.hid (decide_eq_true hk)
  clear hk
  unfold maxLen at hma hmr
  obtain ⟨x0, x1, x2, x3, x4, x5, x6, x7, x8, x9, x10⟩ := HX.out.elev
  obtain ⟨n0, n1, n2, n3, n4, n5, n6, n7, n8, n9, n10, n11⟩ := HR.out.cells
  clear n0 n1 n2 n3 n4 n5 n6 n7 n8 n9 hb1 hr hx
  go_enter Try.func23, Try.ntmps23
  go_upto_region 1 with fail
  rw [← hW1]
  clear hW1
  go_upto_region 4 with (first | (go_at_call 45; (with_reducible refine (opd_b q.op 1 l _ HN.out).mono ?_); rintro e w4 ⟨rfl, rfl⟩) | (go_at_call 38; (with_reducible refine (hasPlace_b c v B g S N gs gl W L q a m d r true _ HR.out H2.out).mono ?_); rintro e w3 ⟨rfl, hb3⟩; have HX := Lib.hid (HX.out.later hb3); have HW := Lib.hid (HW.out.keep (hb3.mono HR.out.hB)); have HB := Lib.hid (HB.out.trans (hb3.mono HR.out.hB)); have HR := Lib.hid (HR.out.later hb3); clear hb3 x0 x1 x2 x3 x4 x5 x6 x7 x8 x9 x10 n10 n11 hq0; obtain ⟨x0, x1, x2, x3, x4, x5, x6, x7, x8, x9, x10⟩ := HX.out.elev; obtain ⟨n0, n1, n2, n3, n4, n5, n6, n7, n8, n9, n10, n11⟩ := HR.out.cells; clear n0 n1 n2 n3 n4 n5 n6 n7 n8 n9; have hq0 := HX.out.lt) | (go_at_call 44; (with_reducible refine (isBetween_b true B g c v S N gs gl W L q a m d r _ HR.out HW.out H3.out).mono ?_); rintro e w4 ⟨rfl, hb4⟩; have HX := Lib.hid (HX.out.later hb4); have HW := Lib.hid (HW.out.keep (hb4.mono HR.out.hB)); have HB := Lib.hid (HB.out.trans (hb4.mono HR.out.hB)); have HR := Lib.hid (HR.out.later hb4); clear hb4 x0 x1 x2 x3 x4 x5 x6 x7 x8 x9 x10 n10 n11 hq0; obtain ⟨x0, x1, x2, x3, x4, x5, x6, x7, x8, x9, x10⟩ := HX.out.elev; obtain ⟨n0, n1, n2, n3, n4, n5, n6, n7, n8, n9, n10, n11⟩ := HR.out.cells; clear n0 n1 n2 n3 n4 n5 n6 n7 n8 n9; have hq0 := HX.out.lt))
  have HMS := Lib.hid HR.out.ms
  have HML := Lib.hid HR.out.ml
  have HSS := Lib.hid HR.out.sS
  have HSN := Lib.hid HR.out.sN
  have hn1 : 1 ≤ a.2.1 := by have := H1N.out; omega
  obtain ⟨b, off, hab, hbl, _⟩ := HW.out.args.at_ (i := 0) hn1
  have HAB := Lib.hid HW.out.args
  rw [hab] at HAB x2
  have HT1 := Lib.hid (show IRow w4 B (some ⟨b, off, none⟩) 1 1 (q.args.take 1) from by have h := HAB.out.take (s := 1) hn1; rw [HC.out] at h; exact h)
  have hac : a.2.1 ≤ a.2.2 := HAB.out.2.1
  have hn2 : a.2.1 = 1 := by have := HC.out; omega
  have HT2 := Lib.hid (show IRow w4 B (some ⟨b, off, none⟩) 0 0 (q.args.drop 1) from by have h := HAB.out; rw [hn2, HC.out] at h; exact h.none0)
  rw [hn2, HC.out] at x2
  clear hab hn1 hac
  go_quiet ((first | (go_at_call 18; with_reducible exact Calls.quiet_of_same (allW_q (some ⟨b, off, none⟩) 1 1 B (q.args.take 1) gs S W true _ _ HT1.out HMS.out HSS.out HA.out)) | (go_at_call 18; with_reducible exact Calls.quiet_of_same (allW_q (some ⟨b, off, none⟩) 0 0 B (q.args.drop 1) gl N L true _ _ HT2.out HML.out HSN.out HD.out))))
  go_upto_region 6 with fail
  generalize hw5 : World.drewN _ _ = w5
  have HB5 := Lib.hid (show Below B w w5 from by rw [← hw5]; exact below_drewN HB.out)
  have HR5 := Lib.hid (show Rd w5 B g c v S N gs gl W L from by rw [← hw5]; exact HR.out.drewN)
  have HX5 := Lib.hid (show Blk w5 w.heap.size 52 (ics q a m d r) from by rw [← hw5]; exact HX.out)
  clear hw5 x0 x1 x2 x3 x4 x5 x6 x7 x8 x9 x10 n10 n11
  have n11 := HR5.out.blk.cell 11 rfl
  obtain ⟨x0, x1, x2, x3, x4, x5, x6, x7, x8, x9, x10⟩ := HX5.out.elev
  go_quiet (fail)
  go_wp2
  go_ret
  exact ⟨true, rfl, by rw [HV.out, H1.out, H2.out, H3.out, HA.out, HD.out, HKD.out]; simp, fun _ => by unfold lNext; rw [if_pos HK.out]; exact HR5.out.drewN, below_drewN HB5.out⟩
set_option maxHeartbeats 1000000 in
theorem cr_eF (B g : Nat) (c : CodeM) (v : CodeV) (S N gs gl : Nat) (W L : List Int) (q : InsP) (a m d r : Option Addr × Nat × Nat) (w : World) (hr : Rd w B g c v S N gs gl W L) (hx : InsW w B q a m d r) (l : Nat) (hn : nLn q.op = some (1, l)) (hc : a.2.2 = 1) (h1 : a.2.1 = 1 + l) (h2 : plK q.op q.k c.ins c.outs v.mems.2.1 v.conts.2.1 c.crosses = true) (h3 : (gdB S W q.guard && decide (r.2.1 = 0)) = true) (ha : (q.args.take 1).all (wrB S W) = true) (hd : (q.args.drop 1).all (wrB N L) = true) (hk : ¬ q.op = opAsk) (hi : inB q.dst N = false) : Calls Try.prog 23 #[.pointer (some ⟨g, 0, none⟩), .agg #[.string q.op, .int .i64 q.dst, .slice a.1 a.2.1 a.2.2, .int .i64 q.k, .int .i64 q.lit.kind, .bool q.lit.neg, .slice m.1 m.2.1 m.2.2, .slice d.1 d.2.1 d.2.2, .string q.lit.name, .int .i64 q.guard, .slice r.1 r.2.1 r.2.2]] w (CrPost B g c v S N gs gl W L q w) := by
  obtain ⟨W1, hW1⟩ : ∃ W1, W1 = w.alloc (.cells #[.string q.op, .int .i64 q.dst, .slice a.1 a.2.1 a.2.2, .int .i64 q.k, .int .i64 q.lit.kind, .bool q.lit.neg, .slice m.1 m.2.1 m.2.2, .slice d.1 d.2.1 d.2.2, .string q.lit.name, .int .i64 q.guard, .slice r.1 r.2.1 r.2.2] 52) := ⟨_, rfl⟩
  have hb1 : Below w.heap.size w W1 := by rw [hW1]; exact (Below.refl _ _).alloc (Nat.le_refl _) _
  have HX := Lib.hid (show Blk W1 w.heap.size 52 (ics q a m d r) from by rw [hW1]; exact Blk.new _ _ _)
  have HR := Lib.hid (hr.later hb1)
  have HB := Lib.hid (hb1.mono hr.hB)
  have HW := Lib.hid (hx.keep HB.out)
  have HV := Lib.hid (cr_eq hn hr hx)
  have HGW : Hid (gs < w.heap.size) := Lib.hid hr.ms.lt
  obtain ⟨hs1, hl2⟩ := nLn_le hn
  have HN := Lib.hid hn
  clear hn
  have hma := hx.args.len_le
  have hmr := hx.resets.len_le
  have HMA := Lib.hid hma
  have hq0 : w.heap.size < W1.heap.size := HX.out.lt
  have H1 := Lib.hid (decide_eq_true h1)
  have g1 : ((a.2.1 : Int) == 1 + (l : Int)) = true := by rw [beq_iff_eq]; omega
  have g2 : ((a.2.1 : Int) != 1 + (l : Int)) = false := by show (!(_ == _)) = _; rw [g1]; rfl
  have H1N := Lib.hid h1
  clear h1
  have HC := Lib.hid hc
  clear hc
  have g3 := str_no (l := [97, 115, 107]) hk
  have H2 := Lib.hid h2
  clear h2
  have H3 := Lib.hid h3
  clear h3
  have HA := Lib.hid ha
  clear ha
  have HD := Lib.hid hd
  clear hd
  have HI := Lib.hid hi
  clear hi
  have HK := Lib.hid hk
  have HKD := Lib.hid (decide_eq_false hk)
  clear hk
  unfold maxLen at hma hmr
  obtain ⟨x0, x1, x2, x3, x4, x5, x6, x7, x8, x9, x10⟩ := HX.out.elev
  obtain ⟨n0, n1, n2, n3, n4, n5, n6, n7, n8, n9, n10, n11⟩ := HR.out.cells
  clear n0 n1 n2 n3 n4 n5 n6 n7 n8 n9 hb1 hr hx
  go_enter Try.func23, Try.ntmps23
  go_upto_region 1 with fail
  rw [← hW1]
  clear hW1
  go_upto_region 4 with (first | (go_at_call 45; (with_reducible refine (opd_b q.op 1 l _ HN.out).mono ?_); rintro e w4 ⟨rfl, rfl⟩) | (go_at_call 38; (with_reducible refine (hasPlace_b c v B g S N gs gl W L q a m d r true _ HR.out H2.out).mono ?_); rintro e w3 ⟨rfl, hb3⟩; have HX := Lib.hid (HX.out.later hb3); have HW := Lib.hid (HW.out.keep (hb3.mono HR.out.hB)); have HB := Lib.hid (HB.out.trans (hb3.mono HR.out.hB)); have HR := Lib.hid (HR.out.later hb3); clear hb3 x0 x1 x2 x3 x4 x5 x6 x7 x8 x9 x10 n10 n11 hq0; obtain ⟨x0, x1, x2, x3, x4, x5, x6, x7, x8, x9, x10⟩ := HX.out.elev; obtain ⟨n0, n1, n2, n3, n4, n5, n6, n7, n8, n9, n10, n11⟩ := HR.out.cells; clear n0 n1 n2 n3 n4 n5 n6 n7 n8 n9; have hq0 := HX.out.lt) | (go_at_call 44; (with_reducible refine (isBetween_b true B g c v S N gs gl W L q a m d r _ HR.out HW.out H3.out).mono ?_); rintro e w4 ⟨rfl, hb4⟩; have HX := Lib.hid (HX.out.later hb4); have HW := Lib.hid (HW.out.keep (hb4.mono HR.out.hB)); have HB := Lib.hid (HB.out.trans (hb4.mono HR.out.hB)); have HR := Lib.hid (HR.out.later hb4); clear hb4 x0 x1 x2 x3 x4 x5 x6 x7 x8 x9 x10 n10 n11 hq0; obtain ⟨x0, x1, x2, x3, x4, x5, x6, x7, x8, x9, x10⟩ := HX.out.elev; obtain ⟨n0, n1, n2, n3, n4, n5, n6, n7, n8, n9, n10, n11⟩ := HR.out.cells; clear n0 n1 n2 n3 n4 n5 n6 n7 n8 n9; have hq0 := HX.out.lt))
  have HMS := Lib.hid HR.out.ms
  have HML := Lib.hid HR.out.ml
  have HSS := Lib.hid HR.out.sS
  have HSN := Lib.hid HR.out.sN
  have hn1 : 1 ≤ a.2.1 := by have := H1N.out; omega
  obtain ⟨b, off, hab, hbl, _⟩ := HW.out.args.at_ (i := 0) hn1
  have HAB := Lib.hid HW.out.args
  rw [hab] at HAB x2
  have HT1 := Lib.hid (show IRow w4 B (some ⟨b, off, none⟩) 1 1 (q.args.take 1) from by have h := HAB.out.take (s := 1) hn1; rw [HC.out] at h; exact h)
  have hac : a.2.1 ≤ a.2.2 := HAB.out.2.1
  have hn2 : a.2.1 = 1 := by have := HC.out; omega
  have HT2 := Lib.hid (show IRow w4 B (some ⟨b, off, none⟩) 0 0 (q.args.drop 1) from by have h := HAB.out; rw [hn2, HC.out] at h; exact h.none0)
  rw [hn2, HC.out] at x2
  clear hab hn1 hac
  go_quiet ((first | (go_at_call 18; with_reducible exact Calls.quiet_of_same (allW_q (some ⟨b, off, none⟩) 1 1 B (q.args.take 1) gs S W true _ _ HT1.out HMS.out HSS.out HA.out)) | (go_at_call 18; with_reducible exact Calls.quiet_of_same (allW_q (some ⟨b, off, none⟩) 0 0 B (q.args.drop 1) gl N L true _ _ HT2.out HML.out HSN.out HD.out))))
  go_upto_region 6 with fail
  generalize hw5 : World.drewN _ _ = w5
  have HB5 := Lib.hid (show Below B w w5 from by rw [← hw5]; exact below_drewN HB.out)
  have HR5 := Lib.hid (show Rd w5 B g c v S N gs gl W L from by rw [← hw5]; exact HR.out.drewN)
  have HX5 := Lib.hid (show Blk w5 w.heap.size 52 (ics q a m d r) from by rw [← hw5]; exact HX.out)
  clear hw5 x0 x1 x2 x3 x4 x5 x6 x7 x8 x9 x10 n10 n11
  have n11 := HR5.out.blk.cell 11 rfl
  obtain ⟨x0, x1, x2, x3, x4, x5, x6, x7, x8, x9, x10⟩ := HX5.out.elev
  go_quiet ((go_at_call 43; exact Calls.quiet_of_same (write_no gl N q.dst _ HI.out)))
  go_wp2
  go_ret
  exact ⟨false, rfl, by rw [HV.out, H1.out, H2.out, H3.out, HA.out, HD.out, HKD.out, HI.out]; simp, (fun h => by cases h), below_drewN HB5.out⟩
set_option maxHeartbeats 1000000 in
theorem cr_eT (B g : Nat) (c : CodeM) (v : CodeV) (S N gs gl : Nat) (W L : List Int) (q : InsP) (a m d r : Option Addr × Nat × Nat) (w : World) (hr : Rd w B g c v S N gs gl W L) (hx : InsW w B q a m d r) (l : Nat) (hn : nLn q.op = some (1, l)) (hc : a.2.2 = 1) (h1 : a.2.1 = 1 + l) (h2 : plK q.op q.k c.ins c.outs v.mems.2.1 v.conts.2.1 c.crosses = true) (h3 : (gdB S W q.guard && decide (r.2.1 = 0)) = true) (ha : (q.args.take 1).all (wrB S W) = true) (hd : (q.args.drop 1).all (wrB N L) = true) (hk : ¬ q.op = opAsk) (hi : inB q.dst N = true) : Calls Try.prog 23 #[.pointer (some ⟨g, 0, none⟩), .agg #[.string q.op, .int .i64 q.dst, .slice a.1 a.2.1 a.2.2, .int .i64 q.k, .int .i64 q.lit.kind, .bool q.lit.neg, .slice m.1 m.2.1 m.2.2, .slice d.1 d.2.1 d.2.2, .string q.lit.name, .int .i64 q.guard, .slice r.1 r.2.1 r.2.2]] w (CrPost B g c v S N gs gl W L q w) := by
  obtain ⟨W1, hW1⟩ : ∃ W1, W1 = w.alloc (.cells #[.string q.op, .int .i64 q.dst, .slice a.1 a.2.1 a.2.2, .int .i64 q.k, .int .i64 q.lit.kind, .bool q.lit.neg, .slice m.1 m.2.1 m.2.2, .slice d.1 d.2.1 d.2.2, .string q.lit.name, .int .i64 q.guard, .slice r.1 r.2.1 r.2.2] 52) := ⟨_, rfl⟩
  have hb1 : Below w.heap.size w W1 := by rw [hW1]; exact (Below.refl _ _).alloc (Nat.le_refl _) _
  have HX := Lib.hid (show Blk W1 w.heap.size 52 (ics q a m d r) from by rw [hW1]; exact Blk.new _ _ _)
  have HR := Lib.hid (hr.later hb1)
  have HB := Lib.hid (hb1.mono hr.hB)
  have HW := Lib.hid (hx.keep HB.out)
  have HV := Lib.hid (cr_eq hn hr hx)
  have HGW : Hid (gs < w.heap.size) := Lib.hid hr.ms.lt
  obtain ⟨hs1, hl2⟩ := nLn_le hn
  have HN := Lib.hid hn
  clear hn
  have hma := hx.args.len_le
  have hmr := hx.resets.len_le
  have HMA := Lib.hid hma
  have hq0 : w.heap.size < W1.heap.size := HX.out.lt
  have H1 := Lib.hid (decide_eq_true h1)
  have g1 : ((a.2.1 : Int) == 1 + (l : Int)) = true := by rw [beq_iff_eq]; omega
  have g2 : ((a.2.1 : Int) != 1 + (l : Int)) = false := by show (!(_ == _)) = _; rw [g1]; rfl
  have H1N := Lib.hid h1
  clear h1
  have HC := Lib.hid hc
  clear hc
  have g3 := str_no (l := [97, 115, 107]) hk
  have HGL : Hid (gl < w.heap.size) := Lib.hid hr.ml.lt
  have H2 := Lib.hid h2
  clear h2
  have H3 := Lib.hid h3
  clear h3
  have HA := Lib.hid ha
  clear ha
  have HD := Lib.hid hd
  clear hd
  have HK := Lib.hid hk
  have HKD := Lib.hid (decide_eq_false hk)
  clear hk
  obtain ⟨j, hj, hjS⟩ := inB_yes hi
  have HI := Lib.hid hi
  have HJ := Lib.hid hj
  clear hi hj
  unfold maxLen at hma hmr
  obtain ⟨x0, x1, x2, x3, x4, x5, x6, x7, x8, x9, x10⟩ := HX.out.elev
  obtain ⟨n0, n1, n2, n3, n4, n5, n6, n7, n8, n9, n10, n11⟩ := HR.out.cells
  clear n0 n1 n2 n3 n4 n5 n6 n7 n8 n9 hb1 hr hx
  go_enter Try.func23, Try.ntmps23
  go_upto_region 1 with fail
  rw [← hW1]
  clear hW1
  go_upto_region 4 with (first | (go_at_call 45; (with_reducible refine (opd_b q.op 1 l _ HN.out).mono ?_); rintro e w4 ⟨rfl, rfl⟩) | (go_at_call 38; (with_reducible refine (hasPlace_b c v B g S N gs gl W L q a m d r true _ HR.out H2.out).mono ?_); rintro e w3 ⟨rfl, hb3⟩; have HX := Lib.hid (HX.out.later hb3); have HW := Lib.hid (HW.out.keep (hb3.mono HR.out.hB)); have HB := Lib.hid (HB.out.trans (hb3.mono HR.out.hB)); have HR := Lib.hid (HR.out.later hb3); clear hb3 x0 x1 x2 x3 x4 x5 x6 x7 x8 x9 x10 n10 n11 hq0; obtain ⟨x0, x1, x2, x3, x4, x5, x6, x7, x8, x9, x10⟩ := HX.out.elev; obtain ⟨n0, n1, n2, n3, n4, n5, n6, n7, n8, n9, n10, n11⟩ := HR.out.cells; clear n0 n1 n2 n3 n4 n5 n6 n7 n8 n9; have hq0 := HX.out.lt) | (go_at_call 44; (with_reducible refine (isBetween_b true B g c v S N gs gl W L q a m d r _ HR.out HW.out H3.out).mono ?_); rintro e w4 ⟨rfl, hb4⟩; have HX := Lib.hid (HX.out.later hb4); have HW := Lib.hid (HW.out.keep (hb4.mono HR.out.hB)); have HB := Lib.hid (HB.out.trans (hb4.mono HR.out.hB)); have HR := Lib.hid (HR.out.later hb4); clear hb4 x0 x1 x2 x3 x4 x5 x6 x7 x8 x9 x10 n10 n11 hq0; obtain ⟨x0, x1, x2, x3, x4, x5, x6, x7, x8, x9, x10⟩ := HX.out.elev; obtain ⟨n0, n1, n2, n3, n4, n5, n6, n7, n8, n9, n10, n11⟩ := HR.out.cells; clear n0 n1 n2 n3 n4 n5 n6 n7 n8 n9; have hq0 := HX.out.lt))
  have HMS := Lib.hid HR.out.ms
  have HML := Lib.hid HR.out.ml
  have HSS := Lib.hid HR.out.sS
  have HSN := Lib.hid HR.out.sN
  have hn1 : 1 ≤ a.2.1 := by have := H1N.out; omega
  obtain ⟨b, off, hab, hbl, _⟩ := HW.out.args.at_ (i := 0) hn1
  have HAB := Lib.hid HW.out.args
  rw [hab] at HAB x2
  have HT1 := Lib.hid (show IRow w4 B (some ⟨b, off, none⟩) 1 1 (q.args.take 1) from by have h := HAB.out.take (s := 1) hn1; rw [HC.out] at h; exact h)
  have hac : a.2.1 ≤ a.2.2 := HAB.out.2.1
  have hn2 : a.2.1 = 1 := by have := HC.out; omega
  have HT2 := Lib.hid (show IRow w4 B (some ⟨b, off, none⟩) 0 0 (q.args.drop 1) from by have h := HAB.out; rw [hn2, HC.out] at h; exact h.none0)
  rw [hn2, HC.out] at x2
  clear hab hn1 hac
  go_quiet ((first | (go_at_call 18; with_reducible exact Calls.quiet_of_same (allW_q (some ⟨b, off, none⟩) 1 1 B (q.args.take 1) gs S W true _ _ HT1.out HMS.out HSS.out HA.out)) | (go_at_call 18; with_reducible exact Calls.quiet_of_same (allW_q (some ⟨b, off, none⟩) 0 0 B (q.args.drop 1) gl N L true _ _ HT2.out HML.out HSN.out HD.out))))
  go_upto_region 6 with fail
  generalize hw5 : World.drewN _ _ = w5
  have HB5 := Lib.hid (show Below B w w5 from by rw [← hw5]; exact below_drewN HB.out)
  have HR5 := Lib.hid (show Rd w5 B g c v S N gs gl W L from by rw [← hw5]; exact HR.out.drewN)
  have HX5 := Lib.hid (show Blk w5 w.heap.size 52 (ics q a m d r) from by rw [← hw5]; exact HX.out)
  clear hw5 x0 x1 x2 x3 x4 x5 x6 x7 x8 x9 x10 n10 n11
  have HR6 := Lib.hid HR5.out.drew
  have HX6 := Lib.hid (show Blk w5.drew w.heap.size 52 (ics q a m d r) from HX5.out)
  have HP := Lib.hid (show w5.drew.cell? ⟨g, 11, none⟩ = some (.slice (some ⟨gl, 0, none⟩) N N) ∧ w5.drew.cell? ⟨w.heap.size, 0, none⟩ = some (.string q.op) ∧ w5.drew.cell? ⟨w.heap.size, 1, none⟩ = some (.int .i64 (j : Int)) from ⟨HR6.out.blk.cell 11 rfl, HX6.out.cell 0 rfl, by rw [← HJ.out]; exact HX6.out.cell 1 rfl⟩)
  go_region_held3 (fun w' => w'.cell? ⟨g, 11, none⟩ = some (.slice (some ⟨gl, 0, none⟩) N N) ∧ w'.cell? ⟨w.heap.size, 0, none⟩ = some (.string q.op) ∧ w'.cell? ⟨w.heap.size, 1, none⟩ = some (.int .i64 (j : Int))) (first | with_reducible exact HP.out | exact HPa.out) (first
    | (go_at_call 43; (with_reducible refine (write_yes gl N L j _ HR6.out.ml HSN.out (by rw [← HJ.out]; exact HI.out)).mono ?_); rintro e w7 ⟨rfl, rfl⟩; have HR7 := Lib.hid (HR6.out.putL j); have HPa := Lib.hid (show (w5.drew.setCell ⟨gl, j, none⟩ (.bool true)).cell? ⟨g, 11, none⟩ = some (.slice (some ⟨gl, 0, none⟩) N N) ∧ (w5.drew.setCell ⟨gl, j, none⟩ (.bool true)).cell? ⟨w.heap.size, 0, none⟩ = some (.string q.op) ∧ (w5.drew.setCell ⟨gl, j, none⟩ (.bool true)).cell? ⟨w.heap.size, 1, none⟩ = some (.int .i64 (j : Int)) from ⟨HR7.out.blk.cell 11 rfl, (World.cell?_of_block (Below.heap_setCell _ _ _ w.heap.size (Nat.ne_of_gt HGL.out))).trans HP.out.2.1, (World.cell?_of_block (Below.heap_setCell _ _ _ w.heap.size (Nat.ne_of_gt HGL.out))).trans HP.out.2.2⟩)))
  go_wp2
  go_ret
  exact ⟨true, rfl, by rw [HV.out, H1.out, H2.out, H3.out, HA.out, HD.out, HKD.out, HI.out]; simp, fun _ => by unfold lNext; rw [if_neg HK.out, HJ.out]; exact HR6.out.putL j, HB5.out.drew.setCell HR5.out.hl _⟩
set_option maxHeartbeats 1000000 in
theorem cr_fA (B g : Nat) (c : CodeM) (v : CodeV) (S N gs gl : Nat) (W L : List Int) (q : InsP) (a m d r : Option Addr × Nat × Nat) (w : World) (hr : Rd w B g c v S N gs gl W L) (hx : InsW w B q a m d r) (l : Nat) (hn : nLn q.op = some (1, l)) (hc : ¬ a.2.2 = 1) (h1 : a.2.1 = 1 + l) (h2 : plK q.op q.k c.ins c.outs v.mems.2.1 v.conts.2.1 c.crosses = true) (h3 : (gdB S W q.guard && decide (r.2.1 = 0)) = true) (ha : (q.args.take 1).all (wrB S W) = false) : Calls Try.prog 23 #[.pointer (some ⟨g, 0, none⟩), .agg #[.string q.op, .int .i64 q.dst, .slice a.1 a.2.1 a.2.2, .int .i64 q.k, .int .i64 q.lit.kind, .bool q.lit.neg, .slice m.1 m.2.1 m.2.2, .slice d.1 d.2.1 d.2.2, .string q.lit.name, .int .i64 q.guard, .slice r.1 r.2.1 r.2.2]] w (CrPost B g c v S N gs gl W L q w) := by
  obtain ⟨W1, hW1⟩ : ∃ W1, W1 = w.alloc (.cells #[.string q.op, .int .i64 q.dst, .slice a.1 a.2.1 a.2.2, .int .i64 q.k, .int .i64 q.lit.kind, .bool q.lit.neg, .slice m.1 m.2.1 m.2.2, .slice d.1 d.2.1 d.2.2, .string q.lit.name, .int .i64 q.guard, .slice r.1 r.2.1 r.2.2] 52) := ⟨_, rfl⟩
  have hb1 : Below w.heap.size w W1 := by rw [hW1]; exact (Below.refl _ _).alloc (Nat.le_refl _) _
  have HX := Lib.hid (show Blk W1 w.heap.size 52 (ics q a m d r) from by rw [hW1]; exact Blk.new _ _ _)
  have HR := Lib.hid (hr.later hb1)
  have HB := Lib.hid (hb1.mono hr.hB)
  have HW := Lib.hid (hx.keep HB.out)
  have HV := Lib.hid (cr_eq hn hr hx)
  have HGW : Hid (gs < w.heap.size) := Lib.hid hr.ms.lt
  obtain ⟨hs1, hl2⟩ := nLn_le hn
  have HN := Lib.hid hn
  clear hn
  have hma := hx.args.len_le
  have hmr := hx.resets.len_le
  have HMA := Lib.hid hma
  have hq0 : w.heap.size < W1.heap.size := HX.out.lt
  have H1 := Lib.hid (decide_eq_true h1)
  have g1 : ((a.2.1 : Int) == 1 + (l : Int)) = true := by rw [beq_iff_eq]; omega
  have g2 : ((a.2.1 : Int) != 1 + (l : Int)) = false := by show (!(_ == _)) = _; rw [g1]; rfl
  have H1N := Lib.hid h1
  clear h1
  have H2 := Lib.hid h2
  clear h2
  have H3 := Lib.hid h3
  clear h3
  have HA := Lib.hid ha
  clear ha
  unfold maxLen at hma hmr
  obtain ⟨x0, x1, x2, x3, x4, x5, x6, x7, x8, x9, x10⟩ := HX.out.elev
  obtain ⟨n0, n1, n2, n3, n4, n5, n6, n7, n8, n9, n10, n11⟩ := HR.out.cells
  clear n0 n1 n2 n3 n4 n5 n6 n7 n8 n9 hb1 hr hx
  go_enter Try.func23, Try.ntmps23
  go_upto_region 1 with fail
  rw [← hW1]
  clear hW1
  go_upto_region 4 with (first | (go_at_call 45; (with_reducible refine (opd_b q.op 1 l _ HN.out).mono ?_); rintro e w4 ⟨rfl, rfl⟩) | (go_at_call 38; (with_reducible refine (hasPlace_b c v B g S N gs gl W L q a m d r true _ HR.out H2.out).mono ?_); rintro e w3 ⟨rfl, hb3⟩; have HX := Lib.hid (HX.out.later hb3); have HW := Lib.hid (HW.out.keep (hb3.mono HR.out.hB)); have HB := Lib.hid (HB.out.trans (hb3.mono HR.out.hB)); have HR := Lib.hid (HR.out.later hb3); clear hb3 x0 x1 x2 x3 x4 x5 x6 x7 x8 x9 x10 n10 n11 hq0; obtain ⟨x0, x1, x2, x3, x4, x5, x6, x7, x8, x9, x10⟩ := HX.out.elev; obtain ⟨n0, n1, n2, n3, n4, n5, n6, n7, n8, n9, n10, n11⟩ := HR.out.cells; clear n0 n1 n2 n3 n4 n5 n6 n7 n8 n9; have hq0 := HX.out.lt) | (go_at_call 44; (with_reducible refine (isBetween_b true B g c v S N gs gl W L q a m d r _ HR.out HW.out H3.out).mono ?_); rintro e w4 ⟨rfl, hb4⟩; have HX := Lib.hid (HX.out.later hb4); have HW := Lib.hid (HW.out.keep (hb4.mono HR.out.hB)); have HB := Lib.hid (HB.out.trans (hb4.mono HR.out.hB)); have HR := Lib.hid (HR.out.later hb4); clear hb4 x0 x1 x2 x3 x4 x5 x6 x7 x8 x9 x10 n10 n11 hq0; obtain ⟨x0, x1, x2, x3, x4, x5, x6, x7, x8, x9, x10⟩ := HX.out.elev; obtain ⟨n0, n1, n2, n3, n4, n5, n6, n7, n8, n9, n10, n11⟩ := HR.out.cells; clear n0 n1 n2 n3 n4 n5 n6 n7 n8 n9; have hq0 := HX.out.lt))
  have HMS := Lib.hid HR.out.ms
  have HML := Lib.hid HR.out.ml
  have HSS := Lib.hid HR.out.sS
  have HSN := Lib.hid HR.out.sN
  have hn1 : 1 ≤ a.2.1 := by have := H1N.out; omega
  obtain ⟨b, off, hab, hbl, _⟩ := HW.out.args.at_ (i := 0) hn1
  have HAB := Lib.hid HW.out.args
  rw [hab] at HAB x2
  have HT1 := Lib.hid (HAB.out.take (s := 1) hn1)
  have hac : a.2.1 ≤ a.2.2 := HAB.out.2.1
  have HT2 := Lib.hid (HAB.out.drop1 hn1)
  have hc2 : ¬ a.2.2 ≤ 1 := by omega
  clear hab
  go_quiet ((first | (go_at_call 18; with_reducible exact Calls.quiet_of_same (allW_q (some ⟨b, off, none⟩) 1 a.2.2 B (q.args.take 1) gs S W false _ _ HT1.out HMS.out HSS.out HA.out)) | (go_at_call 18; with_reducible exact Calls.quiet_of_same (allW_q (some ⟨b, off + 1, none⟩) (a.2.1 - 1) (a.2.2 - 1) B (q.args.drop 1) gl N L false _ _ HT2.out HML.out HSN.out rfl))))
  go_wp2
  go_ret
  exact ⟨false, rfl, by rw [HV.out, H1.out, H2.out, H3.out, HA.out]; simp, (fun h => by cases h), by first | exact HB.out | exact below_drewN HB.out⟩
set_option maxHeartbeats 1000000 in
theorem cr_fD (B g : Nat) (c : CodeM) (v : CodeV) (S N gs gl : Nat) (W L : List Int) (q : InsP) (a m d r : Option Addr × Nat × Nat) (w : World) (hr : Rd w B g c v S N gs gl W L) (hx : InsW w B q a m d r) (l : Nat) (hn : nLn q.op = some (1, l)) (hc : ¬ a.2.2 = 1) (h1 : a.2.1 = 1 + l) (h2 : plK q.op q.k c.ins c.outs v.mems.2.1 v.conts.2.1 c.crosses = true) (h3 : (gdB S W q.guard && decide (r.2.1 = 0)) = true) (ha : (q.args.take 1).all (wrB S W) = true) (hd : (q.args.drop 1).all (wrB N L) = false) : Calls Try.prog 23 #[.pointer (some ⟨g, 0, none⟩), .agg #[.string q.op, .int .i64 q.dst, .slice a.1 a.2.1 a.2.2, .int .i64 q.k, .int .i64 q.lit.kind, .bool q.lit.neg, .slice m.1 m.2.1 m.2.2, .slice d.1 d.2.1 d.2.2, .string q.lit.name, .int .i64 q.guard, .slice r.1 r.2.1 r.2.2]] w (CrPost B g c v S N gs gl W L q w) := by
  obtain ⟨W1, hW1⟩ : ∃ W1, W1 = w.alloc (.cells #[.string q.op, .int .i64 q.dst, .slice a.1 a.2.1 a.2.2, .int .i64 q.k, .int .i64 q.lit.kind, .bool q.lit.neg, .slice m.1 m.2.1 m.2.2, .slice d.1 d.2.1 d.2.2, .string q.lit.name, .int .i64 q.guard, .slice r.1 r.2.1 r.2.2] 52) := ⟨_, rfl⟩
  have hb1 : Below w.heap.size w W1 := by rw [hW1]; exact (Below.refl _ _).alloc (Nat.le_refl _) _
  have HX := Lib.hid (show Blk W1 w.heap.size 52 (ics q a m d r) from by rw [hW1]; exact Blk.new _ _ _)
  have HR := Lib.hid (hr.later hb1)
  have HB := Lib.hid (hb1.mono hr.hB)
  have HW := Lib.hid (hx.keep HB.out)
  have HV := Lib.hid (cr_eq hn hr hx)
  have HGW : Hid (gs < w.heap.size) := Lib.hid hr.ms.lt
  obtain ⟨hs1, hl2⟩ := nLn_le hn
  have HN := Lib.hid hn
  clear hn
  have hma := hx.args.len_le
  have hmr := hx.resets.len_le
  have HMA := Lib.hid hma
  have hq0 : w.heap.size < W1.heap.size := HX.out.lt
  have H1 := Lib.hid (decide_eq_true h1)
  have g1 : ((a.2.1 : Int) == 1 + (l : Int)) = true := by rw [beq_iff_eq]; omega
  have g2 : ((a.2.1 : Int) != 1 + (l : Int)) = false := by show (!(_ == _)) = _; rw [g1]; rfl
  have H1N := Lib.hid h1
  clear h1
  have H2 := Lib.hid h2
  clear h2
  have H3 := Lib.hid h3
  clear h3
  have HA := Lib.hid ha
  clear ha
  have HD := Lib.hid hd
  clear hd
  unfold maxLen at hma hmr
  obtain ⟨x0, x1, x2, x3, x4, x5, x6, x7, x8, x9, x10⟩ := HX.out.elev
  obtain ⟨n0, n1, n2, n3, n4, n5, n6, n7, n8, n9, n10, n11⟩ := HR.out.cells
  clear n0 n1 n2 n3 n4 n5 n6 n7 n8 n9 hb1 hr hx
  go_enter Try.func23, Try.ntmps23
  go_upto_region 1 with fail
  rw [← hW1]
  clear hW1
  go_upto_region 4 with (first | (go_at_call 45; (with_reducible refine (opd_b q.op 1 l _ HN.out).mono ?_); rintro e w4 ⟨rfl, rfl⟩) | (go_at_call 38; (with_reducible refine (hasPlace_b c v B g S N gs gl W L q a m d r true _ HR.out H2.out).mono ?_); rintro e w3 ⟨rfl, hb3⟩; have HX := Lib.hid (HX.out.later hb3); have HW := Lib.hid (HW.out.keep (hb3.mono HR.out.hB)); have HB := Lib.hid (HB.out.trans (hb3.mono HR.out.hB)); have HR := Lib.hid (HR.out.later hb3); clear hb3 x0 x1 x2 x3 x4 x5 x6 x7 x8 x9 x10 n10 n11 hq0; obtain ⟨x0, x1, x2, x3, x4, x5, x6, x7, x8, x9, x10⟩ := HX.out.elev; obtain ⟨n0, n1, n2, n3, n4, n5, n6, n7, n8, n9, n10, n11⟩ := HR.out.cells; clear n0 n1 n2 n3 n4 n5 n6 n7 n8 n9; have hq0 := HX.out.lt) | (go_at_call 44; (with_reducible refine (isBetween_b true B g c v S N gs gl W L q a m d r _ HR.out HW.out H3.out).mono ?_); rintro e w4 ⟨rfl, hb4⟩; have HX := Lib.hid (HX.out.later hb4); have HW := Lib.hid (HW.out.keep (hb4.mono HR.out.hB)); have HB := Lib.hid (HB.out.trans (hb4.mono HR.out.hB)); have HR := Lib.hid (HR.out.later hb4); clear hb4 x0 x1 x2 x3 x4 x5 x6 x7 x8 x9 x10 n10 n11 hq0; obtain ⟨x0, x1, x2, x3, x4, x5, x6, x7, x8, x9, x10⟩ := HX.out.elev; obtain ⟨n0, n1, n2, n3, n4, n5, n6, n7, n8, n9, n10, n11⟩ := HR.out.cells; clear n0 n1 n2 n3 n4 n5 n6 n7 n8 n9; have hq0 := HX.out.lt))
  have HMS := Lib.hid HR.out.ms
  have HML := Lib.hid HR.out.ml
  have HSS := Lib.hid HR.out.sS
  have HSN := Lib.hid HR.out.sN
  have hn1 : 1 ≤ a.2.1 := by have := H1N.out; omega
  obtain ⟨b, off, hab, hbl, _⟩ := HW.out.args.at_ (i := 0) hn1
  have HAB := Lib.hid HW.out.args
  rw [hab] at HAB x2
  have HT1 := Lib.hid (HAB.out.take (s := 1) hn1)
  have hac : a.2.1 ≤ a.2.2 := HAB.out.2.1
  have HT2 := Lib.hid (HAB.out.drop1 hn1)
  have hc2 : ¬ a.2.2 ≤ 1 := by omega
  clear hab
  go_quiet ((first | (go_at_call 18; with_reducible exact Calls.quiet_of_same (allW_q (some ⟨b, off, none⟩) 1 a.2.2 B (q.args.take 1) gs S W true _ _ HT1.out HMS.out HSS.out HA.out)) | (go_at_call 18; with_reducible exact Calls.quiet_of_same (allW_q (some ⟨b, off + 1, none⟩) (a.2.1 - 1) (a.2.2 - 1) B (q.args.drop 1) gl N L false _ _ HT2.out HML.out HSN.out HD.out))))
  go_wp2
  go_ret
  exact ⟨false, rfl, by rw [HV.out, H1.out, H2.out, H3.out, HA.out, HD.out]; simp, (fun h => by cases h), by first | exact HB.out | exact below_drewN HB.out⟩
set_option maxHeartbeats 1000000 in
theorem cr_fK (B g : Nat) (c : CodeM) (v : CodeV) (S N gs gl : Nat) (W L : List Int) (q : InsP) (a m d r : Option Addr × Nat × Nat) (w : World) (hr : Rd w B g c v S N gs gl W L) (hx : InsW w B q a m d r) (l : Nat) (hn : nLn q.op = some (1, l)) (hc : ¬ a.2.2 = 1) (h1 : a.2.1 = 1 + l) (h2 : plK q.op q.k c.ins c.outs v.mems.2.1 v.conts.2.1 c.crosses = true) (h3 : (gdB S W q.guard && decide (r.2.1 = 0)) = true) (ha : (q.args.take 1).all (wrB S W) = true) (hd : (q.args.drop 1).all (wrB N L) = true) (hk : q.op = opAsk) : Calls Try.prog 23 #[.pointer (some ⟨g, 0, none⟩), .agg #[.string q.op, .int .i64 q.dst, .slice a.1 a.2.1 a.2.2, .int .i64 q.k, .int .i64 q.lit.kind, .bool q.lit.neg, .slice m.1 m.2.1 m.2.2, .slice d.1 d.2.1 d.2.2, .string q.lit.name, .int .i64 q.guard, .slice r.1 r.2.1 r.2.2]] w (CrPost B g c v S N gs gl W L q w) := by
  obtain ⟨W1, hW1⟩ : ∃ W1, W1 = w.alloc (.cells #[.string q.op, .int .i64 q.dst, .slice a.1 a.2.1 a.2.2, .int .i64 q.k, .int .i64 q.lit.kind, .bool q.lit.neg, .slice m.1 m.2.1 m.2.2, .slice d.1 d.2.1 d.2.2, .string q.lit.name, .int .i64 q.guard, .slice r.1 r.2.1 r.2.2] 52) := ⟨_, rfl⟩
  have hb1 : Below w.heap.size w W1 := by rw [hW1]; exact (Below.refl _ _).alloc (Nat.le_refl _) _
  have HX := Lib.hid (show Blk W1 w.heap.size 52 (ics q a m d r) from by rw [hW1]; exact Blk.new _ _ _)
  have HR := Lib.hid (hr.later hb1)
  have HB := Lib.hid (hb1.mono hr.hB)
  have HW := Lib.hid (hx.keep HB.out)
  have HV := Lib.hid (cr_eq hn hr hx)
  have HGW : Hid (gs < w.heap.size) := Lib.hid hr.ms.lt
  obtain ⟨hs1, hl2⟩ := nLn_le hn
  have HN := Lib.hid hn
  clear hn
  have hma := hx.args.len_le
  have hmr := hx.resets.len_le
  have HMA := Lib.hid hma
  have hq0 : w.heap.size < W1.heap.size := HX.out.lt
  have H1 := Lib.hid (decide_eq_true h1)
  have g1 : ((a.2.1 : Int) == 1 + (l : Int)) = true := by rw [beq_iff_eq]; omega
  have g2 : ((a.2.1 : Int) != 1 + (l : Int)) = false := by show (!(_ == _)) = _; rw [g1]; rfl
  have H1N := Lib.hid h1
  clear h1
  have g3 : (q.op.toList == [97, 115, 107]) = true := by rw [hk, Lib.toList_data]; rfl
  have H2 := Lib.hid h2
  clear h2
  have H3 := Lib.hid h3
  clear h3
  have HA := Lib.hid ha
  clear ha
  have HD := Lib.hid hd
  clear hd
  have HK := Lib.hid hk
  have HKD := Lib.hid (decide_eq_true hk)
  clear hk
  unfold maxLen at hma hmr
  obtain ⟨x0, x1, x2, x3, x4, x5, x6, x7, x8, x9, x10⟩ := HX.out.elev
  obtain ⟨n0, n1, n2, n3, n4, n5, n6, n7, n8, n9, n10, n11⟩ := HR.out.cells
  clear n0 n1 n2 n3 n4 n5 n6 n7 n8 n9 hb1 hr hx
  go_enter Try.func23, Try.ntmps23
  go_upto_region 1 with fail
  rw [← hW1]
  clear hW1
  go_upto_region 4 with (first | (go_at_call 45; (with_reducible refine (opd_b q.op 1 l _ HN.out).mono ?_); rintro e w4 ⟨rfl, rfl⟩) | (go_at_call 38; (with_reducible refine (hasPlace_b c v B g S N gs gl W L q a m d r true _ HR.out H2.out).mono ?_); rintro e w3 ⟨rfl, hb3⟩; have HX := Lib.hid (HX.out.later hb3); have HW := Lib.hid (HW.out.keep (hb3.mono HR.out.hB)); have HB := Lib.hid (HB.out.trans (hb3.mono HR.out.hB)); have HR := Lib.hid (HR.out.later hb3); clear hb3 x0 x1 x2 x3 x4 x5 x6 x7 x8 x9 x10 n10 n11 hq0; obtain ⟨x0, x1, x2, x3, x4, x5, x6, x7, x8, x9, x10⟩ := HX.out.elev; obtain ⟨n0, n1, n2, n3, n4, n5, n6, n7, n8, n9, n10, n11⟩ := HR.out.cells; clear n0 n1 n2 n3 n4 n5 n6 n7 n8 n9; have hq0 := HX.out.lt) | (go_at_call 44; (with_reducible refine (isBetween_b true B g c v S N gs gl W L q a m d r _ HR.out HW.out H3.out).mono ?_); rintro e w4 ⟨rfl, hb4⟩; have HX := Lib.hid (HX.out.later hb4); have HW := Lib.hid (HW.out.keep (hb4.mono HR.out.hB)); have HB := Lib.hid (HB.out.trans (hb4.mono HR.out.hB)); have HR := Lib.hid (HR.out.later hb4); clear hb4 x0 x1 x2 x3 x4 x5 x6 x7 x8 x9 x10 n10 n11 hq0; obtain ⟨x0, x1, x2, x3, x4, x5, x6, x7, x8, x9, x10⟩ := HX.out.elev; obtain ⟨n0, n1, n2, n3, n4, n5, n6, n7, n8, n9, n10, n11⟩ := HR.out.cells; clear n0 n1 n2 n3 n4 n5 n6 n7 n8 n9; have hq0 := HX.out.lt))
  have HMS := Lib.hid HR.out.ms
  have HML := Lib.hid HR.out.ml
  have HSS := Lib.hid HR.out.sS
  have HSN := Lib.hid HR.out.sN
  have hn1 : 1 ≤ a.2.1 := by have := H1N.out; omega
  obtain ⟨b, off, hab, hbl, _⟩ := HW.out.args.at_ (i := 0) hn1
  have HAB := Lib.hid HW.out.args
  rw [hab] at HAB x2
  have HT1 := Lib.hid (HAB.out.take (s := 1) hn1)
  have hac : a.2.1 ≤ a.2.2 := HAB.out.2.1
  have HT2 := Lib.hid (HAB.out.drop1 hn1)
  have hc2 : ¬ a.2.2 ≤ 1 := by omega
  clear hab
  go_quiet ((first | (go_at_call 18; with_reducible exact Calls.quiet_of_same (allW_q (some ⟨b, off, none⟩) 1 a.2.2 B (q.args.take 1) gs S W true _ _ HT1.out HMS.out HSS.out HA.out)) | (go_at_call 18; with_reducible exact Calls.quiet_of_same (allW_q (some ⟨b, off + 1, none⟩) (a.2.1 - 1) (a.2.2 - 1) B (q.args.drop 1) gl N L true _ _ HT2.out HML.out HSN.out HD.out))))
  go_upto_region 6 with fail
  generalize hw5 : World.drewN _ _ = w5
  have HB5 := Lib.hid (show Below B w w5 from by rw [← hw5]; exact below_drewN HB.out)
  have HR5 := Lib.hid (show Rd w5 B g c v S N gs gl W L from by rw [← hw5]; exact HR.out.drewN)
  have HX5 := Lib.hid (show Blk w5 w.heap.size 52 (ics q a m d r) from by rw [← hw5]; exact HX.out)
  clear hw5 x0 x1 x2 x3 x4 x5 x6 x7 x8 x9 x10 n10 n11
  have n11 := HR5.out.blk.cell 11 rfl
  obtain ⟨x0, x1, x2, x3, x4, x5, x6, x7, x8, x9, x10⟩ := HX5.out.elev
  go_quiet (fail)
  go_wp2
  go_ret
  exact ⟨true, rfl, by rw [HV.out, H1.out, H2.out, H3.out, HA.out, HD.out, HKD.out]; simp, fun _ => by unfold lNext; rw [if_pos HK.out]; exact HR5.out.drewN, below_drewN HB5.out⟩
set_option maxHeartbeats 1000000 in
theorem cr_fF (B g : Nat) (c : CodeM) (v : CodeV) (S N gs gl : Nat) (W L : List Int) (q : InsP) (a m d r : Option Addr × Nat × Nat) (w : World) (hr : Rd w B g c v S N gs gl W L) (hx : InsW w B q a m d r) (l : Nat) (hn : nLn q.op = some (1, l)) (hc : ¬ a.2.2 = 1) (h1 : a.2.1 = 1 + l) (h2 : plK q.op q.k c.ins c.outs v.mems.2.1 v.conts.2.1 c.crosses = true) (h3 : (gdB S W q.guard && decide (r.2.1 = 0)) = true) (ha : (q.args.take 1).all (wrB S W) = true) (hd : (q.args.drop 1).all (wrB N L) = true) (hk : ¬ q.op = opAsk) (hi : inB q.dst N = false) : Calls Try.prog 23 #[.pointer (some ⟨g, 0, none⟩), .agg #[.string q.op, .int .i64 q.dst, .slice a.1 a.2.1 a.2.2, .int .i64 q.k, .int .i64 q.lit.kind, .bool q.lit.neg, .slice m.1 m.2.1 m.2.2, .slice d.1 d.2.1 d.2.2, .string q.lit.name, .int .i64 q.guard, .slice r.1 r.2.1 r.2.2]] w (CrPost B g c v S N gs gl W L q w) := by
  obtain ⟨W1, hW1⟩ : ∃ W1, W1 = w.alloc (.cells #[.string q.op, .int .i64 q.dst, .slice a.1 a.2.1 a.2.2, .int .i64 q.k, .int .i64 q.lit.kind, .bool q.lit.neg, .slice m.1 m.2.1 m.2.2, .slice d.1 d.2.1 d.2.2, .string q.lit.name, .int .i64 q.guard, .slice r.1 r.2.1 r.2.2] 52) := ⟨_, rfl⟩
  have hb1 : Below w.heap.size w W1 := by rw [hW1]; exact (Below.refl _ _).alloc (Nat.le_refl _) _
  have HX := Lib.hid (show Blk W1 w.heap.size 52 (ics q a m d r) from by rw [hW1]; exact Blk.new _ _ _)
  have HR := Lib.hid (hr.later hb1)
  have HB := Lib.hid (hb1.mono hr.hB)
  have HW := Lib.hid (hx.keep HB.out)
  have HV := Lib.hid (cr_eq hn hr hx)
  have HGW : Hid (gs < w.heap.size) := Lib.hid hr.ms.lt
  obtain ⟨hs1, hl2⟩ := nLn_le hn
  have HN := Lib.hid hn
  clear hn
  have hma := hx.args.len_le
  have hmr := hx.resets.len_le
  have HMA := Lib.hid hma
  have hq0 : w.heap.size < W1.heap.size := HX.out.lt
  have H1 := Lib.hid (decide_eq_true h1)
  have g1 : ((a.2.1 : Int) == 1 + (l : Int)) = true := by rw [beq_iff_eq]; omega
  have g2 : ((a.2.1 : Int) != 1 + (l : Int)) = false := by show (!(_ == _)) = _; rw [g1]; rfl
  have H1N := Lib.hid h1
  clear h1
  have g3 := str_no (l := [97, 115, 107]) hk
  have H2 := Lib.hid h2
  clear h2
  have H3 := Lib.hid h3
  clear h3
  have HA := Lib.hid ha
  clear ha
  have HD := Lib.hid hd
  clear hd
  have HI := Lib.hid hi
  clear hi
  have HK := Lib.hid hk
  have HKD := Lib.hid (decide_eq_false hk)
  clear hk
  unfold maxLen at hma hmr
  obtain ⟨x0, x1, x2, x3, x4, x5, x6, x7, x8, x9, x10⟩ := HX.out.elev
  obtain ⟨n0, n1, n2, n3, n4, n5, n6, n7, n8, n9, n10, n11⟩ := HR.out.cells
  clear n0 n1 n2 n3 n4 n5 n6 n7 n8 n9 hb1 hr hx
  go_enter Try.func23, Try.ntmps23
  go_upto_region 1 with fail
  rw [← hW1]
  clear hW1
  go_upto_region 4 with (first | (go_at_call 45; (with_reducible refine (opd_b q.op 1 l _ HN.out).mono ?_); rintro e w4 ⟨rfl, rfl⟩) | (go_at_call 38; (with_reducible refine (hasPlace_b c v B g S N gs gl W L q a m d r true _ HR.out H2.out).mono ?_); rintro e w3 ⟨rfl, hb3⟩; have HX := Lib.hid (HX.out.later hb3); have HW := Lib.hid (HW.out.keep (hb3.mono HR.out.hB)); have HB := Lib.hid (HB.out.trans (hb3.mono HR.out.hB)); have HR := Lib.hid (HR.out.later hb3); clear hb3 x0 x1 x2 x3 x4 x5 x6 x7 x8 x9 x10 n10 n11 hq0; obtain ⟨x0, x1, x2, x3, x4, x5, x6, x7, x8, x9, x10⟩ := HX.out.elev; obtain ⟨n0, n1, n2, n3, n4, n5, n6, n7, n8, n9, n10, n11⟩ := HR.out.cells; clear n0 n1 n2 n3 n4 n5 n6 n7 n8 n9; have hq0 := HX.out.lt) | (go_at_call 44; (with_reducible refine (isBetween_b true B g c v S N gs gl W L q a m d r _ HR.out HW.out H3.out).mono ?_); rintro e w4 ⟨rfl, hb4⟩; have HX := Lib.hid (HX.out.later hb4); have HW := Lib.hid (HW.out.keep (hb4.mono HR.out.hB)); have HB := Lib.hid (HB.out.trans (hb4.mono HR.out.hB)); have HR := Lib.hid (HR.out.later hb4); clear hb4 x0 x1 x2 x3 x4 x5 x6 x7 x8 x9 x10 n10 n11 hq0; obtain ⟨x0, x1, x2, x3, x4, x5, x6, x7, x8, x9, x10⟩ := HX.out.elev; obtain ⟨n0, n1, n2, n3, n4, n5, n6, n7, n8, n9, n10, n11⟩ := HR.out.cells; clear n0 n1 n2 n3 n4 n5 n6 n7 n8 n9; have hq0 := HX.out.lt))
  have HMS := Lib.hid HR.out.ms
  have HML := Lib.hid HR.out.ml
  have HSS := Lib.hid HR.out.sS
  have HSN := Lib.hid HR.out.sN
  have hn1 : 1 ≤ a.2.1 := by have := H1N.out; omega
  obtain ⟨b, off, hab, hbl, _⟩ := HW.out.args.at_ (i := 0) hn1
  have HAB := Lib.hid HW.out.args
  rw [hab] at HAB x2
  have HT1 := Lib.hid (HAB.out.take (s := 1) hn1)
  have hac : a.2.1 ≤ a.2.2 := HAB.out.2.1
  have HT2 := Lib.hid (HAB.out.drop1 hn1)
  have hc2 : ¬ a.2.2 ≤ 1 := by omega
  clear hab
  go_quiet ((first | (go_at_call 18; with_reducible exact Calls.quiet_of_same (allW_q (some ⟨b, off, none⟩) 1 a.2.2 B (q.args.take 1) gs S W true _ _ HT1.out HMS.out HSS.out HA.out)) | (go_at_call 18; with_reducible exact Calls.quiet_of_same (allW_q (some ⟨b, off + 1, none⟩) (a.2.1 - 1) (a.2.2 - 1) B (q.args.drop 1) gl N L true _ _ HT2.out HML.out HSN.out HD.out))))
  go_upto_region 6 with fail
  generalize hw5 : World.drewN _ _ = w5
  have HB5 := Lib.hid (show Below B w w5 from by rw [← hw5]; exact below_drewN HB.out)
  have HR5 := Lib.hid (show Rd w5 B g c v S N gs gl W L from by rw [← hw5]; exact HR.out.drewN)
  have HX5 := Lib.hid (show Blk w5 w.heap.size 52 (ics q a m d r) from by rw [← hw5]; exact HX.out)
  clear hw5 x0 x1 x2 x3 x4 x5 x6 x7 x8 x9 x10 n10 n11
  have n11 := HR5.out.blk.cell 11 rfl
  obtain ⟨x0, x1, x2, x3, x4, x5, x6, x7, x8, x9, x10⟩ := HX5.out.elev
  go_quiet ((go_at_call 43; exact Calls.quiet_of_same (write_no gl N q.dst _ HI.out)))
  go_wp2
  go_ret
  exact ⟨false, rfl, by rw [HV.out, H1.out, H2.out, H3.out, HA.out, HD.out, HKD.out, HI.out]; simp, (fun h => by cases h), below_drewN HB5.out⟩
set_option maxHeartbeats 1000000 in
theorem cr_fT (B g : Nat) (c : CodeM) (v : CodeV) (S N gs gl : Nat) (W L : List Int) (q : InsP) (a m d r : Option Addr × Nat × Nat) (w : World) (hr : Rd w B g c v S N gs gl W L) (hx : InsW w B q a m d r) (l : Nat) (hn : nLn q.op = some (1, l)) (hc : ¬ a.2.2 = 1) (h1 : a.2.1 = 1 + l) (h2 : plK q.op q.k c.ins c.outs v.mems.2.1 v.conts.2.1 c.crosses = true) (h3 : (gdB S W q.guard && decide (r.2.1 = 0)) = true) (ha : (q.args.take 1).all (wrB S W) = true) (hd : (q.args.drop 1).all (wrB N L) = true) (hk : ¬ q.op = opAsk) (hi : inB q.dst N = true) : Calls Try.prog 23 #[.pointer (some ⟨g, 0, none⟩), .agg #[.string q.op, .int .i64 q.dst, .slice a.1 a.2.1 a.2.2, .int .i64 q.k, .int .i64 q.lit.kind, .bool q.lit.neg, .slice m.1 m.2.1 m.2.2, .slice d.1 d.2.1 d.2.2, .string q.lit.name, .int .i64 q.guard, .slice r.1 r.2.1 r.2.2]] w (CrPost B g c v S N gs gl W L q w) := by
  obtain ⟨W1, hW1⟩ : ∃ W1, W1 = w.alloc (.cells #[.string q.op, .int .i64 q.dst, .slice a.1 a.2.1 a.2.2, .int .i64 q.k, .int .i64 q.lit.kind, .bool q.lit.neg, .slice m.1 m.2.1 m.2.2, .slice d.1 d.2.1 d.2.2, .string q.lit.name, .int .i64 q.guard, .slice r.1 r.2.1 r.2.2] 52) := ⟨_, rfl⟩
  have hb1 : Below w.heap.size w W1 := by rw [hW1]; exact (Below.refl _ _).alloc (Nat.le_refl _) _
  have HX := Lib.hid (show Blk W1 w.heap.size 52 (ics q a m d r) from by rw [hW1]; exact Blk.new _ _ _)
  have HR := Lib.hid (hr.later hb1)
  have HB := Lib.hid (hb1.mono hr.hB)
  have HW := Lib.hid (hx.keep HB.out)
  have HV := Lib.hid (cr_eq hn hr hx)
  have HGW : Hid (gs < w.heap.size) := Lib.hid hr.ms.lt
  obtain ⟨hs1, hl2⟩ := nLn_le hn
  have HN := Lib.hid hn
  clear hn
  have hma := hx.args.len_le
  have hmr := hx.resets.len_le
  have HMA := Lib.hid hma
  have hq0 : w.heap.size < W1.heap.size := HX.out.lt
  have H1 := Lib.hid (decide_eq_true h1)
  have g1 : ((a.2.1 : Int) == 1 + (l : Int)) = true := by rw [beq_iff_eq]; omega
  have g2 : ((a.2.1 : Int) != 1 + (l : Int)) = false := by show (!(_ == _)) = _; rw [g1]; rfl
  have H1N := Lib.hid h1
  clear h1
  have g3 := str_no (l := [97, 115, 107]) hk
  have HGL : Hid (gl < w.heap.size) := Lib.hid hr.ml.lt
  have H2 := Lib.hid h2
  clear h2
  have H3 := Lib.hid h3
  clear h3
  have HA := Lib.hid ha
  clear ha
  have HD := Lib.hid hd
  clear hd
  have HK := Lib.hid hk
  have HKD := Lib.hid (decide_eq_false hk)
  clear hk
  obtain ⟨j, hj, hjS⟩ := inB_yes hi
  have HI := Lib.hid hi
  have HJ := Lib.hid hj
  clear hi hj
  unfold maxLen at hma hmr
  obtain ⟨x0, x1, x2, x3, x4, x5, x6, x7, x8, x9, x10⟩ := HX.out.elev
  obtain ⟨n0, n1, n2, n3, n4, n5, n6, n7, n8, n9, n10, n11⟩ := HR.out.cells
  clear n0 n1 n2 n3 n4 n5 n6 n7 n8 n9 hb1 hr hx
  go_enter Try.func23, Try.ntmps23
  go_upto_region 1 with fail
  rw [← hW1]
  clear hW1
  go_upto_region 4 with (first | (go_at_call 45; (with_reducible refine (opd_b q.op 1 l _ HN.out).mono ?_); rintro e w4 ⟨rfl, rfl⟩) | (go_at_call 38; (with_reducible refine (hasPlace_b c v B g S N gs gl W L q a m d r true _ HR.out H2.out).mono ?_); rintro e w3 ⟨rfl, hb3⟩; have HX := Lib.hid (HX.out.later hb3); have HW := Lib.hid (HW.out.keep (hb3.mono HR.out.hB)); have HB := Lib.hid (HB.out.trans (hb3.mono HR.out.hB)); have HR := Lib.hid (HR.out.later hb3); clear hb3 x0 x1 x2 x3 x4 x5 x6 x7 x8 x9 x10 n10 n11 hq0; obtain ⟨x0, x1, x2, x3, x4, x5, x6, x7, x8, x9, x10⟩ := HX.out.elev; obtain ⟨n0, n1, n2, n3, n4, n5, n6, n7, n8, n9, n10, n11⟩ := HR.out.cells; clear n0 n1 n2 n3 n4 n5 n6 n7 n8 n9; have hq0 := HX.out.lt) | (go_at_call 44; (with_reducible refine (isBetween_b true B g c v S N gs gl W L q a m d r _ HR.out HW.out H3.out).mono ?_); rintro e w4 ⟨rfl, hb4⟩; have HX := Lib.hid (HX.out.later hb4); have HW := Lib.hid (HW.out.keep (hb4.mono HR.out.hB)); have HB := Lib.hid (HB.out.trans (hb4.mono HR.out.hB)); have HR := Lib.hid (HR.out.later hb4); clear hb4 x0 x1 x2 x3 x4 x5 x6 x7 x8 x9 x10 n10 n11 hq0; obtain ⟨x0, x1, x2, x3, x4, x5, x6, x7, x8, x9, x10⟩ := HX.out.elev; obtain ⟨n0, n1, n2, n3, n4, n5, n6, n7, n8, n9, n10, n11⟩ := HR.out.cells; clear n0 n1 n2 n3 n4 n5 n6 n7 n8 n9; have hq0 := HX.out.lt))
  have HMS := Lib.hid HR.out.ms
  have HML := Lib.hid HR.out.ml
  have HSS := Lib.hid HR.out.sS
  have HSN := Lib.hid HR.out.sN
  have hn1 : 1 ≤ a.2.1 := by have := H1N.out; omega
  obtain ⟨b, off, hab, hbl, _⟩ := HW.out.args.at_ (i := 0) hn1
  have HAB := Lib.hid HW.out.args
  rw [hab] at HAB x2
  have HT1 := Lib.hid (HAB.out.take (s := 1) hn1)
  have hac : a.2.1 ≤ a.2.2 := HAB.out.2.1
  have HT2 := Lib.hid (HAB.out.drop1 hn1)
  have hc2 : ¬ a.2.2 ≤ 1 := by omega
  clear hab
  go_quiet ((first | (go_at_call 18; with_reducible exact Calls.quiet_of_same (allW_q (some ⟨b, off, none⟩) 1 a.2.2 B (q.args.take 1) gs S W true _ _ HT1.out HMS.out HSS.out HA.out)) | (go_at_call 18; with_reducible exact Calls.quiet_of_same (allW_q (some ⟨b, off + 1, none⟩) (a.2.1 - 1) (a.2.2 - 1) B (q.args.drop 1) gl N L true _ _ HT2.out HML.out HSN.out HD.out))))
  go_upto_region 6 with fail
  generalize hw5 : World.drewN _ _ = w5
  have HB5 := Lib.hid (show Below B w w5 from by rw [← hw5]; exact below_drewN HB.out)
  have HR5 := Lib.hid (show Rd w5 B g c v S N gs gl W L from by rw [← hw5]; exact HR.out.drewN)
  have HX5 := Lib.hid (show Blk w5 w.heap.size 52 (ics q a m d r) from by rw [← hw5]; exact HX.out)
  clear hw5 x0 x1 x2 x3 x4 x5 x6 x7 x8 x9 x10 n10 n11
  have HR6 := Lib.hid HR5.out.drew
  have HX6 := Lib.hid (show Blk w5.drew w.heap.size 52 (ics q a m d r) from HX5.out)
  have HP := Lib.hid (show w5.drew.cell? ⟨g, 11, none⟩ = some (.slice (some ⟨gl, 0, none⟩) N N) ∧ w5.drew.cell? ⟨w.heap.size, 0, none⟩ = some (.string q.op) ∧ w5.drew.cell? ⟨w.heap.size, 1, none⟩ = some (.int .i64 (j : Int)) from ⟨HR6.out.blk.cell 11 rfl, HX6.out.cell 0 rfl, by rw [← HJ.out]; exact HX6.out.cell 1 rfl⟩)
  go_region_held3 (fun w' => w'.cell? ⟨g, 11, none⟩ = some (.slice (some ⟨gl, 0, none⟩) N N) ∧ w'.cell? ⟨w.heap.size, 0, none⟩ = some (.string q.op) ∧ w'.cell? ⟨w.heap.size, 1, none⟩ = some (.int .i64 (j : Int))) (first | with_reducible exact HP.out | exact HPa.out) (first
    | (go_at_call 43; (with_reducible refine (write_yes gl N L j _ HR6.out.ml HSN.out (by rw [← HJ.out]; exact HI.out)).mono ?_); rintro e w7 ⟨rfl, rfl⟩; have HR7 := Lib.hid (HR6.out.putL j); have HPa := Lib.hid (show (w5.drew.setCell ⟨gl, j, none⟩ (.bool true)).cell? ⟨g, 11, none⟩ = some (.slice (some ⟨gl, 0, none⟩) N N) ∧ (w5.drew.setCell ⟨gl, j, none⟩ (.bool true)).cell? ⟨w.heap.size, 0, none⟩ = some (.string q.op) ∧ (w5.drew.setCell ⟨gl, j, none⟩ (.bool true)).cell? ⟨w.heap.size, 1, none⟩ = some (.int .i64 (j : Int)) from ⟨HR7.out.blk.cell 11 rfl, (World.cell?_of_block (Below.heap_setCell _ _ _ w.heap.size (Nat.ne_of_gt HGL.out))).trans HP.out.2.1, (World.cell?_of_block (Below.heap_setCell _ _ _ w.heap.size (Nat.ne_of_gt HGL.out))).trans HP.out.2.2⟩)))
  go_wp2
  go_ret
  exact ⟨true, rfl, by rw [HV.out, H1.out, H2.out, H3.out, HA.out, HD.out, HKD.out, HI.out]; simp, fun _ => by unfold lNext; rw [if_neg HK.out, HJ.out]; exact HR6.out.putL j, HB5.out.drew.setCell HR5.out.hl _⟩
theorem cross_t (B g : Nat) (c : CodeM) (v : CodeV) (S N gs gl : Nat) (W L : List Int) (q : InsP) (a m d r : Option Addr × Nat × Nat) (w : World) (hr : Rd w B g c v S N gs gl W L) (hx : InsW w B q a m d r) : Calls Try.prog 23 #[.pointer (some ⟨g, 0, none⟩), .agg #[.string q.op, .int .i64 q.dst, .slice a.1 a.2.1 a.2.2, .int .i64 q.k, .int .i64 q.lit.kind, .bool q.lit.neg, .slice m.1 m.2.1 m.2.2, .slice d.1 d.2.1 d.2.2, .string q.lit.name, .int .i64 q.guard, .slice r.1 r.2.1 r.2.2]] w (CrPost B g c v S N gs gl W L q w) := by
  cases hn : nLn q.op with
  | none => exact cr_0 B g c v S N gs gl W L q a m d r w hr hx hn
  | some p =>
  obtain ⟨s, l⟩ := p
  by_cases h1 : a.2.1 = s + l
  · cases h2 : plK q.op q.k c.ins c.outs v.mems.2.1 v.conts.2.1 c.crosses with
    | false => exact cr_2 B g c v S N gs gl W L q a m d r w hr hx s l hn h1 h2
    | true =>
    cases h3 : (gdB S W q.guard && decide (r.2.1 = 0)) with
    | false => exact cr_3 B g c v S N gs gl W L q a m d r w hr hx s l hn h1 h2 h3
    | true =>
    have hs := (nLn_le hn).1
    rcases Nat.eq_zero_or_pos s with h0 | h0
    · subst h0
      cases ha : (q.args.take 0).all (wrB S W) with
      | false => exact cr_zA B g c v S N gs gl W L q a m d r w hr hx l hn h1 h2 h3 ha
      | true =>
      cases hd : (q.args.drop 0).all (wrB N L) with
      | false => exact cr_zD B g c v S N gs gl W L q a m d r w hr hx l hn h1 h2 h3 ha hd
      | true =>
      by_cases hk : q.op = opAsk
      · exact cr_zK B g c v S N gs gl W L q a m d r w hr hx l hn h1 h2 h3 ha hd hk
      cases hi : inB q.dst N with
      | false => exact cr_zF B g c v S N gs gl W L q a m d r w hr hx l hn h1 h2 h3 ha hd hk hi
      | true => exact cr_zT B g c v S N gs gl W L q a m d r w hr hx l hn h1 h2 h3 ha hd hk hi
    · obtain rfl : s = 1 := by omega
      by_cases hc : a.2.2 = 1
      · cases ha : (q.args.take 1).all (wrB S W) with
        | false => exact cr_eA B g c v S N gs gl W L q a m d r w hr hx l hn hc h1 h2 h3 ha
        | true =>
        cases hd : (q.args.drop 1).all (wrB N L) with
        | false => exact cr_eD B g c v S N gs gl W L q a m d r w hr hx l hn hc h1 h2 h3 ha hd
        | true =>
        by_cases hk : q.op = opAsk
        · exact cr_eK B g c v S N gs gl W L q a m d r w hr hx l hn hc h1 h2 h3 ha hd hk
        cases hi : inB q.dst N with
        | false => exact cr_eF B g c v S N gs gl W L q a m d r w hr hx l hn hc h1 h2 h3 ha hd hk hi
        | true => exact cr_eT B g c v S N gs gl W L q a m d r w hr hx l hn hc h1 h2 h3 ha hd hk hi
      · cases ha : (q.args.take 1).all (wrB S W) with
        | false => exact cr_fA B g c v S N gs gl W L q a m d r w hr hx l hn hc h1 h2 h3 ha
        | true =>
        cases hd : (q.args.drop 1).all (wrB N L) with
        | false => exact cr_fD B g c v S N gs gl W L q a m d r w hr hx l hn hc h1 h2 h3 ha hd
        | true =>
        by_cases hk : q.op = opAsk
        · exact cr_fK B g c v S N gs gl W L q a m d r w hr hx l hn hc h1 h2 h3 ha hd hk
        cases hi : inB q.dst N with
        | false => exact cr_fF B g c v S N gs gl W L q a m d r w hr hx l hn hc h1 h2 h3 ha hd hk hi
        | true => exact cr_fT B g c v S N gs gl W L q a m d r w hr hx l hn hc h1 h2 h3 ha hd hk hi
  · exact cr_1 B g c v S N gs gl W L q a m d r w hr hx s l hn h1

end Go.Proofs.Ytcljmfhelgkfaaa
