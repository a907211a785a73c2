/- What step of the answer tells. No condition but bounds. -/
import Derived.Test.YtcljmfhelgkfaaaSfV
import Derived.Deep.RegionWith
import Derived.Deep.RegionHeld3
import Derived.Deep.DeepCutAuto
namespace Go.Proofs.Ytcljmfhelgkfaaa
set_option linter.unusedVariables false
set_option linter.unusedSimpArgs false
set_option maxRecDepth 100000
open Go.RowKit

set_option maxHeartbeats 4000000 in
theorem s6_E1 (B : Nat) (c : CodeM) (v : CodeV) (w : World) (h : CodeIs w B c v) (hB : B ≤ w.heap.size) (k : Nat) (hup : k ≤ v.step.2.1) (hok : OkS c k) (x : InsP) (hx : c.step[k]? = some x) (hsz : x.args.length ≤ 20 ∧ x.resets.length ≤ 20) (hg : gdB c.slots (wTo (c.step.take k)) x.guard = true) (haa : x.args.all (wrB c.slots (wTo (c.step.take k))) = true) (hrs : x.resets.all (wrB c.slots (wTo (c.step.take k))) = true) (he : isE x.op = true)  : Calls Try.prog 24 #[.agg #[.int .i64 c.ins, .int .i64 c.outs, .int .i64 c.slots, .int .i64 c.crosses, .int .i64 c.lines, .slice v.mems.1 v.mems.2.1 v.mems.2.2, .slice v.conts.1 v.conts.2.1 v.conts.2.2, .slice v.step.1 v.step.2.1 v.step.2.2, .slice v.deriv.1 v.deriv.2.1 v.deriv.2.2, .slice v.cross.1 v.cross.2.1 v.cross.2.2], .int .i64 (k : Nat)] w fun e w' => e = .returned (.bool (stB c (wTo (c.step.take k)) x)) ∧ Below w.heap.size w w' := by
  obtain ⟨W1, hW1⟩ : ∃ W1, W1 = w.alloc (.cells #[.int .i64 c.ins, .int .i64 c.outs, .int .i64 c.slots, .int .i64 c.crosses, .int .i64 c.lines, .slice v.mems.1 v.mems.2.1 v.mems.2.2, .slice v.conts.1 v.conts.2.1 v.conts.2.2, .slice v.step.1 v.step.2.1 v.step.2.2, .slice v.deriv.1 v.deriv.2.1 v.deriv.2.2, .slice v.cross.1 v.cross.2.1 v.cross.2.2] 25) := ⟨_, rfl⟩
  have HL := Lib.hid (show LwSt w c v W1 from by rw [hW1]; exact LwSt.start (h.more hB))
  clear h hB
  have HOK := Lib.hid hok
  have HSZ := Lib.hid hsz
  obtain ⟨bb, off, ha, hbl, hat⟩ := HL.out.is.step.at_ hx
  obtain ⟨a, m, d, r, hiw, _, _, _, x0, x1, x2, x3, x4, x5, x6, x7, x8, x9, x10⟩ := hat.cells
  have hkl : k < v.step.2.1 := by rw [← HL.out.is.step.1]; exact (List.getElem?_eq_some_iff.1 hx).1
  have hkI : (k : Int) < (v.step.2.1 : Int) := by omega
  have hm := HL.out.is.step.len_le
  unfold maxLen at hm
  obtain ⟨W2, hW2⟩ : ∃ W2, W2 = W1.alloc (.cells #[.string x.op, .int .i64 x.dst, .slice a.1 a.2.1 a.2.2, .int .i64 x.k, .int .i64 x.lit.kind, .bool x.lit.neg, .slice m.1 m.2.1 m.2.2, .slice d.1 d.2.1 d.2.2, .string x.lit.name, .int .i64 x.guard, .slice r.1 r.2.1 r.2.2] 52) := ⟨_, rfl⟩
  have hb2 : Below W1.heap.size W1 W2 := by rw [hW2]; exact (Below.refl _ _).alloc (Nat.le_refl _) _
  have HX := Lib.hid (show Blk W2 W1.heap.size 52 (ics x a m d r) from by rw [hW2]; exact Blk.new _ _ _)
  have HIW := Lib.hid (hiw.keep (hb2.mono HL.out.old.size))
  have HV := Lib.hid (stB_eq (W := (wTo (c.step.take k))) HL.out.is hiw)
  have hb1 : bb < W1.heap.size := Nat.lt_of_lt_of_le hbl HL.out.old.size
  obtain ⟨n0, n1, n2, n3, n4, n5, n6, n7, n8, n9⟩ := HL.out.blk.code
  obtain ⟨EA, hEA⟩ : ∃ EA, EA = v.step.1 := ⟨_, rfl⟩
  rw [← hEA] at ha
  have HEA := Lib.hid hEA
  rw [hEA] at ha
  rw [ha] at n7
  clear hEA HEA ha
  clear hok hsz hx hiw hat hbl
  go_enter Try.func24, Try.ntmps24
  go_upto_region 1 with fail
  rw [← hW1]
  clear hW1
  go_upto_region 2 with fail
  rw [← hW2]
  clear hW2 n0 n1 n2 n3 n4 n5 n6 n7 n8 n9 x0 x1 x2 x3 x4 x5 x6 x7 x8 x9 x10
  have HL := Lib.hid (HL.out.later hb2)
  clear hb2
  obtain ⟨n0, n1, n2, n3, n4, n5, n6, n7, n8, n9⟩ := HL.out.blk.code
  obtain ⟨p0, p1, p2, p3, p4, p5, p6, p7, p8, p9, p10⟩ := HX.out.elev
  have hq0 := HX.out.lt
  have hna : a.2.1 ≤ 20 := by rw [← HIW.out.args.1]; exact HSZ.out.1
  have hnr : r.2.1 ≤ 20 := by rw [← HIW.out.resets.1]; exact HSZ.out.2
  have HG := Lib.hid hg
  clear hg
  have HAA := Lib.hid haa
  clear haa
  have HRS := Lib.hid hrs
  clear hrs
  go_upto_region 5 with (first | (go_at_call 46; (with_reducible refine (guard_r w.heap.size c v _ HL.out.is HL.out.old.size k hup HOK.out x.guard true HG.out).mono ?_); rintro e w2 ⟨rfl, hb2⟩; have HIW := Lib.hid (HIW.out.keep (hb2.mono HL.out.old.size)); have HL := Lib.hid (HL.out.later hb2); have HX := Lib.hid (HX.out.later hb2); clear hb2 n0 n1 n2 n3 n4 n5 n6 n7 n8 n9 p0 p1 p2 p3 p4 p5 p6 p7 p8 p9 p10 hq0; obtain ⟨n0, n1, n2, n3, n4, n5, n6, n7, n8, n9⟩ := HL.out.blk.code; obtain ⟨p0, p1, p2, p3, p4, p5, p6, p7, p8, p9, p10⟩ := HX.out.elev; have hq0 := HX.out.lt) | (go_at_call 47; (with_reducible refine (all_r w.heap.size c v _ HL.out.is HL.out.old.size k hup HOK.out a.1 a.2.1 a.2.2 x.args HIW.out.args true HAA.out).mono ?_); rintro e w2 ⟨rfl, hb2⟩; have HIW := Lib.hid (HIW.out.keep (hb2.mono HL.out.old.size)); have HL := Lib.hid (HL.out.later hb2); have HX := Lib.hid (HX.out.later hb2); clear hb2 n0 n1 n2 n3 n4 n5 n6 n7 n8 n9 p0 p1 p2 p3 p4 p5 p6 p7 p8 p9 p10 hq0; obtain ⟨n0, n1, n2, n3, n4, n5, n6, n7, n8, n9⟩ := HL.out.blk.code; obtain ⟨p0, p1, p2, p3, p4, p5, p6, p7, p8, p9, p10⟩ := HX.out.elev; have hq0 := HX.out.lt) | (go_at_call 47; (with_reducible refine (all_r w.heap.size c v _ HL.out.is HL.out.old.size k hup HOK.out r.1 r.2.1 r.2.2 x.resets HIW.out.resets true HRS.out).mono ?_); rintro e w2 ⟨rfl, hb2⟩; have HIW := Lib.hid (HIW.out.keep (hb2.mono HL.out.old.size)); have HL := Lib.hid (HL.out.later hb2); have HX := Lib.hid (HX.out.later hb2); clear hb2 n0 n1 n2 n3 n4 n5 n6 n7 n8 n9 p0 p1 p2 p3 p4 p5 p6 p7 p8 p9 p10 hq0; obtain ⟨n0, n1, n2, n3, n4, n5, n6, n7, n8, n9⟩ := HL.out.blk.code; obtain ⟨p0, p1, p2, p3, p4, p5, p6, p7, p8, p9, p10⟩ := HX.out.elev; have hq0 := HX.out.lt))
  obtain ⟨q1, q2, q3, q4, q5⟩ := isE_en he (n := a.2.1) hna
  obtain ⟨N1, hN1⟩ : ∃ N1, N1 = (argsV x.op).1 := ⟨_, rfl⟩
  obtain ⟨N2, hN2⟩ : ∃ N2, N2 = (argsV x.op).2 := ⟨_, rfl⟩
  have HAT := Lib.hid (args_t x.op)
  rw [← hN1, ← hN2] at HAT q1
  rw [← hN1] at q2 q3
  rw [← hN2] at q4 q5
  have HNO := Lib.hid (isE_no he)
  have HPK := Lib.hid (HNO.out.1 x.k c.ins c.outs v.mems.2.1 v.conts.2.1 c.crosses)
  have HMB := Lib.hid HNO.out.2.1
  have HIE := Lib.hid HNO.out.2.2
  obtain ⟨e0, e1, e2, e3, e4, e5, e6, e7⟩ := isE_ne he
  have g0 : decide (0 ≤ N1) = true := decide_eq_true q2
  have HQ1 := Lib.hid q1
  clear he hN1 hN2 q1
  by_cases h1 : N1 ≤ (a.2.1 : Int)
  rotate_left
  · have HEF : Hid (enS x.op a.2.1 = false) := Lib.hid (by rw [HQ1.out, decide_eq_false h1]; rfl)
    have g1 : decide ((a.2.1 : Int) < N1) = true := decide_eq_true (by omega)
    clear h1
    go_wp2_with (go_at_call 15; (with_reducible refine (HAT.out _).mono ?_); rintro e w7 ⟨rfl, rfl⟩)
    go_ret
    exact ⟨ret_bool' (by rw [HV.out, HEF.out]; simp), HL.out.old⟩
  have g1 : decide ((a.2.1 : Int) < N1) = false := decide_eq_false (by omega)
  by_cases h2 : (a.2.1 : Int) ≤ N2
  rotate_left
  · have HEF : Hid (enS x.op a.2.1 = false) := Lib.hid (by rw [HQ1.out, decide_eq_false h2]; simp)
    have g2 : decide (N2 < (a.2.1 : Int)) = true := decide_eq_true (by omega)
    clear h1 h2
    go_wp2_with (go_at_call 15; (with_reducible refine (HAT.out _).mono ?_); rintro e w7 ⟨rfl, rfl⟩)
    go_ret
    exact ⟨ret_bool' (by rw [HV.out, HEF.out]; simp), HL.out.old⟩
  have HEF : Hid (enS x.op a.2.1 = true) := Lib.hid (by rw [HQ1.out, decide_eq_true h1, decide_eq_true h2]; rfl)
  have g2 : decide (N2 < (a.2.1 : Int)) = false := decide_eq_false (by omega)
  clear h1 h2
  cases hin : inB x.dst c.slots with
  | false =>
    have HIN := Lib.hid hin
    clear hin
    go_wp2_with (first | (go_at_call 15; (with_reducible refine (HAT.out _).mono ?_); rintro e w7 ⟨rfl, rfl⟩) | (go_at_call 48; (with_reducible refine (in_t x.dst c.slots false _ HIN.out).mono ?_); rintro e w8 ⟨rfl, rfl⟩))
    go_ret
    exact ⟨ret_bool' (by rw [HV.out, HIE.out, HIN.out]; simp), HL.out.old⟩
  | true =>
    have HIN := Lib.hid hin
    clear hin
    by_cases hr0 : r.2.1 = 0
    · have HR0 := Lib.hid (decide_eq_true hr0)
      have hr1 : (r.2.1 : Int) = 0 := by omega
      go_wp2_with (first | (go_at_call 15; (with_reducible refine (HAT.out _).mono ?_); rintro e w7 ⟨rfl, rfl⟩) | (go_at_call 48; (with_reducible refine (in_t x.dst c.slots true _ HIN.out).mono ?_); rintro e w8 ⟨rfl, rfl⟩))
      go_ret
      exact ⟨ret_bool' (by rw [HV.out, HEF.out, HPK.out, HR0.out, HG.out, HAA.out, HRS.out, HIE.out, HIN.out]; simp), HL.out.old⟩
    · have HR0 := Lib.hid (decide_eq_false hr0)
      have hr1 : (0 : Int) < (r.2.1 : Int) := by omega
      have g3 : decide ((0 : Int) < (r.2.1 : Int)) = true := decide_eq_true hr1
      go_wp2_with (first | (go_at_call 15; (with_reducible refine (HAT.out _).mono ?_); rintro e w7 ⟨rfl, rfl⟩) | (go_at_call 48; (with_reducible refine (in_t x.dst c.slots true _ HIN.out).mono ?_); rintro e w8 ⟨rfl, rfl⟩))
      go_ret
      exact ⟨ret_bool' (by rw [HV.out, HR0.out, HMB.out]; simp), HL.out.old⟩
set_option maxHeartbeats 4000000 in
theorem s6_N (B : Nat) (c : CodeM) (v : CodeV) (w : World) (h : CodeIs w B c v) (hB : B ≤ w.heap.size) (k : Nat) (hup : k ≤ v.step.2.1) (hok : OkS c k) (x : InsP) (hx : c.step[k]? = some x) (hsz : x.args.length ≤ 20 ∧ x.resets.length ≤ 20) (hg : gdB c.slots (wTo (c.step.take k)) x.guard = true) (haa : x.args.all (wrB c.slots (wTo (c.step.take k))) = true) (hrs : x.resets.all (wrB c.slots (wTo (c.step.take k))) = true) (he : (∀ n, enS x.op n = false) ∧ argsV x.op = (-1, -1) ∧ (x.op.toList == [105, 110]) = false ∧ (x.op.toList == [109, 101, 109]) = false ∧ (x.op.toList == [99, 111, 110, 116]) = false ∧ (x.op.toList == [102, 108, 97, 103]) = false ∧ (x.op.toList == [107, 101, 101, 112]) = false ∧ (x.op.toList == [115, 116, 97, 116, 101]) = false ∧ (x.op.toList == [111, 117, 116]) = false ∧ (x.op.toList == [97, 103, 97, 105, 110]) = false) : Calls Try.prog 24 #[.agg #[.int .i64 c.ins, .int .i64 c.outs, .int .i64 c.slots, .int .i64 c.crosses, .int .i64 c.lines, .slice v.mems.1 v.mems.2.1 v.mems.2.2, .slice v.conts.1 v.conts.2.1 v.conts.2.2, .slice v.step.1 v.step.2.1 v.step.2.2, .slice v.deriv.1 v.deriv.2.1 v.deriv.2.2, .slice v.cross.1 v.cross.2.1 v.cross.2.2], .int .i64 (k : Nat)] w fun e w' => e = .returned (.bool (stB c (wTo (c.step.take k)) x)) ∧ Below w.heap.size w w' := by
  obtain ⟨W1, hW1⟩ : ∃ W1, W1 = w.alloc (.cells #[.int .i64 c.ins, .int .i64 c.outs, .int .i64 c.slots, .int .i64 c.crosses, .int .i64 c.lines, .slice v.mems.1 v.mems.2.1 v.mems.2.2, .slice v.conts.1 v.conts.2.1 v.conts.2.2, .slice v.step.1 v.step.2.1 v.step.2.2, .slice v.deriv.1 v.deriv.2.1 v.deriv.2.2, .slice v.cross.1 v.cross.2.1 v.cross.2.2] 25) := ⟨_, rfl⟩
  have HL := Lib.hid (show LwSt w c v W1 from by rw [hW1]; exact LwSt.start (h.more hB))
  clear h hB
  have HOK := Lib.hid hok
  have HSZ := Lib.hid hsz
  obtain ⟨bb, off, ha, hbl, hat⟩ := HL.out.is.step.at_ hx
  obtain ⟨a, m, d, r, hiw, _, _, _, x0, x1, x2, x3, x4, x5, x6, x7, x8, x9, x10⟩ := hat.cells
  have hkl : k < v.step.2.1 := by rw [← HL.out.is.step.1]; exact (List.getElem?_eq_some_iff.1 hx).1
  have hkI : (k : Int) < (v.step.2.1 : Int) := by omega
  have hm := HL.out.is.step.len_le
  unfold maxLen at hm
  obtain ⟨W2, hW2⟩ : ∃ W2, W2 = W1.alloc (.cells #[.string x.op, .int .i64 x.dst, .slice a.1 a.2.1 a.2.2, .int .i64 x.k, .int .i64 x.lit.kind, .bool x.lit.neg, .slice m.1 m.2.1 m.2.2, .slice d.1 d.2.1 d.2.2, .string x.lit.name, .int .i64 x.guard, .slice r.1 r.2.1 r.2.2] 52) := ⟨_, rfl⟩
  have hb2 : Below W1.heap.size W1 W2 := by rw [hW2]; exact (Below.refl _ _).alloc (Nat.le_refl _) _
  have HX := Lib.hid (show Blk W2 W1.heap.size 52 (ics x a m d r) from by rw [hW2]; exact Blk.new _ _ _)
  have HIW := Lib.hid (hiw.keep (hb2.mono HL.out.old.size))
  have HV := Lib.hid (stB_eq (W := (wTo (c.step.take k))) HL.out.is hiw)
  have hb1 : bb < W1.heap.size := Nat.lt_of_lt_of_le hbl HL.out.old.size
  obtain ⟨n0, n1, n2, n3, n4, n5, n6, n7, n8, n9⟩ := HL.out.blk.code
  obtain ⟨EA, hEA⟩ : ∃ EA, EA = v.step.1 := ⟨_, rfl⟩
  rw [← hEA] at ha
  have HEA := Lib.hid hEA
  rw [hEA] at ha
  rw [ha] at n7
  clear hEA HEA ha
  clear hok hsz hx hiw hat hbl
  go_enter Try.func24, Try.ntmps24
  go_upto_region 1 with fail
  rw [← hW1]
  clear hW1
  go_upto_region 2 with fail
  rw [← hW2]
  clear hW2 n0 n1 n2 n3 n4 n5 n6 n7 n8 n9 x0 x1 x2 x3 x4 x5 x6 x7 x8 x9 x10
  have HL := Lib.hid (HL.out.later hb2)
  clear hb2
  obtain ⟨n0, n1, n2, n3, n4, n5, n6, n7, n8, n9⟩ := HL.out.blk.code
  obtain ⟨p0, p1, p2, p3, p4, p5, p6, p7, p8, p9, p10⟩ := HX.out.elev
  have hq0 := HX.out.lt
  have hna : a.2.1 ≤ 20 := by rw [← HIW.out.args.1]; exact HSZ.out.1
  have hnr : r.2.1 ≤ 20 := by rw [← HIW.out.resets.1]; exact HSZ.out.2
  have HG := Lib.hid hg
  clear hg
  have HAA := Lib.hid haa
  clear haa
  have HRS := Lib.hid hrs
  clear hrs
  go_upto_region 5 with (first | (go_at_call 46; (with_reducible refine (guard_r w.heap.size c v _ HL.out.is HL.out.old.size k hup HOK.out x.guard true HG.out).mono ?_); rintro e w2 ⟨rfl, hb2⟩; have HIW := Lib.hid (HIW.out.keep (hb2.mono HL.out.old.size)); have HL := Lib.hid (HL.out.later hb2); have HX := Lib.hid (HX.out.later hb2); clear hb2 n0 n1 n2 n3 n4 n5 n6 n7 n8 n9 p0 p1 p2 p3 p4 p5 p6 p7 p8 p9 p10 hq0; obtain ⟨n0, n1, n2, n3, n4, n5, n6, n7, n8, n9⟩ := HL.out.blk.code; obtain ⟨p0, p1, p2, p3, p4, p5, p6, p7, p8, p9, p10⟩ := HX.out.elev; have hq0 := HX.out.lt) | (go_at_call 47; (with_reducible refine (all_r w.heap.size c v _ HL.out.is HL.out.old.size k hup HOK.out a.1 a.2.1 a.2.2 x.args HIW.out.args true HAA.out).mono ?_); rintro e w2 ⟨rfl, hb2⟩; have HIW := Lib.hid (HIW.out.keep (hb2.mono HL.out.old.size)); have HL := Lib.hid (HL.out.later hb2); have HX := Lib.hid (HX.out.later hb2); clear hb2 n0 n1 n2 n3 n4 n5 n6 n7 n8 n9 p0 p1 p2 p3 p4 p5 p6 p7 p8 p9 p10 hq0; obtain ⟨n0, n1, n2, n3, n4, n5, n6, n7, n8, n9⟩ := HL.out.blk.code; obtain ⟨p0, p1, p2, p3, p4, p5, p6, p7, p8, p9, p10⟩ := HX.out.elev; have hq0 := HX.out.lt) | (go_at_call 47; (with_reducible refine (all_r w.heap.size c v _ HL.out.is HL.out.old.size k hup HOK.out r.1 r.2.1 r.2.2 x.resets HIW.out.resets true HRS.out).mono ?_); rintro e w2 ⟨rfl, hb2⟩; have HIW := Lib.hid (HIW.out.keep (hb2.mono HL.out.old.size)); have HL := Lib.hid (HL.out.later hb2); have HX := Lib.hid (HX.out.later hb2); clear hb2 n0 n1 n2 n3 n4 n5 n6 n7 n8 n9 p0 p1 p2 p3 p4 p5 p6 p7 p8 p9 p10 hq0; obtain ⟨n0, n1, n2, n3, n4, n5, n6, n7, n8, n9⟩ := HL.out.blk.code; obtain ⟨p0, p1, p2, p3, p4, p5, p6, p7, p8, p9, p10⟩ := HX.out.elev; have hq0 := HX.out.lt))
  obtain ⟨q1, q2, e0, e1, e2, e3, e4, e5, e6, e7⟩ := he
  have HAT : Hid (∀ w, Calls Try.prog 15 #[.string x.op] w fun e w' => e = .returned (.tuple #[.int .i64 (-1), .int .i64 (-1)]) ∧ w' = w) := Lib.hid (fun w => by have h := args_t x.op w; rw [q2] at h; exact h)
  have HEF := Lib.hid (q1 a.2.1)
  clear q1 q2
  by_cases hr0 : r.2.1 = 0
  · have hr1 : (r.2.1 : Int) = 0 := by omega
    go_wp2_with (go_at_call 15; (with_reducible refine (HAT.out _).mono ?_); rintro e w7 ⟨rfl, rfl⟩)
    go_ret
    exact ⟨ret_bool' (by rw [HV.out, HEF.out]; simp), HL.out.old⟩
  · have hr1 : (0 : Int) < (r.2.1 : Int) := by omega
    have g3 : decide ((0 : Int) < (r.2.1 : Int)) = true := decide_eq_true hr1
    go_wp2_with (go_at_call 15; (with_reducible refine (HAT.out _).mono ?_); rintro e w7 ⟨rfl, rfl⟩)
    go_ret
    exact ⟨ret_bool' (by rw [HV.out, HEF.out]; simp), HL.out.old⟩
set_option maxHeartbeats 4000000 in
theorem s6_in (B : Nat) (c : CodeM) (v : CodeV) (w : World) (h : CodeIs w B c v) (hB : B ≤ w.heap.size) (k : Nat) (hup : k ≤ v.step.2.1) (hok : OkS c k) (x : InsP) (hx : c.step[k]? = some x) (hsz : x.args.length ≤ 20 ∧ x.resets.length ≤ 20) (hg : gdB c.slots (wTo (c.step.take k)) x.guard = true) (haa : x.args.all (wrB c.slots (wTo (c.step.take k))) = true) (hrs : x.resets.all (wrB c.slots (wTo (c.step.take k))) = true) (hop : x.op = bs [105, 110]) : Calls Try.prog 24 #[.agg #[.int .i64 c.ins, .int .i64 c.outs, .int .i64 c.slots, .int .i64 c.crosses, .int .i64 c.lines, .slice v.mems.1 v.mems.2.1 v.mems.2.2, .slice v.conts.1 v.conts.2.1 v.conts.2.2, .slice v.step.1 v.step.2.1 v.step.2.2, .slice v.deriv.1 v.deriv.2.1 v.deriv.2.2, .slice v.cross.1 v.cross.2.1 v.cross.2.2], .int .i64 (k : Nat)] w fun e w' => e = .returned (.bool (stB c (wTo (c.step.take k)) x)) ∧ Below w.heap.size w w' := by
  obtain ⟨W1, hW1⟩ : ∃ W1, W1 = w.alloc (.cells #[.int .i64 c.ins, .int .i64 c.outs, .int .i64 c.slots, .int .i64 c.crosses, .int .i64 c.lines, .slice v.mems.1 v.mems.2.1 v.mems.2.2, .slice v.conts.1 v.conts.2.1 v.conts.2.2, .slice v.step.1 v.step.2.1 v.step.2.2, .slice v.deriv.1 v.deriv.2.1 v.deriv.2.2, .slice v.cross.1 v.cross.2.1 v.cross.2.2] 25) := ⟨_, rfl⟩
  have HL := Lib.hid (show LwSt w c v W1 from by rw [hW1]; exact LwSt.start (h.more hB))
  clear h hB
  have HOP := Lib.hid hop
  clear hop
  have HOK := Lib.hid hok
  have HSZ := Lib.hid hsz
  obtain ⟨bb, off, ha, hbl, hat⟩ := HL.out.is.step.at_ hx
  obtain ⟨a, m, d, r, hiw, _, _, _, x0, x1, x2, x3, x4, x5, x6, x7, x8, x9, x10⟩ := hat.cells
  have hkl : k < v.step.2.1 := by rw [← HL.out.is.step.1]; exact (List.getElem?_eq_some_iff.1 hx).1
  have hkI : (k : Int) < (v.step.2.1 : Int) := by omega
  have hm := HL.out.is.step.len_le
  unfold maxLen at hm
  obtain ⟨W2, hW2⟩ : ∃ W2, W2 = W1.alloc (.cells #[.string x.op, .int .i64 x.dst, .slice a.1 a.2.1 a.2.2, .int .i64 x.k, .int .i64 x.lit.kind, .bool x.lit.neg, .slice m.1 m.2.1 m.2.2, .slice d.1 d.2.1 d.2.2, .string x.lit.name, .int .i64 x.guard, .slice r.1 r.2.1 r.2.2] 52) := ⟨_, rfl⟩
  have hb2 : Below W1.heap.size W1 W2 := by rw [hW2]; exact (Below.refl _ _).alloc (Nat.le_refl _) _
  have HX := Lib.hid (show Blk W2 W1.heap.size 52 (ics x a m d r) from by rw [hW2]; exact Blk.new _ _ _)
  have HIW := Lib.hid (hiw.keep (hb2.mono HL.out.old.size))
  have HV := Lib.hid (stB_eq (W := (wTo (c.step.take k))) HL.out.is hiw)
  have hb1 : bb < W1.heap.size := Nat.lt_of_lt_of_le hbl HL.out.old.size
  obtain ⟨n0, n1, n2, n3, n4, n5, n6, n7, n8, n9⟩ := HL.out.blk.code
  obtain ⟨EA, hEA⟩ : ∃ EA, EA = v.step.1 := ⟨_, rfl⟩
  rw [← hEA] at ha
  have HEA := Lib.hid hEA
  rw [hEA] at ha
  rw [ha] at n7
  clear hEA HEA ha
  clear hok hsz hx hiw hat hbl
  go_enter Try.func24, Try.ntmps24
  go_upto_region 1 with fail
  rw [← hW1]
  clear hW1
  go_upto_region 2 with fail
  rw [← hW2]
  clear hW2 n0 n1 n2 n3 n4 n5 n6 n7 n8 n9 x0 x1 x2 x3 x4 x5 x6 x7 x8 x9 x10
  have HL := Lib.hid (HL.out.later hb2)
  clear hb2
  obtain ⟨n0, n1, n2, n3, n4, n5, n6, n7, n8, n9⟩ := HL.out.blk.code
  obtain ⟨p0, p1, p2, p3, p4, p5, p6, p7, p8, p9, p10⟩ := HX.out.elev
  have hq0 := HX.out.lt
  have hna : a.2.1 ≤ 20 := by rw [← HIW.out.args.1]; exact HSZ.out.1
  have hnr : r.2.1 ≤ 20 := by rw [← HIW.out.resets.1]; exact HSZ.out.2
  have HG := Lib.hid hg
  clear hg
  have HAA := Lib.hid haa
  clear haa
  have HRS := Lib.hid hrs
  clear hrs
  go_upto_region 5 with (first | (go_at_call 46; (with_reducible refine (guard_r w.heap.size c v _ HL.out.is HL.out.old.size k hup HOK.out x.guard true HG.out).mono ?_); rintro e w2 ⟨rfl, hb2⟩; have HIW := Lib.hid (HIW.out.keep (hb2.mono HL.out.old.size)); have HL := Lib.hid (HL.out.later hb2); have HX := Lib.hid (HX.out.later hb2); clear hb2 n0 n1 n2 n3 n4 n5 n6 n7 n8 n9 p0 p1 p2 p3 p4 p5 p6 p7 p8 p9 p10 hq0; obtain ⟨n0, n1, n2, n3, n4, n5, n6, n7, n8, n9⟩ := HL.out.blk.code; obtain ⟨p0, p1, p2, p3, p4, p5, p6, p7, p8, p9, p10⟩ := HX.out.elev; have hq0 := HX.out.lt) | (go_at_call 47; (with_reducible refine (all_r w.heap.size c v _ HL.out.is HL.out.old.size k hup HOK.out a.1 a.2.1 a.2.2 x.args HIW.out.args true HAA.out).mono ?_); rintro e w2 ⟨rfl, hb2⟩; have HIW := Lib.hid (HIW.out.keep (hb2.mono HL.out.old.size)); have HL := Lib.hid (HL.out.later hb2); have HX := Lib.hid (HX.out.later hb2); clear hb2 n0 n1 n2 n3 n4 n5 n6 n7 n8 n9 p0 p1 p2 p3 p4 p5 p6 p7 p8 p9 p10 hq0; obtain ⟨n0, n1, n2, n3, n4, n5, n6, n7, n8, n9⟩ := HL.out.blk.code; obtain ⟨p0, p1, p2, p3, p4, p5, p6, p7, p8, p9, p10⟩ := HX.out.elev; have hq0 := HX.out.lt) | (go_at_call 47; (with_reducible refine (all_r w.heap.size c v _ HL.out.is HL.out.old.size k hup HOK.out r.1 r.2.1 r.2.2 x.resets HIW.out.resets true HRS.out).mono ?_); rintro e w2 ⟨rfl, hb2⟩; have HIW := Lib.hid (HIW.out.keep (hb2.mono HL.out.old.size)); have HL := Lib.hid (HL.out.later hb2); have HX := Lib.hid (HX.out.later hb2); clear hb2 n0 n1 n2 n3 n4 n5 n6 n7 n8 n9 p0 p1 p2 p3 p4 p5 p6 p7 p8 p9 p10 hq0; obtain ⟨n0, n1, n2, n3, n4, n5, n6, n7, n8, n9⟩ := HL.out.blk.code; obtain ⟨p0, p1, p2, p3, p4, p5, p6, p7, p8, p9, p10⟩ := HX.out.elev; have hq0 := HX.out.lt))
  have HAT : Hid (∀ w, Calls Try.prog 15 #[.string ⟨#[105, 110]⟩] w fun e w' => e = .returned (.tuple #[.int .i64 (0), .int .i64 (0)]) ∧ w' = w) := Lib.hid (fun w => args_t (bs [105, 110]) w)
  have HPK : Hid (plK x.op x.k c.ins c.outs v.mems.2.1 v.conts.2.1 c.crosses = inB x.k c.ins) := Lib.hid (by rw [HOP.out]; rfl)
  rw [HOP.out, show bs [105, 110] = (⟨#[105, 110]⟩ : ByteArray) from rfl] at p0
  have hm1 := HL.out.is.mems.len_le
  have hm2 := HL.out.is.conts.len_le
  unfold maxLen at hm1 hm2
  have HMB : Hid (mayB x.op = false) := Lib.hid (by rw [HOP.out]; rfl)
  have HIE : Hid (isEnd x.op = false) := Lib.hid (by rw [HOP.out]; rfl)
  have HEQ : Hid (enS x.op a.2.1 = (a.2.1 == 0)) := Lib.hid (by rw [HOP.out]; rfl)
  by_cases hn0 : a.2.1 = 0
  rotate_left
  · have HEF : Hid (enS x.op a.2.1 = false) := Lib.hid (by rw [HEQ.out]; exact beq_eq_false_iff_ne.2 hn0)
    have g1 : decide ((a.2.1 : Int) < 0) = false := decide_eq_false (by omega)
    have g2 : decide ((0 : Int) < (a.2.1 : Int)) = true := decide_eq_true (by omega)
    go_wp2_with (go_at_call 15; (with_reducible refine (HAT.out _).mono ?_); rintro e w7 ⟨rfl, rfl⟩)
    go_ret
    exact ⟨ret_bool' (by rw [HV.out, HEF.out]; simp), HL.out.old⟩
  have HEF : Hid (enS x.op a.2.1 = true) := Lib.hid (by rw [HEQ.out, hn0]; rfl)
  have hn1 : (a.2.1 : Int) = 0 := by omega
  cases hin : inB x.dst c.slots with
  | false =>
    have HIN := Lib.hid hin
    clear hin
    go_wp2_with (first | (go_at_call 15; (with_reducible refine (HAT.out _).mono ?_); rintro e w7 ⟨rfl, rfl⟩) | (go_at_call 48; (with_reducible refine (in_t x.dst c.slots false _ HIN.out).mono ?_); rintro e w8 ⟨rfl, rfl⟩))
    go_ret
    exact ⟨ret_bool' (by rw [HV.out, HIE.out, HIN.out]; simp), HL.out.old⟩
  | true =>
    have HIN := Lib.hid hin
    clear hin
    by_cases hr0 : r.2.1 = 0
    · have HR0 := Lib.hid (decide_eq_true hr0)
      have hr1 : (r.2.1 : Int) = 0 := by omega
      go_wp2_with (first | (go_at_call 15; (with_reducible refine (HAT.out _).mono ?_); rintro e w7 ⟨rfl, rfl⟩) | (go_at_call 48; (with_reducible refine (in_t x.dst c.slots true _ HIN.out).mono ?_); rintro e w8 ⟨rfl, rfl⟩) | (go_at_call 48; (with_reducible refine (in_t x.k c.ins _ _ rfl).mono ?_); rintro e w9 ⟨rfl, rfl⟩))
      go_ret
      exact ⟨ret_bool' (by rw [HV.out, HEF.out, HPK.out, HR0.out, HG.out, HAA.out, HRS.out, HIE.out, HIN.out]; simp), HL.out.old⟩
    · have HR0 := Lib.hid (decide_eq_false hr0)
      have hr1 : (0 : Int) < (r.2.1 : Int) := by omega
      have g3 : decide ((0 : Int) < (r.2.1 : Int)) = true := decide_eq_true hr1
      go_wp2_with (first | (go_at_call 15; (with_reducible refine (HAT.out _).mono ?_); rintro e w7 ⟨rfl, rfl⟩) | (go_at_call 48; (with_reducible refine (in_t x.dst c.slots true _ HIN.out).mono ?_); rintro e w8 ⟨rfl, rfl⟩) | (go_at_call 48; (with_reducible refine (in_t x.k c.ins _ _ rfl).mono ?_); rintro e w9 ⟨rfl, rfl⟩))
      go_ret
      exact ⟨ret_bool' (by rw [HV.out, HR0.out, HMB.out]; simp), HL.out.old⟩
set_option maxHeartbeats 4000000 in
theorem s6_mem (B : Nat) (c : CodeM) (v : CodeV) (w : World) (h : CodeIs w B c v) (hB : B ≤ w.heap.size) (k : Nat) (hup : k ≤ v.step.2.1) (hok : OkS c k) (x : InsP) (hx : c.step[k]? = some x) (hsz : x.args.length ≤ 20 ∧ x.resets.length ≤ 20) (hg : gdB c.slots (wTo (c.step.take k)) x.guard = true) (haa : x.args.all (wrB c.slots (wTo (c.step.take k))) = true) (hrs : x.resets.all (wrB c.slots (wTo (c.step.take k))) = true) (hop : x.op = bs [109, 101, 109]) : Calls Try.prog 24 #[.agg #[.int .i64 c.ins, .int .i64 c.outs, .int .i64 c.slots, .int .i64 c.crosses, .int .i64 c.lines, .slice v.mems.1 v.mems.2.1 v.mems.2.2, .slice v.conts.1 v.conts.2.1 v.conts.2.2, .slice v.step.1 v.step.2.1 v.step.2.2, .slice v.deriv.1 v.deriv.2.1 v.deriv.2.2, .slice v.cross.1 v.cross.2.1 v.cross.2.2], .int .i64 (k : Nat)] w fun e w' => e = .returned (.bool (stB c (wTo (c.step.take k)) x)) ∧ Below w.heap.size w w' := by
  obtain ⟨W1, hW1⟩ : ∃ W1, W1 = w.alloc (.cells #[.int .i64 c.ins, .int .i64 c.outs, .int .i64 c.slots, .int .i64 c.crosses, .int .i64 c.lines, .slice v.mems.1 v.mems.2.1 v.mems.2.2, .slice v.conts.1 v.conts.2.1 v.conts.2.2, .slice v.step.1 v.step.2.1 v.step.2.2, .slice v.deriv.1 v.deriv.2.1 v.deriv.2.2, .slice v.cross.1 v.cross.2.1 v.cross.2.2] 25) := ⟨_, rfl⟩
  have HL := Lib.hid (show LwSt w c v W1 from by rw [hW1]; exact LwSt.start (h.more hB))
  clear h hB
  have HOP := Lib.hid hop
  clear hop
  have HOK := Lib.hid hok
  have HSZ := Lib.hid hsz
  obtain ⟨bb, off, ha, hbl, hat⟩ := HL.out.is.step.at_ hx
  obtain ⟨a, m, d, r, hiw, _, _, _, x0, x1, x2, x3, x4, x5, x6, x7, x8, x9, x10⟩ := hat.cells
  have hkl : k < v.step.2.1 := by rw [← HL.out.is.step.1]; exact (List.getElem?_eq_some_iff.1 hx).1
  have hkI : (k : Int) < (v.step.2.1 : Int) := by omega
  have hm := HL.out.is.step.len_le
  unfold maxLen at hm
  obtain ⟨W2, hW2⟩ : ∃ W2, W2 = W1.alloc (.cells #[.string x.op, .int .i64 x.dst, .slice a.1 a.2.1 a.2.2, .int .i64 x.k, .int .i64 x.lit.kind, .bool x.lit.neg, .slice m.1 m.2.1 m.2.2, .slice d.1 d.2.1 d.2.2, .string x.lit.name, .int .i64 x.guard, .slice r.1 r.2.1 r.2.2] 52) := ⟨_, rfl⟩
  have hb2 : Below W1.heap.size W1 W2 := by rw [hW2]; exact (Below.refl _ _).alloc (Nat.le_refl _) _
  have HX := Lib.hid (show Blk W2 W1.heap.size 52 (ics x a m d r) from by rw [hW2]; exact Blk.new _ _ _)
  have HIW := Lib.hid (hiw.keep (hb2.mono HL.out.old.size))
  have HV := Lib.hid (stB_eq (W := (wTo (c.step.take k))) HL.out.is hiw)
  have hb1 : bb < W1.heap.size := Nat.lt_of_lt_of_le hbl HL.out.old.size
  obtain ⟨n0, n1, n2, n3, n4, n5, n6, n7, n8, n9⟩ := HL.out.blk.code
  obtain ⟨EA, hEA⟩ : ∃ EA, EA = v.step.1 := ⟨_, rfl⟩
  rw [← hEA] at ha
  have HEA := Lib.hid hEA
  rw [hEA] at ha
  rw [ha] at n7
  clear hEA HEA ha
  clear hok hsz hx hiw hat hbl
  go_enter Try.func24, Try.ntmps24
  go_upto_region 1 with fail
  rw [← hW1]
  clear hW1
  go_upto_region 2 with fail
  rw [← hW2]
  clear hW2 n0 n1 n2 n3 n4 n5 n6 n7 n8 n9 x0 x1 x2 x3 x4 x5 x6 x7 x8 x9 x10
  have HL := Lib.hid (HL.out.later hb2)
  clear hb2
  obtain ⟨n0, n1, n2, n3, n4, n5, n6, n7, n8, n9⟩ := HL.out.blk.code
  obtain ⟨p0, p1, p2, p3, p4, p5, p6, p7, p8, p9, p10⟩ := HX.out.elev
  have hq0 := HX.out.lt
  have hna : a.2.1 ≤ 20 := by rw [← HIW.out.args.1]; exact HSZ.out.1
  have hnr : r.2.1 ≤ 20 := by rw [← HIW.out.resets.1]; exact HSZ.out.2
  have HG := Lib.hid hg
  clear hg
  have HAA := Lib.hid haa
  clear haa
  have HRS := Lib.hid hrs
  clear hrs
  go_upto_region 5 with (first | (go_at_call 46; (with_reducible refine (guard_r w.heap.size c v _ HL.out.is HL.out.old.size k hup HOK.out x.guard true HG.out).mono ?_); rintro e w2 ⟨rfl, hb2⟩; have HIW := Lib.hid (HIW.out.keep (hb2.mono HL.out.old.size)); have HL := Lib.hid (HL.out.later hb2); have HX := Lib.hid (HX.out.later hb2); clear hb2 n0 n1 n2 n3 n4 n5 n6 n7 n8 n9 p0 p1 p2 p3 p4 p5 p6 p7 p8 p9 p10 hq0; obtain ⟨n0, n1, n2, n3, n4, n5, n6, n7, n8, n9⟩ := HL.out.blk.code; obtain ⟨p0, p1, p2, p3, p4, p5, p6, p7, p8, p9, p10⟩ := HX.out.elev; have hq0 := HX.out.lt) | (go_at_call 47; (with_reducible refine (all_r w.heap.size c v _ HL.out.is HL.out.old.size k hup HOK.out a.1 a.2.1 a.2.2 x.args HIW.out.args true HAA.out).mono ?_); rintro e w2 ⟨rfl, hb2⟩; have HIW := Lib.hid (HIW.out.keep (hb2.mono HL.out.old.size)); have HL := Lib.hid (HL.out.later hb2); have HX := Lib.hid (HX.out.later hb2); clear hb2 n0 n1 n2 n3 n4 n5 n6 n7 n8 n9 p0 p1 p2 p3 p4 p5 p6 p7 p8 p9 p10 hq0; obtain ⟨n0, n1, n2, n3, n4, n5, n6, n7, n8, n9⟩ := HL.out.blk.code; obtain ⟨p0, p1, p2, p3, p4, p5, p6, p7, p8, p9, p10⟩ := HX.out.elev; have hq0 := HX.out.lt) | (go_at_call 47; (with_reducible refine (all_r w.heap.size c v _ HL.out.is HL.out.old.size k hup HOK.out r.1 r.2.1 r.2.2 x.resets HIW.out.resets true HRS.out).mono ?_); rintro e w2 ⟨rfl, hb2⟩; have HIW := Lib.hid (HIW.out.keep (hb2.mono HL.out.old.size)); have HL := Lib.hid (HL.out.later hb2); have HX := Lib.hid (HX.out.later hb2); clear hb2 n0 n1 n2 n3 n4 n5 n6 n7 n8 n9 p0 p1 p2 p3 p4 p5 p6 p7 p8 p9 p10 hq0; obtain ⟨n0, n1, n2, n3, n4, n5, n6, n7, n8, n9⟩ := HL.out.blk.code; obtain ⟨p0, p1, p2, p3, p4, p5, p6, p7, p8, p9, p10⟩ := HX.out.elev; have hq0 := HX.out.lt))
  have HAT : Hid (∀ w, Calls Try.prog 15 #[.string ⟨#[109, 101, 109]⟩] w fun e w' => e = .returned (.tuple #[.int .i64 (0), .int .i64 (0)]) ∧ w' = w) := Lib.hid (fun w => args_t (bs [109, 101, 109]) w)
  have HPK : Hid (plK x.op x.k c.ins c.outs v.mems.2.1 v.conts.2.1 c.crosses = inB x.k (v.mems.2.1 : Int)) := Lib.hid (by rw [HOP.out]; rfl)
  rw [HOP.out, show bs [109, 101, 109] = (⟨#[109, 101, 109]⟩ : ByteArray) from rfl] at p0
  have hm1 := HL.out.is.mems.len_le
  have hm2 := HL.out.is.conts.len_le
  unfold maxLen at hm1 hm2
  have HMB : Hid (mayB x.op = true) := Lib.hid (by rw [HOP.out]; rfl)
  have HIE : Hid (isEnd x.op = false) := Lib.hid (by rw [HOP.out]; rfl)
  have HEQ : Hid (enS x.op a.2.1 = (a.2.1 == 0)) := Lib.hid (by rw [HOP.out]; rfl)
  by_cases hn0 : a.2.1 = 0
  rotate_left
  · have HEF : Hid (enS x.op a.2.1 = false) := Lib.hid (by rw [HEQ.out]; exact beq_eq_false_iff_ne.2 hn0)
    have g1 : decide ((a.2.1 : Int) < 0) = false := decide_eq_false (by omega)
    have g2 : decide ((0 : Int) < (a.2.1 : Int)) = true := decide_eq_true (by omega)
    go_wp2_with (go_at_call 15; (with_reducible refine (HAT.out _).mono ?_); rintro e w7 ⟨rfl, rfl⟩)
    go_ret
    exact ⟨ret_bool' (by rw [HV.out, HEF.out]; simp), HL.out.old⟩
  have HEF : Hid (enS x.op a.2.1 = true) := Lib.hid (by rw [HEQ.out, hn0]; rfl)
  have hn1 : (a.2.1 : Int) = 0 := by omega
  cases hin : inB x.dst c.slots with
  | false =>
    have HIN := Lib.hid hin
    clear hin
    go_wp2_with (first | (go_at_call 15; (with_reducible refine (HAT.out _).mono ?_); rintro e w7 ⟨rfl, rfl⟩) | (go_at_call 48; (with_reducible refine (in_t x.dst c.slots false _ HIN.out).mono ?_); rintro e w8 ⟨rfl, rfl⟩))
    go_ret
    exact ⟨ret_bool' (by rw [HV.out, HIE.out, HIN.out]; simp), HL.out.old⟩
  | true =>
    have HIN := Lib.hid hin
    clear hin
    go_wp2_with (first | (go_at_call 15; (with_reducible refine (HAT.out _).mono ?_); rintro e w7 ⟨rfl, rfl⟩) | (go_at_call 48; (with_reducible refine (in_t x.dst c.slots true _ HIN.out).mono ?_); rintro e w8 ⟨rfl, rfl⟩) | (go_at_call 48; (with_reducible refine (in_t x.k (v.mems.2.1 : Int) _ _ rfl).mono ?_); rintro e w9 ⟨rfl, rfl⟩))
    go_ret
    exact ⟨ret_bool' (by rw [HV.out, HEF.out, HPK.out, HMB.out, HG.out, HAA.out, HRS.out, HIE.out, HIN.out]; simp), HL.out.old⟩
set_option maxHeartbeats 4000000 in
theorem s6_cont (B : Nat) (c : CodeM) (v : CodeV) (w : World) (h : CodeIs w B c v) (hB : B ≤ w.heap.size) (k : Nat) (hup : k ≤ v.step.2.1) (hok : OkS c k) (x : InsP) (hx : c.step[k]? = some x) (hsz : x.args.length ≤ 20 ∧ x.resets.length ≤ 20) (hg : gdB c.slots (wTo (c.step.take k)) x.guard = true) (haa : x.args.all (wrB c.slots (wTo (c.step.take k))) = true) (hrs : x.resets.all (wrB c.slots (wTo (c.step.take k))) = true) (hop : x.op = bs [99, 111, 110, 116]) : Calls Try.prog 24 #[.agg #[.int .i64 c.ins, .int .i64 c.outs, .int .i64 c.slots, .int .i64 c.crosses, .int .i64 c.lines, .slice v.mems.1 v.mems.2.1 v.mems.2.2, .slice v.conts.1 v.conts.2.1 v.conts.2.2, .slice v.step.1 v.step.2.1 v.step.2.2, .slice v.deriv.1 v.deriv.2.1 v.deriv.2.2, .slice v.cross.1 v.cross.2.1 v.cross.2.2], .int .i64 (k : Nat)] w fun e w' => e = .returned (.bool (stB c (wTo (c.step.take k)) x)) ∧ Below w.heap.size w w' := by
  obtain ⟨W1, hW1⟩ : ∃ W1, W1 = w.alloc (.cells #[.int .i64 c.ins, .int .i64 c.outs, .int .i64 c.slots, .int .i64 c.crosses, .int .i64 c.lines, .slice v.mems.1 v.mems.2.1 v.mems.2.2, .slice v.conts.1 v.conts.2.1 v.conts.2.2, .slice v.step.1 v.step.2.1 v.step.2.2, .slice v.deriv.1 v.deriv.2.1 v.deriv.2.2, .slice v.cross.1 v.cross.2.1 v.cross.2.2] 25) := ⟨_, rfl⟩
  have HL := Lib.hid (show LwSt w c v W1 from by rw [hW1]; exact LwSt.start (h.more hB))
  clear h hB
  have HOP := Lib.hid hop
  clear hop
  have HOK := Lib.hid hok
  have HSZ := Lib.hid hsz
  obtain ⟨bb, off, ha, hbl, hat⟩ := HL.out.is.step.at_ hx
  obtain ⟨a, m, d, r, hiw, _, _, _, x0, x1, x2, x3, x4, x5, x6, x7, x8, x9, x10⟩ := hat.cells
  have hkl : k < v.step.2.1 := by rw [← HL.out.is.step.1]; exact (List.getElem?_eq_some_iff.1 hx).1
  have hkI : (k : Int) < (v.step.2.1 : Int) := by omega
  have hm := HL.out.is.step.len_le
  unfold maxLen at hm
  obtain ⟨W2, hW2⟩ : ∃ W2, W2 = W1.alloc (.cells #[.string x.op, .int .i64 x.dst, .slice a.1 a.2.1 a.2.2, .int .i64 x.k, .int .i64 x.lit.kind, .bool x.lit.neg, .slice m.1 m.2.1 m.2.2, .slice d.1 d.2.1 d.2.2, .string x.lit.name, .int .i64 x.guard, .slice r.1 r.2.1 r.2.2] 52) := ⟨_, rfl⟩
  have hb2 : Below W1.heap.size W1 W2 := by rw [hW2]; exact (Below.refl _ _).alloc (Nat.le_refl _) _
  have HX := Lib.hid (show Blk W2 W1.heap.size 52 (ics x a m d r) from by rw [hW2]; exact Blk.new _ _ _)
  have HIW := Lib.hid (hiw.keep (hb2.mono HL.out.old.size))
  have HV := Lib.hid (stB_eq (W := (wTo (c.step.take k))) HL.out.is hiw)
  have hb1 : bb < W1.heap.size := Nat.lt_of_lt_of_le hbl HL.out.old.size
  obtain ⟨n0, n1, n2, n3, n4, n5, n6, n7, n8, n9⟩ := HL.out.blk.code
  obtain ⟨EA, hEA⟩ : ∃ EA, EA = v.step.1 := ⟨_, rfl⟩
  rw [← hEA] at ha
  have HEA := Lib.hid hEA
  rw [hEA] at ha
  rw [ha] at n7
  clear hEA HEA ha
  clear hok hsz hx hiw hat hbl
  go_enter Try.func24, Try.ntmps24
  go_upto_region 1 with fail
  rw [← hW1]
  clear hW1
  go_upto_region 2 with fail
  rw [← hW2]
  clear hW2 n0 n1 n2 n3 n4 n5 n6 n7 n8 n9 x0 x1 x2 x3 x4 x5 x6 x7 x8 x9 x10
  have HL := Lib.hid (HL.out.later hb2)
  clear hb2
  obtain ⟨n0, n1, n2, n3, n4, n5, n6, n7, n8, n9⟩ := HL.out.blk.code
  obtain ⟨p0, p1, p2, p3, p4, p5, p6, p7, p8, p9, p10⟩ := HX.out.elev
  have hq0 := HX.out.lt
  have hna : a.2.1 ≤ 20 := by rw [← HIW.out.args.1]; exact HSZ.out.1
  have hnr : r.2.1 ≤ 20 := by rw [← HIW.out.resets.1]; exact HSZ.out.2
  have HG := Lib.hid hg
  clear hg
  have HAA := Lib.hid haa
  clear haa
  have HRS := Lib.hid hrs
  clear hrs
  go_upto_region 5 with (first | (go_at_call 46; (with_reducible refine (guard_r w.heap.size c v _ HL.out.is HL.out.old.size k hup HOK.out x.guard true HG.out).mono ?_); rintro e w2 ⟨rfl, hb2⟩; have HIW := Lib.hid (HIW.out.keep (hb2.mono HL.out.old.size)); have HL := Lib.hid (HL.out.later hb2); have HX := Lib.hid (HX.out.later hb2); clear hb2 n0 n1 n2 n3 n4 n5 n6 n7 n8 n9 p0 p1 p2 p3 p4 p5 p6 p7 p8 p9 p10 hq0; obtain ⟨n0, n1, n2, n3, n4, n5, n6, n7, n8, n9⟩ := HL.out.blk.code; obtain ⟨p0, p1, p2, p3, p4, p5, p6, p7, p8, p9, p10⟩ := HX.out.elev; have hq0 := HX.out.lt) | (go_at_call 47; (with_reducible refine (all_r w.heap.size c v _ HL.out.is HL.out.old.size k hup HOK.out a.1 a.2.1 a.2.2 x.args HIW.out.args true HAA.out).mono ?_); rintro e w2 ⟨rfl, hb2⟩; have HIW := Lib.hid (HIW.out.keep (hb2.mono HL.out.old.size)); have HL := Lib.hid (HL.out.later hb2); have HX := Lib.hid (HX.out.later hb2); clear hb2 n0 n1 n2 n3 n4 n5 n6 n7 n8 n9 p0 p1 p2 p3 p4 p5 p6 p7 p8 p9 p10 hq0; obtain ⟨n0, n1, n2, n3, n4, n5, n6, n7, n8, n9⟩ := HL.out.blk.code; obtain ⟨p0, p1, p2, p3, p4, p5, p6, p7, p8, p9, p10⟩ := HX.out.elev; have hq0 := HX.out.lt) | (go_at_call 47; (with_reducible refine (all_r w.heap.size c v _ HL.out.is HL.out.old.size k hup HOK.out r.1 r.2.1 r.2.2 x.resets HIW.out.resets true HRS.out).mono ?_); rintro e w2 ⟨rfl, hb2⟩; have HIW := Lib.hid (HIW.out.keep (hb2.mono HL.out.old.size)); have HL := Lib.hid (HL.out.later hb2); have HX := Lib.hid (HX.out.later hb2); clear hb2 n0 n1 n2 n3 n4 n5 n6 n7 n8 n9 p0 p1 p2 p3 p4 p5 p6 p7 p8 p9 p10 hq0; obtain ⟨n0, n1, n2, n3, n4, n5, n6, n7, n8, n9⟩ := HL.out.blk.code; obtain ⟨p0, p1, p2, p3, p4, p5, p6, p7, p8, p9, p10⟩ := HX.out.elev; have hq0 := HX.out.lt))
  have HAT : Hid (∀ w, Calls Try.prog 15 #[.string ⟨#[99, 111, 110, 116]⟩] w fun e w' => e = .returned (.tuple #[.int .i64 (0), .int .i64 (0)]) ∧ w' = w) := Lib.hid (fun w => args_t (bs [99, 111, 110, 116]) w)
  have HPK : Hid (plK x.op x.k c.ins c.outs v.mems.2.1 v.conts.2.1 c.crosses = inB x.k (v.conts.2.1 : Int)) := Lib.hid (by rw [HOP.out]; rfl)
  rw [HOP.out, show bs [99, 111, 110, 116] = (⟨#[99, 111, 110, 116]⟩ : ByteArray) from rfl] at p0
  have hm1 := HL.out.is.mems.len_le
  have hm2 := HL.out.is.conts.len_le
  unfold maxLen at hm1 hm2
  have HMB : Hid (mayB x.op = true) := Lib.hid (by rw [HOP.out]; rfl)
  have HIE : Hid (isEnd x.op = false) := Lib.hid (by rw [HOP.out]; rfl)
  have HEQ : Hid (enS x.op a.2.1 = (a.2.1 == 0)) := Lib.hid (by rw [HOP.out]; rfl)
  by_cases hn0 : a.2.1 = 0
  rotate_left
  · have HEF : Hid (enS x.op a.2.1 = false) := Lib.hid (by rw [HEQ.out]; exact beq_eq_false_iff_ne.2 hn0)
    have g1 : decide ((a.2.1 : Int) < 0) = false := decide_eq_false (by omega)
    have g2 : decide ((0 : Int) < (a.2.1 : Int)) = true := decide_eq_true (by omega)
    go_wp2_with (go_at_call 15; (with_reducible refine (HAT.out _).mono ?_); rintro e w7 ⟨rfl, rfl⟩)
    go_ret
    exact ⟨ret_bool' (by rw [HV.out, HEF.out]; simp), HL.out.old⟩
  have HEF : Hid (enS x.op a.2.1 = true) := Lib.hid (by rw [HEQ.out, hn0]; rfl)
  have hn1 : (a.2.1 : Int) = 0 := by omega
  cases hin : inB x.dst c.slots with
  | false =>
    have HIN := Lib.hid hin
    clear hin
    go_wp2_with (first | (go_at_call 15; (with_reducible refine (HAT.out _).mono ?_); rintro e w7 ⟨rfl, rfl⟩) | (go_at_call 48; (with_reducible refine (in_t x.dst c.slots false _ HIN.out).mono ?_); rintro e w8 ⟨rfl, rfl⟩))
    go_ret
    exact ⟨ret_bool' (by rw [HV.out, HIE.out, HIN.out]; simp), HL.out.old⟩
  | true =>
    have HIN := Lib.hid hin
    clear hin
    go_wp2_with (first | (go_at_call 15; (with_reducible refine (HAT.out _).mono ?_); rintro e w7 ⟨rfl, rfl⟩) | (go_at_call 48; (with_reducible refine (in_t x.dst c.slots true _ HIN.out).mono ?_); rintro e w8 ⟨rfl, rfl⟩) | (go_at_call 48; (with_reducible refine (in_t x.k (v.conts.2.1 : Int) _ _ rfl).mono ?_); rintro e w9 ⟨rfl, rfl⟩))
    go_ret
    exact ⟨ret_bool' (by rw [HV.out, HEF.out, HPK.out, HMB.out, HG.out, HAA.out, HRS.out, HIE.out, HIN.out]; simp), HL.out.old⟩
set_option maxHeartbeats 4000000 in
theorem s6_flag (B : Nat) (c : CodeM) (v : CodeV) (w : World) (h : CodeIs w B c v) (hB : B ≤ w.heap.size) (k : Nat) (hup : k ≤ v.step.2.1) (hok : OkS c k) (x : InsP) (hx : c.step[k]? = some x) (hsz : x.args.length ≤ 20 ∧ x.resets.length ≤ 20) (hg : gdB c.slots (wTo (c.step.take k)) x.guard = true) (haa : x.args.all (wrB c.slots (wTo (c.step.take k))) = true) (hrs : x.resets.all (wrB c.slots (wTo (c.step.take k))) = true) (hop : x.op = bs [102, 108, 97, 103]) : Calls Try.prog 24 #[.agg #[.int .i64 c.ins, .int .i64 c.outs, .int .i64 c.slots, .int .i64 c.crosses, .int .i64 c.lines, .slice v.mems.1 v.mems.2.1 v.mems.2.2, .slice v.conts.1 v.conts.2.1 v.conts.2.2, .slice v.step.1 v.step.2.1 v.step.2.2, .slice v.deriv.1 v.deriv.2.1 v.deriv.2.2, .slice v.cross.1 v.cross.2.1 v.cross.2.2], .int .i64 (k : Nat)] w fun e w' => e = .returned (.bool (stB c (wTo (c.step.take k)) x)) ∧ Below w.heap.size w w' := by
  obtain ⟨W1, hW1⟩ : ∃ W1, W1 = w.alloc (.cells #[.int .i64 c.ins, .int .i64 c.outs, .int .i64 c.slots, .int .i64 c.crosses, .int .i64 c.lines, .slice v.mems.1 v.mems.2.1 v.mems.2.2, .slice v.conts.1 v.conts.2.1 v.conts.2.2, .slice v.step.1 v.step.2.1 v.step.2.2, .slice v.deriv.1 v.deriv.2.1 v.deriv.2.2, .slice v.cross.1 v.cross.2.1 v.cross.2.2] 25) := ⟨_, rfl⟩
  have HL := Lib.hid (show LwSt w c v W1 from by rw [hW1]; exact LwSt.start (h.more hB))
  clear h hB
  have HOP := Lib.hid hop
  clear hop
  have HOK := Lib.hid hok
  have HSZ := Lib.hid hsz
  obtain ⟨bb, off, ha, hbl, hat⟩ := HL.out.is.step.at_ hx
  obtain ⟨a, m, d, r, hiw, _, _, _, x0, x1, x2, x3, x4, x5, x6, x7, x8, x9, x10⟩ := hat.cells
  have hkl : k < v.step.2.1 := by rw [← HL.out.is.step.1]; exact (List.getElem?_eq_some_iff.1 hx).1
  have hkI : (k : Int) < (v.step.2.1 : Int) := by omega
  have hm := HL.out.is.step.len_le
  unfold maxLen at hm
  obtain ⟨W2, hW2⟩ : ∃ W2, W2 = W1.alloc (.cells #[.string x.op, .int .i64 x.dst, .slice a.1 a.2.1 a.2.2, .int .i64 x.k, .int .i64 x.lit.kind, .bool x.lit.neg, .slice m.1 m.2.1 m.2.2, .slice d.1 d.2.1 d.2.2, .string x.lit.name, .int .i64 x.guard, .slice r.1 r.2.1 r.2.2] 52) := ⟨_, rfl⟩
  have hb2 : Below W1.heap.size W1 W2 := by rw [hW2]; exact (Below.refl _ _).alloc (Nat.le_refl _) _
  have HX := Lib.hid (show Blk W2 W1.heap.size 52 (ics x a m d r) from by rw [hW2]; exact Blk.new _ _ _)
  have HIW := Lib.hid (hiw.keep (hb2.mono HL.out.old.size))
  have HV := Lib.hid (stB_eq (W := (wTo (c.step.take k))) HL.out.is hiw)
  have hb1 : bb < W1.heap.size := Nat.lt_of_lt_of_le hbl HL.out.old.size
  obtain ⟨n0, n1, n2, n3, n4, n5, n6, n7, n8, n9⟩ := HL.out.blk.code
  obtain ⟨EA, hEA⟩ : ∃ EA, EA = v.step.1 := ⟨_, rfl⟩
  rw [← hEA] at ha
  have HEA := Lib.hid hEA
  rw [hEA] at ha
  rw [ha] at n7
  clear hEA HEA ha
  clear hok hsz hx hiw hat hbl
  go_enter Try.func24, Try.ntmps24
  go_upto_region 1 with fail
  rw [← hW1]
  clear hW1
  go_upto_region 2 with fail
  rw [← hW2]
  clear hW2 n0 n1 n2 n3 n4 n5 n6 n7 n8 n9 x0 x1 x2 x3 x4 x5 x6 x7 x8 x9 x10
  have HL := Lib.hid (HL.out.later hb2)
  clear hb2
  obtain ⟨n0, n1, n2, n3, n4, n5, n6, n7, n8, n9⟩ := HL.out.blk.code
  obtain ⟨p0, p1, p2, p3, p4, p5, p6, p7, p8, p9, p10⟩ := HX.out.elev
  have hq0 := HX.out.lt
  have hna : a.2.1 ≤ 20 := by rw [← HIW.out.args.1]; exact HSZ.out.1
  have hnr : r.2.1 ≤ 20 := by rw [← HIW.out.resets.1]; exact HSZ.out.2
  have HG := Lib.hid hg
  clear hg
  have HAA := Lib.hid haa
  clear haa
  have HRS := Lib.hid hrs
  clear hrs
  go_upto_region 5 with (first | (go_at_call 46; (with_reducible refine (guard_r w.heap.size c v _ HL.out.is HL.out.old.size k hup HOK.out x.guard true HG.out).mono ?_); rintro e w2 ⟨rfl, hb2⟩; have HIW := Lib.hid (HIW.out.keep (hb2.mono HL.out.old.size)); have HL := Lib.hid (HL.out.later hb2); have HX := Lib.hid (HX.out.later hb2); clear hb2 n0 n1 n2 n3 n4 n5 n6 n7 n8 n9 p0 p1 p2 p3 p4 p5 p6 p7 p8 p9 p10 hq0; obtain ⟨n0, n1, n2, n3, n4, n5, n6, n7, n8, n9⟩ := HL.out.blk.code; obtain ⟨p0, p1, p2, p3, p4, p5, p6, p7, p8, p9, p10⟩ := HX.out.elev; have hq0 := HX.out.lt) | (go_at_call 47; (with_reducible refine (all_r w.heap.size c v _ HL.out.is HL.out.old.size k hup HOK.out a.1 a.2.1 a.2.2 x.args HIW.out.args true HAA.out).mono ?_); rintro e w2 ⟨rfl, hb2⟩; have HIW := Lib.hid (HIW.out.keep (hb2.mono HL.out.old.size)); have HL := Lib.hid (HL.out.later hb2); have HX := Lib.hid (HX.out.later hb2); clear hb2 n0 n1 n2 n3 n4 n5 n6 n7 n8 n9 p0 p1 p2 p3 p4 p5 p6 p7 p8 p9 p10 hq0; obtain ⟨n0, n1, n2, n3, n4, n5, n6, n7, n8, n9⟩ := HL.out.blk.code; obtain ⟨p0, p1, p2, p3, p4, p5, p6, p7, p8, p9, p10⟩ := HX.out.elev; have hq0 := HX.out.lt) | (go_at_call 47; (with_reducible refine (all_r w.heap.size c v _ HL.out.is HL.out.old.size k hup HOK.out r.1 r.2.1 r.2.2 x.resets HIW.out.resets true HRS.out).mono ?_); rintro e w2 ⟨rfl, hb2⟩; have HIW := Lib.hid (HIW.out.keep (hb2.mono HL.out.old.size)); have HL := Lib.hid (HL.out.later hb2); have HX := Lib.hid (HX.out.later hb2); clear hb2 n0 n1 n2 n3 n4 n5 n6 n7 n8 n9 p0 p1 p2 p3 p4 p5 p6 p7 p8 p9 p10 hq0; obtain ⟨n0, n1, n2, n3, n4, n5, n6, n7, n8, n9⟩ := HL.out.blk.code; obtain ⟨p0, p1, p2, p3, p4, p5, p6, p7, p8, p9, p10⟩ := HX.out.elev; have hq0 := HX.out.lt))
  have HAT : Hid (∀ w, Calls Try.prog 15 #[.string ⟨#[102, 108, 97, 103]⟩] w fun e w' => e = .returned (.tuple #[.int .i64 (0), .int .i64 (0)]) ∧ w' = w) := Lib.hid (fun w => args_t (bs [102, 108, 97, 103]) w)
  have HPK : Hid (plK x.op x.k c.ins c.outs v.mems.2.1 v.conts.2.1 c.crosses = inB x.k c.crosses) := Lib.hid (by rw [HOP.out]; rfl)
  rw [HOP.out, show bs [102, 108, 97, 103] = (⟨#[102, 108, 97, 103]⟩ : ByteArray) from rfl] at p0
  have hm1 := HL.out.is.mems.len_le
  have hm2 := HL.out.is.conts.len_le
  unfold maxLen at hm1 hm2
  have HMB : Hid (mayB x.op = false) := Lib.hid (by rw [HOP.out]; rfl)
  have HIE : Hid (isEnd x.op = false) := Lib.hid (by rw [HOP.out]; rfl)
  have HEQ : Hid (enS x.op a.2.1 = (a.2.1 == 0)) := Lib.hid (by rw [HOP.out]; rfl)
  by_cases hn0 : a.2.1 = 0
  rotate_left
  · have HEF : Hid (enS x.op a.2.1 = false) := Lib.hid (by rw [HEQ.out]; exact beq_eq_false_iff_ne.2 hn0)
    have g1 : decide ((a.2.1 : Int) < 0) = false := decide_eq_false (by omega)
    have g2 : decide ((0 : Int) < (a.2.1 : Int)) = true := decide_eq_true (by omega)
    go_wp2_with (go_at_call 15; (with_reducible refine (HAT.out _).mono ?_); rintro e w7 ⟨rfl, rfl⟩)
    go_ret
    exact ⟨ret_bool' (by rw [HV.out, HEF.out]; simp), HL.out.old⟩
  have HEF : Hid (enS x.op a.2.1 = true) := Lib.hid (by rw [HEQ.out, hn0]; rfl)
  have hn1 : (a.2.1 : Int) = 0 := by omega
  cases hin : inB x.dst c.slots with
  | false =>
    have HIN := Lib.hid hin
    clear hin
    go_wp2_with (first | (go_at_call 15; (with_reducible refine (HAT.out _).mono ?_); rintro e w7 ⟨rfl, rfl⟩) | (go_at_call 48; (with_reducible refine (in_t x.dst c.slots false _ HIN.out).mono ?_); rintro e w8 ⟨rfl, rfl⟩))
    go_ret
    exact ⟨ret_bool' (by rw [HV.out, HIE.out, HIN.out]; simp), HL.out.old⟩
  | true =>
    have HIN := Lib.hid hin
    clear hin
    by_cases hr0 : r.2.1 = 0
    · have HR0 := Lib.hid (decide_eq_true hr0)
      have hr1 : (r.2.1 : Int) = 0 := by omega
      go_wp2_with (first | (go_at_call 15; (with_reducible refine (HAT.out _).mono ?_); rintro e w7 ⟨rfl, rfl⟩) | (go_at_call 48; (with_reducible refine (in_t x.dst c.slots true _ HIN.out).mono ?_); rintro e w8 ⟨rfl, rfl⟩) | (go_at_call 48; (with_reducible refine (in_t x.k c.crosses _ _ rfl).mono ?_); rintro e w9 ⟨rfl, rfl⟩))
      go_ret
      exact ⟨ret_bool' (by rw [HV.out, HEF.out, HPK.out, HR0.out, HG.out, HAA.out, HRS.out, HIE.out, HIN.out]; simp), HL.out.old⟩
    · have HR0 := Lib.hid (decide_eq_false hr0)
      have hr1 : (0 : Int) < (r.2.1 : Int) := by omega
      have g3 : decide ((0 : Int) < (r.2.1 : Int)) = true := decide_eq_true hr1
      go_wp2_with (first | (go_at_call 15; (with_reducible refine (HAT.out _).mono ?_); rintro e w7 ⟨rfl, rfl⟩) | (go_at_call 48; (with_reducible refine (in_t x.dst c.slots true _ HIN.out).mono ?_); rintro e w8 ⟨rfl, rfl⟩) | (go_at_call 48; (with_reducible refine (in_t x.k c.crosses _ _ rfl).mono ?_); rintro e w9 ⟨rfl, rfl⟩))
      go_ret
      exact ⟨ret_bool' (by rw [HV.out, HR0.out, HMB.out]; simp), HL.out.old⟩
set_option maxHeartbeats 4000000 in
theorem s6_keep (B : Nat) (c : CodeM) (v : CodeV) (w : World) (h : CodeIs w B c v) (hB : B ≤ w.heap.size) (k : Nat) (hup : k ≤ v.step.2.1) (hok : OkS c k) (x : InsP) (hx : c.step[k]? = some x) (hsz : x.args.length ≤ 20 ∧ x.resets.length ≤ 20) (hg : gdB c.slots (wTo (c.step.take k)) x.guard = true) (haa : x.args.all (wrB c.slots (wTo (c.step.take k))) = true) (hrs : x.resets.all (wrB c.slots (wTo (c.step.take k))) = true) (hop : x.op = bs [107, 101, 101, 112]) : Calls Try.prog 24 #[.agg #[.int .i64 c.ins, .int .i64 c.outs, .int .i64 c.slots, .int .i64 c.crosses, .int .i64 c.lines, .slice v.mems.1 v.mems.2.1 v.mems.2.2, .slice v.conts.1 v.conts.2.1 v.conts.2.2, .slice v.step.1 v.step.2.1 v.step.2.2, .slice v.deriv.1 v.deriv.2.1 v.deriv.2.2, .slice v.cross.1 v.cross.2.1 v.cross.2.2], .int .i64 (k : Nat)] w fun e w' => e = .returned (.bool (stB c (wTo (c.step.take k)) x)) ∧ Below w.heap.size w w' := by
  obtain ⟨W1, hW1⟩ : ∃ W1, W1 = w.alloc (.cells #[.int .i64 c.ins, .int .i64 c.outs, .int .i64 c.slots, .int .i64 c.crosses, .int .i64 c.lines, .slice v.mems.1 v.mems.2.1 v.mems.2.2, .slice v.conts.1 v.conts.2.1 v.conts.2.2, .slice v.step.1 v.step.2.1 v.step.2.2, .slice v.deriv.1 v.deriv.2.1 v.deriv.2.2, .slice v.cross.1 v.cross.2.1 v.cross.2.2] 25) := ⟨_, rfl⟩
  have HL := Lib.hid (show LwSt w c v W1 from by rw [hW1]; exact LwSt.start (h.more hB))
  clear h hB
  have HOP := Lib.hid hop
  clear hop
  have HOK := Lib.hid hok
  have HSZ := Lib.hid hsz
  obtain ⟨bb, off, ha, hbl, hat⟩ := HL.out.is.step.at_ hx
  obtain ⟨a, m, d, r, hiw, _, _, _, x0, x1, x2, x3, x4, x5, x6, x7, x8, x9, x10⟩ := hat.cells
  have hkl : k < v.step.2.1 := by rw [← HL.out.is.step.1]; exact (List.getElem?_eq_some_iff.1 hx).1
  have hkI : (k : Int) < (v.step.2.1 : Int) := by omega
  have hm := HL.out.is.step.len_le
  unfold maxLen at hm
  obtain ⟨W2, hW2⟩ : ∃ W2, W2 = W1.alloc (.cells #[.string x.op, .int .i64 x.dst, .slice a.1 a.2.1 a.2.2, .int .i64 x.k, .int .i64 x.lit.kind, .bool x.lit.neg, .slice m.1 m.2.1 m.2.2, .slice d.1 d.2.1 d.2.2, .string x.lit.name, .int .i64 x.guard, .slice r.1 r.2.1 r.2.2] 52) := ⟨_, rfl⟩
  have hb2 : Below W1.heap.size W1 W2 := by rw [hW2]; exact (Below.refl _ _).alloc (Nat.le_refl _) _
  have HX := Lib.hid (show Blk W2 W1.heap.size 52 (ics x a m d r) from by rw [hW2]; exact Blk.new _ _ _)
  have HIW := Lib.hid (hiw.keep (hb2.mono HL.out.old.size))
  have HV := Lib.hid (stB_eq (W := (wTo (c.step.take k))) HL.out.is hiw)
  have hb1 : bb < W1.heap.size := Nat.lt_of_lt_of_le hbl HL.out.old.size
  obtain ⟨n0, n1, n2, n3, n4, n5, n6, n7, n8, n9⟩ := HL.out.blk.code
  obtain ⟨EA, hEA⟩ : ∃ EA, EA = v.step.1 := ⟨_, rfl⟩
  rw [← hEA] at ha
  have HEA := Lib.hid hEA
  rw [hEA] at ha
  rw [ha] at n7
  clear hEA HEA ha
  clear hok hsz hx hiw hat hbl
  go_enter Try.func24, Try.ntmps24
  go_upto_region 1 with fail
  rw [← hW1]
  clear hW1
  go_upto_region 2 with fail
  rw [← hW2]
  clear hW2 n0 n1 n2 n3 n4 n5 n6 n7 n8 n9 x0 x1 x2 x3 x4 x5 x6 x7 x8 x9 x10
  have HL := Lib.hid (HL.out.later hb2)
  clear hb2
  obtain ⟨n0, n1, n2, n3, n4, n5, n6, n7, n8, n9⟩ := HL.out.blk.code
  obtain ⟨p0, p1, p2, p3, p4, p5, p6, p7, p8, p9, p10⟩ := HX.out.elev
  have hq0 := HX.out.lt
  have hna : a.2.1 ≤ 20 := by rw [← HIW.out.args.1]; exact HSZ.out.1
  have hnr : r.2.1 ≤ 20 := by rw [← HIW.out.resets.1]; exact HSZ.out.2
  have HG := Lib.hid hg
  clear hg
  have HAA := Lib.hid haa
  clear haa
  have HRS := Lib.hid hrs
  clear hrs
  go_upto_region 5 with (first | (go_at_call 46; (with_reducible refine (guard_r w.heap.size c v _ HL.out.is HL.out.old.size k hup HOK.out x.guard true HG.out).mono ?_); rintro e w2 ⟨rfl, hb2⟩; have HIW := Lib.hid (HIW.out.keep (hb2.mono HL.out.old.size)); have HL := Lib.hid (HL.out.later hb2); have HX := Lib.hid (HX.out.later hb2); clear hb2 n0 n1 n2 n3 n4 n5 n6 n7 n8 n9 p0 p1 p2 p3 p4 p5 p6 p7 p8 p9 p10 hq0; obtain ⟨n0, n1, n2, n3, n4, n5, n6, n7, n8, n9⟩ := HL.out.blk.code; obtain ⟨p0, p1, p2, p3, p4, p5, p6, p7, p8, p9, p10⟩ := HX.out.elev; have hq0 := HX.out.lt) | (go_at_call 47; (with_reducible refine (all_r w.heap.size c v _ HL.out.is HL.out.old.size k hup HOK.out a.1 a.2.1 a.2.2 x.args HIW.out.args true HAA.out).mono ?_); rintro e w2 ⟨rfl, hb2⟩; have HIW := Lib.hid (HIW.out.keep (hb2.mono HL.out.old.size)); have HL := Lib.hid (HL.out.later hb2); have HX := Lib.hid (HX.out.later hb2); clear hb2 n0 n1 n2 n3 n4 n5 n6 n7 n8 n9 p0 p1 p2 p3 p4 p5 p6 p7 p8 p9 p10 hq0; obtain ⟨n0, n1, n2, n3, n4, n5, n6, n7, n8, n9⟩ := HL.out.blk.code; obtain ⟨p0, p1, p2, p3, p4, p5, p6, p7, p8, p9, p10⟩ := HX.out.elev; have hq0 := HX.out.lt) | (go_at_call 47; (with_reducible refine (all_r w.heap.size c v _ HL.out.is HL.out.old.size k hup HOK.out r.1 r.2.1 r.2.2 x.resets HIW.out.resets true HRS.out).mono ?_); rintro e w2 ⟨rfl, hb2⟩; have HIW := Lib.hid (HIW.out.keep (hb2.mono HL.out.old.size)); have HL := Lib.hid (HL.out.later hb2); have HX := Lib.hid (HX.out.later hb2); clear hb2 n0 n1 n2 n3 n4 n5 n6 n7 n8 n9 p0 p1 p2 p3 p4 p5 p6 p7 p8 p9 p10 hq0; obtain ⟨n0, n1, n2, n3, n4, n5, n6, n7, n8, n9⟩ := HL.out.blk.code; obtain ⟨p0, p1, p2, p3, p4, p5, p6, p7, p8, p9, p10⟩ := HX.out.elev; have hq0 := HX.out.lt))
  have HAT : Hid (∀ w, Calls Try.prog 15 #[.string ⟨#[107, 101, 101, 112]⟩] w fun e w' => e = .returned (.tuple #[.int .i64 (-1), .int .i64 (-1)]) ∧ w' = w) := Lib.hid (fun w => args_t (bs [107, 101, 101, 112]) w)
  have HPK : Hid (plK x.op x.k c.ins c.outs v.mems.2.1 v.conts.2.1 c.crosses = inB x.k (v.mems.2.1 : Int)) := Lib.hid (by rw [HOP.out]; rfl)
  rw [HOP.out, show bs [107, 101, 101, 112] = (⟨#[107, 101, 101, 112]⟩ : ByteArray) from rfl] at p0
  have hm1 := HL.out.is.mems.len_le
  have hm2 := HL.out.is.conts.len_le
  unfold maxLen at hm1 hm2
  have HMB : Hid (mayB x.op = true) := Lib.hid (by rw [HOP.out]; rfl)
  have HIE : Hid (isEnd x.op = true) := Lib.hid (by rw [HOP.out]; rfl)
  have HEQ : Hid (enS x.op a.2.1 = (a.2.1 == 1)) := Lib.hid (by rw [HOP.out]; rfl)
  by_cases hn0 : a.2.1 = 1
  · have HEF : Hid (enS x.op a.2.1 = true) := Lib.hid (by rw [HEQ.out, hn0]; rfl)
    have hn1 : (a.2.1 : Int) = 1 := by omega
    go_wp2_with (first | (go_at_call 15; (with_reducible refine (HAT.out _).mono ?_); rintro e w7 ⟨rfl, rfl⟩) | (go_at_call 48; (with_reducible refine (in_t x.k (v.mems.2.1 : Int) _ _ rfl).mono ?_); rintro e w9 ⟨rfl, rfl⟩))
    go_ret
    exact ⟨ret_bool' (by rw [HV.out, HEF.out, HPK.out, HMB.out, HG.out, HAA.out, HRS.out, HIE.out]; simp), HL.out.old⟩
  · have HEF : Hid (enS x.op a.2.1 = false) := Lib.hid (by rw [HEQ.out]; exact beq_eq_false_iff_ne.2 hn0)
    have g1 : ((a.2.1 : Int) == 1) = false := by rw [beq_eq_false_iff_ne]; omega
    have g2 : ¬ (a.2.1 : Int) = 1 := by omega
    go_wp2_with (first | (go_at_call 15; (with_reducible refine (HAT.out _).mono ?_); rintro e w7 ⟨rfl, rfl⟩) | (go_at_call 48; (with_reducible refine (in_t x.k (v.mems.2.1 : Int) _ _ rfl).mono ?_); rintro e w9 ⟨rfl, rfl⟩))
    go_ret
    exact ⟨ret_bool' (by rw [HV.out, HEF.out]; simp), HL.out.old⟩
set_option maxHeartbeats 4000000 in
theorem s6_state (B : Nat) (c : CodeM) (v : CodeV) (w : World) (h : CodeIs w B c v) (hB : B ≤ w.heap.size) (k : Nat) (hup : k ≤ v.step.2.1) (hok : OkS c k) (x : InsP) (hx : c.step[k]? = some x) (hsz : x.args.length ≤ 20 ∧ x.resets.length ≤ 20) (hg : gdB c.slots (wTo (c.step.take k)) x.guard = true) (haa : x.args.all (wrB c.slots (wTo (c.step.take k))) = true) (hrs : x.resets.all (wrB c.slots (wTo (c.step.take k))) = true) (hop : x.op = bs [115, 116, 97, 116, 101]) : Calls Try.prog 24 #[.agg #[.int .i64 c.ins, .int .i64 c.outs, .int .i64 c.slots, .int .i64 c.crosses, .int .i64 c.lines, .slice v.mems.1 v.mems.2.1 v.mems.2.2, .slice v.conts.1 v.conts.2.1 v.conts.2.2, .slice v.step.1 v.step.2.1 v.step.2.2, .slice v.deriv.1 v.deriv.2.1 v.deriv.2.2, .slice v.cross.1 v.cross.2.1 v.cross.2.2], .int .i64 (k : Nat)] w fun e w' => e = .returned (.bool (stB c (wTo (c.step.take k)) x)) ∧ Below w.heap.size w w' := by
  obtain ⟨W1, hW1⟩ : ∃ W1, W1 = w.alloc (.cells #[.int .i64 c.ins, .int .i64 c.outs, .int .i64 c.slots, .int .i64 c.crosses, .int .i64 c.lines, .slice v.mems.1 v.mems.2.1 v.mems.2.2, .slice v.conts.1 v.conts.2.1 v.conts.2.2, .slice v.step.1 v.step.2.1 v.step.2.2, .slice v.deriv.1 v.deriv.2.1 v.deriv.2.2, .slice v.cross.1 v.cross.2.1 v.cross.2.2] 25) := ⟨_, rfl⟩
  have HL := Lib.hid (show LwSt w c v W1 from by rw [hW1]; exact LwSt.start (h.more hB))
  clear h hB
  have HOP := Lib.hid hop
  clear hop
  have HOK := Lib.hid hok
  have HSZ := Lib.hid hsz
  obtain ⟨bb, off, ha, hbl, hat⟩ := HL.out.is.step.at_ hx
  obtain ⟨a, m, d, r, hiw, _, _, _, x0, x1, x2, x3, x4, x5, x6, x7, x8, x9, x10⟩ := hat.cells
  have hkl : k < v.step.2.1 := by rw [← HL.out.is.step.1]; exact (List.getElem?_eq_some_iff.1 hx).1
  have hkI : (k : Int) < (v.step.2.1 : Int) := by omega
  have hm := HL.out.is.step.len_le
  unfold maxLen at hm
  obtain ⟨W2, hW2⟩ : ∃ W2, W2 = W1.alloc (.cells #[.string x.op, .int .i64 x.dst, .slice a.1 a.2.1 a.2.2, .int .i64 x.k, .int .i64 x.lit.kind, .bool x.lit.neg, .slice m.1 m.2.1 m.2.2, .slice d.1 d.2.1 d.2.2, .string x.lit.name, .int .i64 x.guard, .slice r.1 r.2.1 r.2.2] 52) := ⟨_, rfl⟩
  have hb2 : Below W1.heap.size W1 W2 := by rw [hW2]; exact (Below.refl _ _).alloc (Nat.le_refl _) _
  have HX := Lib.hid (show Blk W2 W1.heap.size 52 (ics x a m d r) from by rw [hW2]; exact Blk.new _ _ _)
  have HIW := Lib.hid (hiw.keep (hb2.mono HL.out.old.size))
  have HV := Lib.hid (stB_eq (W := (wTo (c.step.take k))) HL.out.is hiw)
  have hb1 : bb < W1.heap.size := Nat.lt_of_lt_of_le hbl HL.out.old.size
  obtain ⟨n0, n1, n2, n3, n4, n5, n6, n7, n8, n9⟩ := HL.out.blk.code
  obtain ⟨EA, hEA⟩ : ∃ EA, EA = v.step.1 := ⟨_, rfl⟩
  rw [← hEA] at ha
  have HEA := Lib.hid hEA
  rw [hEA] at ha
  rw [ha] at n7
  clear hEA HEA ha
  clear hok hsz hx hiw hat hbl
  go_enter Try.func24, Try.ntmps24
  go_upto_region 1 with fail
  rw [← hW1]
  clear hW1
  go_upto_region 2 with fail
  rw [← hW2]
  clear hW2 n0 n1 n2 n3 n4 n5 n6 n7 n8 n9 x0 x1 x2 x3 x4 x5 x6 x7 x8 x9 x10
  have HL := Lib.hid (HL.out.later hb2)
  clear hb2
  obtain ⟨n0, n1, n2, n3, n4, n5, n6, n7, n8, n9⟩ := HL.out.blk.code
  obtain ⟨p0, p1, p2, p3, p4, p5, p6, p7, p8, p9, p10⟩ := HX.out.elev
  have hq0 := HX.out.lt
  have hna : a.2.1 ≤ 20 := by rw [← HIW.out.args.1]; exact HSZ.out.1
  have hnr : r.2.1 ≤ 20 := by rw [← HIW.out.resets.1]; exact HSZ.out.2
  have HG := Lib.hid hg
  clear hg
  have HAA := Lib.hid haa
  clear haa
  have HRS := Lib.hid hrs
  clear hrs
  go_upto_region 5 with (first | (go_at_call 46; (with_reducible refine (guard_r w.heap.size c v _ HL.out.is HL.out.old.size k hup HOK.out x.guard true HG.out).mono ?_); rintro e w2 ⟨rfl, hb2⟩; have HIW := Lib.hid (HIW.out.keep (hb2.mono HL.out.old.size)); have HL := Lib.hid (HL.out.later hb2); have HX := Lib.hid (HX.out.later hb2); clear hb2 n0 n1 n2 n3 n4 n5 n6 n7 n8 n9 p0 p1 p2 p3 p4 p5 p6 p7 p8 p9 p10 hq0; obtain ⟨n0, n1, n2, n3, n4, n5, n6, n7, n8, n9⟩ := HL.out.blk.code; obtain ⟨p0, p1, p2, p3, p4, p5, p6, p7, p8, p9, p10⟩ := HX.out.elev; have hq0 := HX.out.lt) | (go_at_call 47; (with_reducible refine (all_r w.heap.size c v _ HL.out.is HL.out.old.size k hup HOK.out a.1 a.2.1 a.2.2 x.args HIW.out.args true HAA.out).mono ?_); rintro e w2 ⟨rfl, hb2⟩; have HIW := Lib.hid (HIW.out.keep (hb2.mono HL.out.old.size)); have HL := Lib.hid (HL.out.later hb2); have HX := Lib.hid (HX.out.later hb2); clear hb2 n0 n1 n2 n3 n4 n5 n6 n7 n8 n9 p0 p1 p2 p3 p4 p5 p6 p7 p8 p9 p10 hq0; obtain ⟨n0, n1, n2, n3, n4, n5, n6, n7, n8, n9⟩ := HL.out.blk.code; obtain ⟨p0, p1, p2, p3, p4, p5, p6, p7, p8, p9, p10⟩ := HX.out.elev; have hq0 := HX.out.lt) | (go_at_call 47; (with_reducible refine (all_r w.heap.size c v _ HL.out.is HL.out.old.size k hup HOK.out r.1 r.2.1 r.2.2 x.resets HIW.out.resets true HRS.out).mono ?_); rintro e w2 ⟨rfl, hb2⟩; have HIW := Lib.hid (HIW.out.keep (hb2.mono HL.out.old.size)); have HL := Lib.hid (HL.out.later hb2); have HX := Lib.hid (HX.out.later hb2); clear hb2 n0 n1 n2 n3 n4 n5 n6 n7 n8 n9 p0 p1 p2 p3 p4 p5 p6 p7 p8 p9 p10 hq0; obtain ⟨n0, n1, n2, n3, n4, n5, n6, n7, n8, n9⟩ := HL.out.blk.code; obtain ⟨p0, p1, p2, p3, p4, p5, p6, p7, p8, p9, p10⟩ := HX.out.elev; have hq0 := HX.out.lt))
  have HAT : Hid (∀ w, Calls Try.prog 15 #[.string ⟨#[115, 116, 97, 116, 101]⟩] w fun e w' => e = .returned (.tuple #[.int .i64 (-1), .int .i64 (-1)]) ∧ w' = w) := Lib.hid (fun w => args_t (bs [115, 116, 97, 116, 101]) w)
  have HPK : Hid (plK x.op x.k c.ins c.outs v.mems.2.1 v.conts.2.1 c.crosses = inB x.k (v.conts.2.1 : Int)) := Lib.hid (by rw [HOP.out]; rfl)
  rw [HOP.out, show bs [115, 116, 97, 116, 101] = (⟨#[115, 116, 97, 116, 101]⟩ : ByteArray) from rfl] at p0
  have hm1 := HL.out.is.mems.len_le
  have hm2 := HL.out.is.conts.len_le
  unfold maxLen at hm1 hm2
  have HMB : Hid (mayB x.op = true) := Lib.hid (by rw [HOP.out]; rfl)
  have HIE : Hid (isEnd x.op = true) := Lib.hid (by rw [HOP.out]; rfl)
  have HEQ : Hid (enS x.op a.2.1 = (a.2.1 == 1)) := Lib.hid (by rw [HOP.out]; rfl)
  by_cases hn0 : a.2.1 = 1
  · have HEF : Hid (enS x.op a.2.1 = true) := Lib.hid (by rw [HEQ.out, hn0]; rfl)
    have hn1 : (a.2.1 : Int) = 1 := by omega
    go_wp2_with (first | (go_at_call 15; (with_reducible refine (HAT.out _).mono ?_); rintro e w7 ⟨rfl, rfl⟩) | (go_at_call 48; (with_reducible refine (in_t x.k (v.conts.2.1 : Int) _ _ rfl).mono ?_); rintro e w9 ⟨rfl, rfl⟩))
    go_ret
    exact ⟨ret_bool' (by rw [HV.out, HEF.out, HPK.out, HMB.out, HG.out, HAA.out, HRS.out, HIE.out]; simp), HL.out.old⟩
  · have HEF : Hid (enS x.op a.2.1 = false) := Lib.hid (by rw [HEQ.out]; exact beq_eq_false_iff_ne.2 hn0)
    have g1 : ((a.2.1 : Int) == 1) = false := by rw [beq_eq_false_iff_ne]; omega
    have g2 : ¬ (a.2.1 : Int) = 1 := by omega
    go_wp2_with (first | (go_at_call 15; (with_reducible refine (HAT.out _).mono ?_); rintro e w7 ⟨rfl, rfl⟩) | (go_at_call 48; (with_reducible refine (in_t x.k (v.conts.2.1 : Int) _ _ rfl).mono ?_); rintro e w9 ⟨rfl, rfl⟩))
    go_ret
    exact ⟨ret_bool' (by rw [HV.out, HEF.out]; simp), HL.out.old⟩
set_option maxHeartbeats 4000000 in
theorem s6_out (B : Nat) (c : CodeM) (v : CodeV) (w : World) (h : CodeIs w B c v) (hB : B ≤ w.heap.size) (k : Nat) (hup : k ≤ v.step.2.1) (hok : OkS c k) (x : InsP) (hx : c.step[k]? = some x) (hsz : x.args.length ≤ 20 ∧ x.resets.length ≤ 20) (hg : gdB c.slots (wTo (c.step.take k)) x.guard = true) (haa : x.args.all (wrB c.slots (wTo (c.step.take k))) = true) (hrs : x.resets.all (wrB c.slots (wTo (c.step.take k))) = true) (hop : x.op = bs [111, 117, 116]) : Calls Try.prog 24 #[.agg #[.int .i64 c.ins, .int .i64 c.outs, .int .i64 c.slots, .int .i64 c.crosses, .int .i64 c.lines, .slice v.mems.1 v.mems.2.1 v.mems.2.2, .slice v.conts.1 v.conts.2.1 v.conts.2.2, .slice v.step.1 v.step.2.1 v.step.2.2, .slice v.deriv.1 v.deriv.2.1 v.deriv.2.2, .slice v.cross.1 v.cross.2.1 v.cross.2.2], .int .i64 (k : Nat)] w fun e w' => e = .returned (.bool (stB c (wTo (c.step.take k)) x)) ∧ Below w.heap.size w w' := by
  obtain ⟨W1, hW1⟩ : ∃ W1, W1 = w.alloc (.cells #[.int .i64 c.ins, .int .i64 c.outs, .int .i64 c.slots, .int .i64 c.crosses, .int .i64 c.lines, .slice v.mems.1 v.mems.2.1 v.mems.2.2, .slice v.conts.1 v.conts.2.1 v.conts.2.2, .slice v.step.1 v.step.2.1 v.step.2.2, .slice v.deriv.1 v.deriv.2.1 v.deriv.2.2, .slice v.cross.1 v.cross.2.1 v.cross.2.2] 25) := ⟨_, rfl⟩
  have HL := Lib.hid (show LwSt w c v W1 from by rw [hW1]; exact LwSt.start (h.more hB))
  clear h hB
  have HOP := Lib.hid hop
  clear hop
  have HOK := Lib.hid hok
  have HSZ := Lib.hid hsz
  obtain ⟨bb, off, ha, hbl, hat⟩ := HL.out.is.step.at_ hx
  obtain ⟨a, m, d, r, hiw, _, _, _, x0, x1, x2, x3, x4, x5, x6, x7, x8, x9, x10⟩ := hat.cells
  have hkl : k < v.step.2.1 := by rw [← HL.out.is.step.1]; exact (List.getElem?_eq_some_iff.1 hx).1
  have hkI : (k : Int) < (v.step.2.1 : Int) := by omega
  have hm := HL.out.is.step.len_le
  unfold maxLen at hm
  obtain ⟨W2, hW2⟩ : ∃ W2, W2 = W1.alloc (.cells #[.string x.op, .int .i64 x.dst, .slice a.1 a.2.1 a.2.2, .int .i64 x.k, .int .i64 x.lit.kind, .bool x.lit.neg, .slice m.1 m.2.1 m.2.2, .slice d.1 d.2.1 d.2.2, .string x.lit.name, .int .i64 x.guard, .slice r.1 r.2.1 r.2.2] 52) := ⟨_, rfl⟩
  have hb2 : Below W1.heap.size W1 W2 := by rw [hW2]; exact (Below.refl _ _).alloc (Nat.le_refl _) _
  have HX := Lib.hid (show Blk W2 W1.heap.size 52 (ics x a m d r) from by rw [hW2]; exact Blk.new _ _ _)
  have HIW := Lib.hid (hiw.keep (hb2.mono HL.out.old.size))
  have HV := Lib.hid (stB_eq (W := (wTo (c.step.take k))) HL.out.is hiw)
  have hb1 : bb < W1.heap.size := Nat.lt_of_lt_of_le hbl HL.out.old.size
  obtain ⟨n0, n1, n2, n3, n4, n5, n6, n7, n8, n9⟩ := HL.out.blk.code
  obtain ⟨EA, hEA⟩ : ∃ EA, EA = v.step.1 := ⟨_, rfl⟩
  rw [← hEA] at ha
  have HEA := Lib.hid hEA
  rw [hEA] at ha
  rw [ha] at n7
  clear hEA HEA ha
  clear hok hsz hx hiw hat hbl
  go_enter Try.func24, Try.ntmps24
  go_upto_region 1 with fail
  rw [← hW1]
  clear hW1
  go_upto_region 2 with fail
  rw [← hW2]
  clear hW2 n0 n1 n2 n3 n4 n5 n6 n7 n8 n9 x0 x1 x2 x3 x4 x5 x6 x7 x8 x9 x10
  have HL := Lib.hid (HL.out.later hb2)
  clear hb2
  obtain ⟨n0, n1, n2, n3, n4, n5, n6, n7, n8, n9⟩ := HL.out.blk.code
  obtain ⟨p0, p1, p2, p3, p4, p5, p6, p7, p8, p9, p10⟩ := HX.out.elev
  have hq0 := HX.out.lt
  have hna : a.2.1 ≤ 20 := by rw [← HIW.out.args.1]; exact HSZ.out.1
  have hnr : r.2.1 ≤ 20 := by rw [← HIW.out.resets.1]; exact HSZ.out.2
  have HG := Lib.hid hg
  clear hg
  have HAA := Lib.hid haa
  clear haa
  have HRS := Lib.hid hrs
  clear hrs
  go_upto_region 5 with (first | (go_at_call 46; (with_reducible refine (guard_r w.heap.size c v _ HL.out.is HL.out.old.size k hup HOK.out x.guard true HG.out).mono ?_); rintro e w2 ⟨rfl, hb2⟩; have HIW := Lib.hid (HIW.out.keep (hb2.mono HL.out.old.size)); have HL := Lib.hid (HL.out.later hb2); have HX := Lib.hid (HX.out.later hb2); clear hb2 n0 n1 n2 n3 n4 n5 n6 n7 n8 n9 p0 p1 p2 p3 p4 p5 p6 p7 p8 p9 p10 hq0; obtain ⟨n0, n1, n2, n3, n4, n5, n6, n7, n8, n9⟩ := HL.out.blk.code; obtain ⟨p0, p1, p2, p3, p4, p5, p6, p7, p8, p9, p10⟩ := HX.out.elev; have hq0 := HX.out.lt) | (go_at_call 47; (with_reducible refine (all_r w.heap.size c v _ HL.out.is HL.out.old.size k hup HOK.out a.1 a.2.1 a.2.2 x.args HIW.out.args true HAA.out).mono ?_); rintro e w2 ⟨rfl, hb2⟩; have HIW := Lib.hid (HIW.out.keep (hb2.mono HL.out.old.size)); have HL := Lib.hid (HL.out.later hb2); have HX := Lib.hid (HX.out.later hb2); clear hb2 n0 n1 n2 n3 n4 n5 n6 n7 n8 n9 p0 p1 p2 p3 p4 p5 p6 p7 p8 p9 p10 hq0; obtain ⟨n0, n1, n2, n3, n4, n5, n6, n7, n8, n9⟩ := HL.out.blk.code; obtain ⟨p0, p1, p2, p3, p4, p5, p6, p7, p8, p9, p10⟩ := HX.out.elev; have hq0 := HX.out.lt) | (go_at_call 47; (with_reducible refine (all_r w.heap.size c v _ HL.out.is HL.out.old.size k hup HOK.out r.1 r.2.1 r.2.2 x.resets HIW.out.resets true HRS.out).mono ?_); rintro e w2 ⟨rfl, hb2⟩; have HIW := Lib.hid (HIW.out.keep (hb2.mono HL.out.old.size)); have HL := Lib.hid (HL.out.later hb2); have HX := Lib.hid (HX.out.later hb2); clear hb2 n0 n1 n2 n3 n4 n5 n6 n7 n8 n9 p0 p1 p2 p3 p4 p5 p6 p7 p8 p9 p10 hq0; obtain ⟨n0, n1, n2, n3, n4, n5, n6, n7, n8, n9⟩ := HL.out.blk.code; obtain ⟨p0, p1, p2, p3, p4, p5, p6, p7, p8, p9, p10⟩ := HX.out.elev; have hq0 := HX.out.lt))
  have HAT : Hid (∀ w, Calls Try.prog 15 #[.string ⟨#[111, 117, 116]⟩] w fun e w' => e = .returned (.tuple #[.int .i64 (-1), .int .i64 (-1)]) ∧ w' = w) := Lib.hid (fun w => args_t (bs [111, 117, 116]) w)
  have HPK : Hid (plK x.op x.k c.ins c.outs v.mems.2.1 v.conts.2.1 c.crosses = inB x.k c.outs) := Lib.hid (by rw [HOP.out]; rfl)
  rw [HOP.out, show bs [111, 117, 116] = (⟨#[111, 117, 116]⟩ : ByteArray) from rfl] at p0
  have hm1 := HL.out.is.mems.len_le
  have hm2 := HL.out.is.conts.len_le
  unfold maxLen at hm1 hm2
  have HMB : Hid (mayB x.op = false) := Lib.hid (by rw [HOP.out]; rfl)
  have HIE : Hid (isEnd x.op = true) := Lib.hid (by rw [HOP.out]; rfl)
  have HEQ : Hid (enS x.op a.2.1 = (a.2.1 == 1)) := Lib.hid (by rw [HOP.out]; rfl)
  by_cases hr0 : r.2.1 = 0
  · have HR0 := Lib.hid (decide_eq_true hr0)
    have hr1 : (r.2.1 : Int) = 0 := by omega
    by_cases hn0 : a.2.1 = 1
    · have HEF : Hid (enS x.op a.2.1 = true) := Lib.hid (by rw [HEQ.out, hn0]; rfl)
      have hn1 : (a.2.1 : Int) = 1 := by omega
      go_wp2_with (first | (go_at_call 15; (with_reducible refine (HAT.out _).mono ?_); rintro e w7 ⟨rfl, rfl⟩) | (go_at_call 48; (with_reducible refine (in_t x.k c.outs _ _ rfl).mono ?_); rintro e w9 ⟨rfl, rfl⟩))
      go_ret
      exact ⟨ret_bool' (by rw [HV.out, HEF.out, HPK.out, HR0.out, HG.out, HAA.out, HRS.out, HIE.out]; simp), HL.out.old⟩
    · have HEF : Hid (enS x.op a.2.1 = false) := Lib.hid (by rw [HEQ.out]; exact beq_eq_false_iff_ne.2 hn0)
      have g1 : ((a.2.1 : Int) == 1) = false := by rw [beq_eq_false_iff_ne]; omega
      have g2 : ¬ (a.2.1 : Int) = 1 := by omega
      go_wp2_with (first | (go_at_call 15; (with_reducible refine (HAT.out _).mono ?_); rintro e w7 ⟨rfl, rfl⟩) | (go_at_call 48; (with_reducible refine (in_t x.k c.outs _ _ rfl).mono ?_); rintro e w9 ⟨rfl, rfl⟩))
      go_ret
      exact ⟨ret_bool' (by rw [HV.out, HEF.out]; simp), HL.out.old⟩
  · have HR0 := Lib.hid (decide_eq_false hr0)
    have hr1 : (0 : Int) < (r.2.1 : Int) := by omega
    have g3 : decide ((0 : Int) < (r.2.1 : Int)) = true := decide_eq_true hr1
    go_wp2_with (first | (go_at_call 15; (with_reducible refine (HAT.out _).mono ?_); rintro e w7 ⟨rfl, rfl⟩) | (go_at_call 48; (with_reducible refine (in_t x.k c.outs _ _ rfl).mono ?_); rintro e w9 ⟨rfl, rfl⟩))
    go_ret
    exact ⟨ret_bool' (by rw [HV.out, HR0.out, HMB.out]; simp), HL.out.old⟩
set_option maxHeartbeats 4000000 in
theorem s6_again (B : Nat) (c : CodeM) (v : CodeV) (w : World) (h : CodeIs w B c v) (hB : B ≤ w.heap.size) (k : Nat) (hup : k ≤ v.step.2.1) (hok : OkS c k) (x : InsP) (hx : c.step[k]? = some x) (hsz : x.args.length ≤ 20 ∧ x.resets.length ≤ 20) (hg : gdB c.slots (wTo (c.step.take k)) x.guard = true) (haa : x.args.all (wrB c.slots (wTo (c.step.take k))) = true) (hrs : x.resets.all (wrB c.slots (wTo (c.step.take k))) = true) (hop : x.op = bs [97, 103, 97, 105, 110]) : Calls Try.prog 24 #[.agg #[.int .i64 c.ins, .int .i64 c.outs, .int .i64 c.slots, .int .i64 c.crosses, .int .i64 c.lines, .slice v.mems.1 v.mems.2.1 v.mems.2.2, .slice v.conts.1 v.conts.2.1 v.conts.2.2, .slice v.step.1 v.step.2.1 v.step.2.2, .slice v.deriv.1 v.deriv.2.1 v.deriv.2.2, .slice v.cross.1 v.cross.2.1 v.cross.2.2], .int .i64 (k : Nat)] w fun e w' => e = .returned (.bool (stB c (wTo (c.step.take k)) x)) ∧ Below w.heap.size w w' := by
  obtain ⟨W1, hW1⟩ : ∃ W1, W1 = w.alloc (.cells #[.int .i64 c.ins, .int .i64 c.outs, .int .i64 c.slots, .int .i64 c.crosses, .int .i64 c.lines, .slice v.mems.1 v.mems.2.1 v.mems.2.2, .slice v.conts.1 v.conts.2.1 v.conts.2.2, .slice v.step.1 v.step.2.1 v.step.2.2, .slice v.deriv.1 v.deriv.2.1 v.deriv.2.2, .slice v.cross.1 v.cross.2.1 v.cross.2.2] 25) := ⟨_, rfl⟩
  have HL := Lib.hid (show LwSt w c v W1 from by rw [hW1]; exact LwSt.start (h.more hB))
  clear h hB
  have HOP := Lib.hid hop
  clear hop
  have HOK := Lib.hid hok
  have HSZ := Lib.hid hsz
  obtain ⟨bb, off, ha, hbl, hat⟩ := HL.out.is.step.at_ hx
  obtain ⟨a, m, d, r, hiw, _, _, _, x0, x1, x2, x3, x4, x5, x6, x7, x8, x9, x10⟩ := hat.cells
  have hkl : k < v.step.2.1 := by rw [← HL.out.is.step.1]; exact (List.getElem?_eq_some_iff.1 hx).1
  have hkI : (k : Int) < (v.step.2.1 : Int) := by omega
  have hm := HL.out.is.step.len_le
  unfold maxLen at hm
  obtain ⟨W2, hW2⟩ : ∃ W2, W2 = W1.alloc (.cells #[.string x.op, .int .i64 x.dst, .slice a.1 a.2.1 a.2.2, .int .i64 x.k, .int .i64 x.lit.kind, .bool x.lit.neg, .slice m.1 m.2.1 m.2.2, .slice d.1 d.2.1 d.2.2, .string x.lit.name, .int .i64 x.guard, .slice r.1 r.2.1 r.2.2] 52) := ⟨_, rfl⟩
  have hb2 : Below W1.heap.size W1 W2 := by rw [hW2]; exact (Below.refl _ _).alloc (Nat.le_refl _) _
  have HX := Lib.hid (show Blk W2 W1.heap.size 52 (ics x a m d r) from by rw [hW2]; exact Blk.new _ _ _)
  have HIW := Lib.hid (hiw.keep (hb2.mono HL.out.old.size))
  have HV := Lib.hid (stB_eq (W := (wTo (c.step.take k))) HL.out.is hiw)
  have hb1 : bb < W1.heap.size := Nat.lt_of_lt_of_le hbl HL.out.old.size
  obtain ⟨n0, n1, n2, n3, n4, n5, n6, n7, n8, n9⟩ := HL.out.blk.code
  obtain ⟨EA, hEA⟩ : ∃ EA, EA = v.step.1 := ⟨_, rfl⟩
  rw [← hEA] at ha
  have HEA := Lib.hid hEA
  rw [hEA] at ha
  rw [ha] at n7
  clear hEA HEA ha
  clear hok hsz hx hiw hat hbl
  go_enter Try.func24, Try.ntmps24
  go_upto_region 1 with fail
  rw [← hW1]
  clear hW1
  go_upto_region 2 with fail
  rw [← hW2]
  clear hW2 n0 n1 n2 n3 n4 n5 n6 n7 n8 n9 x0 x1 x2 x3 x4 x5 x6 x7 x8 x9 x10
  have HL := Lib.hid (HL.out.later hb2)
  clear hb2
  obtain ⟨n0, n1, n2, n3, n4, n5, n6, n7, n8, n9⟩ := HL.out.blk.code
  obtain ⟨p0, p1, p2, p3, p4, p5, p6, p7, p8, p9, p10⟩ := HX.out.elev
  have hq0 := HX.out.lt
  have hna : a.2.1 ≤ 20 := by rw [← HIW.out.args.1]; exact HSZ.out.1
  have hnr : r.2.1 ≤ 20 := by rw [← HIW.out.resets.1]; exact HSZ.out.2
  have HG := Lib.hid hg
  clear hg
  have HAA := Lib.hid haa
  clear haa
  have HRS := Lib.hid hrs
  clear hrs
  go_upto_region 5 with (first | (go_at_call 46; (with_reducible refine (guard_r w.heap.size c v _ HL.out.is HL.out.old.size k hup HOK.out x.guard true HG.out).mono ?_); rintro e w2 ⟨rfl, hb2⟩; have HIW := Lib.hid (HIW.out.keep (hb2.mono HL.out.old.size)); have HL := Lib.hid (HL.out.later hb2); have HX := Lib.hid (HX.out.later hb2); clear hb2 n0 n1 n2 n3 n4 n5 n6 n7 n8 n9 p0 p1 p2 p3 p4 p5 p6 p7 p8 p9 p10 hq0; obtain ⟨n0, n1, n2, n3, n4, n5, n6, n7, n8, n9⟩ := HL.out.blk.code; obtain ⟨p0, p1, p2, p3, p4, p5, p6, p7, p8, p9, p10⟩ := HX.out.elev; have hq0 := HX.out.lt) | (go_at_call 47; (with_reducible refine (all_r w.heap.size c v _ HL.out.is HL.out.old.size k hup HOK.out a.1 a.2.1 a.2.2 x.args HIW.out.args true HAA.out).mono ?_); rintro e w2 ⟨rfl, hb2⟩; have HIW := Lib.hid (HIW.out.keep (hb2.mono HL.out.old.size)); have HL := Lib.hid (HL.out.later hb2); have HX := Lib.hid (HX.out.later hb2); clear hb2 n0 n1 n2 n3 n4 n5 n6 n7 n8 n9 p0 p1 p2 p3 p4 p5 p6 p7 p8 p9 p10 hq0; obtain ⟨n0, n1, n2, n3, n4, n5, n6, n7, n8, n9⟩ := HL.out.blk.code; obtain ⟨p0, p1, p2, p3, p4, p5, p6, p7, p8, p9, p10⟩ := HX.out.elev; have hq0 := HX.out.lt) | (go_at_call 47; (with_reducible refine (all_r w.heap.size c v _ HL.out.is HL.out.old.size k hup HOK.out r.1 r.2.1 r.2.2 x.resets HIW.out.resets true HRS.out).mono ?_); rintro e w2 ⟨rfl, hb2⟩; have HIW := Lib.hid (HIW.out.keep (hb2.mono HL.out.old.size)); have HL := Lib.hid (HL.out.later hb2); have HX := Lib.hid (HX.out.later hb2); clear hb2 n0 n1 n2 n3 n4 n5 n6 n7 n8 n9 p0 p1 p2 p3 p4 p5 p6 p7 p8 p9 p10 hq0; obtain ⟨n0, n1, n2, n3, n4, n5, n6, n7, n8, n9⟩ := HL.out.blk.code; obtain ⟨p0, p1, p2, p3, p4, p5, p6, p7, p8, p9, p10⟩ := HX.out.elev; have hq0 := HX.out.lt))
  have HAT : Hid (∀ w, Calls Try.prog 15 #[.string ⟨#[97, 103, 97, 105, 110]⟩] w fun e w' => e = .returned (.tuple #[.int .i64 (-1), .int .i64 (-1)]) ∧ w' = w) := Lib.hid (fun w => args_t (bs [97, 103, 97, 105, 110]) w)
  have HPK : Hid (plK x.op x.k c.ins c.outs v.mems.2.1 v.conts.2.1 c.crosses = true) := Lib.hid (by rw [HOP.out]; rfl)
  rw [HOP.out, show bs [97, 103, 97, 105, 110] = (⟨#[97, 103, 97, 105, 110]⟩ : ByteArray) from rfl] at p0
  have hm1 := HL.out.is.mems.len_le
  have hm2 := HL.out.is.conts.len_le
  unfold maxLen at hm1 hm2
  have HMB : Hid (mayB x.op = false) := Lib.hid (by rw [HOP.out]; rfl)
  have HIE : Hid (isEnd x.op = true) := Lib.hid (by rw [HOP.out]; rfl)
  have HEQ : Hid (enS x.op a.2.1 = (a.2.1 == 1)) := Lib.hid (by rw [HOP.out]; rfl)
  by_cases hr0 : r.2.1 = 0
  · have HR0 := Lib.hid (decide_eq_true hr0)
    have hr1 : (r.2.1 : Int) = 0 := by omega
    by_cases hn0 : a.2.1 = 1
    · have HEF : Hid (enS x.op a.2.1 = true) := Lib.hid (by rw [HEQ.out, hn0]; rfl)
      have hn1 : (a.2.1 : Int) = 1 := by omega
      go_wp2_with (first | (go_at_call 15; (with_reducible refine (HAT.out _).mono ?_); rintro e w7 ⟨rfl, rfl⟩))
      go_ret
      exact ⟨ret_bool' (by rw [HV.out, HEF.out, HPK.out, HR0.out, HG.out, HAA.out, HRS.out, HIE.out]; simp), HL.out.old⟩
    · have HEF : Hid (enS x.op a.2.1 = false) := Lib.hid (by rw [HEQ.out]; exact beq_eq_false_iff_ne.2 hn0)
      have g1 : ((a.2.1 : Int) == 1) = false := by rw [beq_eq_false_iff_ne]; omega
      have g2 : ¬ (a.2.1 : Int) = 1 := by omega
      go_wp2_with (first | (go_at_call 15; (with_reducible refine (HAT.out _).mono ?_); rintro e w7 ⟨rfl, rfl⟩))
      go_ret
      exact ⟨ret_bool' (by rw [HV.out, HEF.out]; simp), HL.out.old⟩
  · have HR0 := Lib.hid (decide_eq_false hr0)
    have hr1 : (0 : Int) < (r.2.1 : Int) := by omega
    have g3 : decide ((0 : Int) < (r.2.1 : Int)) = true := decide_eq_true hr1
    go_wp2_with (first | (go_at_call 15; (with_reducible refine (HAT.out _).mono ?_); rintro e w7 ⟨rfl, rfl⟩))
    go_ret
    exact ⟨ret_bool' (by rw [HV.out, HR0.out, HMB.out]; simp), HL.out.old⟩
theorem step6_t (B : Nat) (c : CodeM) (v : CodeV) (w : World) (h : CodeIs w B c v) (hB : B ≤ w.heap.size) (k : Nat) (hup : k ≤ v.step.2.1) (hok : OkS c k) (x : InsP) (hx : c.step[k]? = some x) (hsz : x.args.length ≤ 20 ∧ x.resets.length ≤ 20) : Calls Try.prog 24 #[.agg #[.int .i64 c.ins, .int .i64 c.outs, .int .i64 c.slots, .int .i64 c.crosses, .int .i64 c.lines, .slice v.mems.1 v.mems.2.1 v.mems.2.2, .slice v.conts.1 v.conts.2.1 v.conts.2.2, .slice v.step.1 v.step.2.1 v.step.2.2, .slice v.deriv.1 v.deriv.2.1 v.deriv.2.2, .slice v.cross.1 v.cross.2.1 v.cross.2.2], .int .i64 (k : Nat)] w fun e w' => e = .returned (.bool (stB c (wTo (c.step.take k)) x)) ∧ Below w.heap.size w w' := by
  cases hg : gdB c.slots (wTo (c.step.take k)) x.guard with
  | false => exact s6_G B c v w h hB k hup hok x hx hsz hg
  | true =>
  cases haa : x.args.all (wrB c.slots (wTo (c.step.take k))) with
  | false => exact s6_A B c v w h hB k hup hok x hx hsz hg haa
  | true =>
  cases hrs : x.resets.all (wrB c.slots (wTo (c.step.take k))) with
  | false => exact s6_R B c v w h hB k hup hok x hx hsz hg haa hrs
  | true =>
  rcases step_cases x.op with h1 | h1 | h1 | h1 | h1 | h1 | h1 | h1 | h1 | h1
  · exact s6_in B c v w h hB k hup hok x hx hsz hg haa hrs h1
  · exact s6_mem B c v w h hB k hup hok x hx hsz hg haa hrs h1
  · exact s6_cont B c v w h hB k hup hok x hx hsz hg haa hrs h1
  · exact s6_flag B c v w h hB k hup hok x hx hsz hg haa hrs h1
  · exact s6_keep B c v w h hB k hup hok x hx hsz hg haa hrs h1
  · exact s6_state B c v w h hB k hup hok x hx hsz hg haa hrs h1
  · exact s6_out B c v w h hB k hup hok x hx hsz hg haa hrs h1
  · exact s6_again B c v w h hB k hup hok x hx hsz hg haa hrs h1
  · exact s6_E1 B c v w h hB k hup hok x hx hsz hg haa hrs h1
  · exact s6_N B c v w h hB k hup hok x hx hsz hg haa hrs h1

end Go.Proofs.Ytcljmfhelgkfaaa
