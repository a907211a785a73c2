/- What cross of the answer tells, in part. No condition but bounds. -/
import Derived.Test.YtcljmfhelgkfaaaSfU
import Derived.Deep.RegionWith
import Derived.Deep.RegionHeld3
import Derived.Deep.DeepCutAuto
namespace Go.Proofs.Ytcljmfhelgkfaaa
set_option linter.unusedVariables false
set_option linter.unusedSimpArgs false
set_option maxRecDepth 100000
open Go.RowKit

theorem crB_eq {w : World} {B : Nat} {c : CodeM} {v : CodeV} {W L : List Int} {q : InsP} {a m d r : Option Addr × Nat × Nat} {s l : Nat} (hn : nLn q.op = some (s, l)) (hr : CodeIs w B c v) (hx : InsW w B q a m d r) :
    crB c W L q = (decide (a.2.1 = s + l) && plK q.op q.k c.ins c.outs v.mems.2.1 v.conts.2.1 c.crosses && (gdB c.slots W q.guard && decide (r.2.1 = 0)) && ((q.args.take s).all (wrB c.slots W) && (q.args.drop s).all (wrB c.lines L)) && (decide (q.op = opAsk) || inB q.dst c.lines)) := by
  unfold crB
  rw [hn]
  simp only []
  rw [hx.args.1, hx.resets.1, hr.mems.1, hr.conts.1]
/-- the part of it that is asked ahead of the Op -/
theorem crB_pre {w : World} {B : Nat} {c : CodeM} {v : CodeV} {W L : List Int} {q : InsP} {a m d r : Option Addr × Nat × Nat} (hr : CodeIs w B c v) (hx : InsW w B q a m d r)
    (h : (gdB c.slots W q.guard && decide (r.2.1 = 0)) = false ∨ (decide (q.op = opAsk) || inB q.dst c.lines) = false) : crB c W L q = false := by
  cases hn : nLn q.op with
  | none => exact cr_none hn
  | some p =>
    obtain ⟨s, l⟩ := p
    rw [crB_eq hn hr hx]
    rcases h with h | h <;> rw [h] <;> simp
theorem wTo_all2 {c : CodeM} {n : Nat} (h : c.step.length = n) : c.step.take n = c.step := by rw [← h, List.take_length]
theorem split_yes {l : List Int} {n s : Nat} {p q : Int → Bool} (hl : l.length = n) (h : ∀ j, j < n → (if j < s then p (l.getD j 0) else q (l.getD j 0)) = true) : (l.take s).all p = true ∧ (l.drop s).all q = true := by
  constructor
  · rw [List.all_eq_true]
    intro x hx
    obtain ⟨j, hj, e⟩ := List.getElem_of_mem hx
    rw [List.length_take] at hj
    have h1 := h j (by omega)
    rw [if_pos (by omega)] at h1
    rw [List.getElem_take] at e
    rw [List.getD_eq_getElem?_getD, List.getElem?_eq_getElem (by omega)] at h1
    rw [← e]; exact h1
  · rw [List.all_eq_true]
    intro x hx
    obtain ⟨j, hj, e⟩ := List.getElem_of_mem hx
    rw [List.length_drop] at hj
    have h1 := h (s + j) (by omega)
    rw [if_neg (by omega)] at h1
    rw [List.getElem_drop] at e
    rw [List.getD_eq_getElem?_getD, List.getElem?_eq_getElem (by omega)] at h1
    rw [← e]; exact h1
theorem split_no {l : List Int} {n s j : Nat} {p q : Int → Bool} (hl : l.length = n) (hj : j < n) (h : (if j < s then p (l.getD j 0) else q (l.getD j 0)) = false) : ((l.take s).all p && (l.drop s).all q) = false := by
  by_cases hs : j < s
  · rw [if_pos hs] at h
    have h1 : (l.take s).all p = false := by
      rw [List.all_eq_false]
      refine ⟨l.getD j 0, ?_, by rw [h]; simp⟩
      rw [List.getD_eq_getElem?_getD, List.getElem?_eq_getElem (by omega), List.mem_take_iff_getElem]
      exact ⟨j, by omega, rfl⟩
    rw [h1]; rfl
  · rw [if_neg hs] at h
    have h1 : (l.drop s).all q = false := by
      rw [List.all_eq_false]
      refine ⟨l.getD j 0, ?_, by rw [h]; simp⟩
      rw [List.getD_eq_getElem?_getD, List.getElem?_eq_getElem (by omega), List.mem_drop_iff_getElem]
      exact ⟨j - s, by omega, by simp [show s + (j - s) = j by omega]⟩
    rw [h1, Bool.and_false]
set_option maxHeartbeats 4000000 in
theorem x6_1 (B : Nat) (c : CodeM) (v : CodeV) (w : World) (h : CodeIs w B c v) (hB : B ≤ w.heap.size) (hok : OkS c v.step.2.1) (k : Nat) (hup : k ≤ v.cross.2.1) (x : InsP) (hx : c.cross[k]? = some x) (hsz : x.args.length ≤ 20 ∧ x.resets.length ≤ 20) (h0 : ¬ x.resets.length = 0) : Calls Try.prog 26 #[.agg #[.int .i64 c.ins, .int .i64 c.outs, .int .i64 c.slots, .int .i64 c.crosses, .int .i64 c.lines, .slice v.mems.1 v.mems.2.1 v.mems.2.2, .slice v.conts.1 v.conts.2.1 v.conts.2.2, .slice v.step.1 v.step.2.1 v.step.2.2, .slice v.deriv.1 v.deriv.2.1 v.deriv.2.2, .slice v.cross.1 v.cross.2.1 v.cross.2.2], .int .i64 (k : Nat)] w fun e w' => e = .returned (.bool (crB c (wTo c.step) (lTo (c.cross.take k)) x)) ∧ Below w.heap.size w w' := by
  obtain ⟨W1, hW1⟩ : ∃ W1, W1 = w.alloc (.cells #[.int .i64 c.ins, .int .i64 c.outs, .int .i64 c.slots, .int .i64 c.crosses, .int .i64 c.lines, .slice v.mems.1 v.mems.2.1 v.mems.2.2, .slice v.conts.1 v.conts.2.1 v.conts.2.2, .slice v.step.1 v.step.2.1 v.step.2.2, .slice v.deriv.1 v.deriv.2.1 v.deriv.2.2, .slice v.cross.1 v.cross.2.1 v.cross.2.2] 25) := ⟨_, rfl⟩
  have HL := Lib.hid (show LwSt w c v W1 from by rw [hW1]; exact LwSt.start (h.more hB))
  have HWE := Lib.hid (wTo_all2 (c := c) h.step.1)
  clear h hB
  have HRL := Lib.hid h0
  clear h0
  have HOK := Lib.hid hok
  have HSZ := Lib.hid hsz
  obtain ⟨bb, off, ha, hbl, hat⟩ := HL.out.is.cross.at_ hx
  obtain ⟨a, m, d, r, hiw, _, _, _, x0, x1, x2, x3, x4, x5, x6, x7, x8, x9, x10⟩ := hat.cells
  have hkl : k < v.cross.2.1 := by rw [← HL.out.is.cross.1]; exact (List.getElem?_eq_some_iff.1 hx).1
  have hkI : (k : Int) < (v.cross.2.1 : Int) := by omega
  have hm := HL.out.is.cross.len_le
  have hm1 := HL.out.is.step.len_le
  have hm2 := HL.out.is.conts.len_le
  unfold maxLen at hm hm1 hm2
  obtain ⟨W2, hW2⟩ : ∃ W2, W2 = W1.alloc (.cells #[.string x.op, .int .i64 x.dst, .slice a.1 a.2.1 a.2.2, .int .i64 x.k, .int .i64 x.lit.kind, .bool x.lit.neg, .slice m.1 m.2.1 m.2.2, .slice d.1 d.2.1 d.2.2, .string x.lit.name, .int .i64 x.guard, .slice r.1 r.2.1 r.2.2] 52) := ⟨_, rfl⟩
  have hb2 : Below W1.heap.size W1 W2 := by rw [hW2]; exact (Below.refl _ _).alloc (Nat.le_refl _) _
  have HX := Lib.hid (show Blk W2 W1.heap.size 52 (ics x a m d r) from by rw [hW2]; exact Blk.new _ _ _)
  have HIW := Lib.hid (hiw.keep (hb2.mono HL.out.old.size))
  have HIW0 := Lib.hid hiw
  have HIS0 := Lib.hid HL.out.is
  have hb1 : bb < W1.heap.size := Nat.lt_of_lt_of_le hbl HL.out.old.size
  obtain ⟨n0, n1, n2, n3, n4, n5, n6, n7, n8, n9⟩ := HL.out.blk.code
  rw [ha] at n9
  clear ha hok hsz hx hiw hat hbl
  go_enter Try.func26, Try.ntmps26
  go_upto_region 1 with fail
  rw [← hW1]
  clear hW1
  go_upto_region 2 with fail
  rw [← hW2]
  clear hW2 n0 n1 n2 n3 n4 n5 n6 n7 n8 n9 x0 x1 x2 x3 x4 x5 x6 x7 x8 x9 x10
  have HL := Lib.hid (HL.out.later hb2)
  clear hb2
  obtain ⟨n0, n1, n2, n3, n4, n5, n6, n7, n8, n9⟩ := HL.out.blk.code
  obtain ⟨p0, p1, p2, p3, p4, p5, p6, p7, p8, p9, p10⟩ := HX.out.elev
  have hq0 := HX.out.lt
  have hna : a.2.1 ≤ 20 := by rw [← HIW.out.args.1]; exact HSZ.out.1
  have hnr : r.2.1 ≤ 20 := by rw [← HIW.out.resets.1]; exact HSZ.out.2
  have hr1 : (0 : Int) < (r.2.1 : Int) := by have := HIW0.out.resets.1; have := HRL.out; omega
  have HR0 := Lib.hid (show decide (r.2.1 = 0) = false from decide_eq_false (by omega))
  have g3 : decide ((0 : Int) < (r.2.1 : Int)) = true := decide_eq_true hr1
  go_wp2_with fail
  go_ret
  exact ⟨ret_bool' (crB_pre HIS0.out HIW0.out (Or.inl (by rw [HR0.out, Bool.and_false]))).symm, HL.out.old⟩
set_option maxHeartbeats 4000000 in
theorem x6_2 (B : Nat) (c : CodeM) (v : CodeV) (w : World) (h : CodeIs w B c v) (hB : B ≤ w.heap.size) (hok : OkS c v.step.2.1) (k : Nat) (hup : k ≤ v.cross.2.1) (x : InsP) (hx : c.cross[k]? = some x) (hsz : x.args.length ≤ 20 ∧ x.resets.length ≤ 20) (h0 : x.resets.length = 0) (hg : gdB c.slots (wTo c.step) x.guard = false)  : Calls Try.prog 26 #[.agg #[.int .i64 c.ins, .int .i64 c.outs, .int .i64 c.slots, .int .i64 c.crosses, .int .i64 c.lines, .slice v.mems.1 v.mems.2.1 v.mems.2.2, .slice v.conts.1 v.conts.2.1 v.conts.2.2, .slice v.step.1 v.step.2.1 v.step.2.2, .slice v.deriv.1 v.deriv.2.1 v.deriv.2.2, .slice v.cross.1 v.cross.2.1 v.cross.2.2], .int .i64 (k : Nat)] w fun e w' => e = .returned (.bool (crB c (wTo c.step) (lTo (c.cross.take k)) x)) ∧ Below w.heap.size w w' := by
  obtain ⟨W1, hW1⟩ : ∃ W1, W1 = w.alloc (.cells #[.int .i64 c.ins, .int .i64 c.outs, .int .i64 c.slots, .int .i64 c.crosses, .int .i64 c.lines, .slice v.mems.1 v.mems.2.1 v.mems.2.2, .slice v.conts.1 v.conts.2.1 v.conts.2.2, .slice v.step.1 v.step.2.1 v.step.2.2, .slice v.deriv.1 v.deriv.2.1 v.deriv.2.2, .slice v.cross.1 v.cross.2.1 v.cross.2.2] 25) := ⟨_, rfl⟩
  have HL := Lib.hid (show LwSt w c v W1 from by rw [hW1]; exact LwSt.start (h.more hB))
  have HWE := Lib.hid (wTo_all2 (c := c) h.step.1)
  clear h hB
  have HRL := Lib.hid h0
  clear h0
  have HOK := Lib.hid hok
  have HSZ := Lib.hid hsz
  obtain ⟨bb, off, ha, hbl, hat⟩ := HL.out.is.cross.at_ hx
  obtain ⟨a, m, d, r, hiw, _, _, _, x0, x1, x2, x3, x4, x5, x6, x7, x8, x9, x10⟩ := hat.cells
  have hkl : k < v.cross.2.1 := by rw [← HL.out.is.cross.1]; exact (List.getElem?_eq_some_iff.1 hx).1
  have hkI : (k : Int) < (v.cross.2.1 : Int) := by omega
  have hm := HL.out.is.cross.len_le
  have hm1 := HL.out.is.step.len_le
  have hm2 := HL.out.is.conts.len_le
  unfold maxLen at hm hm1 hm2
  obtain ⟨W2, hW2⟩ : ∃ W2, W2 = W1.alloc (.cells #[.string x.op, .int .i64 x.dst, .slice a.1 a.2.1 a.2.2, .int .i64 x.k, .int .i64 x.lit.kind, .bool x.lit.neg, .slice m.1 m.2.1 m.2.2, .slice d.1 d.2.1 d.2.2, .string x.lit.name, .int .i64 x.guard, .slice r.1 r.2.1 r.2.2] 52) := ⟨_, rfl⟩
  have hb2 : Below W1.heap.size W1 W2 := by rw [hW2]; exact (Below.refl _ _).alloc (Nat.le_refl _) _
  have HX := Lib.hid (show Blk W2 W1.heap.size 52 (ics x a m d r) from by rw [hW2]; exact Blk.new _ _ _)
  have HIW := Lib.hid (hiw.keep (hb2.mono HL.out.old.size))
  have HIW0 := Lib.hid hiw
  have HIS0 := Lib.hid HL.out.is
  have hb1 : bb < W1.heap.size := Nat.lt_of_lt_of_le hbl HL.out.old.size
  obtain ⟨n0, n1, n2, n3, n4, n5, n6, n7, n8, n9⟩ := HL.out.blk.code
  rw [ha] at n9
  clear ha hok hsz hx hiw hat hbl
  go_enter Try.func26, Try.ntmps26
  go_upto_region 1 with fail
  rw [← hW1]
  clear hW1
  go_upto_region 2 with fail
  rw [← hW2]
  clear hW2 n0 n1 n2 n3 n4 n5 n6 n7 n8 n9 x0 x1 x2 x3 x4 x5 x6 x7 x8 x9 x10
  have HL := Lib.hid (HL.out.later hb2)
  clear hb2
  obtain ⟨n0, n1, n2, n3, n4, n5, n6, n7, n8, n9⟩ := HL.out.blk.code
  obtain ⟨p0, p1, p2, p3, p4, p5, p6, p7, p8, p9, p10⟩ := HX.out.elev
  have hq0 := HX.out.lt
  have hna : a.2.1 ≤ 20 := by rw [← HIW.out.args.1]; exact HSZ.out.1
  have hnr : r.2.1 ≤ 20 := by rw [← HIW.out.resets.1]; exact HSZ.out.2
  have hr1 : (r.2.1 : Int) = 0 := by have := HIW0.out.resets.1; have := HRL.out; omega
  have HR0 := Lib.hid (show decide (r.2.1 = 0) = true from decide_eq_true (by omega))
  have HG : Hid (gdB c.slots (wTo (c.step.take v.step.2.1)) x.guard = false) := Lib.hid (by rw [HWE.out]; exact hg)
  have HGE := Lib.hid hg
  clear hg
  go_wp2_with (go_at_call 46; (with_reducible refine (guard_r w.heap.size c v _ HL.out.is HL.out.old.size v.step.2.1 (Nat.le_refl _) HOK.out x.guard false HG.out).mono ?_); rintro e w2 ⟨rfl, hb2⟩; have HIW := Lib.hid (HIW.out.keep (hb2.mono HL.out.old.size)); have HL := Lib.hid (HL.out.later hb2); have HX := Lib.hid (HX.out.later hb2); clear hb2 n0 n1 n2 n3 n4 n5 n6 n7 n8 n9 p0 p1 p2 p3 p4 p5 p6 p7 p8 p9 p10 hq0; obtain ⟨n0, n1, n2, n3, n4, n5, n6, n7, n8, n9⟩ := HL.out.blk.code; obtain ⟨p0, p1, p2, p3, p4, p5, p6, p7, p8, p9, p10⟩ := HX.out.elev; have hq0 := HX.out.lt)
  go_ret
  exact ⟨ret_bool' (crB_pre HIS0.out HIW0.out (Or.inl (by rw [HGE.out]; rfl))).symm, HL.out.old⟩
set_option maxHeartbeats 4000000 in
theorem x6_3 (B : Nat) (c : CodeM) (v : CodeV) (w : World) (h : CodeIs w B c v) (hB : B ≤ w.heap.size) (hok : OkS c v.step.2.1) (k : Nat) (hup : k ≤ v.cross.2.1) (x : InsP) (hx : c.cross[k]? = some x) (hsz : x.args.length ≤ 20 ∧ x.resets.length ≤ 20) (h0 : x.resets.length = 0) (hg : gdB c.slots (wTo c.step) x.guard = true) (hk : ¬ x.op = opAsk) (hin : inB x.dst c.lines = false)  : Calls Try.prog 26 #[.agg #[.int .i64 c.ins, .int .i64 c.outs, .int .i64 c.slots, .int .i64 c.crosses, .int .i64 c.lines, .slice v.mems.1 v.mems.2.1 v.mems.2.2, .slice v.conts.1 v.conts.2.1 v.conts.2.2, .slice v.step.1 v.step.2.1 v.step.2.2, .slice v.deriv.1 v.deriv.2.1 v.deriv.2.2, .slice v.cross.1 v.cross.2.1 v.cross.2.2], .int .i64 (k : Nat)] w fun e w' => e = .returned (.bool (crB c (wTo c.step) (lTo (c.cross.take k)) x)) ∧ Below w.heap.size w w' := by
  obtain ⟨W1, hW1⟩ : ∃ W1, W1 = w.alloc (.cells #[.int .i64 c.ins, .int .i64 c.outs, .int .i64 c.slots, .int .i64 c.crosses, .int .i64 c.lines, .slice v.mems.1 v.mems.2.1 v.mems.2.2, .slice v.conts.1 v.conts.2.1 v.conts.2.2, .slice v.step.1 v.step.2.1 v.step.2.2, .slice v.deriv.1 v.deriv.2.1 v.deriv.2.2, .slice v.cross.1 v.cross.2.1 v.cross.2.2] 25) := ⟨_, rfl⟩
  have HL := Lib.hid (show LwSt w c v W1 from by rw [hW1]; exact LwSt.start (h.more hB))
  have HWE := Lib.hid (wTo_all2 (c := c) h.step.1)
  clear h hB
  have HRL := Lib.hid h0
  clear h0
  have g4 := str_no (l := [97, 115, 107]) hk
  have HKN := Lib.hid (decide_eq_false hk)
  clear hk
  have HIN := Lib.hid hin
  clear hin
  have HOK := Lib.hid hok
  have HSZ := Lib.hid hsz
  obtain ⟨bb, off, ha, hbl, hat⟩ := HL.out.is.cross.at_ hx
  obtain ⟨a, m, d, r, hiw, _, _, _, x0, x1, x2, x3, x4, x5, x6, x7, x8, x9, x10⟩ := hat.cells
  have hkl : k < v.cross.2.1 := by rw [← HL.out.is.cross.1]; exact (List.getElem?_eq_some_iff.1 hx).1
  have hkI : (k : Int) < (v.cross.2.1 : Int) := by omega
  have hm := HL.out.is.cross.len_le
  have hm1 := HL.out.is.step.len_le
  have hm2 := HL.out.is.conts.len_le
  unfold maxLen at hm hm1 hm2
  obtain ⟨W2, hW2⟩ : ∃ W2, W2 = W1.alloc (.cells #[.string x.op, .int .i64 x.dst, .slice a.1 a.2.1 a.2.2, .int .i64 x.k, .int .i64 x.lit.kind, .bool x.lit.neg, .slice m.1 m.2.1 m.2.2, .slice d.1 d.2.1 d.2.2, .string x.lit.name, .int .i64 x.guard, .slice r.1 r.2.1 r.2.2] 52) := ⟨_, rfl⟩
  have hb2 : Below W1.heap.size W1 W2 := by rw [hW2]; exact (Below.refl _ _).alloc (Nat.le_refl _) _
  have HX := Lib.hid (show Blk W2 W1.heap.size 52 (ics x a m d r) from by rw [hW2]; exact Blk.new _ _ _)
  have HIW := Lib.hid (hiw.keep (hb2.mono HL.out.old.size))
  have HIW0 := Lib.hid hiw
  have HIS0 := Lib.hid HL.out.is
  have hb1 : bb < W1.heap.size := Nat.lt_of_lt_of_le hbl HL.out.old.size
  obtain ⟨n0, n1, n2, n3, n4, n5, n6, n7, n8, n9⟩ := HL.out.blk.code
  rw [ha] at n9
  clear ha hok hsz hx hiw hat hbl
  go_enter Try.func26, Try.ntmps26
  go_upto_region 1 with fail
  rw [← hW1]
  clear hW1
  go_upto_region 2 with fail
  rw [← hW2]
  clear hW2 n0 n1 n2 n3 n4 n5 n6 n7 n8 n9 x0 x1 x2 x3 x4 x5 x6 x7 x8 x9 x10
  have HL := Lib.hid (HL.out.later hb2)
  clear hb2
  obtain ⟨n0, n1, n2, n3, n4, n5, n6, n7, n8, n9⟩ := HL.out.blk.code
  obtain ⟨p0, p1, p2, p3, p4, p5, p6, p7, p8, p9, p10⟩ := HX.out.elev
  have hq0 := HX.out.lt
  have hna : a.2.1 ≤ 20 := by rw [← HIW.out.args.1]; exact HSZ.out.1
  have hnr : r.2.1 ≤ 20 := by rw [← HIW.out.resets.1]; exact HSZ.out.2
  have hr1 : (r.2.1 : Int) = 0 := by have := HIW0.out.resets.1; have := HRL.out; omega
  have HR0 := Lib.hid (show decide (r.2.1 = 0) = true from decide_eq_true (by omega))
  have HG : Hid (gdB c.slots (wTo (c.step.take v.step.2.1)) x.guard = true) := Lib.hid (by rw [HWE.out]; exact hg)
  have HGE := Lib.hid hg
  clear hg
  go_wp2_with (first | (go_at_call 46; (with_reducible refine (guard_r w.heap.size c v _ HL.out.is HL.out.old.size v.step.2.1 (Nat.le_refl _) HOK.out x.guard true HG.out).mono ?_); rintro e w2 ⟨rfl, hb2⟩; have HIW := Lib.hid (HIW.out.keep (hb2.mono HL.out.old.size)); have HL := Lib.hid (HL.out.later hb2); have HX := Lib.hid (HX.out.later hb2); clear hb2 n0 n1 n2 n3 n4 n5 n6 n7 n8 n9 p0 p1 p2 p3 p4 p5 p6 p7 p8 p9 p10 hq0; obtain ⟨n0, n1, n2, n3, n4, n5, n6, n7, n8, n9⟩ := HL.out.blk.code; obtain ⟨p0, p1, p2, p3, p4, p5, p6, p7, p8, p9, p10⟩ := HX.out.elev; have hq0 := HX.out.lt) | (go_at_call 48; (with_reducible refine (in_t x.dst c.lines false _ HIN.out).mono ?_); rintro e w8 ⟨rfl, rfl⟩))
  go_ret
  exact ⟨ret_bool' (crB_pre HIS0.out HIW0.out (Or.inr (by rw [HKN.out, HIN.out]; rfl))).symm, HL.out.old⟩
set_option maxHeartbeats 4000000 in
theorem x6_n (B : Nat) (c : CodeM) (v : CodeV) (w : World) (h : CodeIs w B c v) (hB : B ≤ w.heap.size) (hok : OkS c v.step.2.1) (k : Nat) (hup : k ≤ v.cross.2.1) (x : InsP) (hx : c.cross[k]? = some x) (hsz : x.args.length ≤ 20 ∧ x.resets.length ≤ 20) (h0 : x.resets.length = 0) (hg : gdB c.slots (wTo c.step) x.guard = true) (hin : inB x.dst c.lines = true) (q0 : ¬ x.op = bs [108, 99, 111, 110, 116]) (q1 : ¬ x.op = bs [108, 118, 97, 114]) (q2 : ¬ x.op = bs [108, 110, 101, 103]) (q3 : ¬ x.op = bs [97, 115, 107]) (q4 : ¬ x.op = bs [108, 43]) (q5 : ¬ x.op = bs [108, 45]) (q6 : ¬ x.op = bs [108, 42]) (q7 : ¬ x.op = bs [108, 47]) (q8 : ¬ x.op = bs [108, 115, 101, 108]) : Calls Try.prog 26 #[.agg #[.int .i64 c.ins, .int .i64 c.outs, .int .i64 c.slots, .int .i64 c.crosses, .int .i64 c.lines, .slice v.mems.1 v.mems.2.1 v.mems.2.2, .slice v.conts.1 v.conts.2.1 v.conts.2.2, .slice v.step.1 v.step.2.1 v.step.2.2, .slice v.deriv.1 v.deriv.2.1 v.deriv.2.2, .slice v.cross.1 v.cross.2.1 v.cross.2.2], .int .i64 (k : Nat)] w fun e w' => e = .returned (.bool (crB c (wTo c.step) (lTo (c.cross.take k)) x)) ∧ Below w.heap.size w w' := by
  obtain ⟨W1, hW1⟩ : ∃ W1, W1 = w.alloc (.cells #[.int .i64 c.ins, .int .i64 c.outs, .int .i64 c.slots, .int .i64 c.crosses, .int .i64 c.lines, .slice v.mems.1 v.mems.2.1 v.mems.2.2, .slice v.conts.1 v.conts.2.1 v.conts.2.2, .slice v.step.1 v.step.2.1 v.step.2.2, .slice v.deriv.1 v.deriv.2.1 v.deriv.2.2, .slice v.cross.1 v.cross.2.1 v.cross.2.2] 25) := ⟨_, rfl⟩
  have HL := Lib.hid (show LwSt w c v W1 from by rw [hW1]; exact LwSt.start (h.more hB))
  have HWE := Lib.hid (wTo_all2 (c := c) h.step.1)
  clear h hB
  have HRL := Lib.hid h0
  clear h0
  have HIN := Lib.hid hin
  clear hin
  have HNN := Lib.hid (nLn_no x.op q0 q1 q2 q3 q4 q5 q6 q7 q8)
  have e0 := str_no q0; clear q0
  have e1 := str_no q1; clear q1
  have e2 := str_no q2; clear q2
  have e3 := str_no q3; clear q3
  have e4 := str_no q4; clear q4
  have e5 := str_no q5; clear q5
  have e6 := str_no q6; clear q6
  have e7 := str_no q7; clear q7
  have e8 := str_no q8; clear q8
  have HOK := Lib.hid hok
  have HSZ := Lib.hid hsz
  obtain ⟨bb, off, ha, hbl, hat⟩ := HL.out.is.cross.at_ hx
  obtain ⟨a, m, d, r, hiw, _, _, _, x0, x1, x2, x3, x4, x5, x6, x7, x8, x9, x10⟩ := hat.cells
  have hkl : k < v.cross.2.1 := by rw [← HL.out.is.cross.1]; exact (List.getElem?_eq_some_iff.1 hx).1
  have hkI : (k : Int) < (v.cross.2.1 : Int) := by omega
  have hm := HL.out.is.cross.len_le
  have hm1 := HL.out.is.step.len_le
  have hm2 := HL.out.is.conts.len_le
  unfold maxLen at hm hm1 hm2
  obtain ⟨W2, hW2⟩ : ∃ W2, W2 = W1.alloc (.cells #[.string x.op, .int .i64 x.dst, .slice a.1 a.2.1 a.2.2, .int .i64 x.k, .int .i64 x.lit.kind, .bool x.lit.neg, .slice m.1 m.2.1 m.2.2, .slice d.1 d.2.1 d.2.2, .string x.lit.name, .int .i64 x.guard, .slice r.1 r.2.1 r.2.2] 52) := ⟨_, rfl⟩
  have hb2 : Below W1.heap.size W1 W2 := by rw [hW2]; exact (Below.refl _ _).alloc (Nat.le_refl _) _
  have HX := Lib.hid (show Blk W2 W1.heap.size 52 (ics x a m d r) from by rw [hW2]; exact Blk.new _ _ _)
  have HIW := Lib.hid (hiw.keep (hb2.mono HL.out.old.size))
  have HIW0 := Lib.hid hiw
  have HIS0 := Lib.hid HL.out.is
  have hb1 : bb < W1.heap.size := Nat.lt_of_lt_of_le hbl HL.out.old.size
  obtain ⟨n0, n1, n2, n3, n4, n5, n6, n7, n8, n9⟩ := HL.out.blk.code
  rw [ha] at n9
  clear ha hok hsz hx hiw hat hbl
  go_enter Try.func26, Try.ntmps26
  go_upto_region 1 with fail
  rw [← hW1]
  clear hW1
  go_upto_region 2 with fail
  rw [← hW2]
  clear hW2 n0 n1 n2 n3 n4 n5 n6 n7 n8 n9 x0 x1 x2 x3 x4 x5 x6 x7 x8 x9 x10
  have HL := Lib.hid (HL.out.later hb2)
  clear hb2
  obtain ⟨n0, n1, n2, n3, n4, n5, n6, n7, n8, n9⟩ := HL.out.blk.code
  obtain ⟨p0, p1, p2, p3, p4, p5, p6, p7, p8, p9, p10⟩ := HX.out.elev
  have hq0 := HX.out.lt
  have hna : a.2.1 ≤ 20 := by rw [← HIW.out.args.1]; exact HSZ.out.1
  have hnr : r.2.1 ≤ 20 := by rw [← HIW.out.resets.1]; exact HSZ.out.2
  have hr1 : (r.2.1 : Int) = 0 := by have := HIW0.out.resets.1; have := HRL.out; omega
  have HR0 := Lib.hid (show decide (r.2.1 = 0) = true from decide_eq_true (by omega))
  have HG : Hid (gdB c.slots (wTo (c.step.take v.step.2.1)) x.guard = true) := Lib.hid (by rw [HWE.out]; exact hg)
  have HGE := Lib.hid hg
  clear hg
  go_wp2_with (first | (go_at_call 46; (with_reducible refine (guard_r w.heap.size c v _ HL.out.is HL.out.old.size v.step.2.1 (Nat.le_refl _) HOK.out x.guard true HG.out).mono ?_); rintro e w2 ⟨rfl, hb2⟩; have HIW := Lib.hid (HIW.out.keep (hb2.mono HL.out.old.size)); have HL := Lib.hid (HL.out.later hb2); have HX := Lib.hid (HX.out.later hb2); clear hb2 n0 n1 n2 n3 n4 n5 n6 n7 n8 n9 p0 p1 p2 p3 p4 p5 p6 p7 p8 p9 p10 hq0; obtain ⟨n0, n1, n2, n3, n4, n5, n6, n7, n8, n9⟩ := HL.out.blk.code; obtain ⟨p0, p1, p2, p3, p4, p5, p6, p7, p8, p9, p10⟩ := HX.out.elev; have hq0 := HX.out.lt) | (go_at_call 48; (with_reducible refine (in_t x.dst c.lines true _ HIN.out).mono ?_); rintro e w8 ⟨rfl, rfl⟩))
  go_ret
  exact ⟨ret_bool' (cr_none HNN.out).symm, HL.out.old⟩

end Go.Proofs.Ytcljmfhelgkfaaa
