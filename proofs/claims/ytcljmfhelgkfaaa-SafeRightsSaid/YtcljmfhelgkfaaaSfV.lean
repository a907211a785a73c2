/- What step of the answer tells, in part. No condition but bounds. -/
import Derived.Test.YtcljmfhelgkfaaaSfU
import Derived.Deep.RegionWith
import Derived.Deep.RegionHeld3
import Derived.Deep.DeepCutAuto
namespace Go.Proofs.Ytcljmfhelgkfaaa
set_option linter.unusedVariables false
set_option linter.unusedSimpArgs false
set_option maxRecDepth 100000
open Go.RowKit

theorem stB_eq {w : World} {B : Nat} {c : CodeM} {v : CodeV} {W : List Int} {x : InsP} {a m d r : Option Addr × Nat × Nat} (hr : CodeIs w B c v) (hx : InsW w B x a m d r) :
    stB c W x = (enS x.op a.2.1 && plK x.op x.k c.ins c.outs v.mems.2.1 v.conts.2.1 c.crosses && (decide (r.2.1 = 0) || mayB x.op) && (gdB c.slots W x.guard && x.args.all (wrB c.slots W) && x.resets.all (wrB c.slots W)) && (isEnd x.op || inB x.dst c.slots)) := by
  unfold stB
  rw [hx.args.1, hx.resets.1, hr.mems.1, hr.conts.1]
/-- the Ops of equations without a place -/
def isE (op : ByteArray) : Bool := [bs [108, 105, 116], bs [99, 111, 112, 121], bs [110, 101, 103], bs [110, 111, 116], bs [102, 108, 111, 111, 114], bs [114, 97, 116], bs [103, 97, 110, 100], bs [109, 114, 103], bs [43], bs [45], bs [42], bs [47], bs [100, 105, 118], bs [109, 111, 100], bs [60], bs [60, 61], bs [62], bs [62, 61], bs [61, 61], bs [33, 61], bs [97, 110, 100], bs [111, 114], bs [115, 101, 108]].any fun y => decide (op = y)
theorem isE_cases {op : ByteArray} (h : isE op = true) : op = bs [108, 105, 116] ∨ op = bs [99, 111, 112, 121] ∨ op = bs [110, 101, 103] ∨ op = bs [110, 111, 116] ∨ op = bs [102, 108, 111, 111, 114] ∨ op = bs [114, 97, 116] ∨ op = bs [103, 97, 110, 100] ∨ op = bs [109, 114, 103] ∨ op = bs [43] ∨ op = bs [45] ∨ op = bs [42] ∨ op = bs [47] ∨ op = bs [100, 105, 118] ∨ op = bs [109, 111, 100] ∨ op = bs [60] ∨ op = bs [60, 61] ∨ op = bs [62] ∨ op = bs [62, 61] ∨ op = bs [61, 61] ∨ op = bs [33, 61] ∨ op = bs [97, 110, 100] ∨ op = bs [111, 114] ∨ op = bs [115, 101, 108] := by
  unfold isE at h
  simpa using h
theorem nat2 (n k : Nat) : (n == k) = (decide ((k : Int) ≤ (n : Int)) && decide ((n : Int) ≤ (k : Int))) := by
  rw [Bool.eq_iff_iff]
  simp
  omega
theorem isE_en {op : ByteArray} {n : Nat} (h : isE op = true) (hn : n ≤ 20) : enS op n = (decide ((argsV op).1 ≤ (n : Int)) && decide ((n : Int) ≤ (argsV op).2)) ∧ 0 ≤ (argsV op).1 ∧ (argsV op).1 ≤ 3 ∧ 0 ≤ (argsV op).2 ∧ (argsV op).2 ≤ 1073741824 := by
  rcases isE_cases h with h | h | h | h | h | h | h | h | h | h | h | h | h | h | h | h | h | h | h | h | h | h | h
  · subst h
    exact ⟨nat2 n 0, by decide, by decide, by decide, by decide⟩
  · subst h
    exact ⟨nat2 n 1, by decide, by decide, by decide, by decide⟩
  · subst h
    exact ⟨nat2 n 1, by decide, by decide, by decide, by decide⟩
  · subst h
    exact ⟨nat2 n 1, by decide, by decide, by decide, by decide⟩
  · subst h
    exact ⟨nat2 n 1, by decide, by decide, by decide, by decide⟩
  · subst h
    exact ⟨nat2 n 1, by decide, by decide, by decide, by decide⟩
  · subst h
    refine ⟨?_, by decide, by decide, by decide, by decide⟩
    show decide (1 ≤ n) = (decide ((1 : Int) ≤ (n : Int)) && decide ((n : Int) ≤ 1073741824))
    rw [Bool.eq_iff_iff]
    simp
    omega
  · subst h
    refine ⟨?_, by decide, by decide, by decide, by decide⟩
    show decide (1 ≤ n) = (decide ((1 : Int) ≤ (n : Int)) && decide ((n : Int) ≤ 1073741824))
    rw [Bool.eq_iff_iff]
    simp
    omega
  · subst h
    exact ⟨nat2 n 2, by decide, by decide, by decide, by decide⟩
  · subst h
    exact ⟨nat2 n 2, by decide, by decide, by decide, by decide⟩
  · subst h
    exact ⟨nat2 n 2, by decide, by decide, by decide, by decide⟩
  · subst h
    exact ⟨nat2 n 2, by decide, by decide, by decide, by decide⟩
  · subst h
    exact ⟨nat2 n 2, by decide, by decide, by decide, by decide⟩
  · subst h
    exact ⟨nat2 n 2, by decide, by decide, by decide, by decide⟩
  · subst h
    exact ⟨nat2 n 2, by decide, by decide, by decide, by decide⟩
  · subst h
    exact ⟨nat2 n 2, by decide, by decide, by decide, by decide⟩
  · subst h
    exact ⟨nat2 n 2, by decide, by decide, by decide, by decide⟩
  · subst h
    exact ⟨nat2 n 2, by decide, by decide, by decide, by decide⟩
  · subst h
    exact ⟨nat2 n 2, by decide, by decide, by decide, by decide⟩
  · subst h
    exact ⟨nat2 n 2, by decide, by decide, by decide, by decide⟩
  · subst h
    exact ⟨nat2 n 2, by decide, by decide, by decide, by decide⟩
  · subst h
    exact ⟨nat2 n 2, by decide, by decide, by decide, by decide⟩
  · subst h
    exact ⟨nat2 n 3, by decide, by decide, by decide, by decide⟩
theorem isE_no {op : ByteArray} (h : isE op = true) : (∀ k ni no nm nc nx, plK op k ni no nm nc nx = true) ∧ mayB op = false ∧ isEnd op = false := by
  rcases isE_cases h with h | h | h | h | h | h | h | h | h | h | h | h | h | h | h | h | h | h | h | h | h | h | h
  all_goals
    subst h
    exact ⟨fun _ _ _ _ _ _ => rfl, rfl, rfl⟩
theorem isE_ne {op : ByteArray} (h : isE op = true) : (op.toList == [105, 110]) = false ∧ (op.toList == [109, 101, 109]) = false ∧ (op.toList == [99, 111, 110, 116]) = false ∧ (op.toList == [102, 108, 97, 103]) = false ∧ (op.toList == [107, 101, 101, 112]) = false ∧ (op.toList == [115, 116, 97, 116, 101]) = false ∧ (op.toList == [111, 117, 116]) = false ∧ (op.toList == [97, 103, 97, 105, 110]) = false := by
  rcases isE_cases h with h | h | h | h | h | h | h | h | h | h | h | h | h | h | h | h | h | h | h | h | h | h | h
  all_goals
    subst h
    refine ⟨?_, ?_, ?_, ?_, ?_, ?_, ?_, ?_⟩ <;> exact str_no (by decide)
theorem step_cases (op : ByteArray) : op = bs [105, 110] ∨ op = bs [109, 101, 109] ∨ op = bs [99, 111, 110, 116] ∨ op = bs [102, 108, 97, 103] ∨ op = bs [107, 101, 101, 112] ∨ op = bs [115, 116, 97, 116, 101] ∨ op = bs [111, 117, 116] ∨ op = bs [97, 103, 97, 105, 110] ∨ isE op = true ∨ ((∀ n, enS op n = false) ∧ argsV op = (-1, -1) ∧ (op.toList == [105, 110]) = false ∧ (op.toList == [109, 101, 109]) = false ∧ (op.toList == [99, 111, 110, 116]) = false ∧ (op.toList == [102, 108, 97, 103]) = false ∧ (op.toList == [107, 101, 101, 112]) = false ∧ (op.toList == [115, 116, 97, 116, 101]) = false ∧ (op.toList == [111, 117, 116]) = false ∧ (op.toList == [97, 103, 97, 105, 110]) = false) := by
  by_cases s0 : op = bs [105, 110]
  · exact Or.inl s0
  by_cases s1 : op = bs [109, 101, 109]
  · exact Or.inr (Or.inl s1)
  by_cases s2 : op = bs [99, 111, 110, 116]
  · exact Or.inr (Or.inr (Or.inl s2))
  by_cases s3 : op = bs [102, 108, 97, 103]
  · exact Or.inr (Or.inr (Or.inr (Or.inl s3)))
  by_cases s4 : op = bs [107, 101, 101, 112]
  · exact Or.inr (Or.inr (Or.inr (Or.inr (Or.inl s4))))
  by_cases s5 : op = bs [115, 116, 97, 116, 101]
  · exact Or.inr (Or.inr (Or.inr (Or.inr (Or.inr (Or.inl s5)))))
  by_cases s6 : op = bs [111, 117, 116]
  · exact Or.inr (Or.inr (Or.inr (Or.inr (Or.inr (Or.inr (Or.inl s6))))))
  by_cases s7 : op = bs [97, 103, 97, 105, 110]
  · exact Or.inr (Or.inr (Or.inr (Or.inr (Or.inr (Or.inr (Or.inr (Or.inl s7)))))))
  by_cases he : isE op = true
  · exact Or.inr (Or.inr (Or.inr (Or.inr (Or.inr (Or.inr (Or.inr (Or.inr (Or.inl he))))))))
  have hne : ∀ y ∈ [bs [108, 105, 116], bs [99, 111, 112, 121], bs [110, 101, 103], bs [110, 111, 116], bs [102, 108, 111, 111, 114], bs [114, 97, 116], bs [103, 97, 110, 100], bs [109, 114, 103], bs [43], bs [45], bs [42], bs [47], bs [100, 105, 118], bs [109, 111, 100], bs [60], bs [60, 61], bs [62], bs [62, 61], bs [61, 61], bs [33, 61], bs [97, 110, 100], bs [111, 114], bs [115, 101, 108]], ¬ op = y := by
    intro y hy e
    refine he ?_
    unfold isE
    rw [List.any_eq_true]
    exact ⟨y, hy, decide_eq_true e⟩
  have q0 := hne (bs [108, 105, 116]) (by simp)
  have q1 := hne (bs [99, 111, 112, 121]) (by simp)
  have q2 := hne (bs [110, 101, 103]) (by simp)
  have q3 := hne (bs [110, 111, 116]) (by simp)
  have q4 := hne (bs [102, 108, 111, 111, 114]) (by simp)
  have q5 := hne (bs [114, 97, 116]) (by simp)
  have q6 := hne (bs [103, 97, 110, 100]) (by simp)
  have q7 := hne (bs [109, 114, 103]) (by simp)
  have q8 := hne (bs [43]) (by simp)
  have q9 := hne (bs [45]) (by simp)
  have q10 := hne (bs [42]) (by simp)
  have q11 := hne (bs [47]) (by simp)
  have q12 := hne (bs [100, 105, 118]) (by simp)
  have q13 := hne (bs [109, 111, 100]) (by simp)
  have q14 := hne (bs [60]) (by simp)
  have q15 := hne (bs [60, 61]) (by simp)
  have q16 := hne (bs [62]) (by simp)
  have q17 := hne (bs [62, 61]) (by simp)
  have q18 := hne (bs [61, 61]) (by simp)
  have q19 := hne (bs [33, 61]) (by simp)
  have q20 := hne (bs [97, 110, 100]) (by simp)
  have q21 := hne (bs [111, 114]) (by simp)
  have q22 := hne (bs [115, 101, 108]) (by simp)
  exact Or.inr (Or.inr (Or.inr (Or.inr (Or.inr (Or.inr (Or.inr (Or.inr (Or.inr ⟨fun n => enS_no op n q0 s0 s1 s2 s3 q1 q2 q3 q4 q5 s4 s5 s6 s7 q6 q7 q8 q9 q10 q11 q12 q13 q14 q15 q16 q17 q18 q19 q20 q21 q22, argsV_no op q0 s0 s1 s2 s3 q1 q2 q3 q4 q5 q6 q7 q22 q8 q9 q10 q11 q12 q13 q14 q15 q16 q17 q18 q19 q20 q21, str_no s0, str_no s1, str_no s2, str_no s3, str_no s4, str_no s5, str_no s6, str_no s7⟩))))))))
set_option maxHeartbeats 4000000 in
theorem s6_G (B : Nat) (c : CodeM) (v : CodeV) (w : World) (h : CodeIs w B c v) (hB : B ≤ w.heap.size) (k : Nat) (hup : k ≤ v.step.2.1) (hok : OkS c k) (x : InsP) (hx : c.step[k]? = some x) (hsz : x.args.length ≤ 20 ∧ x.resets.length ≤ 20) (hg : gdB c.slots (wTo (c.step.take k)) x.guard = false)  : Calls Try.prog 24 #[.agg #[.int .i64 c.ins, .int .i64 c.outs, .int .i64 c.slots, .int .i64 c.crosses, .int .i64 c.lines, .slice v.mems.1 v.mems.2.1 v.mems.2.2, .slice v.conts.1 v.conts.2.1 v.conts.2.2, .slice v.step.1 v.step.2.1 v.step.2.2, .slice v.deriv.1 v.deriv.2.1 v.deriv.2.2, .slice v.cross.1 v.cross.2.1 v.cross.2.2], .int .i64 (k : Nat)] w fun e w' => e = .returned (.bool (stB c (wTo (c.step.take k)) x)) ∧ Below w.heap.size w w' := by
  obtain ⟨W1, hW1⟩ : ∃ W1, W1 = w.alloc (.cells #[.int .i64 c.ins, .int .i64 c.outs, .int .i64 c.slots, .int .i64 c.crosses, .int .i64 c.lines, .slice v.mems.1 v.mems.2.1 v.mems.2.2, .slice v.conts.1 v.conts.2.1 v.conts.2.2, .slice v.step.1 v.step.2.1 v.step.2.2, .slice v.deriv.1 v.deriv.2.1 v.deriv.2.2, .slice v.cross.1 v.cross.2.1 v.cross.2.2] 25) := ⟨_, rfl⟩
  have HL := Lib.hid (show LwSt w c v W1 from by rw [hW1]; exact LwSt.start (h.more hB))
  clear h hB
  have HOK := Lib.hid hok
  have HSZ := Lib.hid hsz
  obtain ⟨bb, off, ha, hbl, hat⟩ := HL.out.is.step.at_ hx
  obtain ⟨a, m, d, r, hiw, _, _, _, x0, x1, x2, x3, x4, x5, x6, x7, x8, x9, x10⟩ := hat.cells
  have hkl : k < v.step.2.1 := by rw [← HL.out.is.step.1]; exact (List.getElem?_eq_some_iff.1 hx).1
  have hkI : (k : Int) < (v.step.2.1 : Int) := by omega
  have hm := HL.out.is.step.len_le
  unfold maxLen at hm
  obtain ⟨W2, hW2⟩ : ∃ W2, W2 = W1.alloc (.cells #[.string x.op, .int .i64 x.dst, .slice a.1 a.2.1 a.2.2, .int .i64 x.k, .int .i64 x.lit.kind, .bool x.lit.neg, .slice m.1 m.2.1 m.2.2, .slice d.1 d.2.1 d.2.2, .string x.lit.name, .int .i64 x.guard, .slice r.1 r.2.1 r.2.2] 52) := ⟨_, rfl⟩
  have hb2 : Below W1.heap.size W1 W2 := by rw [hW2]; exact (Below.refl _ _).alloc (Nat.le_refl _) _
  have HX := Lib.hid (show Blk W2 W1.heap.size 52 (ics x a m d r) from by rw [hW2]; exact Blk.new _ _ _)
  have HIW := Lib.hid (hiw.keep (hb2.mono HL.out.old.size))
  have HV := Lib.hid (stB_eq (W := (wTo (c.step.take k))) HL.out.is hiw)
  have hb1 : bb < W1.heap.size := Nat.lt_of_lt_of_le hbl HL.out.old.size
  obtain ⟨n0, n1, n2, n3, n4, n5, n6, n7, n8, n9⟩ := HL.out.blk.code
  obtain ⟨EA, hEA⟩ : ∃ EA, EA = v.step.1 := ⟨_, rfl⟩
  rw [← hEA] at ha
  have HEA := Lib.hid hEA
  rw [hEA] at ha
  rw [ha] at n7
  clear hEA HEA ha
  clear hok hsz hx hiw hat hbl
  go_enter Try.func24, Try.ntmps24
  go_upto_region 1 with fail
  rw [← hW1]
  clear hW1
  go_upto_region 2 with fail
  rw [← hW2]
  clear hW2 n0 n1 n2 n3 n4 n5 n6 n7 n8 n9 x0 x1 x2 x3 x4 x5 x6 x7 x8 x9 x10
  have HL := Lib.hid (HL.out.later hb2)
  clear hb2
  obtain ⟨n0, n1, n2, n3, n4, n5, n6, n7, n8, n9⟩ := HL.out.blk.code
  obtain ⟨p0, p1, p2, p3, p4, p5, p6, p7, p8, p9, p10⟩ := HX.out.elev
  have hq0 := HX.out.lt
  have hna : a.2.1 ≤ 20 := by rw [← HIW.out.args.1]; exact HSZ.out.1
  have hnr : r.2.1 ≤ 20 := by rw [← HIW.out.resets.1]; exact HSZ.out.2
  have HG := Lib.hid hg
  clear hg
  go_wp2_with (go_at_call 46; (with_reducible refine (guard_r w.heap.size c v _ HL.out.is HL.out.old.size k hup HOK.out x.guard false HG.out).mono ?_); rintro e w2 ⟨rfl, hb2⟩; have HIW := Lib.hid (HIW.out.keep (hb2.mono HL.out.old.size)); have HL := Lib.hid (HL.out.later hb2); have HX := Lib.hid (HX.out.later hb2); clear hb2 n0 n1 n2 n3 n4 n5 n6 n7 n8 n9 p0 p1 p2 p3 p4 p5 p6 p7 p8 p9 p10 hq0; obtain ⟨n0, n1, n2, n3, n4, n5, n6, n7, n8, n9⟩ := HL.out.blk.code; obtain ⟨p0, p1, p2, p3, p4, p5, p6, p7, p8, p9, p10⟩ := HX.out.elev; have hq0 := HX.out.lt)
  go_ret
  exact ⟨ret_bool' (by rw [HV.out, HG.out]; simp), HL.out.old⟩
set_option maxHeartbeats 4000000 in
theorem s6_A (B : Nat) (c : CodeM) (v : CodeV) (w : World) (h : CodeIs w B c v) (hB : B ≤ w.heap.size) (k : Nat) (hup : k ≤ v.step.2.1) (hok : OkS c k) (x : InsP) (hx : c.step[k]? = some x) (hsz : x.args.length ≤ 20 ∧ x.resets.length ≤ 20) (hg : gdB c.slots (wTo (c.step.take k)) x.guard = true) (haa : x.args.all (wrB c.slots (wTo (c.step.take k))) = false)  : Calls Try.prog 24 #[.agg #[.int .i64 c.ins, .int .i64 c.outs, .int .i64 c.slots, .int .i64 c.crosses, .int .i64 c.lines, .slice v.mems.1 v.mems.2.1 v.mems.2.2, .slice v.conts.1 v.conts.2.1 v.conts.2.2, .slice v.step.1 v.step.2.1 v.step.2.2, .slice v.deriv.1 v.deriv.2.1 v.deriv.2.2, .slice v.cross.1 v.cross.2.1 v.cross.2.2], .int .i64 (k : Nat)] w fun e w' => e = .returned (.bool (stB c (wTo (c.step.take k)) x)) ∧ Below w.heap.size w w' := by
  obtain ⟨W1, hW1⟩ : ∃ W1, W1 = w.alloc (.cells #[.int .i64 c.ins, .int .i64 c.outs, .int .i64 c.slots, .int .i64 c.crosses, .int .i64 c.lines, .slice v.mems.1 v.mems.2.1 v.mems.2.2, .slice v.conts.1 v.conts.2.1 v.conts.2.2, .slice v.step.1 v.step.2.1 v.step.2.2, .slice v.deriv.1 v.deriv.2.1 v.deriv.2.2, .slice v.cross.1 v.cross.2.1 v.cross.2.2] 25) := ⟨_, rfl⟩
  have HL := Lib.hid (show LwSt w c v W1 from by rw [hW1]; exact LwSt.start (h.more hB))
  clear h hB
  have HOK := Lib.hid hok
  have HSZ := Lib.hid hsz
  obtain ⟨bb, off, ha, hbl, hat⟩ := HL.out.is.step.at_ hx
  obtain ⟨a, m, d, r, hiw, _, _, _, x0, x1, x2, x3, x4, x5, x6, x7, x8, x9, x10⟩ := hat.cells
  have hkl : k < v.step.2.1 := by rw [← HL.out.is.step.1]; exact (List.getElem?_eq_some_iff.1 hx).1
  have hkI : (k : Int) < (v.step.2.1 : Int) := by omega
  have hm := HL.out.is.step.len_le
  unfold maxLen at hm
  obtain ⟨W2, hW2⟩ : ∃ W2, W2 = W1.alloc (.cells #[.string x.op, .int .i64 x.dst, .slice a.1 a.2.1 a.2.2, .int .i64 x.k, .int .i64 x.lit.kind, .bool x.lit.neg, .slice m.1 m.2.1 m.2.2, .slice d.1 d.2.1 d.2.2, .string x.lit.name, .int .i64 x.guard, .slice r.1 r.2.1 r.2.2] 52) := ⟨_, rfl⟩
  have hb2 : Below W1.heap.size W1 W2 := by rw [hW2]; exact (Below.refl _ _).alloc (Nat.le_refl _) _
  have HX := Lib.hid (show Blk W2 W1.heap.size 52 (ics x a m d r) from by rw [hW2]; exact Blk.new _ _ _)
  have HIW := Lib.hid (hiw.keep (hb2.mono HL.out.old.size))
  have HV := Lib.hid (stB_eq (W := (wTo (c.step.take k))) HL.out.is hiw)
  have hb1 : bb < W1.heap.size := Nat.lt_of_lt_of_le hbl HL.out.old.size
  obtain ⟨n0, n1, n2, n3, n4, n5, n6, n7, n8, n9⟩ := HL.out.blk.code
  obtain ⟨EA, hEA⟩ : ∃ EA, EA = v.step.1 := ⟨_, rfl⟩
  rw [← hEA] at ha
  have HEA := Lib.hid hEA
  rw [hEA] at ha
  rw [ha] at n7
  clear hEA HEA ha
  clear hok hsz hx hiw hat hbl
  go_enter Try.func24, Try.ntmps24
  go_upto_region 1 with fail
  rw [← hW1]
  clear hW1
  go_upto_region 2 with fail
  rw [← hW2]
  clear hW2 n0 n1 n2 n3 n4 n5 n6 n7 n8 n9 x0 x1 x2 x3 x4 x5 x6 x7 x8 x9 x10
  have HL := Lib.hid (HL.out.later hb2)
  clear hb2
  obtain ⟨n0, n1, n2, n3, n4, n5, n6, n7, n8, n9⟩ := HL.out.blk.code
  obtain ⟨p0, p1, p2, p3, p4, p5, p6, p7, p8, p9, p10⟩ := HX.out.elev
  have hq0 := HX.out.lt
  have hna : a.2.1 ≤ 20 := by rw [← HIW.out.args.1]; exact HSZ.out.1
  have hnr : r.2.1 ≤ 20 := by rw [← HIW.out.resets.1]; exact HSZ.out.2
  have HG := Lib.hid hg
  clear hg
  have HAA := Lib.hid haa
  clear haa
  go_wp2_with (first | (go_at_call 46; (with_reducible refine (guard_r w.heap.size c v _ HL.out.is HL.out.old.size k hup HOK.out x.guard true HG.out).mono ?_); rintro e w2 ⟨rfl, hb2⟩; have HIW := Lib.hid (HIW.out.keep (hb2.mono HL.out.old.size)); have HL := Lib.hid (HL.out.later hb2); have HX := Lib.hid (HX.out.later hb2); clear hb2 n0 n1 n2 n3 n4 n5 n6 n7 n8 n9 p0 p1 p2 p3 p4 p5 p6 p7 p8 p9 p10 hq0; obtain ⟨n0, n1, n2, n3, n4, n5, n6, n7, n8, n9⟩ := HL.out.blk.code; obtain ⟨p0, p1, p2, p3, p4, p5, p6, p7, p8, p9, p10⟩ := HX.out.elev; have hq0 := HX.out.lt) | (go_at_call 47; (with_reducible refine (all_r w.heap.size c v _ HL.out.is HL.out.old.size k hup HOK.out a.1 a.2.1 a.2.2 x.args HIW.out.args false HAA.out).mono ?_); rintro e w2 ⟨rfl, hb2⟩; have HIW := Lib.hid (HIW.out.keep (hb2.mono HL.out.old.size)); have HL := Lib.hid (HL.out.later hb2); have HX := Lib.hid (HX.out.later hb2); clear hb2 n0 n1 n2 n3 n4 n5 n6 n7 n8 n9 p0 p1 p2 p3 p4 p5 p6 p7 p8 p9 p10 hq0; obtain ⟨n0, n1, n2, n3, n4, n5, n6, n7, n8, n9⟩ := HL.out.blk.code; obtain ⟨p0, p1, p2, p3, p4, p5, p6, p7, p8, p9, p10⟩ := HX.out.elev; have hq0 := HX.out.lt))
  go_ret
  exact ⟨ret_bool' (by rw [HV.out, HG.out, HAA.out]; simp), HL.out.old⟩
set_option maxHeartbeats 4000000 in
theorem s6_R (B : Nat) (c : CodeM) (v : CodeV) (w : World) (h : CodeIs w B c v) (hB : B ≤ w.heap.size) (k : Nat) (hup : k ≤ v.step.2.1) (hok : OkS c k) (x : InsP) (hx : c.step[k]? = some x) (hsz : x.args.length ≤ 20 ∧ x.resets.length ≤ 20) (hg : gdB c.slots (wTo (c.step.take k)) x.guard = true) (haa : x.args.all (wrB c.slots (wTo (c.step.take k))) = true) (hrs : x.resets.all (wrB c.slots (wTo (c.step.take k))) = false)  : Calls Try.prog 24 #[.agg #[.int .i64 c.ins, .int .i64 c.outs, .int .i64 c.slots, .int .i64 c.crosses, .int .i64 c.lines, .slice v.mems.1 v.mems.2.1 v.mems.2.2, .slice v.conts.1 v.conts.2.1 v.conts.2.2, .slice v.step.1 v.step.2.1 v.step.2.2, .slice v.deriv.1 v.deriv.2.1 v.deriv.2.2, .slice v.cross.1 v.cross.2.1 v.cross.2.2], .int .i64 (k : Nat)] w fun e w' => e = .returned (.bool (stB c (wTo (c.step.take k)) x)) ∧ Below w.heap.size w w' := by
  obtain ⟨W1, hW1⟩ : ∃ W1, W1 = w.alloc (.cells #[.int .i64 c.ins, .int .i64 c.outs, .int .i64 c.slots, .int .i64 c.crosses, .int .i64 c.lines, .slice v.mems.1 v.mems.2.1 v.mems.2.2, .slice v.conts.1 v.conts.2.1 v.conts.2.2, .slice v.step.1 v.step.2.1 v.step.2.2, .slice v.deriv.1 v.deriv.2.1 v.deriv.2.2, .slice v.cross.1 v.cross.2.1 v.cross.2.2] 25) := ⟨_, rfl⟩
  have HL := Lib.hid (show LwSt w c v W1 from by rw [hW1]; exact LwSt.start (h.more hB))
  clear h hB
  have HOK := Lib.hid hok
  have HSZ := Lib.hid hsz
  obtain ⟨bb, off, ha, hbl, hat⟩ := HL.out.is.step.at_ hx
  obtain ⟨a, m, d, r, hiw, _, _, _, x0, x1, x2, x3, x4, x5, x6, x7, x8, x9, x10⟩ := hat.cells
  have hkl : k < v.step.2.1 := by rw [← HL.out.is.step.1]; exact (List.getElem?_eq_some_iff.1 hx).1
  have hkI : (k : Int) < (v.step.2.1 : Int) := by omega
  have hm := HL.out.is.step.len_le
  unfold maxLen at hm
  obtain ⟨W2, hW2⟩ : ∃ W2, W2 = W1.alloc (.cells #[.string x.op, .int .i64 x.dst, .slice a.1 a.2.1 a.2.2, .int .i64 x.k, .int .i64 x.lit.kind, .bool x.lit.neg, .slice m.1 m.2.1 m.2.2, .slice d.1 d.2.1 d.2.2, .string x.lit.name, .int .i64 x.guard, .slice r.1 r.2.1 r.2.2] 52) := ⟨_, rfl⟩
  have hb2 : Below W1.heap.size W1 W2 := by rw [hW2]; exact (Below.refl _ _).alloc (Nat.le_refl _) _
  have HX := Lib.hid (show Blk W2 W1.heap.size 52 (ics x a m d r) from by rw [hW2]; exact Blk.new _ _ _)
  have HIW := Lib.hid (hiw.keep (hb2.mono HL.out.old.size))
  have HV := Lib.hid (stB_eq (W := (wTo (c.step.take k))) HL.out.is hiw)
  have hb1 : bb < W1.heap.size := Nat.lt_of_lt_of_le hbl HL.out.old.size
  obtain ⟨n0, n1, n2, n3, n4, n5, n6, n7, n8, n9⟩ := HL.out.blk.code
  obtain ⟨EA, hEA⟩ : ∃ EA, EA = v.step.1 := ⟨_, rfl⟩
  rw [← hEA] at ha
  have HEA := Lib.hid hEA
  rw [hEA] at ha
  rw [ha] at n7
  clear hEA HEA ha
  clear hok hsz hx hiw hat hbl
  go_enter Try.func24, Try.ntmps24
  go_upto_region 1 with fail
  rw [← hW1]
  clear hW1
  go_upto_region 2 with fail
  rw [← hW2]
  clear hW2 n0 n1 n2 n3 n4 n5 n6 n7 n8 n9 x0 x1 x2 x3 x4 x5 x6 x7 x8 x9 x10
  have HL := Lib.hid (HL.out.later hb2)
  clear hb2
  obtain ⟨n0, n1, n2, n3, n4, n5, n6, n7, n8, n9⟩ := HL.out.blk.code
  obtain ⟨p0, p1, p2, p3, p4, p5, p6, p7, p8, p9, p10⟩ := HX.out.elev
  have hq0 := HX.out.lt
  have hna : a.2.1 ≤ 20 := by rw [← HIW.out.args.1]; exact HSZ.out.1
  have hnr : r.2.1 ≤ 20 := by rw [← HIW.out.resets.1]; exact HSZ.out.2
  have HG := Lib.hid hg
  clear hg
  have HAA := Lib.hid haa
  clear haa
  have HRS := Lib.hid hrs
  clear hrs
  go_wp2_with (first | (go_at_call 46; (with_reducible refine (guard_r w.heap.size c v _ HL.out.is HL.out.old.size k hup HOK.out x.guard true HG.out).mono ?_); rintro e w2 ⟨rfl, hb2⟩; have HIW := Lib.hid (HIW.out.keep (hb2.mono HL.out.old.size)); have HL := Lib.hid (HL.out.later hb2); have HX := Lib.hid (HX.out.later hb2); clear hb2 n0 n1 n2 n3 n4 n5 n6 n7 n8 n9 p0 p1 p2 p3 p4 p5 p6 p7 p8 p9 p10 hq0; obtain ⟨n0, n1, n2, n3, n4, n5, n6, n7, n8, n9⟩ := HL.out.blk.code; obtain ⟨p0, p1, p2, p3, p4, p5, p6, p7, p8, p9, p10⟩ := HX.out.elev; have hq0 := HX.out.lt) | (go_at_call 47; (with_reducible refine (all_r w.heap.size c v _ HL.out.is HL.out.old.size k hup HOK.out a.1 a.2.1 a.2.2 x.args HIW.out.args true HAA.out).mono ?_); rintro e w2 ⟨rfl, hb2⟩; have HIW := Lib.hid (HIW.out.keep (hb2.mono HL.out.old.size)); have HL := Lib.hid (HL.out.later hb2); have HX := Lib.hid (HX.out.later hb2); clear hb2 n0 n1 n2 n3 n4 n5 n6 n7 n8 n9 p0 p1 p2 p3 p4 p5 p6 p7 p8 p9 p10 hq0; obtain ⟨n0, n1, n2, n3, n4, n5, n6, n7, n8, n9⟩ := HL.out.blk.code; obtain ⟨p0, p1, p2, p3, p4, p5, p6, p7, p8, p9, p10⟩ := HX.out.elev; have hq0 := HX.out.lt) | (go_at_call 47; (with_reducible refine (all_r w.heap.size c v _ HL.out.is HL.out.old.size k hup HOK.out r.1 r.2.1 r.2.2 x.resets HIW.out.resets false HRS.out).mono ?_); rintro e w2 ⟨rfl, hb2⟩; have HIW := Lib.hid (HIW.out.keep (hb2.mono HL.out.old.size)); have HL := Lib.hid (HL.out.later hb2); have HX := Lib.hid (HX.out.later hb2); clear hb2 n0 n1 n2 n3 n4 n5 n6 n7 n8 n9 p0 p1 p2 p3 p4 p5 p6 p7 p8 p9 p10 hq0; obtain ⟨n0, n1, n2, n3, n4, n5, n6, n7, n8, n9⟩ := HL.out.blk.code; obtain ⟨p0, p1, p2, p3, p4, p5, p6, p7, p8, p9, p10⟩ := HX.out.elev; have hq0 := HX.out.lt))
  go_ret
  exact ⟨ret_bool' (by rw [HV.out, HG.out, HAA.out, HRS.out]; simp), HL.out.old⟩

end Go.Proofs.Ytcljmfhelgkfaaa
