/- What Few of law 16 tells. No condition. -/
import Derived.Test.YtcljmfhelgkfaaaSfL
import Derived.Deep.RegionWith
import Derived.Deep.DeepCutAuto
import Derived.BigRegion
namespace Go.Proofs.Ytcljmfhelgkfaaa
set_option linter.unusedVariables false
set_option linter.unusedSimpArgs false
set_option maxRecDepth 100000
open Go.RowKit

/-- is an instruction short? -/
def fewI (x : InsP) : Bool := decide (x.args.length ≤ 20) && (decide (x.resets.length ≤ 20) && (decide (x.op.size ≤ 20) && (decide (x.lit.mag.length + x.lit.den.length ≤ 4) && decide (x.lit.name.size ≤ 100))))
def fewB (l : List InsP) : Bool := decide (l.length ≤ 60) && l.all fewI
def valS (v : ValM) : Bool := decide (v.mag.length + v.den.length ≤ 4) && decide (v.name.size ≤ 100)
def fewC (c : CodeM) : Bool := fewB c.step && (fewB c.deriv && (fewB c.cross && (decide (c.mems.length ≤ 20) && (decide (c.conts.length ≤ 20) && (c.mems.all valS && c.conts.all valS)))))
set_option maxHeartbeats 2000000 in
theorem bodyFew_t (A : Option Addr) (n c B : Nat) (xs : List InsP) (b : Bool) (w : World) (hr : SRow 11 InsAt w B A n c xs) (hB : B ≤ w.heap.size) (hf : fewB xs = b) :
    Calls Try.prog 16 #[.slice A n c] w fun e w' => e = .returned (.bool b) ∧ Below w.heap.size w w' := by
  have hm := hr.len_le
  have HR := Lib.hid hr
  have HBB := Lib.hid hB
  clear hr hB
  unfold maxLen at hm
  by_cases h60 : n ≤ 60
  rotate_left
  · have : b = false := by rw [← hf]; unfold fewB; rw [HR.out.1]; simp [h60]
    subst this
    have h61 : 60 < n := by omega
    clear hf h60
    go_enter Try.func16, Try.ntmps16
    go_wp2
    go_ret
    exact ⟨rfl, Below.refl _ _⟩
  · have HL : Hid (b = xs.all fewI) := Lib.hid (by rw [← hf]; unfold fewB; rw [HR.out.1]; simp [h60])
    clear hf
    go_enter Try.func16, Try.ntmps16
    go_wp2_with fail
    go_loopw [3] (fun t wr => ∃ k : Nat, k ≤ n ∧ t = .int .i64 k ∧ Hid ((xs.take k).all fewI = true) ∧ Hid (Below w.heap.size w wr)) (fun t _ => n - (intOf t).toNat)
    case atStart => exact ⟨0, Nat.zero_le _, rfl, Lib.hid rfl, Lib.hid (Below.refl _ _)⟩
    case round =>
      obtain ⟨k, hk, rfl, HA, HB⟩ := hrel
      by_cases hlt : k < n
      · have HRr := Lib.hid (HR.out.keep (fun b o x hb (h : InsAt w B b o x) => h.keep hb fun p hp => (HB.out.mono HBB.out).cell hp))
        obtain ⟨x, hx⟩ := HRr.out.ex hlt
        obtain ⟨bb, off, ha, hbl, hat⟩ := HRr.out.at_ hx
        obtain ⟨a, m, d, r, hiw, hmm, hdd, hns, x0, x1, x2, x3, x4, x5, x6, x7, x8, x9, x10⟩ := hat.cells
        have HX := Lib.hid hx
        have HE : Hid (fewI x = (decide (a.2.1 ≤ 20) && (decide (r.2.1 ≤ 20) && (decide (x.op.size ≤ 20) && (decide (m.2.1 + d.2.1 ≤ 4) && decide (x.lit.name.size ≤ 100)))))) := Lib.hid (by unfold fewI; rw [hiw.args.1, hiw.resets.1, hmm.1, hdd.1])
        have b0 := hiw.args.len_le
        have b1 := hiw.resets.len_le
        have b2 := hiw.size
        have b3 := hmm.2.2.2.2.2.1
        have b4 := hdd.2.2.2.2.2.1
        have hbw : bb < wr.heap.size := Nat.lt_of_lt_of_le (Nat.lt_of_lt_of_le hbl HBB.out) HB.out.size
        have hkI : (k : Int) < (n : Int) := by omega
        unfold maxLen at b0 b1 b2 hns
        subst ha
        clear hx hiw hat hbl hmm hdd x1 x3 x4 x5 x9
        by_cases t0 : a.2.1 ≤ 20
        rotate_left
        · have g0 : decide ((20 : Int) < (a.2.1 : Int)) = true := by rw [decide_eq_true_eq]; omega
          have HF : Hid (fewI x = false) := Lib.hid (by rw [HE.out]; simp [t0])
          clear t0
          go_wp2
          go_quiet (fail)
          go_wp2
          go_ret
          exact ⟨ret_bool' (by rw [HL.out]; exact (all_no HX.out HF.out).symm), below_drewN HB.out⟩
        have g0 : decide ((20 : Int) < (a.2.1 : Int)) = false := by rw [decide_eq_false_iff_not]; omega
        by_cases t1 : r.2.1 ≤ 20
        rotate_left
        · have g1 : decide ((20 : Int) < (r.2.1 : Int)) = true := by rw [decide_eq_true_eq]; omega
          have HF : Hid (fewI x = false) := Lib.hid (by rw [HE.out]; simp [t1])
          clear t0 t1
          go_wp2
          go_quiet (fail)
          go_wp2
          go_ret
          exact ⟨ret_bool' (by rw [HL.out]; exact (all_no HX.out HF.out).symm), below_drewN HB.out⟩
        have g1 : decide ((20 : Int) < (r.2.1 : Int)) = false := by rw [decide_eq_false_iff_not]; omega
        by_cases t2 : x.op.size ≤ 20
        rotate_left
        · have g2 : decide ((20 : Int) < (x.op.size : Int)) = true := by rw [decide_eq_true_eq]; omega
          have HF : Hid (fewI x = false) := Lib.hid (by rw [HE.out]; simp [t2])
          clear t0 t1 t2
          go_wp2
          go_quiet (fail)
          go_wp2
          go_ret
          exact ⟨ret_bool' (by rw [HL.out]; exact (all_no HX.out HF.out).symm), below_drewN HB.out⟩
        have g2 : decide ((20 : Int) < (x.op.size : Int)) = false := by rw [decide_eq_false_iff_not]; omega
        by_cases t3 : m.2.1 + d.2.1 ≤ 4
        rotate_left
        · have g3 : decide ((4 : Int) < (m.2.1 : Int) + (d.2.1 : Int)) = true := by rw [decide_eq_true_eq]; omega
          have HF : Hid (fewI x = false) := Lib.hid (by rw [HE.out]; simp [t3])
          clear t0 t1 t2 t3
          go_wp2
          go_quiet (fail)
          go_wp2
          go_ret
          exact ⟨ret_bool' (by rw [HL.out]; exact (all_no HX.out HF.out).symm), below_drewN HB.out⟩
        have g3 : decide ((4 : Int) < (m.2.1 : Int) + (d.2.1 : Int)) = false := by rw [decide_eq_false_iff_not]; omega
        by_cases t4 : x.lit.name.size ≤ 100
        rotate_left
        · have g4 : decide ((100 : Int) < (x.lit.name.size : Int)) = true := by rw [decide_eq_true_eq]; omega
          have HF : Hid (fewI x = false) := Lib.hid (by rw [HE.out]; simp [t4])
          clear t0 t1 t2 t3 t4
          go_wp2
          go_quiet (fail)
          go_wp2
          go_ret
          exact ⟨ret_bool' (by rw [HL.out]; exact (all_no HX.out HF.out).symm), below_drewN HB.out⟩
        have g4 : decide ((100 : Int) < (x.lit.name.size : Int)) = false := by rw [decide_eq_false_iff_not]; omega
        have HF : Hid (fewI x = true) := Lib.hid (by rw [HE.out]; simp [t0, t1, t2, t3, t4])
        clear t0 t1 t2 t3 t4
        go_wp2
        go_quiet (fail)
        go_wp2
        go_roundw
        case rel => exact ⟨k + 1, by omega, by go_num, Lib.hid (by rw [all_succ HX.out, HF.out, HA.out]; rfl), Lib.hid (below_drewN HB.out)⟩
        case measure => simp [intOf]; omega
      · obtain rfl : k = n := by omega
        go_wp2
        go_ret
        exact ⟨ret_bool' (by rw [HL.out]; exact (all_end HR.out.1 HA.out).symm), HB.out⟩
set_option maxHeartbeats 2000000 in
theorem short_t (A : Option Addr) (n c B : Nat) (xs : List ValM) (b : Bool) (w : World) (hr : SRow 5 ValAt w B A n c xs) (hB : B ≤ w.heap.size) (hf : xs.all valS = b) :
    Calls Try.prog 17 #[.slice A n c] w fun e w' => e = .returned (.bool b) ∧ Below w.heap.size w w' := by
  have hm := hr.len_le
  have HR := Lib.hid hr
  have HBB := Lib.hid hB
  have HL := Lib.hid hf
  clear hr hB hf
  unfold maxLen at hm
  go_enter Try.func17, Try.ntmps17
  go_wp2_with fail
  go_loopw [3] (fun t wr => ∃ k : Nat, k ≤ n ∧ t = .int .i64 k ∧ Hid ((xs.take k).all valS = true) ∧ Hid (Below w.heap.size w wr)) (fun t _ => n - (intOf t).toNat)
  case atStart => exact ⟨0, Nat.zero_le _, rfl, Lib.hid rfl, Lib.hid (Below.refl _ _)⟩
  case round =>
    obtain ⟨k, hk, rfl, HA, HB⟩ := hrel
    by_cases hlt : k < n
    · have HRr := Lib.hid (HR.out.keep (fun b o x hb (h : ValAt w B b o x) => h.keep hb fun p hp => (HB.out.mono HBB.out).cell hp))
      obtain ⟨x, hx⟩ := HRr.out.ex hlt
      obtain ⟨bb, off, ha, hbl, hat⟩ := HRr.out.at_ hx
      obtain ⟨m1, mn, mc, x2, hmm⟩ := hat.mag
      obtain ⟨d1, dn, dc, x3, hdd⟩ := hat.den
      obtain ⟨x4, hns⟩ := hat.name
      obtain ⟨m, hme⟩ : ∃ m : Option Addr × Nat × Nat, m = (m1, mn, mc) := ⟨_, rfl⟩
      obtain ⟨d, hde⟩ : ∃ d : Option Addr × Nat × Nat, d = (d1, dn, dc) := ⟨_, rfl⟩
      obtain rfl : m1 = m.1 := by rw [hme]
      obtain rfl : mn = m.2.1 := by rw [hme]
      obtain rfl : mc = m.2.2 := by rw [hme]
      obtain rfl : d1 = d.1 := by rw [hde]
      obtain rfl : dn = d.2.1 := by rw [hde]
      obtain rfl : dc = d.2.2 := by rw [hde]
      have HX := Lib.hid hx
      have HE : Hid (valS x = (decide (m.2.1 + d.2.1 ≤ 4) && decide (x.name.size ≤ 100))) := Lib.hid (by unfold valS; rw [hmm.1, hdd.1])
      have b3 := hmm.2.2.2.2.2.1
      have b4 := hdd.2.2.2.2.2.1
      have hbw : bb < wr.heap.size := Nat.lt_of_lt_of_le (Nat.lt_of_lt_of_le hbl HBB.out) HB.out.size
      have hkI : (k : Int) < (n : Int) := by omega
      unfold maxLen at hns
      subst ha
      clear hx hat hbl hmm hdd hme hde
      by_cases t0 : m.2.1 + d.2.1 ≤ 4
      rotate_left
      · have g0 : decide ((4 : Int) < (m.2.1 : Int) + (d.2.1 : Int)) = true := by rw [decide_eq_true_eq]; omega
        have HF : Hid (valS x = false) := Lib.hid (by rw [HE.out]; simp [t0])
        clear t0
        go_wp2
        go_quiet (fail)
        go_wp2
        go_ret
        exact ⟨ret_bool' (by rw [← HL.out]; exact (all_no HX.out HF.out).symm), below_drewN HB.out⟩
      have g0 : decide ((4 : Int) < (m.2.1 : Int) + (d.2.1 : Int)) = false := by rw [decide_eq_false_iff_not]; omega
      by_cases t1 : x.name.size ≤ 100
      rotate_left
      · have g1 : decide ((100 : Int) < (x.name.size : Int)) = true := by rw [decide_eq_true_eq]; omega
        have HF : Hid (valS x = false) := Lib.hid (by rw [HE.out]; simp [t1])
        clear t0 t1
        go_wp2
        go_quiet (fail)
        go_wp2
        go_ret
        exact ⟨ret_bool' (by rw [← HL.out]; exact (all_no HX.out HF.out).symm), below_drewN HB.out⟩
      have g1 : decide ((100 : Int) < (x.name.size : Int)) = false := by rw [decide_eq_false_iff_not]; omega
      have HF : Hid (valS x = true) := Lib.hid (by rw [HE.out]; simp [t0, t1])
      clear t0 t1
      go_wp2
      go_quiet (fail)
      go_wp2
      go_roundw
      case rel => exact ⟨k + 1, by omega, by go_num, Lib.hid (by rw [all_succ HX.out, HF.out, HA.out]; rfl), Lib.hid (below_drewN HB.out)⟩
      case measure => simp [intOf]; omega
    · obtain rfl : k = n := by omega
      go_wp2
      go_ret
      exact ⟨ret_bool' (by rw [← HL.out]; exact (all_end HR.out.1 HA.out).symm), HB.out⟩
/-- what Few tells -/
def FewPost (c : CodeM) (w : World) (e : Ending) (w' : World) : Prop := e = .returned (.bool (fewC c)) ∧ Below w.heap.size w w'
set_option maxHeartbeats 2000000 in
theorem few_0 (B : Nat) (c : CodeM) (v : CodeV) (w : World) (h : CodeIs w B c v) (hB : B ≤ w.heap.size)  (h0 : fewB c.step = false) : Calls Try.prog 8 #[codeV c v] w (FewPost c w) := by
  obtain ⟨W1, hW1⟩ : ∃ W1, W1 = w.alloc (.cells #[.int .i64 c.ins, .int .i64 c.outs, .int .i64 c.slots, .int .i64 c.crosses, .int .i64 c.lines, .slice v.mems.1 v.mems.2.1 v.mems.2.2, .slice v.conts.1 v.conts.2.1 v.conts.2.2, .slice v.step.1 v.step.2.1 v.step.2.2, .slice v.deriv.1 v.deriv.2.1 v.deriv.2.2, .slice v.cross.1 v.cross.2.1 v.cross.2.2] 25) := ⟨_, rfl⟩
  have hb1 : Below w.heap.size w W1 := by rw [hW1]; exact (Below.refl _ _).alloc (Nat.le_refl _) _
  have HK := Lib.hid (show Blk W1 w.heap.size 25 (cvs c v) from by rw [hW1]; exact Blk.new _ _ _)
  have HI := Lib.hid (((h.more hB).below hb1).more (Nat.le_succ w.heap.size))
  have HB := Lib.hid hb1
  have HS : Hid (w.heap.size + 1 ≤ W1.heap.size) := Lib.hid HK.out.lt
  have H0 := Lib.hid h0
  clear h hB hb1 h0
  unfold codeV
  obtain ⟨n0, n1, n2, n3, n4, n5, n6, n7, n8, n9⟩ := HK.out.code
  go_enter Try.func8, Try.ntmps8
  go_upto_region 1 with fail
  rw [← hW1]
  clear hW1
  go_wp2_with (first | (go_at_call 16; (with_reducible refine (bodyFew_t v.step.1 v.step.2.1 v.step.2.2 (w.heap.size + 1) c.step false _ HI.out.step HS.out H0.out).mono ?_); rintro e wz ⟨rfl, hbz⟩; have HI := Lib.hid (HI.out.below (hbz.mono HS.out)); have HB := Lib.hid (HB.out.trans (hbz.mono HB.out.size)); have HK := Lib.hid (HK.out.later hbz); have HS := Lib.hid (Nat.le_trans HS.out hbz.size); clear hbz n0 n1 n2 n3 n4 n5 n6 n7 n8 n9; obtain ⟨n0, n1, n2, n3, n4, n5, n6, n7, n8, n9⟩ := HK.out.code))
  go_ret
  exact ⟨ret_bool' (by unfold fewC; rw [H0.out]; simp), HB.out⟩
set_option maxHeartbeats 2000000 in
theorem few_1 (B : Nat) (c : CodeM) (v : CodeV) (w : World) (h : CodeIs w B c v) (hB : B ≤ w.heap.size) (h0 : fewB c.step = true) (h1 : fewB c.deriv = false) : Calls Try.prog 8 #[codeV c v] w (FewPost c w) := by
  obtain ⟨W1, hW1⟩ : ∃ W1, W1 = w.alloc (.cells #[.int .i64 c.ins, .int .i64 c.outs, .int .i64 c.slots, .int .i64 c.crosses, .int .i64 c.lines, .slice v.mems.1 v.mems.2.1 v.mems.2.2, .slice v.conts.1 v.conts.2.1 v.conts.2.2, .slice v.step.1 v.step.2.1 v.step.2.2, .slice v.deriv.1 v.deriv.2.1 v.deriv.2.2, .slice v.cross.1 v.cross.2.1 v.cross.2.2] 25) := ⟨_, rfl⟩
  have hb1 : Below w.heap.size w W1 := by rw [hW1]; exact (Below.refl _ _).alloc (Nat.le_refl _) _
  have HK := Lib.hid (show Blk W1 w.heap.size 25 (cvs c v) from by rw [hW1]; exact Blk.new _ _ _)
  have HI := Lib.hid (((h.more hB).below hb1).more (Nat.le_succ w.heap.size))
  have HB := Lib.hid hb1
  have HS : Hid (w.heap.size + 1 ≤ W1.heap.size) := Lib.hid HK.out.lt
  have H0 := Lib.hid h0
  have H1 := Lib.hid h1
  clear h hB hb1 h0 h1
  unfold codeV
  obtain ⟨n0, n1, n2, n3, n4, n5, n6, n7, n8, n9⟩ := HK.out.code
  go_enter Try.func8, Try.ntmps8
  go_upto_region 1 with fail
  rw [← hW1]
  clear hW1
  go_wp2_with (first | (go_at_call 16; (with_reducible refine (bodyFew_t v.step.1 v.step.2.1 v.step.2.2 (w.heap.size + 1) c.step true _ HI.out.step HS.out H0.out).mono ?_); rintro e wz ⟨rfl, hbz⟩; have HI := Lib.hid (HI.out.below (hbz.mono HS.out)); have HB := Lib.hid (HB.out.trans (hbz.mono HB.out.size)); have HK := Lib.hid (HK.out.later hbz); have HS := Lib.hid (Nat.le_trans HS.out hbz.size); clear hbz n0 n1 n2 n3 n4 n5 n6 n7 n8 n9; obtain ⟨n0, n1, n2, n3, n4, n5, n6, n7, n8, n9⟩ := HK.out.code) | (go_at_call 16; (with_reducible refine (bodyFew_t v.deriv.1 v.deriv.2.1 v.deriv.2.2 (w.heap.size + 1) c.deriv false _ HI.out.deriv HS.out H1.out).mono ?_); rintro e wz ⟨rfl, hbz⟩; have HI := Lib.hid (HI.out.below (hbz.mono HS.out)); have HB := Lib.hid (HB.out.trans (hbz.mono HB.out.size)); have HK := Lib.hid (HK.out.later hbz); have HS := Lib.hid (Nat.le_trans HS.out hbz.size); clear hbz n0 n1 n2 n3 n4 n5 n6 n7 n8 n9; obtain ⟨n0, n1, n2, n3, n4, n5, n6, n7, n8, n9⟩ := HK.out.code))
  go_ret
  exact ⟨ret_bool' (by unfold fewC; rw [H0.out, H1.out]; simp), HB.out⟩
set_option maxHeartbeats 2000000 in
theorem few_2 (B : Nat) (c : CodeM) (v : CodeV) (w : World) (h : CodeIs w B c v) (hB : B ≤ w.heap.size) (h0 : fewB c.step = true) (h1 : fewB c.deriv = true) (h2 : fewB c.cross = false) : Calls Try.prog 8 #[codeV c v] w (FewPost c w) := by
  obtain ⟨W1, hW1⟩ : ∃ W1, W1 = w.alloc (.cells #[.int .i64 c.ins, .int .i64 c.outs, .int .i64 c.slots, .int .i64 c.crosses, .int .i64 c.lines, .slice v.mems.1 v.mems.2.1 v.mems.2.2, .slice v.conts.1 v.conts.2.1 v.conts.2.2, .slice v.step.1 v.step.2.1 v.step.2.2, .slice v.deriv.1 v.deriv.2.1 v.deriv.2.2, .slice v.cross.1 v.cross.2.1 v.cross.2.2] 25) := ⟨_, rfl⟩
  have hb1 : Below w.heap.size w W1 := by rw [hW1]; exact (Below.refl _ _).alloc (Nat.le_refl _) _
  have HK := Lib.hid (show Blk W1 w.heap.size 25 (cvs c v) from by rw [hW1]; exact Blk.new _ _ _)
  have HI := Lib.hid (((h.more hB).below hb1).more (Nat.le_succ w.heap.size))
  have HB := Lib.hid hb1
  have HS : Hid (w.heap.size + 1 ≤ W1.heap.size) := Lib.hid HK.out.lt
  have H0 := Lib.hid h0
  have H1 := Lib.hid h1
  have H2 := Lib.hid h2
  clear h hB hb1 h0 h1 h2
  unfold codeV
  obtain ⟨n0, n1, n2, n3, n4, n5, n6, n7, n8, n9⟩ := HK.out.code
  go_enter Try.func8, Try.ntmps8
  go_upto_region 1 with fail
  rw [← hW1]
  clear hW1
  go_wp2_with (first | (go_at_call 16; (with_reducible refine (bodyFew_t v.step.1 v.step.2.1 v.step.2.2 (w.heap.size + 1) c.step true _ HI.out.step HS.out H0.out).mono ?_); rintro e wz ⟨rfl, hbz⟩; have HI := Lib.hid (HI.out.below (hbz.mono HS.out)); have HB := Lib.hid (HB.out.trans (hbz.mono HB.out.size)); have HK := Lib.hid (HK.out.later hbz); have HS := Lib.hid (Nat.le_trans HS.out hbz.size); clear hbz n0 n1 n2 n3 n4 n5 n6 n7 n8 n9; obtain ⟨n0, n1, n2, n3, n4, n5, n6, n7, n8, n9⟩ := HK.out.code) | (go_at_call 16; (with_reducible refine (bodyFew_t v.deriv.1 v.deriv.2.1 v.deriv.2.2 (w.heap.size + 1) c.deriv true _ HI.out.deriv HS.out H1.out).mono ?_); rintro e wz ⟨rfl, hbz⟩; have HI := Lib.hid (HI.out.below (hbz.mono HS.out)); have HB := Lib.hid (HB.out.trans (hbz.mono HB.out.size)); have HK := Lib.hid (HK.out.later hbz); have HS := Lib.hid (Nat.le_trans HS.out hbz.size); clear hbz n0 n1 n2 n3 n4 n5 n6 n7 n8 n9; obtain ⟨n0, n1, n2, n3, n4, n5, n6, n7, n8, n9⟩ := HK.out.code) | (go_at_call 16; (with_reducible refine (bodyFew_t v.cross.1 v.cross.2.1 v.cross.2.2 (w.heap.size + 1) c.cross false _ HI.out.cross HS.out H2.out).mono ?_); rintro e wz ⟨rfl, hbz⟩; have HI := Lib.hid (HI.out.below (hbz.mono HS.out)); have HB := Lib.hid (HB.out.trans (hbz.mono HB.out.size)); have HK := Lib.hid (HK.out.later hbz); have HS := Lib.hid (Nat.le_trans HS.out hbz.size); clear hbz n0 n1 n2 n3 n4 n5 n6 n7 n8 n9; obtain ⟨n0, n1, n2, n3, n4, n5, n6, n7, n8, n9⟩ := HK.out.code))
  go_ret
  exact ⟨ret_bool' (by unfold fewC; rw [H0.out, H1.out, H2.out]; simp), HB.out⟩
set_option maxHeartbeats 2000000 in
theorem few_3 (B : Nat) (c : CodeM) (v : CodeV) (w : World) (h : CodeIs w B c v) (hB : B ≤ w.heap.size) (h0 : fewB c.step = true) (h1 : fewB c.deriv = true) (h2 : fewB c.cross = true) (h3 : decide (c.mems.length ≤ 20) = false) : Calls Try.prog 8 #[codeV c v] w (FewPost c w) := by
  obtain ⟨W1, hW1⟩ : ∃ W1, W1 = w.alloc (.cells #[.int .i64 c.ins, .int .i64 c.outs, .int .i64 c.slots, .int .i64 c.crosses, .int .i64 c.lines, .slice v.mems.1 v.mems.2.1 v.mems.2.2, .slice v.conts.1 v.conts.2.1 v.conts.2.2, .slice v.step.1 v.step.2.1 v.step.2.2, .slice v.deriv.1 v.deriv.2.1 v.deriv.2.2, .slice v.cross.1 v.cross.2.1 v.cross.2.2] 25) := ⟨_, rfl⟩
  have hb1 : Below w.heap.size w W1 := by rw [hW1]; exact (Below.refl _ _).alloc (Nat.le_refl _) _
  have HK := Lib.hid (show Blk W1 w.heap.size 25 (cvs c v) from by rw [hW1]; exact Blk.new _ _ _)
  have HI := Lib.hid (((h.more hB).below hb1).more (Nat.le_succ w.heap.size))
  have HB := Lib.hid hb1
  have HS : Hid (w.heap.size + 1 ≤ W1.heap.size) := Lib.hid HK.out.lt
  have H0 := Lib.hid h0
  have H1 := Lib.hid h1
  have H2 := Lib.hid h2
  have H3 := Lib.hid h3
  have e3 : (20 : Int) < (v.mems.2.1 : Int) := by rw [decide_eq_false_iff_not, h.mems.1] at h3; omega
  have l3 := h.mems.len_le
  unfold maxLen at l3
  clear h hB hb1 h0 h1 h2 h3
  unfold codeV
  obtain ⟨n0, n1, n2, n3, n4, n5, n6, n7, n8, n9⟩ := HK.out.code
  go_enter Try.func8, Try.ntmps8
  go_upto_region 1 with fail
  rw [← hW1]
  clear hW1
  go_wp2_with (first | (go_at_call 16; (with_reducible refine (bodyFew_t v.step.1 v.step.2.1 v.step.2.2 (w.heap.size + 1) c.step true _ HI.out.step HS.out H0.out).mono ?_); rintro e wz ⟨rfl, hbz⟩; have HI := Lib.hid (HI.out.below (hbz.mono HS.out)); have HB := Lib.hid (HB.out.trans (hbz.mono HB.out.size)); have HK := Lib.hid (HK.out.later hbz); have HS := Lib.hid (Nat.le_trans HS.out hbz.size); clear hbz n0 n1 n2 n3 n4 n5 n6 n7 n8 n9; obtain ⟨n0, n1, n2, n3, n4, n5, n6, n7, n8, n9⟩ := HK.out.code) | (go_at_call 16; (with_reducible refine (bodyFew_t v.deriv.1 v.deriv.2.1 v.deriv.2.2 (w.heap.size + 1) c.deriv true _ HI.out.deriv HS.out H1.out).mono ?_); rintro e wz ⟨rfl, hbz⟩; have HI := Lib.hid (HI.out.below (hbz.mono HS.out)); have HB := Lib.hid (HB.out.trans (hbz.mono HB.out.size)); have HK := Lib.hid (HK.out.later hbz); have HS := Lib.hid (Nat.le_trans HS.out hbz.size); clear hbz n0 n1 n2 n3 n4 n5 n6 n7 n8 n9; obtain ⟨n0, n1, n2, n3, n4, n5, n6, n7, n8, n9⟩ := HK.out.code) | (go_at_call 16; (with_reducible refine (bodyFew_t v.cross.1 v.cross.2.1 v.cross.2.2 (w.heap.size + 1) c.cross true _ HI.out.cross HS.out H2.out).mono ?_); rintro e wz ⟨rfl, hbz⟩; have HI := Lib.hid (HI.out.below (hbz.mono HS.out)); have HB := Lib.hid (HB.out.trans (hbz.mono HB.out.size)); have HK := Lib.hid (HK.out.later hbz); have HS := Lib.hid (Nat.le_trans HS.out hbz.size); clear hbz n0 n1 n2 n3 n4 n5 n6 n7 n8 n9; obtain ⟨n0, n1, n2, n3, n4, n5, n6, n7, n8, n9⟩ := HK.out.code))
  go_ret
  exact ⟨ret_bool' (by unfold fewC; rw [H0.out, H1.out, H2.out, H3.out]; simp), HB.out⟩
set_option maxHeartbeats 2000000 in
theorem few_4 (B : Nat) (c : CodeM) (v : CodeV) (w : World) (h : CodeIs w B c v) (hB : B ≤ w.heap.size) (h0 : fewB c.step = true) (h1 : fewB c.deriv = true) (h2 : fewB c.cross = true) (h3 : decide (c.mems.length ≤ 20) = true) (h4 : decide (c.conts.length ≤ 20) = false) : Calls Try.prog 8 #[codeV c v] w (FewPost c w) := by
  obtain ⟨W1, hW1⟩ : ∃ W1, W1 = w.alloc (.cells #[.int .i64 c.ins, .int .i64 c.outs, .int .i64 c.slots, .int .i64 c.crosses, .int .i64 c.lines, .slice v.mems.1 v.mems.2.1 v.mems.2.2, .slice v.conts.1 v.conts.2.1 v.conts.2.2, .slice v.step.1 v.step.2.1 v.step.2.2, .slice v.deriv.1 v.deriv.2.1 v.deriv.2.2, .slice v.cross.1 v.cross.2.1 v.cross.2.2] 25) := ⟨_, rfl⟩
  have hb1 : Below w.heap.size w W1 := by rw [hW1]; exact (Below.refl _ _).alloc (Nat.le_refl _) _
  have HK := Lib.hid (show Blk W1 w.heap.size 25 (cvs c v) from by rw [hW1]; exact Blk.new _ _ _)
  have HI := Lib.hid (((h.more hB).below hb1).more (Nat.le_succ w.heap.size))
  have HB := Lib.hid hb1
  have HS : Hid (w.heap.size + 1 ≤ W1.heap.size) := Lib.hid HK.out.lt
  have H0 := Lib.hid h0
  have H1 := Lib.hid h1
  have H2 := Lib.hid h2
  have H3 := Lib.hid h3
  have H4 := Lib.hid h4
  have e3 : (v.mems.2.1 : Int) ≤ 20 := by rw [decide_eq_true_eq, h.mems.1] at h3; omega
  have l3 := h.mems.len_le
  unfold maxLen at l3
  have e4 : (20 : Int) < (v.conts.2.1 : Int) := by rw [decide_eq_false_iff_not, h.conts.1] at h4; omega
  have l4 := h.conts.len_le
  unfold maxLen at l4
  clear h hB hb1 h0 h1 h2 h3 h4
  unfold codeV
  obtain ⟨n0, n1, n2, n3, n4, n5, n6, n7, n8, n9⟩ := HK.out.code
  go_enter Try.func8, Try.ntmps8
  go_upto_region 1 with fail
  rw [← hW1]
  clear hW1
  go_wp2_with (first | (go_at_call 16; (with_reducible refine (bodyFew_t v.step.1 v.step.2.1 v.step.2.2 (w.heap.size + 1) c.step true _ HI.out.step HS.out H0.out).mono ?_); rintro e wz ⟨rfl, hbz⟩; have HI := Lib.hid (HI.out.below (hbz.mono HS.out)); have HB := Lib.hid (HB.out.trans (hbz.mono HB.out.size)); have HK := Lib.hid (HK.out.later hbz); have HS := Lib.hid (Nat.le_trans HS.out hbz.size); clear hbz n0 n1 n2 n3 n4 n5 n6 n7 n8 n9; obtain ⟨n0, n1, n2, n3, n4, n5, n6, n7, n8, n9⟩ := HK.out.code) | (go_at_call 16; (with_reducible refine (bodyFew_t v.deriv.1 v.deriv.2.1 v.deriv.2.2 (w.heap.size + 1) c.deriv true _ HI.out.deriv HS.out H1.out).mono ?_); rintro e wz ⟨rfl, hbz⟩; have HI := Lib.hid (HI.out.below (hbz.mono HS.out)); have HB := Lib.hid (HB.out.trans (hbz.mono HB.out.size)); have HK := Lib.hid (HK.out.later hbz); have HS := Lib.hid (Nat.le_trans HS.out hbz.size); clear hbz n0 n1 n2 n3 n4 n5 n6 n7 n8 n9; obtain ⟨n0, n1, n2, n3, n4, n5, n6, n7, n8, n9⟩ := HK.out.code) | (go_at_call 16; (with_reducible refine (bodyFew_t v.cross.1 v.cross.2.1 v.cross.2.2 (w.heap.size + 1) c.cross true _ HI.out.cross HS.out H2.out).mono ?_); rintro e wz ⟨rfl, hbz⟩; have HI := Lib.hid (HI.out.below (hbz.mono HS.out)); have HB := Lib.hid (HB.out.trans (hbz.mono HB.out.size)); have HK := Lib.hid (HK.out.later hbz); have HS := Lib.hid (Nat.le_trans HS.out hbz.size); clear hbz n0 n1 n2 n3 n4 n5 n6 n7 n8 n9; obtain ⟨n0, n1, n2, n3, n4, n5, n6, n7, n8, n9⟩ := HK.out.code))
  go_ret
  exact ⟨ret_bool' (by unfold fewC; rw [H0.out, H1.out, H2.out, H3.out, H4.out]; simp), HB.out⟩
set_option maxHeartbeats 2000000 in
theorem few_5 (B : Nat) (c : CodeM) (v : CodeV) (w : World) (h : CodeIs w B c v) (hB : B ≤ w.heap.size) (h0 : fewB c.step = true) (h1 : fewB c.deriv = true) (h2 : fewB c.cross = true) (h3 : decide (c.mems.length ≤ 20) = true) (h4 : decide (c.conts.length ≤ 20) = true) (h5 : c.mems.all valS = false) : Calls Try.prog 8 #[codeV c v] w (FewPost c w) := by
  obtain ⟨W1, hW1⟩ : ∃ W1, W1 = w.alloc (.cells #[.int .i64 c.ins, .int .i64 c.outs, .int .i64 c.slots, .int .i64 c.crosses, .int .i64 c.lines, .slice v.mems.1 v.mems.2.1 v.mems.2.2, .slice v.conts.1 v.conts.2.1 v.conts.2.2, .slice v.step.1 v.step.2.1 v.step.2.2, .slice v.deriv.1 v.deriv.2.1 v.deriv.2.2, .slice v.cross.1 v.cross.2.1 v.cross.2.2] 25) := ⟨_, rfl⟩
  have hb1 : Below w.heap.size w W1 := by rw [hW1]; exact (Below.refl _ _).alloc (Nat.le_refl _) _
  have HK := Lib.hid (show Blk W1 w.heap.size 25 (cvs c v) from by rw [hW1]; exact Blk.new _ _ _)
  have HI := Lib.hid (((h.more hB).below hb1).more (Nat.le_succ w.heap.size))
  have HB := Lib.hid hb1
  have HS : Hid (w.heap.size + 1 ≤ W1.heap.size) := Lib.hid HK.out.lt
  have H0 := Lib.hid h0
  have H1 := Lib.hid h1
  have H2 := Lib.hid h2
  have H3 := Lib.hid h3
  have H4 := Lib.hid h4
  have H5 := Lib.hid h5
  have e3 : (v.mems.2.1 : Int) ≤ 20 := by rw [decide_eq_true_eq, h.mems.1] at h3; omega
  have l3 := h.mems.len_le
  unfold maxLen at l3
  have e4 : (v.conts.2.1 : Int) ≤ 20 := by rw [decide_eq_true_eq, h.conts.1] at h4; omega
  have l4 := h.conts.len_le
  unfold maxLen at l4
  clear h hB hb1 h0 h1 h2 h3 h4 h5
  unfold codeV
  obtain ⟨n0, n1, n2, n3, n4, n5, n6, n7, n8, n9⟩ := HK.out.code
  go_enter Try.func8, Try.ntmps8
  go_upto_region 1 with fail
  rw [← hW1]
  clear hW1
  go_wp2_with (first | (go_at_call 16; (with_reducible refine (bodyFew_t v.step.1 v.step.2.1 v.step.2.2 (w.heap.size + 1) c.step true _ HI.out.step HS.out H0.out).mono ?_); rintro e wz ⟨rfl, hbz⟩; have HI := Lib.hid (HI.out.below (hbz.mono HS.out)); have HB := Lib.hid (HB.out.trans (hbz.mono HB.out.size)); have HK := Lib.hid (HK.out.later hbz); have HS := Lib.hid (Nat.le_trans HS.out hbz.size); clear hbz n0 n1 n2 n3 n4 n5 n6 n7 n8 n9; obtain ⟨n0, n1, n2, n3, n4, n5, n6, n7, n8, n9⟩ := HK.out.code) | (go_at_call 16; (with_reducible refine (bodyFew_t v.deriv.1 v.deriv.2.1 v.deriv.2.2 (w.heap.size + 1) c.deriv true _ HI.out.deriv HS.out H1.out).mono ?_); rintro e wz ⟨rfl, hbz⟩; have HI := Lib.hid (HI.out.below (hbz.mono HS.out)); have HB := Lib.hid (HB.out.trans (hbz.mono HB.out.size)); have HK := Lib.hid (HK.out.later hbz); have HS := Lib.hid (Nat.le_trans HS.out hbz.size); clear hbz n0 n1 n2 n3 n4 n5 n6 n7 n8 n9; obtain ⟨n0, n1, n2, n3, n4, n5, n6, n7, n8, n9⟩ := HK.out.code) | (go_at_call 16; (with_reducible refine (bodyFew_t v.cross.1 v.cross.2.1 v.cross.2.2 (w.heap.size + 1) c.cross true _ HI.out.cross HS.out H2.out).mono ?_); rintro e wz ⟨rfl, hbz⟩; have HI := Lib.hid (HI.out.below (hbz.mono HS.out)); have HB := Lib.hid (HB.out.trans (hbz.mono HB.out.size)); have HK := Lib.hid (HK.out.later hbz); have HS := Lib.hid (Nat.le_trans HS.out hbz.size); clear hbz n0 n1 n2 n3 n4 n5 n6 n7 n8 n9; obtain ⟨n0, n1, n2, n3, n4, n5, n6, n7, n8, n9⟩ := HK.out.code) | (go_at_call 17; (with_reducible refine (short_t v.mems.1 v.mems.2.1 v.mems.2.2 (w.heap.size + 1) c.mems false _ HI.out.mems HS.out H5.out).mono ?_); rintro e wz ⟨rfl, hbz⟩; have HI := Lib.hid (HI.out.below (hbz.mono HS.out)); have HB := Lib.hid (HB.out.trans (hbz.mono HB.out.size)); have HK := Lib.hid (HK.out.later hbz); have HS := Lib.hid (Nat.le_trans HS.out hbz.size); clear hbz n0 n1 n2 n3 n4 n5 n6 n7 n8 n9; obtain ⟨n0, n1, n2, n3, n4, n5, n6, n7, n8, n9⟩ := HK.out.code))
  go_ret
  exact ⟨ret_bool' (by unfold fewC; rw [H0.out, H1.out, H2.out, H3.out, H4.out, H5.out]; simp), HB.out⟩
set_option maxHeartbeats 2000000 in
theorem few_6 (B : Nat) (c : CodeM) (v : CodeV) (w : World) (h : CodeIs w B c v) (hB : B ≤ w.heap.size) (h0 : fewB c.step = true) (h1 : fewB c.deriv = true) (h2 : fewB c.cross = true) (h3 : decide (c.mems.length ≤ 20) = true) (h4 : decide (c.conts.length ≤ 20) = true) (h5 : c.mems.all valS = true) (h6 : c.conts.all valS = false) : Calls Try.prog 8 #[codeV c v] w (FewPost c w) := by
  obtain ⟨W1, hW1⟩ : ∃ W1, W1 = w.alloc (.cells #[.int .i64 c.ins, .int .i64 c.outs, .int .i64 c.slots, .int .i64 c.crosses, .int .i64 c.lines, .slice v.mems.1 v.mems.2.1 v.mems.2.2, .slice v.conts.1 v.conts.2.1 v.conts.2.2, .slice v.step.1 v.step.2.1 v.step.2.2, .slice v.deriv.1 v.deriv.2.1 v.deriv.2.2, .slice v.cross.1 v.cross.2.1 v.cross.2.2] 25) := ⟨_, rfl⟩
  have hb1 : Below w.heap.size w W1 := by rw [hW1]; exact (Below.refl _ _).alloc (Nat.le_refl _) _
  have HK := Lib.hid (show Blk W1 w.heap.size 25 (cvs c v) from by rw [hW1]; exact Blk.new _ _ _)
  have HI := Lib.hid (((h.more hB).below hb1).more (Nat.le_succ w.heap.size))
  have HB := Lib.hid hb1
  have HS : Hid (w.heap.size + 1 ≤ W1.heap.size) := Lib.hid HK.out.lt
  have H0 := Lib.hid h0
  have H1 := Lib.hid h1
  have H2 := Lib.hid h2
  have H3 := Lib.hid h3
  have H4 := Lib.hid h4
  have H5 := Lib.hid h5
  have H6 := Lib.hid h6
  have e3 : (v.mems.2.1 : Int) ≤ 20 := by rw [decide_eq_true_eq, h.mems.1] at h3; omega
  have l3 := h.mems.len_le
  unfold maxLen at l3
  have e4 : (v.conts.2.1 : Int) ≤ 20 := by rw [decide_eq_true_eq, h.conts.1] at h4; omega
  have l4 := h.conts.len_le
  unfold maxLen at l4
  clear h hB hb1 h0 h1 h2 h3 h4 h5 h6
  unfold codeV
  obtain ⟨n0, n1, n2, n3, n4, n5, n6, n7, n8, n9⟩ := HK.out.code
  go_enter Try.func8, Try.ntmps8
  go_upto_region 1 with fail
  rw [← hW1]
  clear hW1
  go_wp2_with (first | (go_at_call 16; (with_reducible refine (bodyFew_t v.step.1 v.step.2.1 v.step.2.2 (w.heap.size + 1) c.step true _ HI.out.step HS.out H0.out).mono ?_); rintro e wz ⟨rfl, hbz⟩; have HI := Lib.hid (HI.out.below (hbz.mono HS.out)); have HB := Lib.hid (HB.out.trans (hbz.mono HB.out.size)); have HK := Lib.hid (HK.out.later hbz); have HS := Lib.hid (Nat.le_trans HS.out hbz.size); clear hbz n0 n1 n2 n3 n4 n5 n6 n7 n8 n9; obtain ⟨n0, n1, n2, n3, n4, n5, n6, n7, n8, n9⟩ := HK.out.code) | (go_at_call 16; (with_reducible refine (bodyFew_t v.deriv.1 v.deriv.2.1 v.deriv.2.2 (w.heap.size + 1) c.deriv true _ HI.out.deriv HS.out H1.out).mono ?_); rintro e wz ⟨rfl, hbz⟩; have HI := Lib.hid (HI.out.below (hbz.mono HS.out)); have HB := Lib.hid (HB.out.trans (hbz.mono HB.out.size)); have HK := Lib.hid (HK.out.later hbz); have HS := Lib.hid (Nat.le_trans HS.out hbz.size); clear hbz n0 n1 n2 n3 n4 n5 n6 n7 n8 n9; obtain ⟨n0, n1, n2, n3, n4, n5, n6, n7, n8, n9⟩ := HK.out.code) | (go_at_call 16; (with_reducible refine (bodyFew_t v.cross.1 v.cross.2.1 v.cross.2.2 (w.heap.size + 1) c.cross true _ HI.out.cross HS.out H2.out).mono ?_); rintro e wz ⟨rfl, hbz⟩; have HI := Lib.hid (HI.out.below (hbz.mono HS.out)); have HB := Lib.hid (HB.out.trans (hbz.mono HB.out.size)); have HK := Lib.hid (HK.out.later hbz); have HS := Lib.hid (Nat.le_trans HS.out hbz.size); clear hbz n0 n1 n2 n3 n4 n5 n6 n7 n8 n9; obtain ⟨n0, n1, n2, n3, n4, n5, n6, n7, n8, n9⟩ := HK.out.code) | (go_at_call 17; (with_reducible refine (short_t v.mems.1 v.mems.2.1 v.mems.2.2 (w.heap.size + 1) c.mems true _ HI.out.mems HS.out H5.out).mono ?_); rintro e wz ⟨rfl, hbz⟩; have HI := Lib.hid (HI.out.below (hbz.mono HS.out)); have HB := Lib.hid (HB.out.trans (hbz.mono HB.out.size)); have HK := Lib.hid (HK.out.later hbz); have HS := Lib.hid (Nat.le_trans HS.out hbz.size); clear hbz n0 n1 n2 n3 n4 n5 n6 n7 n8 n9; obtain ⟨n0, n1, n2, n3, n4, n5, n6, n7, n8, n9⟩ := HK.out.code) | (go_at_call 17; (with_reducible refine (short_t v.conts.1 v.conts.2.1 v.conts.2.2 (w.heap.size + 1) c.conts false _ HI.out.conts HS.out H6.out).mono ?_); rintro e wz ⟨rfl, hbz⟩; have HI := Lib.hid (HI.out.below (hbz.mono HS.out)); have HB := Lib.hid (HB.out.trans (hbz.mono HB.out.size)); have HK := Lib.hid (HK.out.later hbz); have HS := Lib.hid (Nat.le_trans HS.out hbz.size); clear hbz n0 n1 n2 n3 n4 n5 n6 n7 n8 n9; obtain ⟨n0, n1, n2, n3, n4, n5, n6, n7, n8, n9⟩ := HK.out.code))
  go_ret
  exact ⟨ret_bool' (by unfold fewC; rw [H0.out, H1.out, H2.out, H3.out, H4.out, H5.out, H6.out]; simp), HB.out⟩
set_option maxHeartbeats 2000000 in
theorem few_7 (B : Nat) (c : CodeM) (v : CodeV) (w : World) (h : CodeIs w B c v) (hB : B ≤ w.heap.size) (h0 : fewB c.step = true) (h1 : fewB c.deriv = true) (h2 : fewB c.cross = true) (h3 : decide (c.mems.length ≤ 20) = true) (h4 : decide (c.conts.length ≤ 20) = true) (h5 : c.mems.all valS = true) (h6 : c.conts.all valS = true) : Calls Try.prog 8 #[codeV c v] w (FewPost c w) := by
  obtain ⟨W1, hW1⟩ : ∃ W1, W1 = w.alloc (.cells #[.int .i64 c.ins, .int .i64 c.outs, .int .i64 c.slots, .int .i64 c.crosses, .int .i64 c.lines, .slice v.mems.1 v.mems.2.1 v.mems.2.2, .slice v.conts.1 v.conts.2.1 v.conts.2.2, .slice v.step.1 v.step.2.1 v.step.2.2, .slice v.deriv.1 v.deriv.2.1 v.deriv.2.2, .slice v.cross.1 v.cross.2.1 v.cross.2.2] 25) := ⟨_, rfl⟩
  have hb1 : Below w.heap.size w W1 := by rw [hW1]; exact (Below.refl _ _).alloc (Nat.le_refl _) _
  have HK := Lib.hid (show Blk W1 w.heap.size 25 (cvs c v) from by rw [hW1]; exact Blk.new _ _ _)
  have HI := Lib.hid (((h.more hB).below hb1).more (Nat.le_succ w.heap.size))
  have HB := Lib.hid hb1
  have HS : Hid (w.heap.size + 1 ≤ W1.heap.size) := Lib.hid HK.out.lt
  have H0 := Lib.hid h0
  have H1 := Lib.hid h1
  have H2 := Lib.hid h2
  have H3 := Lib.hid h3
  have H4 := Lib.hid h4
  have H5 := Lib.hid h5
  have H6 := Lib.hid h6
  have e3 : (v.mems.2.1 : Int) ≤ 20 := by rw [decide_eq_true_eq, h.mems.1] at h3; omega
  have l3 := h.mems.len_le
  unfold maxLen at l3
  have e4 : (v.conts.2.1 : Int) ≤ 20 := by rw [decide_eq_true_eq, h.conts.1] at h4; omega
  have l4 := h.conts.len_le
  unfold maxLen at l4
  clear h hB hb1 h0 h1 h2 h3 h4 h5 h6
  unfold codeV
  obtain ⟨n0, n1, n2, n3, n4, n5, n6, n7, n8, n9⟩ := HK.out.code
  go_enter Try.func8, Try.ntmps8
  go_upto_region 1 with fail
  rw [← hW1]
  clear hW1
  go_wp2_with (first | (go_at_call 16; (with_reducible refine (bodyFew_t v.step.1 v.step.2.1 v.step.2.2 (w.heap.size + 1) c.step true _ HI.out.step HS.out H0.out).mono ?_); rintro e wz ⟨rfl, hbz⟩; have HI := Lib.hid (HI.out.below (hbz.mono HS.out)); have HB := Lib.hid (HB.out.trans (hbz.mono HB.out.size)); have HK := Lib.hid (HK.out.later hbz); have HS := Lib.hid (Nat.le_trans HS.out hbz.size); clear hbz n0 n1 n2 n3 n4 n5 n6 n7 n8 n9; obtain ⟨n0, n1, n2, n3, n4, n5, n6, n7, n8, n9⟩ := HK.out.code) | (go_at_call 16; (with_reducible refine (bodyFew_t v.deriv.1 v.deriv.2.1 v.deriv.2.2 (w.heap.size + 1) c.deriv true _ HI.out.deriv HS.out H1.out).mono ?_); rintro e wz ⟨rfl, hbz⟩; have HI := Lib.hid (HI.out.below (hbz.mono HS.out)); have HB := Lib.hid (HB.out.trans (hbz.mono HB.out.size)); have HK := Lib.hid (HK.out.later hbz); have HS := Lib.hid (Nat.le_trans HS.out hbz.size); clear hbz n0 n1 n2 n3 n4 n5 n6 n7 n8 n9; obtain ⟨n0, n1, n2, n3, n4, n5, n6, n7, n8, n9⟩ := HK.out.code) | (go_at_call 16; (with_reducible refine (bodyFew_t v.cross.1 v.cross.2.1 v.cross.2.2 (w.heap.size + 1) c.cross true _ HI.out.cross HS.out H2.out).mono ?_); rintro e wz ⟨rfl, hbz⟩; have HI := Lib.hid (HI.out.below (hbz.mono HS.out)); have HB := Lib.hid (HB.out.trans (hbz.mono HB.out.size)); have HK := Lib.hid (HK.out.later hbz); have HS := Lib.hid (Nat.le_trans HS.out hbz.size); clear hbz n0 n1 n2 n3 n4 n5 n6 n7 n8 n9; obtain ⟨n0, n1, n2, n3, n4, n5, n6, n7, n8, n9⟩ := HK.out.code) | (go_at_call 17; (with_reducible refine (short_t v.mems.1 v.mems.2.1 v.mems.2.2 (w.heap.size + 1) c.mems true _ HI.out.mems HS.out H5.out).mono ?_); rintro e wz ⟨rfl, hbz⟩; have HI := Lib.hid (HI.out.below (hbz.mono HS.out)); have HB := Lib.hid (HB.out.trans (hbz.mono HB.out.size)); have HK := Lib.hid (HK.out.later hbz); have HS := Lib.hid (Nat.le_trans HS.out hbz.size); clear hbz n0 n1 n2 n3 n4 n5 n6 n7 n8 n9; obtain ⟨n0, n1, n2, n3, n4, n5, n6, n7, n8, n9⟩ := HK.out.code) | (go_at_call 17; (with_reducible refine (short_t v.conts.1 v.conts.2.1 v.conts.2.2 (w.heap.size + 1) c.conts true _ HI.out.conts HS.out H6.out).mono ?_); rintro e wz ⟨rfl, hbz⟩; have HI := Lib.hid (HI.out.below (hbz.mono HS.out)); have HB := Lib.hid (HB.out.trans (hbz.mono HB.out.size)); have HK := Lib.hid (HK.out.later hbz); have HS := Lib.hid (Nat.le_trans HS.out hbz.size); clear hbz n0 n1 n2 n3 n4 n5 n6 n7 n8 n9; obtain ⟨n0, n1, n2, n3, n4, n5, n6, n7, n8, n9⟩ := HK.out.code))
  go_ret
  exact ⟨ret_bool' (by unfold fewC; rw [H0.out, H1.out, H2.out, H3.out, H4.out, H5.out, H6.out]; simp), HB.out⟩
theorem few_t (B : Nat) (c : CodeM) (v : CodeV) (w : World) (h : CodeIs w B c v) (hB : B ≤ w.heap.size) : Calls Try.prog 8 #[codeV c v] w (FewPost c w) := by
  cases h0 : fewB c.step with
  | false => exact few_0 B c v w h hB h0
  | true =>
  cases h1 : fewB c.deriv with
  | false => exact few_1 B c v w h hB h0 h1
  | true =>
  cases h2 : fewB c.cross with
  | false => exact few_2 B c v w h hB h0 h1 h2
  | true =>
  cases h3 : decide (c.mems.length ≤ 20) with
  | false => exact few_3 B c v w h hB h0 h1 h2 h3
  | true =>
  cases h4 : decide (c.conts.length ≤ 20) with
  | false => exact few_4 B c v w h hB h0 h1 h2 h3 h4
  | true =>
  cases h5 : c.mems.all valS with
  | false => exact few_5 B c v w h hB h0 h1 h2 h3 h4 h5
  | true =>
  cases h6 : c.conts.all valS with
  | false => exact few_6 B c v w h hB h0 h1 h2 h3 h4 h5 h6
  | true =>
  exact few_7 B c v w h hB h0 h1 h2 h3 h4 h5 h6

end Go.Proofs.Ytcljmfhelgkfaaa
