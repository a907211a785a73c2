/- What cross of the answer tells, Op by Op. No condition but bounds. -/
import Derived.Test.YtcljmfhelgkfaaaSfY
import Derived.Test.YtcljmfhelgkfaaaSfXa
import Derived.Deep.RegionWith
import Derived.Deep.RegionHeld3
import Derived.Deep.DeepCutAuto
namespace Go.Proofs.Ytcljmfhelgkfaaa
set_option linter.unusedVariables false
set_option linter.unusedSimpArgs false
set_option maxRecDepth 100000
open Go.RowKit

set_option maxHeartbeats 4000000 in
theorem x6_lneg (B : Nat) (c : CodeM) (v : CodeV) (w : World) (h : CodeIs w B c v) (hB : B ≤ w.heap.size) (hok : OkS c v.step.2.1) (k : Nat) (hup : k ≤ v.cross.2.1) (x : InsP) (hx : c.cross[k]? = some x) (hsz : x.args.length ≤ 20 ∧ x.resets.length ≤ 20) (h0 : x.resets.length = 0) (hg : gdB c.slots (wTo c.step) x.guard = true) (hin : inB x.dst c.lines = true) (hop : x.op = bs [108, 110, 101, 103]) : Calls Try.prog 26 #[.agg #[.int .i64 c.ins, .int .i64 c.outs, .int .i64 c.slots, .int .i64 c.crosses, .int .i64 c.lines, .slice v.mems.1 v.mems.2.1 v.mems.2.2, .slice v.conts.1 v.conts.2.1 v.conts.2.2, .slice v.step.1 v.step.2.1 v.step.2.2, .slice v.deriv.1 v.deriv.2.1 v.deriv.2.2, .slice v.cross.1 v.cross.2.1 v.cross.2.2], .int .i64 (k : Nat)] w fun e w' => e = .returned (.bool (crB c (wTo c.step) (lTo (c.cross.take k)) x)) ∧ Below w.heap.size w w' := by
  obtain ⟨W1, hW1⟩ : ∃ W1, W1 = w.alloc (.cells #[.int .i64 c.ins, .int .i64 c.outs, .int .i64 c.slots, .int .i64 c.crosses, .int .i64 c.lines, .slice v.mems.1 v.mems.2.1 v.mems.2.2, .slice v.conts.1 v.conts.2.1 v.conts.2.2, .slice v.step.1 v.step.2.1 v.step.2.2, .slice v.deriv.1 v.deriv.2.1 v.deriv.2.2, .slice v.cross.1 v.cross.2.1 v.cross.2.2] 25) := ⟨_, rfl⟩
  have HL := Lib.hid (show LwSt w c v W1 from by rw [hW1]; exact LwSt.start (h.more hB))
  have HWE := Lib.hid (wTo_all2 (c := c) h.step.1)
  clear h hB
  have HRL := Lib.hid h0
  clear h0
  have HIN := Lib.hid hin
  clear hin
  have HOP := Lib.hid hop
  clear hop
  have HOK := Lib.hid hok
  have HSZ := Lib.hid hsz
  obtain ⟨bb, off, ha, hbl, hat⟩ := HL.out.is.cross.at_ hx
  obtain ⟨a, m, d, r, hiw, _, _, _, x0, x1, x2, x3, x4, x5, x6, x7, x8, x9, x10⟩ := hat.cells
  have hkl : k < v.cross.2.1 := by rw [← HL.out.is.cross.1]; exact (List.getElem?_eq_some_iff.1 hx).1
  have hkI : (k : Int) < (v.cross.2.1 : Int) := by omega
  have hm := HL.out.is.cross.len_le
  have hm1 := HL.out.is.step.len_le
  have hm2 := HL.out.is.conts.len_le
  unfold maxLen at hm hm1 hm2
  obtain ⟨W2, hW2⟩ : ∃ W2, W2 = W1.alloc (.cells #[.string x.op, .int .i64 x.dst, .slice a.1 a.2.1 a.2.2, .int .i64 x.k, .int .i64 x.lit.kind, .bool x.lit.neg, .slice m.1 m.2.1 m.2.2, .slice d.1 d.2.1 d.2.2, .string x.lit.name, .int .i64 x.guard, .slice r.1 r.2.1 r.2.2] 52) := ⟨_, rfl⟩
  have hb2 : Below W1.heap.size W1 W2 := by rw [hW2]; exact (Below.refl _ _).alloc (Nat.le_refl _) _
  have HX := Lib.hid (show Blk W2 W1.heap.size 52 (ics x a m d r) from by rw [hW2]; exact Blk.new _ _ _)
  have HIW := Lib.hid (hiw.keep (hb2.mono HL.out.old.size))
  have HIW0 := Lib.hid hiw
  have HIS0 := Lib.hid HL.out.is
  have hb1 : bb < W1.heap.size := Nat.lt_of_lt_of_le hbl HL.out.old.size
  obtain ⟨n0, n1, n2, n3, n4, n5, n6, n7, n8, n9⟩ := HL.out.blk.code
  rw [ha] at n9
  clear ha hok hsz hx hiw hat hbl
  go_enter Try.func26, Try.ntmps26
  go_upto_region 1 with fail
  rw [← hW1]
  clear hW1
  go_upto_region 2 with fail
  rw [← hW2]
  clear hW2 n0 n1 n2 n3 n4 n5 n6 n7 n8 n9 x0 x1 x2 x3 x4 x5 x6 x7 x8 x9 x10
  have HL := Lib.hid (HL.out.later hb2)
  clear hb2
  obtain ⟨n0, n1, n2, n3, n4, n5, n6, n7, n8, n9⟩ := HL.out.blk.code
  obtain ⟨p0, p1, p2, p3, p4, p5, p6, p7, p8, p9, p10⟩ := HX.out.elev
  have hq0 := HX.out.lt
  have hna : a.2.1 ≤ 20 := by rw [← HIW.out.args.1]; exact HSZ.out.1
  have hnr : r.2.1 ≤ 20 := by rw [← HIW.out.resets.1]; exact HSZ.out.2
  have hr1 : (r.2.1 : Int) = 0 := by have := HIW0.out.resets.1; have := HRL.out; omega
  have HR0 := Lib.hid (show decide (r.2.1 = 0) = true from decide_eq_true (by omega))
  have HG : Hid (gdB c.slots (wTo (c.step.take v.step.2.1)) x.guard = true) := Lib.hid (by rw [HWE.out]; exact hg)
  have HGE := Lib.hid hg
  clear hg
  have HNL : Hid (nLn x.op = some (0, 1)) := Lib.hid (by rw [HOP.out]; rfl)
  have HV := Lib.hid (crB_eq (W := (wTo c.step)) (L := (lTo (c.cross.take k))) HNL.out HIS0.out HIW0.out)
  have g4 : (x.op.toList == [97, 115, 107]) = false := str_no (by rw [HOP.out]; decide)
  have HDD : Hid ((decide (x.op = opAsk) || inB x.dst c.lines) = true) := Lib.hid (by rw [HIN.out]; simp)
  go_upto_region 7 with (first | (go_at_call 46; (with_reducible refine (guard_r w.heap.size c v _ HL.out.is HL.out.old.size v.step.2.1 (Nat.le_refl _) HOK.out x.guard true HG.out).mono ?_); rintro e w2 ⟨rfl, hb2⟩; have HIW := Lib.hid (HIW.out.keep (hb2.mono HL.out.old.size)); have HL := Lib.hid (HL.out.later hb2); have HX := Lib.hid (HX.out.later hb2); clear hb2 n0 n1 n2 n3 n4 n5 n6 n7 n8 n9 p0 p1 p2 p3 p4 p5 p6 p7 p8 p9 p10 hq0; obtain ⟨n0, n1, n2, n3, n4, n5, n6, n7, n8, n9⟩ := HL.out.blk.code; obtain ⟨p0, p1, p2, p3, p4, p5, p6, p7, p8, p9, p10⟩ := HX.out.elev; have hq0 := HX.out.lt) | (go_at_call 48; (with_reducible refine (in_t x.dst c.lines true _ HIN.out).mono ?_); rintro e w8 ⟨rfl, rfl⟩))
  rw [HOP.out, show bs [108, 110, 101, 103] = (⟨#[108, 110, 101, 103]⟩ : ByteArray) from rfl] at p0
  clear g4
  have HPK : Hid (plK x.op x.k c.ins c.outs v.mems.2.1 v.conts.2.1 c.crosses = true) := Lib.hid (by rw [HOP.out]; rfl)
  by_cases hn : a.2.1 = 0 + 1
  rotate_left
  · have HN := Lib.hid (decide_eq_false hn)
    have g7 : ((a.2.1 : Int) == 1) = false := by rw [beq_eq_false_iff_ne]; omega
    have g8 : ¬ (a.2.1 : Int) = 1 := by omega
    go_wp2_with fail
    go_ret
    exact ⟨ret_bool' (by rw [HV.out, HN.out]; simp), HL.out.old⟩
  have HN := Lib.hid (decide_eq_true hn)
  have g8 : (a.2.1 : Int) = 1 := by omega
  go_upto_region 33 with fail
  have HNE := Lib.hid hn
  clear g8 hn
  have hna2 : a.2.1 ≤ 20 := hna
  go_wp2_with fail
  obtain ⟨wz, rfl⟩ : ∃ wz : World, wz = w8 := ⟨_, rfl⟩
  go_loopw [10] (fun t wr => ∃ n : Nat, n ≤ a.2.1 ∧ t = .int .i64 n ∧ Hid (∀ j, j < n → (if j < 0 then wrB c.slots (wTo c.step) (x.args.getD j 0) else wrB c.lines (lTo (c.cross.take k)) (x.args.getD j 0)) = true) ∧ Hid (Below wz.heap.size wz wr)) (fun t _ => a.2.1 - (intOf t).toNat)
  case atStart => exact ⟨0, Nat.zero_le _, rfl, Lib.hid (fun j hj => by omega), Lib.hid (Below.refl _ _)⟩
  case round =>
    obtain ⟨j, hj, rfl, HA, HBr⟩ := hrel
    have HLq := Lib.hid (HL.out.later HBr.out)
    have HXq := Lib.hid (HX.out.later HBr.out)
    clear p0 p1 p2 p3 p4 p5 p6 p7 p8 p9 p10 n0 n1 n2 n3 n4 n5 n6 n7 n8 n9 hq0
    have hq0 := HXq.out.lt
    by_cases hlt : j < a.2.1
    · have HIWq := Lib.hid (HIW.out.args.below (HBr.out.mono HL.out.old.size))
      obtain ⟨g, off, hga, hgl, hc0⟩ := HIWq.out.at_ hlt
      obtain ⟨X, hX⟩ : ∃ X, X = x.args.getD j 0 := ⟨_, rfl⟩
      rw [← hX] at hc0
      have HXE := Lib.hid hX
      have hab := Lib.hid hga
      have HLd := Lib.hid (HLq.out.later (Below.refl _ _).drew)
      have HXd := Lib.hid (HXq.out.later (Below.refl _ _).drew)
      have HGW : Hid (g < wr.drew.heap.size) := Lib.hid (Nat.lt_of_lt_of_le hgl HLq.out.old.size)
      have HP := Lib.hid (show wr.drew.cell? ⟨w.heap.size, 0, none⟩ = some (.int .i64 c.ins) ∧ wr.drew.cell? ⟨w.heap.size, 1, none⟩ = some (.int .i64 c.outs) ∧ wr.drew.cell? ⟨w.heap.size, 2, none⟩ = some (.int .i64 c.slots) ∧ wr.drew.cell? ⟨w.heap.size, 3, none⟩ = some (.int .i64 c.crosses) ∧ wr.drew.cell? ⟨w.heap.size, 4, none⟩ = some (.int .i64 c.lines) ∧ wr.drew.cell? ⟨w.heap.size, 5, none⟩ = some (.slice v.mems.1 v.mems.2.1 v.mems.2.2) ∧ wr.drew.cell? ⟨w.heap.size, 6, none⟩ = some (.slice v.conts.1 v.conts.2.1 v.conts.2.2) ∧ wr.drew.cell? ⟨w.heap.size, 7, none⟩ = some (.slice v.step.1 v.step.2.1 v.step.2.2) ∧ wr.drew.cell? ⟨w.heap.size, 8, none⟩ = some (.slice v.deriv.1 v.deriv.2.1 v.deriv.2.2) ∧ wr.drew.cell? ⟨w.heap.size, 9, none⟩ = some (.slice v.cross.1 v.cross.2.1 v.cross.2.2) ∧ wr.drew.cell? ⟨W1.heap.size, 2, none⟩ = some (.slice (some ⟨g, off, none⟩) a.2.1 a.2.2) ∧ wr.drew.cell? ⟨g, off + j, none⟩ = some (.int .i64 X) from ⟨HLd.out.blk.cell 0 rfl, HLd.out.blk.cell 1 rfl, HLd.out.blk.cell 2 rfl, HLd.out.blk.cell 3 rfl, HLd.out.blk.cell 4 rfl, HLd.out.blk.cell 5 rfl, HLd.out.blk.cell 6 rfl, HLd.out.blk.cell 7 rfl, HLd.out.blk.cell 8 rfl, HLd.out.blk.cell 9 rfl, by rw [← hab.out]; exact HXd.out.cell 2 rfl, hc0⟩)
      have hjI : (j : Int) < (a.2.1 : Int) := by omega
      clear hX hga hgl hc0
      have hjs : ¬ j < 0 := by omega
      have HJS := Lib.hid hjs
      have g5 : decide ((j : Int) < 0) = false := by rw [decide_eq_false_iff_not]; omega
      have g6 : decide ((0 : Int) ≤ (j : Int)) = true := by rw [decide_eq_true_eq]; omega
      cases hv0 : wrB c.lines (lTo (c.cross.take k)) X with
      | false =>
        have HXV : Hid (wrB c.lines (lTo (c.cross.take k)) X = false) := Lib.hid (hv0)
        have HXW := Lib.hid hv0
        clear hv0
        go_wp2
        refine wp_region_held_drew (S := fun w' => w'.cell? ⟨w.heap.size, 0, none⟩ = some (.int .i64 c.ins) ∧ w'.cell? ⟨w.heap.size, 1, none⟩ = some (.int .i64 c.outs) ∧ w'.cell? ⟨w.heap.size, 2, none⟩ = some (.int .i64 c.slots) ∧ w'.cell? ⟨w.heap.size, 3, none⟩ = some (.int .i64 c.crosses) ∧ w'.cell? ⟨w.heap.size, 4, none⟩ = some (.int .i64 c.lines) ∧ w'.cell? ⟨w.heap.size, 5, none⟩ = some (.slice v.mems.1 v.mems.2.1 v.mems.2.2) ∧ w'.cell? ⟨w.heap.size, 6, none⟩ = some (.slice v.conts.1 v.conts.2.1 v.conts.2.2) ∧ w'.cell? ⟨w.heap.size, 7, none⟩ = some (.slice v.step.1 v.step.2.1 v.step.2.2) ∧ w'.cell? ⟨w.heap.size, 8, none⟩ = some (.slice v.deriv.1 v.deriv.2.1 v.deriv.2.2) ∧ w'.cell? ⟨w.heap.size, 9, none⟩ = some (.slice v.cross.1 v.cross.2.1 v.cross.2.2) ∧ w'.cell? ⟨W1.heap.size, 2, none⟩ = some (.slice (some ⟨g, off, none⟩) a.2.1 a.2.2) ∧ w'.cell? ⟨g, off + j, none⟩ = some (.int .i64 X)) (by kernel_rfl) HP.out (fun hHeld => ?_)
        refine takeH 0 90 ?_ (by kernel_rfl) (by kernel_rfl) (by kernel_rfl) (by kernel_rfl) (fun _ _ _ h => h) (by kernel_rfl) (fun o ho w hSw => ?_) (by assumption) ?_
        rotate_left
        · (simp only [List.getElem?_toArray, List.getElem?_cons_succ, List.getElem?_cons_zero, Option.some.injEq] at ho; subst ho; (try dsimp only at hSw); go_simp; try with_reducible rfl)
        try simp only [Act.put, List.setIfInBounds_toArray, List.set_cons_zero, List.set_cons_succ]
        refine takeH 1 91 ?_ (by kernel_rfl) (by kernel_rfl) (by kernel_rfl) (by kernel_rfl) (fun _ _ _ h => h) (by kernel_rfl) (fun o ho w hSw => ?_) (by assumption) ?_
        rotate_left
        · (simp only [List.getElem?_toArray, List.getElem?_cons_succ, List.getElem?_cons_zero, Option.some.injEq] at ho; subst ho; (try dsimp only at hSw); go_simp; try with_reducible rfl)
        try simp only [Act.put, List.setIfInBounds_toArray, List.set_cons_zero, List.set_cons_succ]
        refine takeH 2 92 ?_ (by kernel_rfl) (by kernel_rfl) (by kernel_rfl) (by kernel_rfl) (fun _ _ _ h => h) (by kernel_rfl) (fun o ho w hSw => ?_) (by assumption) ?_
        rotate_left
        · (simp only [List.getElem?_toArray, List.getElem?_cons_succ, List.getElem?_cons_zero, Option.some.injEq] at ho; subst ho; (try dsimp only at hSw); go_simp; try with_reducible rfl)
        try simp only [Act.put, List.setIfInBounds_toArray, List.set_cons_zero, List.set_cons_succ]
        refine takeH 3 93 ?_ (by kernel_rfl) (by kernel_rfl) (by kernel_rfl) (by kernel_rfl) (fun _ _ _ h => h) (by kernel_rfl) (fun o ho w hSw => ?_) (by assumption) ?_
        rotate_left
        · (simp only [List.getElem?_toArray, List.getElem?_cons_succ, List.getElem?_cons_zero, Option.some.injEq] at ho; subst ho; (try dsimp only at hSw); go_simp; try with_reducible rfl)
        try simp only [Act.put, List.setIfInBounds_toArray, List.set_cons_zero, List.set_cons_succ]
        refine skipH 4 94 (by kernel_rfl) (by kernel_rfl) (by kernel_rfl) (by kernel_rfl) (fun _ _ _ h => h) (by kernel_rfl) (by assumption) ?_
        try simp only [Act.put, List.setIfInBounds_toArray, List.set_cons_zero, List.set_cons_succ]
        refine skipH 5 95 (by kernel_rfl) (by kernel_rfl) (by kernel_rfl) (by kernel_rfl) (fun _ _ _ h => h) (by kernel_rfl) (by assumption) ?_
        try simp only [Act.put, List.setIfInBounds_toArray, List.set_cons_zero, List.set_cons_succ]
        refine skipH 6 96 (by kernel_rfl) (by kernel_rfl) (by kernel_rfl) (by kernel_rfl) (fun _ _ _ h => h) (by kernel_rfl) (by assumption) ?_
        try simp only [Act.put, List.setIfInBounds_toArray, List.set_cons_zero, List.set_cons_succ]
        refine skipH 7 97 (by kernel_rfl) (by kernel_rfl) (by kernel_rfl) (by kernel_rfl) (fun _ _ _ h => h) (by kernel_rfl) (by assumption) ?_
        try simp only [Act.put, List.setIfInBounds_toArray, List.set_cons_zero, List.set_cons_succ]
        refine skipH 8 98 (by kernel_rfl) (by kernel_rfl) (by kernel_rfl) (by kernel_rfl) (fun _ _ _ h => h) (by kernel_rfl) (by assumption) ?_
        try simp only [Act.put, List.setIfInBounds_toArray, List.set_cons_zero, List.set_cons_succ]
        refine skipH 9 99 (by kernel_rfl) (by kernel_rfl) (by kernel_rfl) (by kernel_rfl) (fun _ _ _ h => h) (by kernel_rfl) (by assumption) ?_
        try simp only [Act.put, List.setIfInBounds_toArray, List.set_cons_zero, List.set_cons_succ]
        refine skipH 10 100 (by kernel_rfl) (by kernel_rfl) (by kernel_rfl) (by kernel_rfl) (fun _ _ _ h => h) (by kernel_rfl) (by assumption) ?_
        try simp only [Act.put, List.setIfInBounds_toArray, List.set_cons_zero, List.set_cons_succ]
        refine skipH 11 101 (by kernel_rfl) (by kernel_rfl) (by kernel_rfl) (by kernel_rfl) (fun _ _ _ h => h) (by kernel_rfl) (by assumption) ?_
        try simp only [Act.put, List.setIfInBounds_toArray, List.set_cons_zero, List.set_cons_succ]
        refine skipH 12 102 (by kernel_rfl) (by kernel_rfl) (by kernel_rfl) (by kernel_rfl) (fun _ _ _ h => h) (by kernel_rfl) (by assumption) ?_
        try simp only [Act.put, List.setIfInBounds_toArray, List.set_cons_zero, List.set_cons_succ]
        refine takeH 13 103 ?_ (by kernel_rfl) (by kernel_rfl) (by kernel_rfl) (by kernel_rfl) (fun _ _ _ h => h) (by kernel_rfl) (fun o ho w hSw => ?_) (by assumption) ?_
        rotate_left
        · (simp only [List.getElem?_toArray, List.getElem?_cons_succ, List.getElem?_cons_zero, Option.some.injEq] at ho; subst ho; (try dsimp only at hSw); go_simp; try with_reducible rfl)
        try simp only [Act.put, List.setIfInBounds_toArray, List.set_cons_zero, List.set_cons_succ]
        refine takeH 14 104 ?_ (by kernel_rfl) (by kernel_rfl) (by kernel_rfl) (by kernel_rfl) (fun _ _ _ h => h) (by kernel_rfl) (fun o ho w hSw => ?_) (by assumption) ?_
        rotate_left
        · (simp only [List.getElem?_toArray, List.getElem?_cons_succ, List.getElem?_cons_zero, Option.some.injEq] at ho; subst ho; (try dsimp only at hSw); go_simp; try with_reducible rfl)
        try simp only [Act.put, List.setIfInBounds_toArray, List.set_cons_zero, List.set_cons_succ]
        refine takeH 15 105 ?_ (by kernel_rfl) (by kernel_rfl) (by kernel_rfl) (by kernel_rfl) (fun _ _ _ h => h) (by kernel_rfl) (fun o ho w hSw => ?_) (by assumption) ?_
        rotate_left
        · (simp only [List.getElem?_toArray, List.getElem?_cons_succ, List.getElem?_cons_zero, Option.some.injEq] at ho; subst ho; (try dsimp only at hSw); go_simp; try with_reducible rfl)
        try simp only [Act.put, List.setIfInBounds_toArray, List.set_cons_zero, List.set_cons_succ]
        refine takeH 16 106 ?_ (by kernel_rfl) (by kernel_rfl) (by kernel_rfl) (by kernel_rfl) (fun _ _ _ h => h) (by kernel_rfl) (fun o ho w hSw => ?_) (by assumption) ?_
        rotate_left
        · (simp only [List.getElem?_toArray, List.getElem?_cons_succ, List.getElem?_cons_zero, Option.some.injEq] at ho; subst ho; (try dsimp only at hSw); go_simp; try with_reducible rfl)
        try simp only [Act.put, List.setIfInBounds_toArray, List.set_cons_zero, List.set_cons_succ]
        refine takeH 17 107 ?_ (by kernel_rfl) (by kernel_rfl) (by kernel_rfl) (by kernel_rfl) (fun _ _ _ h => h) (by kernel_rfl) (fun o ho w hSw => ?_) (by assumption) ?_
        rotate_left
        · (simp only [List.getElem?_toArray, List.getElem?_cons_succ, List.getElem?_cons_zero, Option.some.injEq] at ho; subst ho; (try dsimp only at hSw); go_simp; try with_reducible rfl)
        try simp only [Act.put, List.setIfInBounds_toArray, List.set_cons_zero, List.set_cons_succ]
        refine takeH 18 108 ?_ (by kernel_rfl) (by kernel_rfl) (by kernel_rfl) (by kernel_rfl) (fun _ _ _ h => h) (by kernel_rfl) (fun o ho w hSw => ?_) (by assumption) ?_
        rotate_left
        · (simp only [List.getElem?_toArray, List.getElem?_cons_succ, List.getElem?_cons_zero, Option.some.injEq] at ho; subst ho; (try dsimp only at hSw); go_simp; try with_reducible rfl)
        try simp only [Act.put, List.setIfInBounds_toArray, List.set_cons_zero, List.set_cons_succ]
        refine takeH 19 109 ?_ (by kernel_rfl) (by kernel_rfl) (by kernel_rfl) (by kernel_rfl) (fun _ _ _ h => h) (by kernel_rfl) (fun o ho w hSw => ?_) (by assumption) ?_
        rotate_left
        · (simp only [List.getElem?_toArray, List.getElem?_cons_succ, List.getElem?_cons_zero, Option.some.injEq] at ho; subst ho; (try dsimp only at hSw); go_simp; try with_reducible rfl)
        try simp only [Act.put, List.setIfInBounds_toArray, List.set_cons_zero, List.set_cons_succ]
        refine takeH 20 110 ?_ (by kernel_rfl) (by kernel_rfl) (by kernel_rfl) (by kernel_rfl) (fun _ _ _ h => h) (by kernel_rfl) (fun o ho w hSw => ?_) (by assumption) ?_
        rotate_left
        · (simp only [List.getElem?_toArray, List.getElem?_cons_succ, List.getElem?_cons_zero, Option.some.injEq] at ho; subst ho; (try dsimp only at hSw); go_simp; try with_reducible rfl)
        try simp only [Act.put, List.setIfInBounds_toArray, List.set_cons_zero, List.set_cons_succ]
        refine takeH 21 111 ?_ (by kernel_rfl) (by kernel_rfl) (by kernel_rfl) (by kernel_rfl) (fun _ _ _ h => h) (by kernel_rfl) (fun o ho w hSw => ?_) (by assumption) ?_
        rotate_left
        · (simp only [List.getElem?_toArray, List.getElem?_cons_succ, List.getElem?_cons_zero, Option.some.injEq] at ho; subst ho; (try dsimp only at hSw); go_simp; try with_reducible rfl)
        try simp only [Act.put, List.setIfInBounds_toArray, List.set_cons_zero, List.set_cons_succ]
        refine takeH 22 112 ?_ (by kernel_rfl) (by kernel_rfl) (by kernel_rfl) (by kernel_rfl) (fun _ _ _ h => h) (by kernel_rfl) (fun o ho w hSw => ?_) (by assumption) ?_
        rotate_left
        · (simp only [List.getElem?_toArray, List.getElem?_cons_succ, List.getElem?_cons_zero, Option.some.injEq] at ho; subst ho; (try dsimp only at hSw); go_simp; try with_reducible rfl)
        try simp only [Act.put, List.setIfInBounds_toArray, List.set_cons_zero, List.set_cons_succ]
        refine takeH 23 113 ?_ (by kernel_rfl) (by kernel_rfl) (by kernel_rfl) (by kernel_rfl) (fun _ _ _ h => h) (by kernel_rfl) (fun o ho w hSw => ?_) (by assumption) ?_
        rotate_left
        · (simp only [List.getElem?_toArray, List.getElem?_cons_succ, List.getElem?_cons_zero, Option.some.injEq] at ho; subst ho; (try dsimp only at hSw); go_simp; try with_reducible rfl)
        try simp only [Act.put, List.setIfInBounds_toArray, List.set_cons_zero, List.set_cons_succ]
        refine takeH 24 114 ?_ (by kernel_rfl) (by kernel_rfl) (by kernel_rfl) (by kernel_rfl) (fun _ _ _ h => h) (by kernel_rfl) (fun o ho w hSw => ?_) (by assumption) ?_
        rotate_left
        · (simp only [List.getElem?_toArray, List.getElem?_cons_succ, List.getElem?_cons_zero, Option.some.injEq] at ho; subst ho; (try dsimp only at hSw); go_simp; try with_reducible rfl)
        try simp only [Act.put, List.setIfInBounds_toArray, List.set_cons_zero, List.set_cons_succ]
        refine takeH 25 115 ?_ (by kernel_rfl) (by kernel_rfl) (by kernel_rfl) (by kernel_rfl) (fun _ _ _ h => h) (by kernel_rfl) (fun o ho w hSw => ?_) (by assumption) ?_
        rotate_left
        · (simp only [List.getElem?_toArray, List.getElem?_cons_succ, List.getElem?_cons_zero, Option.some.injEq] at ho; subst ho; (try dsimp only at hSw); go_simp; try with_reducible rfl)
        try simp only [Act.put, List.setIfInBounds_toArray, List.set_cons_zero, List.set_cons_succ]
        refine callH 26 (by kernel_rfl) (by kernel_rfl) (fun o ho K hK => ?_)
        simp only [List.getElem?_toArray, List.getElem?_cons_succ, List.getElem?_cons_zero, Option.some.injEq] at ho; subst ho
        rw [if_pos (by rfl)]
        go_simp
        go_at_call 50
        with_reducible refine (line_r w.heap.size c v _ HLd.out.is HLd.out.old.size k hup X false HXV.out).mono ?_
        rintro e w5 ⟨rfl, hb5⟩
        have HL5 := Lib.hid (HLd.out.later hb5)
        have HX5 := Lib.hid (HXd.out.later hb5)
        have HB5 := Lib.hid hb5
        have HPa := Lib.hid (show w5.cell? ⟨w.heap.size, 0, none⟩ = some (.int .i64 c.ins) ∧ w5.cell? ⟨w.heap.size, 1, none⟩ = some (.int .i64 c.outs) ∧ w5.cell? ⟨w.heap.size, 2, none⟩ = some (.int .i64 c.slots) ∧ w5.cell? ⟨w.heap.size, 3, none⟩ = some (.int .i64 c.crosses) ∧ w5.cell? ⟨w.heap.size, 4, none⟩ = some (.int .i64 c.lines) ∧ w5.cell? ⟨w.heap.size, 5, none⟩ = some (.slice v.mems.1 v.mems.2.1 v.mems.2.2) ∧ w5.cell? ⟨w.heap.size, 6, none⟩ = some (.slice v.conts.1 v.conts.2.1 v.conts.2.2) ∧ w5.cell? ⟨w.heap.size, 7, none⟩ = some (.slice v.step.1 v.step.2.1 v.step.2.2) ∧ w5.cell? ⟨w.heap.size, 8, none⟩ = some (.slice v.deriv.1 v.deriv.2.1 v.deriv.2.2) ∧ w5.cell? ⟨w.heap.size, 9, none⟩ = some (.slice v.cross.1 v.cross.2.1 v.cross.2.2) ∧ w5.cell? ⟨W1.heap.size, 2, none⟩ = some (.slice (some ⟨g, off, none⟩) a.2.1 a.2.2) ∧ w5.cell? ⟨g, off + j, none⟩ = some (.int .i64 X) from ⟨HL5.out.blk.cell 0 rfl, HL5.out.blk.cell 1 rfl, HL5.out.blk.cell 2 rfl, HL5.out.blk.cell 3 rfl, HL5.out.blk.cell 4 rfl, HL5.out.blk.cell 5 rfl, HL5.out.blk.cell 6 rfl, HL5.out.blk.cell 7 rfl, HL5.out.blk.cell 8 rfl, HL5.out.blk.cell 9 rfl, by rw [← hab.out]; exact HX5.out.cell 2 rfl, (hb5.cell HGW.out).trans HP.out.2.2.2.2.2.2.2.2.2.2.2⟩)
        clear hb5
        refine hK.out _ _ HPa.out (fun hHeld => ?_)
        clear hK K
        try simp only [Act.put, List.setIfInBounds_toArray, List.set_cons_zero, List.set_cons_succ]
        refine takeH 27 117 ?_ (by kernel_rfl) (by kernel_rfl) (by kernel_rfl) (by kernel_rfl) (fun _ _ _ h => h) (by kernel_rfl) (fun o ho w hSw => ?_) (by assumption) ?_
        rotate_left
        · (simp only [List.getElem?_toArray, List.getElem?_cons_succ, List.getElem?_cons_zero, Option.some.injEq] at ho; subst ho; (try dsimp only at hSw); go_simp; try with_reducible rfl)
        try simp only [Act.put, List.setIfInBounds_toArray, List.set_cons_zero, List.set_cons_succ]
        refine takeH 28 118 ?_ (by kernel_rfl) (by kernel_rfl) (by kernel_rfl) (by kernel_rfl) (fun _ _ _ h => h) (by kernel_rfl) (fun o ho w hSw => ?_) (by assumption) ?_
        rotate_left
        · (simp only [List.getElem?_toArray, List.getElem?_cons_succ, List.getElem?_cons_zero, Option.some.injEq] at ho; subst ho; (try dsimp only at hSw); go_simp; try with_reducible rfl)
        try simp only [Act.put, List.setIfInBounds_toArray, List.set_cons_zero, List.set_cons_succ]
        refine takeH 29 119 ?_ (by kernel_rfl) (by kernel_rfl) (by kernel_rfl) (by kernel_rfl) (fun _ _ _ h => h) (by kernel_rfl) (fun o ho w hSw => ?_) (by assumption) ?_
        rotate_left
        · (simp only [List.getElem?_toArray, List.getElem?_cons_succ, List.getElem?_cons_zero, Option.some.injEq] at ho; subst ho; (try dsimp only at hSw); go_simp; try with_reducible rfl)
        try simp only [Act.put, List.setIfInBounds_toArray, List.set_cons_zero, List.set_cons_succ]
        refine wpAnyH_done (by kernel_rfl) ?_ _
        go_wp2
        go_ret
        exact ⟨ret_bool' (by rw [HV.out, split_no HIWq.out.1 hlt (by rw [if_neg HJS.out, ← HXE.out]; exact HXW.out)]; simp), HL5.out.old⟩
      | true =>
        have HXV : Hid (wrB c.lines (lTo (c.cross.take k)) X = true) := Lib.hid (hv0)
        have HXW := Lib.hid hv0
        clear hv0
        go_wp2
        refine wp_region_held_drew (S := fun w' => w'.cell? ⟨w.heap.size, 0, none⟩ = some (.int .i64 c.ins) ∧ w'.cell? ⟨w.heap.size, 1, none⟩ = some (.int .i64 c.outs) ∧ w'.cell? ⟨w.heap.size, 2, none⟩ = some (.int .i64 c.slots) ∧ w'.cell? ⟨w.heap.size, 3, none⟩ = some (.int .i64 c.crosses) ∧ w'.cell? ⟨w.heap.size, 4, none⟩ = some (.int .i64 c.lines) ∧ w'.cell? ⟨w.heap.size, 5, none⟩ = some (.slice v.mems.1 v.mems.2.1 v.mems.2.2) ∧ w'.cell? ⟨w.heap.size, 6, none⟩ = some (.slice v.conts.1 v.conts.2.1 v.conts.2.2) ∧ w'.cell? ⟨w.heap.size, 7, none⟩ = some (.slice v.step.1 v.step.2.1 v.step.2.2) ∧ w'.cell? ⟨w.heap.size, 8, none⟩ = some (.slice v.deriv.1 v.deriv.2.1 v.deriv.2.2) ∧ w'.cell? ⟨w.heap.size, 9, none⟩ = some (.slice v.cross.1 v.cross.2.1 v.cross.2.2) ∧ w'.cell? ⟨W1.heap.size, 2, none⟩ = some (.slice (some ⟨g, off, none⟩) a.2.1 a.2.2) ∧ w'.cell? ⟨g, off + j, none⟩ = some (.int .i64 X)) (by kernel_rfl) HP.out (fun hHeld => ?_)
        refine takeH 0 90 ?_ (by kernel_rfl) (by kernel_rfl) (by kernel_rfl) (by kernel_rfl) (fun _ _ _ h => h) (by kernel_rfl) (fun o ho w hSw => ?_) (by assumption) ?_
        rotate_left
        · (simp only [List.getElem?_toArray, List.getElem?_cons_succ, List.getElem?_cons_zero, Option.some.injEq] at ho; subst ho; (try dsimp only at hSw); go_simp; try with_reducible rfl)
        try simp only [Act.put, List.setIfInBounds_toArray, List.set_cons_zero, List.set_cons_succ]
        refine takeH 1 91 ?_ (by kernel_rfl) (by kernel_rfl) (by kernel_rfl) (by kernel_rfl) (fun _ _ _ h => h) (by kernel_rfl) (fun o ho w hSw => ?_) (by assumption) ?_
        rotate_left
        · (simp only [List.getElem?_toArray, List.getElem?_cons_succ, List.getElem?_cons_zero, Option.some.injEq] at ho; subst ho; (try dsimp only at hSw); go_simp; try with_reducible rfl)
        try simp only [Act.put, List.setIfInBounds_toArray, List.set_cons_zero, List.set_cons_succ]
        refine takeH 2 92 ?_ (by kernel_rfl) (by kernel_rfl) (by kernel_rfl) (by kernel_rfl) (fun _ _ _ h => h) (by kernel_rfl) (fun o ho w hSw => ?_) (by assumption) ?_
        rotate_left
        · (simp only [List.getElem?_toArray, List.getElem?_cons_succ, List.getElem?_cons_zero, Option.some.injEq] at ho; subst ho; (try dsimp only at hSw); go_simp; try with_reducible rfl)
        try simp only [Act.put, List.setIfInBounds_toArray, List.set_cons_zero, List.set_cons_succ]
        refine takeH 3 93 ?_ (by kernel_rfl) (by kernel_rfl) (by kernel_rfl) (by kernel_rfl) (fun _ _ _ h => h) (by kernel_rfl) (fun o ho w hSw => ?_) (by assumption) ?_
        rotate_left
        · (simp only [List.getElem?_toArray, List.getElem?_cons_succ, List.getElem?_cons_zero, Option.some.injEq] at ho; subst ho; (try dsimp only at hSw); go_simp; try with_reducible rfl)
        try simp only [Act.put, List.setIfInBounds_toArray, List.set_cons_zero, List.set_cons_succ]
        refine skipH 4 94 (by kernel_rfl) (by kernel_rfl) (by kernel_rfl) (by kernel_rfl) (fun _ _ _ h => h) (by kernel_rfl) (by assumption) ?_
        try simp only [Act.put, List.setIfInBounds_toArray, List.set_cons_zero, List.set_cons_succ]
        refine skipH 5 95 (by kernel_rfl) (by kernel_rfl) (by kernel_rfl) (by kernel_rfl) (fun _ _ _ h => h) (by kernel_rfl) (by assumption) ?_
        try simp only [Act.put, List.setIfInBounds_toArray, List.set_cons_zero, List.set_cons_succ]
        refine skipH 6 96 (by kernel_rfl) (by kernel_rfl) (by kernel_rfl) (by kernel_rfl) (fun _ _ _ h => h) (by kernel_rfl) (by assumption) ?_
        try simp only [Act.put, List.setIfInBounds_toArray, List.set_cons_zero, List.set_cons_succ]
        refine skipH 7 97 (by kernel_rfl) (by kernel_rfl) (by kernel_rfl) (by kernel_rfl) (fun _ _ _ h => h) (by kernel_rfl) (by assumption) ?_
        try simp only [Act.put, List.setIfInBounds_toArray, List.set_cons_zero, List.set_cons_succ]
        refine skipH 8 98 (by kernel_rfl) (by kernel_rfl) (by kernel_rfl) (by kernel_rfl) (fun _ _ _ h => h) (by kernel_rfl) (by assumption) ?_
        try simp only [Act.put, List.setIfInBounds_toArray, List.set_cons_zero, List.set_cons_succ]
        refine skipH 9 99 (by kernel_rfl) (by kernel_rfl) (by kernel_rfl) (by kernel_rfl) (fun _ _ _ h => h) (by kernel_rfl) (by assumption) ?_
        try simp only [Act.put, List.setIfInBounds_toArray, List.set_cons_zero, List.set_cons_succ]
        refine skipH 10 100 (by kernel_rfl) (by kernel_rfl) (by kernel_rfl) (by kernel_rfl) (fun _ _ _ h => h) (by kernel_rfl) (by assumption) ?_
        try simp only [Act.put, List.setIfInBounds_toArray, List.set_cons_zero, List.set_cons_succ]
        refine skipH 11 101 (by kernel_rfl) (by kernel_rfl) (by kernel_rfl) (by kernel_rfl) (fun _ _ _ h => h) (by kernel_rfl) (by assumption) ?_
        try simp only [Act.put, List.setIfInBounds_toArray, List.set_cons_zero, List.set_cons_succ]
        refine skipH 12 102 (by kernel_rfl) (by kernel_rfl) (by kernel_rfl) (by kernel_rfl) (fun _ _ _ h => h) (by kernel_rfl) (by assumption) ?_
        try simp only [Act.put, List.setIfInBounds_toArray, List.set_cons_zero, List.set_cons_succ]
        refine takeH 13 103 ?_ (by kernel_rfl) (by kernel_rfl) (by kernel_rfl) (by kernel_rfl) (fun _ _ _ h => h) (by kernel_rfl) (fun o ho w hSw => ?_) (by assumption) ?_
        rotate_left
        · (simp only [List.getElem?_toArray, List.getElem?_cons_succ, List.getElem?_cons_zero, Option.some.injEq] at ho; subst ho; (try dsimp only at hSw); go_simp; try with_reducible rfl)
        try simp only [Act.put, List.setIfInBounds_toArray, List.set_cons_zero, List.set_cons_succ]
        refine takeH 14 104 ?_ (by kernel_rfl) (by kernel_rfl) (by kernel_rfl) (by kernel_rfl) (fun _ _ _ h => h) (by kernel_rfl) (fun o ho w hSw => ?_) (by assumption) ?_
        rotate_left
        · (simp only [List.getElem?_toArray, List.getElem?_cons_succ, List.getElem?_cons_zero, Option.some.injEq] at ho; subst ho; (try dsimp only at hSw); go_simp; try with_reducible rfl)
        try simp only [Act.put, List.setIfInBounds_toArray, List.set_cons_zero, List.set_cons_succ]
        refine takeH 15 105 ?_ (by kernel_rfl) (by kernel_rfl) (by kernel_rfl) (by kernel_rfl) (fun _ _ _ h => h) (by kernel_rfl) (fun o ho w hSw => ?_) (by assumption) ?_
        rotate_left
        · (simp only [List.getElem?_toArray, List.getElem?_cons_succ, List.getElem?_cons_zero, Option.some.injEq] at ho; subst ho; (try dsimp only at hSw); go_simp; try with_reducible rfl)
        try simp only [Act.put, List.setIfInBounds_toArray, List.set_cons_zero, List.set_cons_succ]
        refine takeH 16 106 ?_ (by kernel_rfl) (by kernel_rfl) (by kernel_rfl) (by kernel_rfl) (fun _ _ _ h => h) (by kernel_rfl) (fun o ho w hSw => ?_) (by assumption) ?_
        rotate_left
        · (simp only [List.getElem?_toArray, List.getElem?_cons_succ, List.getElem?_cons_zero, Option.some.injEq] at ho; subst ho; (try dsimp only at hSw); go_simp; try with_reducible rfl)
        try simp only [Act.put, List.setIfInBounds_toArray, List.set_cons_zero, List.set_cons_succ]
        refine takeH 17 107 ?_ (by kernel_rfl) (by kernel_rfl) (by kernel_rfl) (by kernel_rfl) (fun _ _ _ h => h) (by kernel_rfl) (fun o ho w hSw => ?_) (by assumption) ?_
        rotate_left
        · (simp only [List.getElem?_toArray, List.getElem?_cons_succ, List.getElem?_cons_zero, Option.some.injEq] at ho; subst ho; (try dsimp only at hSw); go_simp; try with_reducible rfl)
        try simp only [Act.put, List.setIfInBounds_toArray, List.set_cons_zero, List.set_cons_succ]
        refine takeH 18 108 ?_ (by kernel_rfl) (by kernel_rfl) (by kernel_rfl) (by kernel_rfl) (fun _ _ _ h => h) (by kernel_rfl) (fun o ho w hSw => ?_) (by assumption) ?_
        rotate_left
        · (simp only [List.getElem?_toArray, List.getElem?_cons_succ, List.getElem?_cons_zero, Option.some.injEq] at ho; subst ho; (try dsimp only at hSw); go_simp; try with_reducible rfl)
        try simp only [Act.put, List.setIfInBounds_toArray, List.set_cons_zero, List.set_cons_succ]
        refine takeH 19 109 ?_ (by kernel_rfl) (by kernel_rfl) (by kernel_rfl) (by kernel_rfl) (fun _ _ _ h => h) (by kernel_rfl) (fun o ho w hSw => ?_) (by assumption) ?_
        rotate_left
        · (simp only [List.getElem?_toArray, List.getElem?_cons_succ, List.getElem?_cons_zero, Option.some.injEq] at ho; subst ho; (try dsimp only at hSw); go_simp; try with_reducible rfl)
        try simp only [Act.put, List.setIfInBounds_toArray, List.set_cons_zero, List.set_cons_succ]
        refine takeH 20 110 ?_ (by kernel_rfl) (by kernel_rfl) (by kernel_rfl) (by kernel_rfl) (fun _ _ _ h => h) (by kernel_rfl) (fun o ho w hSw => ?_) (by assumption) ?_
        rotate_left
        · (simp only [List.getElem?_toArray, List.getElem?_cons_succ, List.getElem?_cons_zero, Option.some.injEq] at ho; subst ho; (try dsimp only at hSw); go_simp; try with_reducible rfl)
        try simp only [Act.put, List.setIfInBounds_toArray, List.set_cons_zero, List.set_cons_succ]
        refine takeH 21 111 ?_ (by kernel_rfl) (by kernel_rfl) (by kernel_rfl) (by kernel_rfl) (fun _ _ _ h => h) (by kernel_rfl) (fun o ho w hSw => ?_) (by assumption) ?_
        rotate_left
        · (simp only [List.getElem?_toArray, List.getElem?_cons_succ, List.getElem?_cons_zero, Option.some.injEq] at ho; subst ho; (try dsimp only at hSw); go_simp; try with_reducible rfl)
        try simp only [Act.put, List.setIfInBounds_toArray, List.set_cons_zero, List.set_cons_succ]
        refine takeH 22 112 ?_ (by kernel_rfl) (by kernel_rfl) (by kernel_rfl) (by kernel_rfl) (fun _ _ _ h => h) (by kernel_rfl) (fun o ho w hSw => ?_) (by assumption) ?_
        rotate_left
        · (simp only [List.getElem?_toArray, List.getElem?_cons_succ, List.getElem?_cons_zero, Option.some.injEq] at ho; subst ho; (try dsimp only at hSw); go_simp; try with_reducible rfl)
        try simp only [Act.put, List.setIfInBounds_toArray, List.set_cons_zero, List.set_cons_succ]
        refine takeH 23 113 ?_ (by kernel_rfl) (by kernel_rfl) (by kernel_rfl) (by kernel_rfl) (fun _ _ _ h => h) (by kernel_rfl) (fun o ho w hSw => ?_) (by assumption) ?_
        rotate_left
        · (simp only [List.getElem?_toArray, List.getElem?_cons_succ, List.getElem?_cons_zero, Option.some.injEq] at ho; subst ho; (try dsimp only at hSw); go_simp; try with_reducible rfl)
        try simp only [Act.put, List.setIfInBounds_toArray, List.set_cons_zero, List.set_cons_succ]
        refine takeH 24 114 ?_ (by kernel_rfl) (by kernel_rfl) (by kernel_rfl) (by kernel_rfl) (fun _ _ _ h => h) (by kernel_rfl) (fun o ho w hSw => ?_) (by assumption) ?_
        rotate_left
        · (simp only [List.getElem?_toArray, List.getElem?_cons_succ, List.getElem?_cons_zero, Option.some.injEq] at ho; subst ho; (try dsimp only at hSw); go_simp; try with_reducible rfl)
        try simp only [Act.put, List.setIfInBounds_toArray, List.set_cons_zero, List.set_cons_succ]
        refine takeH 25 115 ?_ (by kernel_rfl) (by kernel_rfl) (by kernel_rfl) (by kernel_rfl) (fun _ _ _ h => h) (by kernel_rfl) (fun o ho w hSw => ?_) (by assumption) ?_
        rotate_left
        · (simp only [List.getElem?_toArray, List.getElem?_cons_succ, List.getElem?_cons_zero, Option.some.injEq] at ho; subst ho; (try dsimp only at hSw); go_simp; try with_reducible rfl)
        try simp only [Act.put, List.setIfInBounds_toArray, List.set_cons_zero, List.set_cons_succ]
        refine callH 26 (by kernel_rfl) (by kernel_rfl) (fun o ho K hK => ?_)
        simp only [List.getElem?_toArray, List.getElem?_cons_succ, List.getElem?_cons_zero, Option.some.injEq] at ho; subst ho
        rw [if_pos (by rfl)]
        go_simp
        go_at_call 50
        with_reducible refine (line_r w.heap.size c v _ HLd.out.is HLd.out.old.size k hup X true HXV.out).mono ?_
        rintro e w5 ⟨rfl, hb5⟩
        have HL5 := Lib.hid (HLd.out.later hb5)
        have HX5 := Lib.hid (HXd.out.later hb5)
        have HB5 := Lib.hid hb5
        have HPa := Lib.hid (show w5.cell? ⟨w.heap.size, 0, none⟩ = some (.int .i64 c.ins) ∧ w5.cell? ⟨w.heap.size, 1, none⟩ = some (.int .i64 c.outs) ∧ w5.cell? ⟨w.heap.size, 2, none⟩ = some (.int .i64 c.slots) ∧ w5.cell? ⟨w.heap.size, 3, none⟩ = some (.int .i64 c.crosses) ∧ w5.cell? ⟨w.heap.size, 4, none⟩ = some (.int .i64 c.lines) ∧ w5.cell? ⟨w.heap.size, 5, none⟩ = some (.slice v.mems.1 v.mems.2.1 v.mems.2.2) ∧ w5.cell? ⟨w.heap.size, 6, none⟩ = some (.slice v.conts.1 v.conts.2.1 v.conts.2.2) ∧ w5.cell? ⟨w.heap.size, 7, none⟩ = some (.slice v.step.1 v.step.2.1 v.step.2.2) ∧ w5.cell? ⟨w.heap.size, 8, none⟩ = some (.slice v.deriv.1 v.deriv.2.1 v.deriv.2.2) ∧ w5.cell? ⟨w.heap.size, 9, none⟩ = some (.slice v.cross.1 v.cross.2.1 v.cross.2.2) ∧ w5.cell? ⟨W1.heap.size, 2, none⟩ = some (.slice (some ⟨g, off, none⟩) a.2.1 a.2.2) ∧ w5.cell? ⟨g, off + j, none⟩ = some (.int .i64 X) from ⟨HL5.out.blk.cell 0 rfl, HL5.out.blk.cell 1 rfl, HL5.out.blk.cell 2 rfl, HL5.out.blk.cell 3 rfl, HL5.out.blk.cell 4 rfl, HL5.out.blk.cell 5 rfl, HL5.out.blk.cell 6 rfl, HL5.out.blk.cell 7 rfl, HL5.out.blk.cell 8 rfl, HL5.out.blk.cell 9 rfl, by rw [← hab.out]; exact HX5.out.cell 2 rfl, (hb5.cell HGW.out).trans HP.out.2.2.2.2.2.2.2.2.2.2.2⟩)
        clear hb5
        refine hK.out _ _ HPa.out (fun hHeld => ?_)
        clear hK K
        try simp only [Act.put, List.setIfInBounds_toArray, List.set_cons_zero, List.set_cons_succ]
        refine takeH 27 117 ?_ (by kernel_rfl) (by kernel_rfl) (by kernel_rfl) (by kernel_rfl) (fun _ _ _ h => h) (by kernel_rfl) (fun o ho w hSw => ?_) (by assumption) ?_
        rotate_left
        · (simp only [List.getElem?_toArray, List.getElem?_cons_succ, List.getElem?_cons_zero, Option.some.injEq] at ho; subst ho; (try dsimp only at hSw); go_simp; try with_reducible rfl)
        try simp only [Act.put, List.setIfInBounds_toArray, List.set_cons_zero, List.set_cons_succ]
        refine takeH 28 118 ?_ (by kernel_rfl) (by kernel_rfl) (by kernel_rfl) (by kernel_rfl) (fun _ _ _ h => h) (by kernel_rfl) (fun o ho w hSw => ?_) (by assumption) ?_
        rotate_left
        · (simp only [List.getElem?_toArray, List.getElem?_cons_succ, List.getElem?_cons_zero, Option.some.injEq] at ho; subst ho; (try dsimp only at hSw); go_simp; try with_reducible rfl)
        try simp only [Act.put, List.setIfInBounds_toArray, List.set_cons_zero, List.set_cons_succ]
        refine takeH 29 119 ?_ (by kernel_rfl) (by kernel_rfl) (by kernel_rfl) (by kernel_rfl) (fun _ _ _ h => h) (by kernel_rfl) (fun o ho w hSw => ?_) (by assumption) ?_
        rotate_left
        · (simp only [List.getElem?_toArray, List.getElem?_cons_succ, List.getElem?_cons_zero, Option.some.injEq] at ho; subst ho; (try dsimp only at hSw); go_simp; try with_reducible rfl)
        try simp only [Act.put, List.setIfInBounds_toArray, List.set_cons_zero, List.set_cons_succ]
        refine wpAnyH_done (by kernel_rfl) ?_ _
        go_wp2
        go_roundw
        case rel => exact ⟨j + 1, by omega, by go_num, Lib.hid (fun i hi => by
          rcases Nat.lt_or_ge i j with q | q
          · exact HA.out i q
          · obtain rfl : i = j := by omega
            rw [if_neg HJS.out, ← HXE.out]; exact HXW.out), Lib.hid (HBr.out.drew.trans (HB5.out.mono HBr.out.size))⟩
        case measure => simp [intOf]; omega
    · obtain rfl : j = a.2.1 := by omega
      have HSP := Lib.hid (split_yes HIW.out.args.1 HA.out)
      go_wp2
      go_ret
      exact ⟨ret_bool' (by rw [HV.out, HN.out, HPK.out, HGE.out, HR0.out, HSP.out.1, HSP.out.2, HDD.out]; rfl), HLq.out.old⟩
set_option maxHeartbeats 4000000 in
theorem x6_ask (B : Nat) (c : CodeM) (v : CodeV) (w : World) (h : CodeIs w B c v) (hB : B ≤ w.heap.size) (hok : OkS c v.step.2.1) (k : Nat) (hup : k ≤ v.cross.2.1) (x : InsP) (hx : c.cross[k]? = some x) (hsz : x.args.length ≤ 20 ∧ x.resets.length ≤ 20) (h0 : x.resets.length = 0) (hg : gdB c.slots (wTo c.step) x.guard = true) (hop : x.op = bs [97, 115, 107]) : Calls Try.prog 26 #[.agg #[.int .i64 c.ins, .int .i64 c.outs, .int .i64 c.slots, .int .i64 c.crosses, .int .i64 c.lines, .slice v.mems.1 v.mems.2.1 v.mems.2.2, .slice v.conts.1 v.conts.2.1 v.conts.2.2, .slice v.step.1 v.step.2.1 v.step.2.2, .slice v.deriv.1 v.deriv.2.1 v.deriv.2.2, .slice v.cross.1 v.cross.2.1 v.cross.2.2], .int .i64 (k : Nat)] w fun e w' => e = .returned (.bool (crB c (wTo c.step) (lTo (c.cross.take k)) x)) ∧ Below w.heap.size w w' := by
  obtain ⟨W1, hW1⟩ : ∃ W1, W1 = w.alloc (.cells #[.int .i64 c.ins, .int .i64 c.outs, .int .i64 c.slots, .int .i64 c.crosses, .int .i64 c.lines, .slice v.mems.1 v.mems.2.1 v.mems.2.2, .slice v.conts.1 v.conts.2.1 v.conts.2.2, .slice v.step.1 v.step.2.1 v.step.2.2, .slice v.deriv.1 v.deriv.2.1 v.deriv.2.2, .slice v.cross.1 v.cross.2.1 v.cross.2.2] 25) := ⟨_, rfl⟩
  have HL := Lib.hid (show LwSt w c v W1 from by rw [hW1]; exact LwSt.start (h.more hB))
  have HWE := Lib.hid (wTo_all2 (c := c) h.step.1)
  clear h hB
  have HRL := Lib.hid h0
  clear h0
  have HOP := Lib.hid hop
  clear hop
  have HOK := Lib.hid hok
  have HSZ := Lib.hid hsz
  obtain ⟨bb, off, ha, hbl, hat⟩ := HL.out.is.cross.at_ hx
  obtain ⟨a, m, d, r, hiw, _, _, _, x0, x1, x2, x3, x4, x5, x6, x7, x8, x9, x10⟩ := hat.cells
  have hkl : k < v.cross.2.1 := by rw [← HL.out.is.cross.1]; exact (List.getElem?_eq_some_iff.1 hx).1
  have hkI : (k : Int) < (v.cross.2.1 : Int) := by omega
  have hm := HL.out.is.cross.len_le
  have hm1 := HL.out.is.step.len_le
  have hm2 := HL.out.is.conts.len_le
  unfold maxLen at hm hm1 hm2
  obtain ⟨W2, hW2⟩ : ∃ W2, W2 = W1.alloc (.cells #[.string x.op, .int .i64 x.dst, .slice a.1 a.2.1 a.2.2, .int .i64 x.k, .int .i64 x.lit.kind, .bool x.lit.neg, .slice m.1 m.2.1 m.2.2, .slice d.1 d.2.1 d.2.2, .string x.lit.name, .int .i64 x.guard, .slice r.1 r.2.1 r.2.2] 52) := ⟨_, rfl⟩
  have hb2 : Below W1.heap.size W1 W2 := by rw [hW2]; exact (Below.refl _ _).alloc (Nat.le_refl _) _
  have HX := Lib.hid (show Blk W2 W1.heap.size 52 (ics x a m d r) from by rw [hW2]; exact Blk.new _ _ _)
  have HIW := Lib.hid (hiw.keep (hb2.mono HL.out.old.size))
  have HIW0 := Lib.hid hiw
  have HIS0 := Lib.hid HL.out.is
  have hb1 : bb < W1.heap.size := Nat.lt_of_lt_of_le hbl HL.out.old.size
  obtain ⟨n0, n1, n2, n3, n4, n5, n6, n7, n8, n9⟩ := HL.out.blk.code
  rw [ha] at n9
  clear ha hok hsz hx hiw hat hbl
  go_enter Try.func26, Try.ntmps26
  go_upto_region 1 with fail
  rw [← hW1]
  clear hW1
  go_upto_region 2 with fail
  rw [← hW2]
  clear hW2 n0 n1 n2 n3 n4 n5 n6 n7 n8 n9 x0 x1 x2 x3 x4 x5 x6 x7 x8 x9 x10
  have HL := Lib.hid (HL.out.later hb2)
  clear hb2
  obtain ⟨n0, n1, n2, n3, n4, n5, n6, n7, n8, n9⟩ := HL.out.blk.code
  obtain ⟨p0, p1, p2, p3, p4, p5, p6, p7, p8, p9, p10⟩ := HX.out.elev
  have hq0 := HX.out.lt
  have hna : a.2.1 ≤ 20 := by rw [← HIW.out.args.1]; exact HSZ.out.1
  have hnr : r.2.1 ≤ 20 := by rw [← HIW.out.resets.1]; exact HSZ.out.2
  have hr1 : (r.2.1 : Int) = 0 := by have := HIW0.out.resets.1; have := HRL.out; omega
  have HR0 := Lib.hid (show decide (r.2.1 = 0) = true from decide_eq_true (by omega))
  have HG : Hid (gdB c.slots (wTo (c.step.take v.step.2.1)) x.guard = true) := Lib.hid (by rw [HWE.out]; exact hg)
  have HGE := Lib.hid hg
  clear hg
  have HNL : Hid (nLn x.op = some (0, 1)) := Lib.hid (by rw [HOP.out]; rfl)
  have HV := Lib.hid (crB_eq (W := (wTo c.step)) (L := (lTo (c.cross.take k))) HNL.out HIS0.out HIW0.out)
  have g4 : (x.op.toList == [97, 115, 107]) = true := by rw [HOP.out, Lib.toList_data]; rfl
  have HDD : Hid ((decide (x.op = opAsk) || inB x.dst c.lines) = true) := Lib.hid (by rw [HOP.out]; rfl)
  go_upto_region 7 with (first | (go_at_call 46; (with_reducible refine (guard_r w.heap.size c v _ HL.out.is HL.out.old.size v.step.2.1 (Nat.le_refl _) HOK.out x.guard true HG.out).mono ?_); rintro e w2 ⟨rfl, hb2⟩; have HIW := Lib.hid (HIW.out.keep (hb2.mono HL.out.old.size)); have HL := Lib.hid (HL.out.later hb2); have HX := Lib.hid (HX.out.later hb2); clear hb2 n0 n1 n2 n3 n4 n5 n6 n7 n8 n9 p0 p1 p2 p3 p4 p5 p6 p7 p8 p9 p10 hq0; obtain ⟨n0, n1, n2, n3, n4, n5, n6, n7, n8, n9⟩ := HL.out.blk.code; obtain ⟨p0, p1, p2, p3, p4, p5, p6, p7, p8, p9, p10⟩ := HX.out.elev; have hq0 := HX.out.lt))
  rw [HOP.out, show bs [97, 115, 107] = (⟨#[97, 115, 107]⟩ : ByteArray) from rfl] at p0
  clear g4
  have HPE : Hid (plK x.op x.k c.ins c.outs v.mems.2.1 v.conts.2.1 c.crosses = inB x.k c.crosses) := Lib.hid (by rw [HOP.out]; rfl)
  cases hki : inB x.k c.crosses with
  | false =>
    have HKI := Lib.hid hki
    have HPK := Lib.hid (HPE.out.trans hki)
    clear hki
    go_wp2_with (go_at_call 48; (with_reducible refine (in_t x.k c.crosses false _ HKI.out).mono ?_); rintro e w9 ⟨rfl, rfl⟩)
    go_ret
    exact ⟨ret_bool' (by rw [HV.out, HPK.out]; simp), HL.out.old⟩
  | true =>
  have HKI := Lib.hid hki
  have HPK := Lib.hid (HPE.out.trans hki)
  clear hki
  by_cases hn : a.2.1 = 0 + 1
  rotate_left
  · have HN := Lib.hid (decide_eq_false hn)
    have g7 : ((a.2.1 : Int) == 1) = false := by rw [beq_eq_false_iff_ne]; omega
    have g8 : ¬ (a.2.1 : Int) = 1 := by omega
    go_wp2_with (go_at_call 48; (with_reducible refine (in_t x.k c.crosses true _ HKI.out).mono ?_); rintro e w9 ⟨rfl, rfl⟩)
    go_ret
    exact ⟨ret_bool' (by rw [HV.out, HN.out]; simp), HL.out.old⟩
  have HN := Lib.hid (decide_eq_true hn)
  have g8 : (a.2.1 : Int) = 1 := by omega
  go_upto_region 33 with (go_at_call 48; (with_reducible refine (in_t x.k c.crosses true _ HKI.out).mono ?_); rintro e w9 ⟨rfl, rfl⟩)
  have HNE := Lib.hid hn
  clear g8 hn
  have hna2 : a.2.1 ≤ 20 := hna
  go_wp2_with fail
  obtain ⟨wz, rfl⟩ : ∃ wz : World, wz = w9 := ⟨_, rfl⟩
  go_loopw [10] (fun t wr => ∃ n : Nat, n ≤ a.2.1 ∧ t = .int .i64 n ∧ Hid (∀ j, j < n → (if j < 0 then wrB c.slots (wTo c.step) (x.args.getD j 0) else wrB c.lines (lTo (c.cross.take k)) (x.args.getD j 0)) = true) ∧ Hid (Below wz.heap.size wz wr)) (fun t _ => a.2.1 - (intOf t).toNat)
  case atStart => exact ⟨0, Nat.zero_le _, rfl, Lib.hid (fun j hj => by omega), Lib.hid (Below.refl _ _)⟩
  case round =>
    obtain ⟨j, hj, rfl, HA, HBr⟩ := hrel
    have HLq := Lib.hid (HL.out.later HBr.out)
    have HXq := Lib.hid (HX.out.later HBr.out)
    clear p0 p1 p2 p3 p4 p5 p6 p7 p8 p9 p10 n0 n1 n2 n3 n4 n5 n6 n7 n8 n9 hq0
    have hq0 := HXq.out.lt
    by_cases hlt : j < a.2.1
    · have HIWq := Lib.hid (HIW.out.args.below (HBr.out.mono HL.out.old.size))
      obtain ⟨g, off, hga, hgl, hc0⟩ := HIWq.out.at_ hlt
      obtain ⟨X, hX⟩ : ∃ X, X = x.args.getD j 0 := ⟨_, rfl⟩
      rw [← hX] at hc0
      have HXE := Lib.hid hX
      have hab := Lib.hid hga
      have HLd := Lib.hid (HLq.out.later (Below.refl _ _).drew)
      have HXd := Lib.hid (HXq.out.later (Below.refl _ _).drew)
      have HGW : Hid (g < wr.drew.heap.size) := Lib.hid (Nat.lt_of_lt_of_le hgl HLq.out.old.size)
      have HP := Lib.hid (show wr.drew.cell? ⟨w.heap.size, 0, none⟩ = some (.int .i64 c.ins) ∧ wr.drew.cell? ⟨w.heap.size, 1, none⟩ = some (.int .i64 c.outs) ∧ wr.drew.cell? ⟨w.heap.size, 2, none⟩ = some (.int .i64 c.slots) ∧ wr.drew.cell? ⟨w.heap.size, 3, none⟩ = some (.int .i64 c.crosses) ∧ wr.drew.cell? ⟨w.heap.size, 4, none⟩ = some (.int .i64 c.lines) ∧ wr.drew.cell? ⟨w.heap.size, 5, none⟩ = some (.slice v.mems.1 v.mems.2.1 v.mems.2.2) ∧ wr.drew.cell? ⟨w.heap.size, 6, none⟩ = some (.slice v.conts.1 v.conts.2.1 v.conts.2.2) ∧ wr.drew.cell? ⟨w.heap.size, 7, none⟩ = some (.slice v.step.1 v.step.2.1 v.step.2.2) ∧ wr.drew.cell? ⟨w.heap.size, 8, none⟩ = some (.slice v.deriv.1 v.deriv.2.1 v.deriv.2.2) ∧ wr.drew.cell? ⟨w.heap.size, 9, none⟩ = some (.slice v.cross.1 v.cross.2.1 v.cross.2.2) ∧ wr.drew.cell? ⟨W1.heap.size, 2, none⟩ = some (.slice (some ⟨g, off, none⟩) a.2.1 a.2.2) ∧ wr.drew.cell? ⟨g, off + j, none⟩ = some (.int .i64 X) from ⟨HLd.out.blk.cell 0 rfl, HLd.out.blk.cell 1 rfl, HLd.out.blk.cell 2 rfl, HLd.out.blk.cell 3 rfl, HLd.out.blk.cell 4 rfl, HLd.out.blk.cell 5 rfl, HLd.out.blk.cell 6 rfl, HLd.out.blk.cell 7 rfl, HLd.out.blk.cell 8 rfl, HLd.out.blk.cell 9 rfl, by rw [← hab.out]; exact HXd.out.cell 2 rfl, hc0⟩)
      have hjI : (j : Int) < (a.2.1 : Int) := by omega
      clear hX hga hgl hc0
      have hjI2 : (j : Int) < 1 := by have := HNE.out; omega
      have hjs : ¬ j < 0 := by omega
      have HJS := Lib.hid hjs
      have g5 : decide ((j : Int) < 0) = false := by rw [decide_eq_false_iff_not]; omega
      have g6 : decide ((0 : Int) ≤ (j : Int)) = true := by rw [decide_eq_true_eq]; omega
      cases hv0 : wrB c.lines (lTo (c.cross.take k)) X with
      | false =>
        have HXV : Hid (wrB c.lines (lTo (c.cross.take k)) X = false) := Lib.hid (hv0)
        have HXW := Lib.hid hv0
        clear hv0
        go_wp2
        refine wp_region_held_drew (S := fun w' => w'.cell? ⟨w.heap.size, 0, none⟩ = some (.int .i64 c.ins) ∧ w'.cell? ⟨w.heap.size, 1, none⟩ = some (.int .i64 c.outs) ∧ w'.cell? ⟨w.heap.size, 2, none⟩ = some (.int .i64 c.slots) ∧ w'.cell? ⟨w.heap.size, 3, none⟩ = some (.int .i64 c.crosses) ∧ w'.cell? ⟨w.heap.size, 4, none⟩ = some (.int .i64 c.lines) ∧ w'.cell? ⟨w.heap.size, 5, none⟩ = some (.slice v.mems.1 v.mems.2.1 v.mems.2.2) ∧ w'.cell? ⟨w.heap.size, 6, none⟩ = some (.slice v.conts.1 v.conts.2.1 v.conts.2.2) ∧ w'.cell? ⟨w.heap.size, 7, none⟩ = some (.slice v.step.1 v.step.2.1 v.step.2.2) ∧ w'.cell? ⟨w.heap.size, 8, none⟩ = some (.slice v.deriv.1 v.deriv.2.1 v.deriv.2.2) ∧ w'.cell? ⟨w.heap.size, 9, none⟩ = some (.slice v.cross.1 v.cross.2.1 v.cross.2.2) ∧ w'.cell? ⟨W1.heap.size, 2, none⟩ = some (.slice (some ⟨g, off, none⟩) a.2.1 a.2.2) ∧ w'.cell? ⟨g, off + j, none⟩ = some (.int .i64 X)) (by kernel_rfl) HP.out (fun hHeld => ?_)
        refine takeH 0 90 ?_ (by kernel_rfl) (by kernel_rfl) (by kernel_rfl) (by kernel_rfl) (fun _ _ _ h => h) (by kernel_rfl) (fun o ho w hSw => ?_) (by assumption) ?_
        rotate_left
        · (simp only [List.getElem?_toArray, List.getElem?_cons_succ, List.getElem?_cons_zero, Option.some.injEq] at ho; subst ho; (try dsimp only at hSw); go_simp; try with_reducible rfl)
        try simp only [Act.put, List.setIfInBounds_toArray, List.set_cons_zero, List.set_cons_succ]
        refine takeH 1 91 ?_ (by kernel_rfl) (by kernel_rfl) (by kernel_rfl) (by kernel_rfl) (fun _ _ _ h => h) (by kernel_rfl) (fun o ho w hSw => ?_) (by assumption) ?_
        rotate_left
        · (simp only [List.getElem?_toArray, List.getElem?_cons_succ, List.getElem?_cons_zero, Option.some.injEq] at ho; subst ho; (try dsimp only at hSw); go_simp; try with_reducible rfl)
        try simp only [Act.put, List.setIfInBounds_toArray, List.set_cons_zero, List.set_cons_succ]
        refine takeH 2 92 ?_ (by kernel_rfl) (by kernel_rfl) (by kernel_rfl) (by kernel_rfl) (fun _ _ _ h => h) (by kernel_rfl) (fun o ho w hSw => ?_) (by assumption) ?_
        rotate_left
        · (simp only [List.getElem?_toArray, List.getElem?_cons_succ, List.getElem?_cons_zero, Option.some.injEq] at ho; subst ho; (try dsimp only at hSw); go_simp; try with_reducible rfl)
        try simp only [Act.put, List.setIfInBounds_toArray, List.set_cons_zero, List.set_cons_succ]
        refine takeH 3 93 ?_ (by kernel_rfl) (by kernel_rfl) (by kernel_rfl) (by kernel_rfl) (fun _ _ _ h => h) (by kernel_rfl) (fun o ho w hSw => ?_) (by assumption) ?_
        rotate_left
        · (simp only [List.getElem?_toArray, List.getElem?_cons_succ, List.getElem?_cons_zero, Option.some.injEq] at ho; subst ho; (try dsimp only at hSw); go_simp; try with_reducible rfl)
        try simp only [Act.put, List.setIfInBounds_toArray, List.set_cons_zero, List.set_cons_succ]
        refine skipH 4 94 (by kernel_rfl) (by kernel_rfl) (by kernel_rfl) (by kernel_rfl) (fun _ _ _ h => h) (by kernel_rfl) (by assumption) ?_
        try simp only [Act.put, List.setIfInBounds_toArray, List.set_cons_zero, List.set_cons_succ]
        refine skipH 5 95 (by kernel_rfl) (by kernel_rfl) (by kernel_rfl) (by kernel_rfl) (fun _ _ _ h => h) (by kernel_rfl) (by assumption) ?_
        try simp only [Act.put, List.setIfInBounds_toArray, List.set_cons_zero, List.set_cons_succ]
        refine skipH 6 96 (by kernel_rfl) (by kernel_rfl) (by kernel_rfl) (by kernel_rfl) (fun _ _ _ h => h) (by kernel_rfl) (by assumption) ?_
        try simp only [Act.put, List.setIfInBounds_toArray, List.set_cons_zero, List.set_cons_succ]
        refine skipH 7 97 (by kernel_rfl) (by kernel_rfl) (by kernel_rfl) (by kernel_rfl) (fun _ _ _ h => h) (by kernel_rfl) (by assumption) ?_
        try simp only [Act.put, List.setIfInBounds_toArray, List.set_cons_zero, List.set_cons_succ]
        refine skipH 8 98 (by kernel_rfl) (by kernel_rfl) (by kernel_rfl) (by kernel_rfl) (fun _ _ _ h => h) (by kernel_rfl) (by assumption) ?_
        try simp only [Act.put, List.setIfInBounds_toArray, List.set_cons_zero, List.set_cons_succ]
        refine skipH 9 99 (by kernel_rfl) (by kernel_rfl) (by kernel_rfl) (by kernel_rfl) (fun _ _ _ h => h) (by kernel_rfl) (by assumption) ?_
        try simp only [Act.put, List.setIfInBounds_toArray, List.set_cons_zero, List.set_cons_succ]
        refine skipH 10 100 (by kernel_rfl) (by kernel_rfl) (by kernel_rfl) (by kernel_rfl) (fun _ _ _ h => h) (by kernel_rfl) (by assumption) ?_
        try simp only [Act.put, List.setIfInBounds_toArray, List.set_cons_zero, List.set_cons_succ]
        refine skipH 11 101 (by kernel_rfl) (by kernel_rfl) (by kernel_rfl) (by kernel_rfl) (fun _ _ _ h => h) (by kernel_rfl) (by assumption) ?_
        try simp only [Act.put, List.setIfInBounds_toArray, List.set_cons_zero, List.set_cons_succ]
        refine skipH 12 102 (by kernel_rfl) (by kernel_rfl) (by kernel_rfl) (by kernel_rfl) (fun _ _ _ h => h) (by kernel_rfl) (by assumption) ?_
        try simp only [Act.put, List.setIfInBounds_toArray, List.set_cons_zero, List.set_cons_succ]
        refine takeH 13 103 ?_ (by kernel_rfl) (by kernel_rfl) (by kernel_rfl) (by kernel_rfl) (fun _ _ _ h => h) (by kernel_rfl) (fun o ho w hSw => ?_) (by assumption) ?_
        rotate_left
        · (simp only [List.getElem?_toArray, List.getElem?_cons_succ, List.getElem?_cons_zero, Option.some.injEq] at ho; subst ho; (try dsimp only at hSw); go_simp; try with_reducible rfl)
        try simp only [Act.put, List.setIfInBounds_toArray, List.set_cons_zero, List.set_cons_succ]
        refine takeH 14 104 ?_ (by kernel_rfl) (by kernel_rfl) (by kernel_rfl) (by kernel_rfl) (fun _ _ _ h => h) (by kernel_rfl) (fun o ho w hSw => ?_) (by assumption) ?_
        rotate_left
        · (simp only [List.getElem?_toArray, List.getElem?_cons_succ, List.getElem?_cons_zero, Option.some.injEq] at ho; subst ho; (try dsimp only at hSw); go_simp; try with_reducible rfl)
        try simp only [Act.put, List.setIfInBounds_toArray, List.set_cons_zero, List.set_cons_succ]
        refine takeH 15 105 ?_ (by kernel_rfl) (by kernel_rfl) (by kernel_rfl) (by kernel_rfl) (fun _ _ _ h => h) (by kernel_rfl) (fun o ho w hSw => ?_) (by assumption) ?_
        rotate_left
        · (simp only [List.getElem?_toArray, List.getElem?_cons_succ, List.getElem?_cons_zero, Option.some.injEq] at ho; subst ho; (try dsimp only at hSw); go_simp; try with_reducible rfl)
        try simp only [Act.put, List.setIfInBounds_toArray, List.set_cons_zero, List.set_cons_succ]
        refine takeH 16 106 ?_ (by kernel_rfl) (by kernel_rfl) (by kernel_rfl) (by kernel_rfl) (fun _ _ _ h => h) (by kernel_rfl) (fun o ho w hSw => ?_) (by assumption) ?_
        rotate_left
        · (simp only [List.getElem?_toArray, List.getElem?_cons_succ, List.getElem?_cons_zero, Option.some.injEq] at ho; subst ho; (try dsimp only at hSw); go_simp; try with_reducible rfl)
        try simp only [Act.put, List.setIfInBounds_toArray, List.set_cons_zero, List.set_cons_succ]
        refine takeH 17 107 ?_ (by kernel_rfl) (by kernel_rfl) (by kernel_rfl) (by kernel_rfl) (fun _ _ _ h => h) (by kernel_rfl) (fun o ho w hSw => ?_) (by assumption) ?_
        rotate_left
        · (simp only [List.getElem?_toArray, List.getElem?_cons_succ, List.getElem?_cons_zero, Option.some.injEq] at ho; subst ho; (try dsimp only at hSw); go_simp; try with_reducible rfl)
        try simp only [Act.put, List.setIfInBounds_toArray, List.set_cons_zero, List.set_cons_succ]
        refine takeH 18 108 ?_ (by kernel_rfl) (by kernel_rfl) (by kernel_rfl) (by kernel_rfl) (fun _ _ _ h => h) (by kernel_rfl) (fun o ho w hSw => ?_) (by assumption) ?_
        rotate_left
        · (simp only [List.getElem?_toArray, List.getElem?_cons_succ, List.getElem?_cons_zero, Option.some.injEq] at ho; subst ho; (try dsimp only at hSw); go_simp; try with_reducible rfl)
        try simp only [Act.put, List.setIfInBounds_toArray, List.set_cons_zero, List.set_cons_succ]
        refine takeH 19 109 ?_ (by kernel_rfl) (by kernel_rfl) (by kernel_rfl) (by kernel_rfl) (fun _ _ _ h => h) (by kernel_rfl) (fun o ho w hSw => ?_) (by assumption) ?_
        rotate_left
        · (simp only [List.getElem?_toArray, List.getElem?_cons_succ, List.getElem?_cons_zero, Option.some.injEq] at ho; subst ho; (try dsimp only at hSw); go_simp; try with_reducible rfl)
        try simp only [Act.put, List.setIfInBounds_toArray, List.set_cons_zero, List.set_cons_succ]
        refine takeH 20 110 ?_ (by kernel_rfl) (by kernel_rfl) (by kernel_rfl) (by kernel_rfl) (fun _ _ _ h => h) (by kernel_rfl) (fun o ho w hSw => ?_) (by assumption) ?_
        rotate_left
        · (simp only [List.getElem?_toArray, List.getElem?_cons_succ, List.getElem?_cons_zero, Option.some.injEq] at ho; subst ho; (try dsimp only at hSw); go_simp; try with_reducible rfl)
        try simp only [Act.put, List.setIfInBounds_toArray, List.set_cons_zero, List.set_cons_succ]
        refine takeH 21 111 ?_ (by kernel_rfl) (by kernel_rfl) (by kernel_rfl) (by kernel_rfl) (fun _ _ _ h => h) (by kernel_rfl) (fun o ho w hSw => ?_) (by assumption) ?_
        rotate_left
        · (simp only [List.getElem?_toArray, List.getElem?_cons_succ, List.getElem?_cons_zero, Option.some.injEq] at ho; subst ho; (try dsimp only at hSw); go_simp; try with_reducible rfl)
        try simp only [Act.put, List.setIfInBounds_toArray, List.set_cons_zero, List.set_cons_succ]
        refine takeH 22 112 ?_ (by kernel_rfl) (by kernel_rfl) (by kernel_rfl) (by kernel_rfl) (fun _ _ _ h => h) (by kernel_rfl) (fun o ho w hSw => ?_) (by assumption) ?_
        rotate_left
        · (simp only [List.getElem?_toArray, List.getElem?_cons_succ, List.getElem?_cons_zero, Option.some.injEq] at ho; subst ho; (try dsimp only at hSw); go_simp; try with_reducible rfl)
        try simp only [Act.put, List.setIfInBounds_toArray, List.set_cons_zero, List.set_cons_succ]
        refine takeH 23 113 ?_ (by kernel_rfl) (by kernel_rfl) (by kernel_rfl) (by kernel_rfl) (fun _ _ _ h => h) (by kernel_rfl) (fun o ho w hSw => ?_) (by assumption) ?_
        rotate_left
        · (simp only [List.getElem?_toArray, List.getElem?_cons_succ, List.getElem?_cons_zero, Option.some.injEq] at ho; subst ho; (try dsimp only at hSw); go_simp; try with_reducible rfl)
        try simp only [Act.put, List.setIfInBounds_toArray, List.set_cons_zero, List.set_cons_succ]
        refine takeH 24 114 ?_ (by kernel_rfl) (by kernel_rfl) (by kernel_rfl) (by kernel_rfl) (fun _ _ _ h => h) (by kernel_rfl) (fun o ho w hSw => ?_) (by assumption) ?_
        rotate_left
        · (simp only [List.getElem?_toArray, List.getElem?_cons_succ, List.getElem?_cons_zero, Option.some.injEq] at ho; subst ho; (try dsimp only at hSw); go_simp; try with_reducible rfl)
        try simp only [Act.put, List.setIfInBounds_toArray, List.set_cons_zero, List.set_cons_succ]
        refine takeH 25 115 ?_ (by kernel_rfl) (by kernel_rfl) (by kernel_rfl) (by kernel_rfl) (fun _ _ _ h => h) (by kernel_rfl) (fun o ho w hSw => ?_) (by assumption) ?_
        rotate_left
        · (simp only [List.getElem?_toArray, List.getElem?_cons_succ, List.getElem?_cons_zero, Option.some.injEq] at ho; subst ho; (try dsimp only at hSw); go_simp; try with_reducible rfl)
        try simp only [Act.put, List.setIfInBounds_toArray, List.set_cons_zero, List.set_cons_succ]
        refine callH 26 (by kernel_rfl) (by kernel_rfl) (fun o ho K hK => ?_)
        simp only [List.getElem?_toArray, List.getElem?_cons_succ, List.getElem?_cons_zero, Option.some.injEq] at ho; subst ho
        rw [if_pos (by rfl)]
        go_simp
        go_at_call 50
        with_reducible refine (line_r w.heap.size c v _ HLd.out.is HLd.out.old.size k hup X false HXV.out).mono ?_
        rintro e w5 ⟨rfl, hb5⟩
        have HL5 := Lib.hid (HLd.out.later hb5)
        have HX5 := Lib.hid (HXd.out.later hb5)
        have HB5 := Lib.hid hb5
        have HPa := Lib.hid (show w5.cell? ⟨w.heap.size, 0, none⟩ = some (.int .i64 c.ins) ∧ w5.cell? ⟨w.heap.size, 1, none⟩ = some (.int .i64 c.outs) ∧ w5.cell? ⟨w.heap.size, 2, none⟩ = some (.int .i64 c.slots) ∧ w5.cell? ⟨w.heap.size, 3, none⟩ = some (.int .i64 c.crosses) ∧ w5.cell? ⟨w.heap.size, 4, none⟩ = some (.int .i64 c.lines) ∧ w5.cell? ⟨w.heap.size, 5, none⟩ = some (.slice v.mems.1 v.mems.2.1 v.mems.2.2) ∧ w5.cell? ⟨w.heap.size, 6, none⟩ = some (.slice v.conts.1 v.conts.2.1 v.conts.2.2) ∧ w5.cell? ⟨w.heap.size, 7, none⟩ = some (.slice v.step.1 v.step.2.1 v.step.2.2) ∧ w5.cell? ⟨w.heap.size, 8, none⟩ = some (.slice v.deriv.1 v.deriv.2.1 v.deriv.2.2) ∧ w5.cell? ⟨w.heap.size, 9, none⟩ = some (.slice v.cross.1 v.cross.2.1 v.cross.2.2) ∧ w5.cell? ⟨W1.heap.size, 2, none⟩ = some (.slice (some ⟨g, off, none⟩) a.2.1 a.2.2) ∧ w5.cell? ⟨g, off + j, none⟩ = some (.int .i64 X) from ⟨HL5.out.blk.cell 0 rfl, HL5.out.blk.cell 1 rfl, HL5.out.blk.cell 2 rfl, HL5.out.blk.cell 3 rfl, HL5.out.blk.cell 4 rfl, HL5.out.blk.cell 5 rfl, HL5.out.blk.cell 6 rfl, HL5.out.blk.cell 7 rfl, HL5.out.blk.cell 8 rfl, HL5.out.blk.cell 9 rfl, by rw [← hab.out]; exact HX5.out.cell 2 rfl, (hb5.cell HGW.out).trans HP.out.2.2.2.2.2.2.2.2.2.2.2⟩)
        clear hb5
        refine hK.out _ _ HPa.out (fun hHeld => ?_)
        clear hK K
        try simp only [Act.put, List.setIfInBounds_toArray, List.set_cons_zero, List.set_cons_succ]
        refine takeH 27 117 ?_ (by kernel_rfl) (by kernel_rfl) (by kernel_rfl) (by kernel_rfl) (fun _ _ _ h => h) (by kernel_rfl) (fun o ho w hSw => ?_) (by assumption) ?_
        rotate_left
        · (simp only [List.getElem?_toArray, List.getElem?_cons_succ, List.getElem?_cons_zero, Option.some.injEq] at ho; subst ho; (try dsimp only at hSw); go_simp; try with_reducible rfl)
        try simp only [Act.put, List.setIfInBounds_toArray, List.set_cons_zero, List.set_cons_succ]
        refine takeH 28 118 ?_ (by kernel_rfl) (by kernel_rfl) (by kernel_rfl) (by kernel_rfl) (fun _ _ _ h => h) (by kernel_rfl) (fun o ho w hSw => ?_) (by assumption) ?_
        rotate_left
        · (simp only [List.getElem?_toArray, List.getElem?_cons_succ, List.getElem?_cons_zero, Option.some.injEq] at ho; subst ho; (try dsimp only at hSw); go_simp; try with_reducible rfl)
        try simp only [Act.put, List.setIfInBounds_toArray, List.set_cons_zero, List.set_cons_succ]
        refine takeH 29 119 ?_ (by kernel_rfl) (by kernel_rfl) (by kernel_rfl) (by kernel_rfl) (fun _ _ _ h => h) (by kernel_rfl) (fun o ho w hSw => ?_) (by assumption) ?_
        rotate_left
        · (simp only [List.getElem?_toArray, List.getElem?_cons_succ, List.getElem?_cons_zero, Option.some.injEq] at ho; subst ho; (try dsimp only at hSw); go_simp; try with_reducible rfl)
        try simp only [Act.put, List.setIfInBounds_toArray, List.set_cons_zero, List.set_cons_succ]
        refine wpAnyH_done (by kernel_rfl) ?_ _
        go_wp2
        go_ret
        exact ⟨ret_bool' (by rw [HV.out, split_no HIWq.out.1 hlt (by rw [if_neg HJS.out, ← HXE.out]; exact HXW.out)]; simp), HL5.out.old⟩
      | true =>
        have HXV : Hid (wrB c.lines (lTo (c.cross.take k)) X = true) := Lib.hid (hv0)
        have HXW := Lib.hid hv0
        clear hv0
        go_wp2
        refine wp_region_held_drew (S := fun w' => w'.cell? ⟨w.heap.size, 0, none⟩ = some (.int .i64 c.ins) ∧ w'.cell? ⟨w.heap.size, 1, none⟩ = some (.int .i64 c.outs) ∧ w'.cell? ⟨w.heap.size, 2, none⟩ = some (.int .i64 c.slots) ∧ w'.cell? ⟨w.heap.size, 3, none⟩ = some (.int .i64 c.crosses) ∧ w'.cell? ⟨w.heap.size, 4, none⟩ = some (.int .i64 c.lines) ∧ w'.cell? ⟨w.heap.size, 5, none⟩ = some (.slice v.mems.1 v.mems.2.1 v.mems.2.2) ∧ w'.cell? ⟨w.heap.size, 6, none⟩ = some (.slice v.conts.1 v.conts.2.1 v.conts.2.2) ∧ w'.cell? ⟨w.heap.size, 7, none⟩ = some (.slice v.step.1 v.step.2.1 v.step.2.2) ∧ w'.cell? ⟨w.heap.size, 8, none⟩ = some (.slice v.deriv.1 v.deriv.2.1 v.deriv.2.2) ∧ w'.cell? ⟨w.heap.size, 9, none⟩ = some (.slice v.cross.1 v.cross.2.1 v.cross.2.2) ∧ w'.cell? ⟨W1.heap.size, 2, none⟩ = some (.slice (some ⟨g, off, none⟩) a.2.1 a.2.2) ∧ w'.cell? ⟨g, off + j, none⟩ = some (.int .i64 X)) (by kernel_rfl) HP.out (fun hHeld => ?_)
        refine takeH 0 90 ?_ (by kernel_rfl) (by kernel_rfl) (by kernel_rfl) (by kernel_rfl) (fun _ _ _ h => h) (by kernel_rfl) (fun o ho w hSw => ?_) (by assumption) ?_
        rotate_left
        · (simp only [List.getElem?_toArray, List.getElem?_cons_succ, List.getElem?_cons_zero, Option.some.injEq] at ho; subst ho; (try dsimp only at hSw); go_simp; try with_reducible rfl)
        try simp only [Act.put, List.setIfInBounds_toArray, List.set_cons_zero, List.set_cons_succ]
        refine takeH 1 91 ?_ (by kernel_rfl) (by kernel_rfl) (by kernel_rfl) (by kernel_rfl) (fun _ _ _ h => h) (by kernel_rfl) (fun o ho w hSw => ?_) (by assumption) ?_
        rotate_left
        · (simp only [List.getElem?_toArray, List.getElem?_cons_succ, List.getElem?_cons_zero, Option.some.injEq] at ho; subst ho; (try dsimp only at hSw); go_simp; try with_reducible rfl)
        try simp only [Act.put, List.setIfInBounds_toArray, List.set_cons_zero, List.set_cons_succ]
        refine takeH 2 92 ?_ (by kernel_rfl) (by kernel_rfl) (by kernel_rfl) (by kernel_rfl) (fun _ _ _ h => h) (by kernel_rfl) (fun o ho w hSw => ?_) (by assumption) ?_
        rotate_left
        · (simp only [List.getElem?_toArray, List.getElem?_cons_succ, List.getElem?_cons_zero, Option.some.injEq] at ho; subst ho; (try dsimp only at hSw); go_simp; try with_reducible rfl)
        try simp only [Act.put, List.setIfInBounds_toArray, List.set_cons_zero, List.set_cons_succ]
        refine takeH 3 93 ?_ (by kernel_rfl) (by kernel_rfl) (by kernel_rfl) (by kernel_rfl) (fun _ _ _ h => h) (by kernel_rfl) (fun o ho w hSw => ?_) (by assumption) ?_
        rotate_left
        · (simp only [List.getElem?_toArray, List.getElem?_cons_succ, List.getElem?_cons_zero, Option.some.injEq] at ho; subst ho; (try dsimp only at hSw); go_simp; try with_reducible rfl)
        try simp only [Act.put, List.setIfInBounds_toArray, List.set_cons_zero, List.set_cons_succ]
        refine skipH 4 94 (by kernel_rfl) (by kernel_rfl) (by kernel_rfl) (by kernel_rfl) (fun _ _ _ h => h) (by kernel_rfl) (by assumption) ?_
        try simp only [Act.put, List.setIfInBounds_toArray, List.set_cons_zero, List.set_cons_succ]
        refine skipH 5 95 (by kernel_rfl) (by kernel_rfl) (by kernel_rfl) (by kernel_rfl) (fun _ _ _ h => h) (by kernel_rfl) (by assumption) ?_
        try simp only [Act.put, List.setIfInBounds_toArray, List.set_cons_zero, List.set_cons_succ]
        refine skipH 6 96 (by kernel_rfl) (by kernel_rfl) (by kernel_rfl) (by kernel_rfl) (fun _ _ _ h => h) (by kernel_rfl) (by assumption) ?_
        try simp only [Act.put, List.setIfInBounds_toArray, List.set_cons_zero, List.set_cons_succ]
        refine skipH 7 97 (by kernel_rfl) (by kernel_rfl) (by kernel_rfl) (by kernel_rfl) (fun _ _ _ h => h) (by kernel_rfl) (by assumption) ?_
        try simp only [Act.put, List.setIfInBounds_toArray, List.set_cons_zero, List.set_cons_succ]
        refine skipH 8 98 (by kernel_rfl) (by kernel_rfl) (by kernel_rfl) (by kernel_rfl) (fun _ _ _ h => h) (by kernel_rfl) (by assumption) ?_
        try simp only [Act.put, List.setIfInBounds_toArray, List.set_cons_zero, List.set_cons_succ]
        refine skipH 9 99 (by kernel_rfl) (by kernel_rfl) (by kernel_rfl) (by kernel_rfl) (fun _ _ _ h => h) (by kernel_rfl) (by assumption) ?_
        try simp only [Act.put, List.setIfInBounds_toArray, List.set_cons_zero, List.set_cons_succ]
        refine skipH 10 100 (by kernel_rfl) (by kernel_rfl) (by kernel_rfl) (by kernel_rfl) (fun _ _ _ h => h) (by kernel_rfl) (by assumption) ?_
        try simp only [Act.put, List.setIfInBounds_toArray, List.set_cons_zero, List.set_cons_succ]
        refine skipH 11 101 (by kernel_rfl) (by kernel_rfl) (by kernel_rfl) (by kernel_rfl) (fun _ _ _ h => h) (by kernel_rfl) (by assumption) ?_
        try simp only [Act.put, List.setIfInBounds_toArray, List.set_cons_zero, List.set_cons_succ]
        refine skipH 12 102 (by kernel_rfl) (by kernel_rfl) (by kernel_rfl) (by kernel_rfl) (fun _ _ _ h => h) (by kernel_rfl) (by assumption) ?_
        try simp only [Act.put, List.setIfInBounds_toArray, List.set_cons_zero, List.set_cons_succ]
        refine takeH 13 103 ?_ (by kernel_rfl) (by kernel_rfl) (by kernel_rfl) (by kernel_rfl) (fun _ _ _ h => h) (by kernel_rfl) (fun o ho w hSw => ?_) (by assumption) ?_
        rotate_left
        · (simp only [List.getElem?_toArray, List.getElem?_cons_succ, List.getElem?_cons_zero, Option.some.injEq] at ho; subst ho; (try dsimp only at hSw); go_simp; try with_reducible rfl)
        try simp only [Act.put, List.setIfInBounds_toArray, List.set_cons_zero, List.set_cons_succ]
        refine takeH 14 104 ?_ (by kernel_rfl) (by kernel_rfl) (by kernel_rfl) (by kernel_rfl) (fun _ _ _ h => h) (by kernel_rfl) (fun o ho w hSw => ?_) (by assumption) ?_
        rotate_left
        · (simp only [List.getElem?_toArray, List.getElem?_cons_succ, List.getElem?_cons_zero, Option.some.injEq] at ho; subst ho; (try dsimp only at hSw); go_simp; try with_reducible rfl)
        try simp only [Act.put, List.setIfInBounds_toArray, List.set_cons_zero, List.set_cons_succ]
        refine takeH 15 105 ?_ (by kernel_rfl) (by kernel_rfl) (by kernel_rfl) (by kernel_rfl) (fun _ _ _ h => h) (by kernel_rfl) (fun o ho w hSw => ?_) (by assumption) ?_
        rotate_left
        · (simp only [List.getElem?_toArray, List.getElem?_cons_succ, List.getElem?_cons_zero, Option.some.injEq] at ho; subst ho; (try dsimp only at hSw); go_simp; try with_reducible rfl)
        try simp only [Act.put, List.setIfInBounds_toArray, List.set_cons_zero, List.set_cons_succ]
        refine takeH 16 106 ?_ (by kernel_rfl) (by kernel_rfl) (by kernel_rfl) (by kernel_rfl) (fun _ _ _ h => h) (by kernel_rfl) (fun o ho w hSw => ?_) (by assumption) ?_
        rotate_left
        · (simp only [List.getElem?_toArray, List.getElem?_cons_succ, List.getElem?_cons_zero, Option.some.injEq] at ho; subst ho; (try dsimp only at hSw); go_simp; try with_reducible rfl)
        try simp only [Act.put, List.setIfInBounds_toArray, List.set_cons_zero, List.set_cons_succ]
        refine takeH 17 107 ?_ (by kernel_rfl) (by kernel_rfl) (by kernel_rfl) (by kernel_rfl) (fun _ _ _ h => h) (by kernel_rfl) (fun o ho w hSw => ?_) (by assumption) ?_
        rotate_left
        · (simp only [List.getElem?_toArray, List.getElem?_cons_succ, List.getElem?_cons_zero, Option.some.injEq] at ho; subst ho; (try dsimp only at hSw); go_simp; try with_reducible rfl)
        try simp only [Act.put, List.setIfInBounds_toArray, List.set_cons_zero, List.set_cons_succ]
        refine takeH 18 108 ?_ (by kernel_rfl) (by kernel_rfl) (by kernel_rfl) (by kernel_rfl) (fun _ _ _ h => h) (by kernel_rfl) (fun o ho w hSw => ?_) (by assumption) ?_
        rotate_left
        · (simp only [List.getElem?_toArray, List.getElem?_cons_succ, List.getElem?_cons_zero, Option.some.injEq] at ho; subst ho; (try dsimp only at hSw); go_simp; try with_reducible rfl)
        try simp only [Act.put, List.setIfInBounds_toArray, List.set_cons_zero, List.set_cons_succ]
        refine takeH 19 109 ?_ (by kernel_rfl) (by kernel_rfl) (by kernel_rfl) (by kernel_rfl) (fun _ _ _ h => h) (by kernel_rfl) (fun o ho w hSw => ?_) (by assumption) ?_
        rotate_left
        · (simp only [List.getElem?_toArray, List.getElem?_cons_succ, List.getElem?_cons_zero, Option.some.injEq] at ho; subst ho; (try dsimp only at hSw); go_simp; try with_reducible rfl)
        try simp only [Act.put, List.setIfInBounds_toArray, List.set_cons_zero, List.set_cons_succ]
        refine takeH 20 110 ?_ (by kernel_rfl) (by kernel_rfl) (by kernel_rfl) (by kernel_rfl) (fun _ _ _ h => h) (by kernel_rfl) (fun o ho w hSw => ?_) (by assumption) ?_
        rotate_left
        · (simp only [List.getElem?_toArray, List.getElem?_cons_succ, List.getElem?_cons_zero, Option.some.injEq] at ho; subst ho; (try dsimp only at hSw); go_simp; try with_reducible rfl)
        try simp only [Act.put, List.setIfInBounds_toArray, List.set_cons_zero, List.set_cons_succ]
        refine takeH 21 111 ?_ (by kernel_rfl) (by kernel_rfl) (by kernel_rfl) (by kernel_rfl) (fun _ _ _ h => h) (by kernel_rfl) (fun o ho w hSw => ?_) (by assumption) ?_
        rotate_left
        · (simp only [List.getElem?_toArray, List.getElem?_cons_succ, List.getElem?_cons_zero, Option.some.injEq] at ho; subst ho; (try dsimp only at hSw); go_simp; try with_reducible rfl)
        try simp only [Act.put, List.setIfInBounds_toArray, List.set_cons_zero, List.set_cons_succ]
        refine takeH 22 112 ?_ (by kernel_rfl) (by kernel_rfl) (by kernel_rfl) (by kernel_rfl) (fun _ _ _ h => h) (by kernel_rfl) (fun o ho w hSw => ?_) (by assumption) ?_
        rotate_left
        · (simp only [List.getElem?_toArray, List.getElem?_cons_succ, List.getElem?_cons_zero, Option.some.injEq] at ho; subst ho; (try dsimp only at hSw); go_simp; try with_reducible rfl)
        try simp only [Act.put, List.setIfInBounds_toArray, List.set_cons_zero, List.set_cons_succ]
        refine takeH 23 113 ?_ (by kernel_rfl) (by kernel_rfl) (by kernel_rfl) (by kernel_rfl) (fun _ _ _ h => h) (by kernel_rfl) (fun o ho w hSw => ?_) (by assumption) ?_
        rotate_left
        · (simp only [List.getElem?_toArray, List.getElem?_cons_succ, List.getElem?_cons_zero, Option.some.injEq] at ho; subst ho; (try dsimp only at hSw); go_simp; try with_reducible rfl)
        try simp only [Act.put, List.setIfInBounds_toArray, List.set_cons_zero, List.set_cons_succ]
        refine takeH 24 114 ?_ (by kernel_rfl) (by kernel_rfl) (by kernel_rfl) (by kernel_rfl) (fun _ _ _ h => h) (by kernel_rfl) (fun o ho w hSw => ?_) (by assumption) ?_
        rotate_left
        · (simp only [List.getElem?_toArray, List.getElem?_cons_succ, List.getElem?_cons_zero, Option.some.injEq] at ho; subst ho; (try dsimp only at hSw); go_simp; try with_reducible rfl)
        try simp only [Act.put, List.setIfInBounds_toArray, List.set_cons_zero, List.set_cons_succ]
        refine takeH 25 115 ?_ (by kernel_rfl) (by kernel_rfl) (by kernel_rfl) (by kernel_rfl) (fun _ _ _ h => h) (by kernel_rfl) (fun o ho w hSw => ?_) (by assumption) ?_
        rotate_left
        · (simp only [List.getElem?_toArray, List.getElem?_cons_succ, List.getElem?_cons_zero, Option.some.injEq] at ho; subst ho; (try dsimp only at hSw); go_simp; try with_reducible rfl)
        try simp only [Act.put, List.setIfInBounds_toArray, List.set_cons_zero, List.set_cons_succ]
        refine callH 26 (by kernel_rfl) (by kernel_rfl) (fun o ho K hK => ?_)
        simp only [List.getElem?_toArray, List.getElem?_cons_succ, List.getElem?_cons_zero, Option.some.injEq] at ho; subst ho
        rw [if_pos (by rfl)]
        go_simp
        go_at_call 50
        with_reducible refine (line_r w.heap.size c v _ HLd.out.is HLd.out.old.size k hup X true HXV.out).mono ?_
        rintro e w5 ⟨rfl, hb5⟩
        have HL5 := Lib.hid (HLd.out.later hb5)
        have HX5 := Lib.hid (HXd.out.later hb5)
        have HB5 := Lib.hid hb5
        have HPa := Lib.hid (show w5.cell? ⟨w.heap.size, 0, none⟩ = some (.int .i64 c.ins) ∧ w5.cell? ⟨w.heap.size, 1, none⟩ = some (.int .i64 c.outs) ∧ w5.cell? ⟨w.heap.size, 2, none⟩ = some (.int .i64 c.slots) ∧ w5.cell? ⟨w.heap.size, 3, none⟩ = some (.int .i64 c.crosses) ∧ w5.cell? ⟨w.heap.size, 4, none⟩ = some (.int .i64 c.lines) ∧ w5.cell? ⟨w.heap.size, 5, none⟩ = some (.slice v.mems.1 v.mems.2.1 v.mems.2.2) ∧ w5.cell? ⟨w.heap.size, 6, none⟩ = some (.slice v.conts.1 v.conts.2.1 v.conts.2.2) ∧ w5.cell? ⟨w.heap.size, 7, none⟩ = some (.slice v.step.1 v.step.2.1 v.step.2.2) ∧ w5.cell? ⟨w.heap.size, 8, none⟩ = some (.slice v.deriv.1 v.deriv.2.1 v.deriv.2.2) ∧ w5.cell? ⟨w.heap.size, 9, none⟩ = some (.slice v.cross.1 v.cross.2.1 v.cross.2.2) ∧ w5.cell? ⟨W1.heap.size, 2, none⟩ = some (.slice (some ⟨g, off, none⟩) a.2.1 a.2.2) ∧ w5.cell? ⟨g, off + j, none⟩ = some (.int .i64 X) from ⟨HL5.out.blk.cell 0 rfl, HL5.out.blk.cell 1 rfl, HL5.out.blk.cell 2 rfl, HL5.out.blk.cell 3 rfl, HL5.out.blk.cell 4 rfl, HL5.out.blk.cell 5 rfl, HL5.out.blk.cell 6 rfl, HL5.out.blk.cell 7 rfl, HL5.out.blk.cell 8 rfl, HL5.out.blk.cell 9 rfl, by rw [← hab.out]; exact HX5.out.cell 2 rfl, (hb5.cell HGW.out).trans HP.out.2.2.2.2.2.2.2.2.2.2.2⟩)
        clear hb5
        refine hK.out _ _ HPa.out (fun hHeld => ?_)
        clear hK K
        try simp only [Act.put, List.setIfInBounds_toArray, List.set_cons_zero, List.set_cons_succ]
        refine takeH 27 117 ?_ (by kernel_rfl) (by kernel_rfl) (by kernel_rfl) (by kernel_rfl) (fun _ _ _ h => h) (by kernel_rfl) (fun o ho w hSw => ?_) (by assumption) ?_
        rotate_left
        · (simp only [List.getElem?_toArray, List.getElem?_cons_succ, List.getElem?_cons_zero, Option.some.injEq] at ho; subst ho; (try dsimp only at hSw); go_simp; try with_reducible rfl)
        try simp only [Act.put, List.setIfInBounds_toArray, List.set_cons_zero, List.set_cons_succ]
        refine takeH 28 118 ?_ (by kernel_rfl) (by kernel_rfl) (by kernel_rfl) (by kernel_rfl) (fun _ _ _ h => h) (by kernel_rfl) (fun o ho w hSw => ?_) (by assumption) ?_
        rotate_left
        · (simp only [List.getElem?_toArray, List.getElem?_cons_succ, List.getElem?_cons_zero, Option.some.injEq] at ho; subst ho; (try dsimp only at hSw); go_simp; try with_reducible rfl)
        try simp only [Act.put, List.setIfInBounds_toArray, List.set_cons_zero, List.set_cons_succ]
        refine takeH 29 119 ?_ (by kernel_rfl) (by kernel_rfl) (by kernel_rfl) (by kernel_rfl) (fun _ _ _ h => h) (by kernel_rfl) (fun o ho w hSw => ?_) (by assumption) ?_
        rotate_left
        · (simp only [List.getElem?_toArray, List.getElem?_cons_succ, List.getElem?_cons_zero, Option.some.injEq] at ho; subst ho; (try dsimp only at hSw); go_simp; try with_reducible rfl)
        try simp only [Act.put, List.setIfInBounds_toArray, List.set_cons_zero, List.set_cons_succ]
        refine wpAnyH_done (by kernel_rfl) ?_ _
        go_wp2
        go_roundw
        case rel => exact ⟨j + 1, by omega, by go_num, Lib.hid (fun i hi => by
          rcases Nat.lt_or_ge i j with q | q
          · exact HA.out i q
          · obtain rfl : i = j := by omega
            rw [if_neg HJS.out, ← HXE.out]; exact HXW.out), Lib.hid (HBr.out.drew.trans (HB5.out.mono HBr.out.size))⟩
        case measure => simp [intOf]; omega
    · obtain rfl : j = a.2.1 := by omega
      have HSP := Lib.hid (split_yes HIW.out.args.1 HA.out)
      have hjI3 : ¬ ((a.2.1 : Int) < 1) := by have := HNE.out; omega
      go_wp2
      go_ret
      exact ⟨ret_bool' (by rw [HV.out, HN.out, HPK.out, HGE.out, HR0.out, HSP.out.1, HSP.out.2, HDD.out]; rfl), HLq.out.old⟩
set_option maxHeartbeats 4000000 in
theorem x6_add (B : Nat) (c : CodeM) (v : CodeV) (w : World) (h : CodeIs w B c v) (hB : B ≤ w.heap.size) (hok : OkS c v.step.2.1) (k : Nat) (hup : k ≤ v.cross.2.1) (x : InsP) (hx : c.cross[k]? = some x) (hsz : x.args.length ≤ 20 ∧ x.resets.length ≤ 20) (h0 : x.resets.length = 0) (hg : gdB c.slots (wTo c.step) x.guard = true) (hin : inB x.dst c.lines = true) (hop : x.op = bs [108, 43]) : Calls Try.prog 26 #[.agg #[.int .i64 c.ins, .int .i64 c.outs, .int .i64 c.slots, .int .i64 c.crosses, .int .i64 c.lines, .slice v.mems.1 v.mems.2.1 v.mems.2.2, .slice v.conts.1 v.conts.2.1 v.conts.2.2, .slice v.step.1 v.step.2.1 v.step.2.2, .slice v.deriv.1 v.deriv.2.1 v.deriv.2.2, .slice v.cross.1 v.cross.2.1 v.cross.2.2], .int .i64 (k : Nat)] w fun e w' => e = .returned (.bool (crB c (wTo c.step) (lTo (c.cross.take k)) x)) ∧ Below w.heap.size w w' := by
  obtain ⟨W1, hW1⟩ : ∃ W1, W1 = w.alloc (.cells #[.int .i64 c.ins, .int .i64 c.outs, .int .i64 c.slots, .int .i64 c.crosses, .int .i64 c.lines, .slice v.mems.1 v.mems.2.1 v.mems.2.2, .slice v.conts.1 v.conts.2.1 v.conts.2.2, .slice v.step.1 v.step.2.1 v.step.2.2, .slice v.deriv.1 v.deriv.2.1 v.deriv.2.2, .slice v.cross.1 v.cross.2.1 v.cross.2.2] 25) := ⟨_, rfl⟩
  have HL := Lib.hid (show LwSt w c v W1 from by rw [hW1]; exact LwSt.start (h.more hB))
  have HWE := Lib.hid (wTo_all2 (c := c) h.step.1)
  clear h hB
  have HRL := Lib.hid h0
  clear h0
  have HIN := Lib.hid hin
  clear hin
  have HOP := Lib.hid hop
  clear hop
  have HOK := Lib.hid hok
  have HSZ := Lib.hid hsz
  obtain ⟨bb, off, ha, hbl, hat⟩ := HL.out.is.cross.at_ hx
  obtain ⟨a, m, d, r, hiw, _, _, _, x0, x1, x2, x3, x4, x5, x6, x7, x8, x9, x10⟩ := hat.cells
  have hkl : k < v.cross.2.1 := by rw [← HL.out.is.cross.1]; exact (List.getElem?_eq_some_iff.1 hx).1
  have hkI : (k : Int) < (v.cross.2.1 : Int) := by omega
  have hm := HL.out.is.cross.len_le
  have hm1 := HL.out.is.step.len_le
  have hm2 := HL.out.is.conts.len_le
  unfold maxLen at hm hm1 hm2
  obtain ⟨W2, hW2⟩ : ∃ W2, W2 = W1.alloc (.cells #[.string x.op, .int .i64 x.dst, .slice a.1 a.2.1 a.2.2, .int .i64 x.k, .int .i64 x.lit.kind, .bool x.lit.neg, .slice m.1 m.2.1 m.2.2, .slice d.1 d.2.1 d.2.2, .string x.lit.name, .int .i64 x.guard, .slice r.1 r.2.1 r.2.2] 52) := ⟨_, rfl⟩
  have hb2 : Below W1.heap.size W1 W2 := by rw [hW2]; exact (Below.refl _ _).alloc (Nat.le_refl _) _
  have HX := Lib.hid (show Blk W2 W1.heap.size 52 (ics x a m d r) from by rw [hW2]; exact Blk.new _ _ _)
  have HIW := Lib.hid (hiw.keep (hb2.mono HL.out.old.size))
  have HIW0 := Lib.hid hiw
  have HIS0 := Lib.hid HL.out.is
  have hb1 : bb < W1.heap.size := Nat.lt_of_lt_of_le hbl HL.out.old.size
  obtain ⟨n0, n1, n2, n3, n4, n5, n6, n7, n8, n9⟩ := HL.out.blk.code
  rw [ha] at n9
  clear ha hok hsz hx hiw hat hbl
  go_enter Try.func26, Try.ntmps26
  go_upto_region 1 with fail
  rw [← hW1]
  clear hW1
  go_upto_region 2 with fail
  rw [← hW2]
  clear hW2 n0 n1 n2 n3 n4 n5 n6 n7 n8 n9 x0 x1 x2 x3 x4 x5 x6 x7 x8 x9 x10
  have HL := Lib.hid (HL.out.later hb2)
  clear hb2
  obtain ⟨n0, n1, n2, n3, n4, n5, n6, n7, n8, n9⟩ := HL.out.blk.code
  obtain ⟨p0, p1, p2, p3, p4, p5, p6, p7, p8, p9, p10⟩ := HX.out.elev
  have hq0 := HX.out.lt
  have hna : a.2.1 ≤ 20 := by rw [← HIW.out.args.1]; exact HSZ.out.1
  have hnr : r.2.1 ≤ 20 := by rw [← HIW.out.resets.1]; exact HSZ.out.2
  have hr1 : (r.2.1 : Int) = 0 := by have := HIW0.out.resets.1; have := HRL.out; omega
  have HR0 := Lib.hid (show decide (r.2.1 = 0) = true from decide_eq_true (by omega))
  have HG : Hid (gdB c.slots (wTo (c.step.take v.step.2.1)) x.guard = true) := Lib.hid (by rw [HWE.out]; exact hg)
  have HGE := Lib.hid hg
  clear hg
  have HNL : Hid (nLn x.op = some (0, 2)) := Lib.hid (by rw [HOP.out]; rfl)
  have HV := Lib.hid (crB_eq (W := (wTo c.step)) (L := (lTo (c.cross.take k))) HNL.out HIS0.out HIW0.out)
  have g4 : (x.op.toList == [97, 115, 107]) = false := str_no (by rw [HOP.out]; decide)
  have HDD : Hid ((decide (x.op = opAsk) || inB x.dst c.lines) = true) := Lib.hid (by rw [HIN.out]; simp)
  go_upto_region 7 with (first | (go_at_call 46; (with_reducible refine (guard_r w.heap.size c v _ HL.out.is HL.out.old.size v.step.2.1 (Nat.le_refl _) HOK.out x.guard true HG.out).mono ?_); rintro e w2 ⟨rfl, hb2⟩; have HIW := Lib.hid (HIW.out.keep (hb2.mono HL.out.old.size)); have HL := Lib.hid (HL.out.later hb2); have HX := Lib.hid (HX.out.later hb2); clear hb2 n0 n1 n2 n3 n4 n5 n6 n7 n8 n9 p0 p1 p2 p3 p4 p5 p6 p7 p8 p9 p10 hq0; obtain ⟨n0, n1, n2, n3, n4, n5, n6, n7, n8, n9⟩ := HL.out.blk.code; obtain ⟨p0, p1, p2, p3, p4, p5, p6, p7, p8, p9, p10⟩ := HX.out.elev; have hq0 := HX.out.lt) | (go_at_call 48; (with_reducible refine (in_t x.dst c.lines true _ HIN.out).mono ?_); rintro e w8 ⟨rfl, rfl⟩))
  rw [HOP.out, show bs [108, 43] = (⟨#[108, 43]⟩ : ByteArray) from rfl] at p0
  clear g4
  have HPK : Hid (plK x.op x.k c.ins c.outs v.mems.2.1 v.conts.2.1 c.crosses = true) := Lib.hid (by rw [HOP.out]; rfl)
  by_cases hn : a.2.1 = 0 + 2
  rotate_left
  · have HN := Lib.hid (decide_eq_false hn)
    have g7 : ((a.2.1 : Int) == 2) = false := by rw [beq_eq_false_iff_ne]; omega
    have g8 : ¬ (a.2.1 : Int) = 2 := by omega
    go_wp2_with fail
    go_ret
    exact ⟨ret_bool' (by rw [HV.out, HN.out]; simp), HL.out.old⟩
  have HN := Lib.hid (decide_eq_true hn)
  have g8 : (a.2.1 : Int) = 2 := by omega
  go_upto_region 33 with fail
  have HNE := Lib.hid hn
  clear g8 hn
  have hna2 : a.2.1 ≤ 20 := hna
  go_wp2_with fail
  obtain ⟨wz, rfl⟩ : ∃ wz : World, wz = w8 := ⟨_, rfl⟩
  go_loopw [10] (fun t wr => ∃ n : Nat, n ≤ a.2.1 ∧ t = .int .i64 n ∧ Hid (∀ j, j < n → (if j < 0 then wrB c.slots (wTo c.step) (x.args.getD j 0) else wrB c.lines (lTo (c.cross.take k)) (x.args.getD j 0)) = true) ∧ Hid (Below wz.heap.size wz wr)) (fun t _ => a.2.1 - (intOf t).toNat)
  case atStart => exact ⟨0, Nat.zero_le _, rfl, Lib.hid (fun j hj => by omega), Lib.hid (Below.refl _ _)⟩
  case round =>
    obtain ⟨j, hj, rfl, HA, HBr⟩ := hrel
    have HLq := Lib.hid (HL.out.later HBr.out)
    have HXq := Lib.hid (HX.out.later HBr.out)
    clear p0 p1 p2 p3 p4 p5 p6 p7 p8 p9 p10 n0 n1 n2 n3 n4 n5 n6 n7 n8 n9 hq0
    have hq0 := HXq.out.lt
    by_cases hlt : j < a.2.1
    · have HIWq := Lib.hid (HIW.out.args.below (HBr.out.mono HL.out.old.size))
      obtain ⟨g, off, hga, hgl, hc0⟩ := HIWq.out.at_ hlt
      obtain ⟨X, hX⟩ : ∃ X, X = x.args.getD j 0 := ⟨_, rfl⟩
      rw [← hX] at hc0
      have HXE := Lib.hid hX
      have hab := Lib.hid hga
      have HLd := Lib.hid (HLq.out.later (Below.refl _ _).drew)
      have HXd := Lib.hid (HXq.out.later (Below.refl _ _).drew)
      have HGW : Hid (g < wr.drew.heap.size) := Lib.hid (Nat.lt_of_lt_of_le hgl HLq.out.old.size)
      have HP := Lib.hid (show wr.drew.cell? ⟨w.heap.size, 0, none⟩ = some (.int .i64 c.ins) ∧ wr.drew.cell? ⟨w.heap.size, 1, none⟩ = some (.int .i64 c.outs) ∧ wr.drew.cell? ⟨w.heap.size, 2, none⟩ = some (.int .i64 c.slots) ∧ wr.drew.cell? ⟨w.heap.size, 3, none⟩ = some (.int .i64 c.crosses) ∧ wr.drew.cell? ⟨w.heap.size, 4, none⟩ = some (.int .i64 c.lines) ∧ wr.drew.cell? ⟨w.heap.size, 5, none⟩ = some (.slice v.mems.1 v.mems.2.1 v.mems.2.2) ∧ wr.drew.cell? ⟨w.heap.size, 6, none⟩ = some (.slice v.conts.1 v.conts.2.1 v.conts.2.2) ∧ wr.drew.cell? ⟨w.heap.size, 7, none⟩ = some (.slice v.step.1 v.step.2.1 v.step.2.2) ∧ wr.drew.cell? ⟨w.heap.size, 8, none⟩ = some (.slice v.deriv.1 v.deriv.2.1 v.deriv.2.2) ∧ wr.drew.cell? ⟨w.heap.size, 9, none⟩ = some (.slice v.cross.1 v.cross.2.1 v.cross.2.2) ∧ wr.drew.cell? ⟨W1.heap.size, 2, none⟩ = some (.slice (some ⟨g, off, none⟩) a.2.1 a.2.2) ∧ wr.drew.cell? ⟨g, off + j, none⟩ = some (.int .i64 X) from ⟨HLd.out.blk.cell 0 rfl, HLd.out.blk.cell 1 rfl, HLd.out.blk.cell 2 rfl, HLd.out.blk.cell 3 rfl, HLd.out.blk.cell 4 rfl, HLd.out.blk.cell 5 rfl, HLd.out.blk.cell 6 rfl, HLd.out.blk.cell 7 rfl, HLd.out.blk.cell 8 rfl, HLd.out.blk.cell 9 rfl, by rw [← hab.out]; exact HXd.out.cell 2 rfl, hc0⟩)
      have hjI : (j : Int) < (a.2.1 : Int) := by omega
      clear hX hga hgl hc0
      have hjs : ¬ j < 0 := by omega
      have HJS := Lib.hid hjs
      have g5 : decide ((j : Int) < 0) = false := by rw [decide_eq_false_iff_not]; omega
      have g6 : decide ((0 : Int) ≤ (j : Int)) = true := by rw [decide_eq_true_eq]; omega
      cases hv0 : wrB c.lines (lTo (c.cross.take k)) X with
      | false =>
        have HXV : Hid (wrB c.lines (lTo (c.cross.take k)) X = false) := Lib.hid (hv0)
        have HXW := Lib.hid hv0
        clear hv0
        go_wp2
        refine wp_region_held_drew (S := fun w' => w'.cell? ⟨w.heap.size, 0, none⟩ = some (.int .i64 c.ins) ∧ w'.cell? ⟨w.heap.size, 1, none⟩ = some (.int .i64 c.outs) ∧ w'.cell? ⟨w.heap.size, 2, none⟩ = some (.int .i64 c.slots) ∧ w'.cell? ⟨w.heap.size, 3, none⟩ = some (.int .i64 c.crosses) ∧ w'.cell? ⟨w.heap.size, 4, none⟩ = some (.int .i64 c.lines) ∧ w'.cell? ⟨w.heap.size, 5, none⟩ = some (.slice v.mems.1 v.mems.2.1 v.mems.2.2) ∧ w'.cell? ⟨w.heap.size, 6, none⟩ = some (.slice v.conts.1 v.conts.2.1 v.conts.2.2) ∧ w'.cell? ⟨w.heap.size, 7, none⟩ = some (.slice v.step.1 v.step.2.1 v.step.2.2) ∧ w'.cell? ⟨w.heap.size, 8, none⟩ = some (.slice v.deriv.1 v.deriv.2.1 v.deriv.2.2) ∧ w'.cell? ⟨w.heap.size, 9, none⟩ = some (.slice v.cross.1 v.cross.2.1 v.cross.2.2) ∧ w'.cell? ⟨W1.heap.size, 2, none⟩ = some (.slice (some ⟨g, off, none⟩) a.2.1 a.2.2) ∧ w'.cell? ⟨g, off + j, none⟩ = some (.int .i64 X)) (by kernel_rfl) HP.out (fun hHeld => ?_)
        refine takeH 0 90 ?_ (by kernel_rfl) (by kernel_rfl) (by kernel_rfl) (by kernel_rfl) (fun _ _ _ h => h) (by kernel_rfl) (fun o ho w hSw => ?_) (by assumption) ?_
        rotate_left
        · (simp only [List.getElem?_toArray, List.getElem?_cons_succ, List.getElem?_cons_zero, Option.some.injEq] at ho; subst ho; (try dsimp only at hSw); go_simp; try with_reducible rfl)
        try simp only [Act.put, List.setIfInBounds_toArray, List.set_cons_zero, List.set_cons_succ]
        refine takeH 1 91 ?_ (by kernel_rfl) (by kernel_rfl) (by kernel_rfl) (by kernel_rfl) (fun _ _ _ h => h) (by kernel_rfl) (fun o ho w hSw => ?_) (by assumption) ?_
        rotate_left
        · (simp only [List.getElem?_toArray, List.getElem?_cons_succ, List.getElem?_cons_zero, Option.some.injEq] at ho; subst ho; (try dsimp only at hSw); go_simp; try with_reducible rfl)
        try simp only [Act.put, List.setIfInBounds_toArray, List.set_cons_zero, List.set_cons_succ]
        refine takeH 2 92 ?_ (by kernel_rfl) (by kernel_rfl) (by kernel_rfl) (by kernel_rfl) (fun _ _ _ h => h) (by kernel_rfl) (fun o ho w hSw => ?_) (by assumption) ?_
        rotate_left
        · (simp only [List.getElem?_toArray, List.getElem?_cons_succ, List.getElem?_cons_zero, Option.some.injEq] at ho; subst ho; (try dsimp only at hSw); go_simp; try with_reducible rfl)
        try simp only [Act.put, List.setIfInBounds_toArray, List.set_cons_zero, List.set_cons_succ]
        refine takeH 3 93 ?_ (by kernel_rfl) (by kernel_rfl) (by kernel_rfl) (by kernel_rfl) (fun _ _ _ h => h) (by kernel_rfl) (fun o ho w hSw => ?_) (by assumption) ?_
        rotate_left
        · (simp only [List.getElem?_toArray, List.getElem?_cons_succ, List.getElem?_cons_zero, Option.some.injEq] at ho; subst ho; (try dsimp only at hSw); go_simp; try with_reducible rfl)
        try simp only [Act.put, List.setIfInBounds_toArray, List.set_cons_zero, List.set_cons_succ]
        refine skipH 4 94 (by kernel_rfl) (by kernel_rfl) (by kernel_rfl) (by kernel_rfl) (fun _ _ _ h => h) (by kernel_rfl) (by assumption) ?_
        try simp only [Act.put, List.setIfInBounds_toArray, List.set_cons_zero, List.set_cons_succ]
        refine skipH 5 95 (by kernel_rfl) (by kernel_rfl) (by kernel_rfl) (by kernel_rfl) (fun _ _ _ h => h) (by kernel_rfl) (by assumption) ?_
        try simp only [Act.put, List.setIfInBounds_toArray, List.set_cons_zero, List.set_cons_succ]
        refine skipH 6 96 (by kernel_rfl) (by kernel_rfl) (by kernel_rfl) (by kernel_rfl) (fun _ _ _ h => h) (by kernel_rfl) (by assumption) ?_
        try simp only [Act.put, List.setIfInBounds_toArray, List.set_cons_zero, List.set_cons_succ]
        refine skipH 7 97 (by kernel_rfl) (by kernel_rfl) (by kernel_rfl) (by kernel_rfl) (fun _ _ _ h => h) (by kernel_rfl) (by assumption) ?_
        try simp only [Act.put, List.setIfInBounds_toArray, List.set_cons_zero, List.set_cons_succ]
        refine skipH 8 98 (by kernel_rfl) (by kernel_rfl) (by kernel_rfl) (by kernel_rfl) (fun _ _ _ h => h) (by kernel_rfl) (by assumption) ?_
        try simp only [Act.put, List.setIfInBounds_toArray, List.set_cons_zero, List.set_cons_succ]
        refine skipH 9 99 (by kernel_rfl) (by kernel_rfl) (by kernel_rfl) (by kernel_rfl) (fun _ _ _ h => h) (by kernel_rfl) (by assumption) ?_
        try simp only [Act.put, List.setIfInBounds_toArray, List.set_cons_zero, List.set_cons_succ]
        refine skipH 10 100 (by kernel_rfl) (by kernel_rfl) (by kernel_rfl) (by kernel_rfl) (fun _ _ _ h => h) (by kernel_rfl) (by assumption) ?_
        try simp only [Act.put, List.setIfInBounds_toArray, List.set_cons_zero, List.set_cons_succ]
        refine skipH 11 101 (by kernel_rfl) (by kernel_rfl) (by kernel_rfl) (by kernel_rfl) (fun _ _ _ h => h) (by kernel_rfl) (by assumption) ?_
        try simp only [Act.put, List.setIfInBounds_toArray, List.set_cons_zero, List.set_cons_succ]
        refine skipH 12 102 (by kernel_rfl) (by kernel_rfl) (by kernel_rfl) (by kernel_rfl) (fun _ _ _ h => h) (by kernel_rfl) (by assumption) ?_
        try simp only [Act.put, List.setIfInBounds_toArray, List.set_cons_zero, List.set_cons_succ]
        refine takeH 13 103 ?_ (by kernel_rfl) (by kernel_rfl) (by kernel_rfl) (by kernel_rfl) (fun _ _ _ h => h) (by kernel_rfl) (fun o ho w hSw => ?_) (by assumption) ?_
        rotate_left
        · (simp only [List.getElem?_toArray, List.getElem?_cons_succ, List.getElem?_cons_zero, Option.some.injEq] at ho; subst ho; (try dsimp only at hSw); go_simp; try with_reducible rfl)
        try simp only [Act.put, List.setIfInBounds_toArray, List.set_cons_zero, List.set_cons_succ]
        refine takeH 14 104 ?_ (by kernel_rfl) (by kernel_rfl) (by kernel_rfl) (by kernel_rfl) (fun _ _ _ h => h) (by kernel_rfl) (fun o ho w hSw => ?_) (by assumption) ?_
        rotate_left
        · (simp only [List.getElem?_toArray, List.getElem?_cons_succ, List.getElem?_cons_zero, Option.some.injEq] at ho; subst ho; (try dsimp only at hSw); go_simp; try with_reducible rfl)
        try simp only [Act.put, List.setIfInBounds_toArray, List.set_cons_zero, List.set_cons_succ]
        refine takeH 15 105 ?_ (by kernel_rfl) (by kernel_rfl) (by kernel_rfl) (by kernel_rfl) (fun _ _ _ h => h) (by kernel_rfl) (fun o ho w hSw => ?_) (by assumption) ?_
        rotate_left
        · (simp only [List.getElem?_toArray, List.getElem?_cons_succ, List.getElem?_cons_zero, Option.some.injEq] at ho; subst ho; (try dsimp only at hSw); go_simp; try with_reducible rfl)
        try simp only [Act.put, List.setIfInBounds_toArray, List.set_cons_zero, List.set_cons_succ]
        refine takeH 16 106 ?_ (by kernel_rfl) (by kernel_rfl) (by kernel_rfl) (by kernel_rfl) (fun _ _ _ h => h) (by kernel_rfl) (fun o ho w hSw => ?_) (by assumption) ?_
        rotate_left
        · (simp only [List.getElem?_toArray, List.getElem?_cons_succ, List.getElem?_cons_zero, Option.some.injEq] at ho; subst ho; (try dsimp only at hSw); go_simp; try with_reducible rfl)
        try simp only [Act.put, List.setIfInBounds_toArray, List.set_cons_zero, List.set_cons_succ]
        refine takeH 17 107 ?_ (by kernel_rfl) (by kernel_rfl) (by kernel_rfl) (by kernel_rfl) (fun _ _ _ h => h) (by kernel_rfl) (fun o ho w hSw => ?_) (by assumption) ?_
        rotate_left
        · (simp only [List.getElem?_toArray, List.getElem?_cons_succ, List.getElem?_cons_zero, Option.some.injEq] at ho; subst ho; (try dsimp only at hSw); go_simp; try with_reducible rfl)
        try simp only [Act.put, List.setIfInBounds_toArray, List.set_cons_zero, List.set_cons_succ]
        refine takeH 18 108 ?_ (by kernel_rfl) (by kernel_rfl) (by kernel_rfl) (by kernel_rfl) (fun _ _ _ h => h) (by kernel_rfl) (fun o ho w hSw => ?_) (by assumption) ?_
        rotate_left
        · (simp only [List.getElem?_toArray, List.getElem?_cons_succ, List.getElem?_cons_zero, Option.some.injEq] at ho; subst ho; (try dsimp only at hSw); go_simp; try with_reducible rfl)
        try simp only [Act.put, List.setIfInBounds_toArray, List.set_cons_zero, List.set_cons_succ]
        refine takeH 19 109 ?_ (by kernel_rfl) (by kernel_rfl) (by kernel_rfl) (by kernel_rfl) (fun _ _ _ h => h) (by kernel_rfl) (fun o ho w hSw => ?_) (by assumption) ?_
        rotate_left
        · (simp only [List.getElem?_toArray, List.getElem?_cons_succ, List.getElem?_cons_zero, Option.some.injEq] at ho; subst ho; (try dsimp only at hSw); go_simp; try with_reducible rfl)
        try simp only [Act.put, List.setIfInBounds_toArray, List.set_cons_zero, List.set_cons_succ]
        refine takeH 20 110 ?_ (by kernel_rfl) (by kernel_rfl) (by kernel_rfl) (by kernel_rfl) (fun _ _ _ h => h) (by kernel_rfl) (fun o ho w hSw => ?_) (by assumption) ?_
        rotate_left
        · (simp only [List.getElem?_toArray, List.getElem?_cons_succ, List.getElem?_cons_zero, Option.some.injEq] at ho; subst ho; (try dsimp only at hSw); go_simp; try with_reducible rfl)
        try simp only [Act.put, List.setIfInBounds_toArray, List.set_cons_zero, List.set_cons_succ]
        refine takeH 21 111 ?_ (by kernel_rfl) (by kernel_rfl) (by kernel_rfl) (by kernel_rfl) (fun _ _ _ h => h) (by kernel_rfl) (fun o ho w hSw => ?_) (by assumption) ?_
        rotate_left
        · (simp only [List.getElem?_toArray, List.getElem?_cons_succ, List.getElem?_cons_zero, Option.some.injEq] at ho; subst ho; (try dsimp only at hSw); go_simp; try with_reducible rfl)
        try simp only [Act.put, List.setIfInBounds_toArray, List.set_cons_zero, List.set_cons_succ]
        refine takeH 22 112 ?_ (by kernel_rfl) (by kernel_rfl) (by kernel_rfl) (by kernel_rfl) (fun _ _ _ h => h) (by kernel_rfl) (fun o ho w hSw => ?_) (by assumption) ?_
        rotate_left
        · (simp only [List.getElem?_toArray, List.getElem?_cons_succ, List.getElem?_cons_zero, Option.some.injEq] at ho; subst ho; (try dsimp only at hSw); go_simp; try with_reducible rfl)
        try simp only [Act.put, List.setIfInBounds_toArray, List.set_cons_zero, List.set_cons_succ]
        refine takeH 23 113 ?_ (by kernel_rfl) (by kernel_rfl) (by kernel_rfl) (by kernel_rfl) (fun _ _ _ h => h) (by kernel_rfl) (fun o ho w hSw => ?_) (by assumption) ?_
        rotate_left
        · (simp only [List.getElem?_toArray, List.getElem?_cons_succ, List.getElem?_cons_zero, Option.some.injEq] at ho; subst ho; (try dsimp only at hSw); go_simp; try with_reducible rfl)
        try simp only [Act.put, List.setIfInBounds_toArray, List.set_cons_zero, List.set_cons_succ]
        refine takeH 24 114 ?_ (by kernel_rfl) (by kernel_rfl) (by kernel_rfl) (by kernel_rfl) (fun _ _ _ h => h) (by kernel_rfl) (fun o ho w hSw => ?_) (by assumption) ?_
        rotate_left
        · (simp only [List.getElem?_toArray, List.getElem?_cons_succ, List.getElem?_cons_zero, Option.some.injEq] at ho; subst ho; (try dsimp only at hSw); go_simp; try with_reducible rfl)
        try simp only [Act.put, List.setIfInBounds_toArray, List.set_cons_zero, List.set_cons_succ]
        refine takeH 25 115 ?_ (by kernel_rfl) (by kernel_rfl) (by kernel_rfl) (by kernel_rfl) (fun _ _ _ h => h) (by kernel_rfl) (fun o ho w hSw => ?_) (by assumption) ?_
        rotate_left
        · (simp only [List.getElem?_toArray, List.getElem?_cons_succ, List.getElem?_cons_zero, Option.some.injEq] at ho; subst ho; (try dsimp only at hSw); go_simp; try with_reducible rfl)
        try simp only [Act.put, List.setIfInBounds_toArray, List.set_cons_zero, List.set_cons_succ]
        refine callH 26 (by kernel_rfl) (by kernel_rfl) (fun o ho K hK => ?_)
        simp only [List.getElem?_toArray, List.getElem?_cons_succ, List.getElem?_cons_zero, Option.some.injEq] at ho; subst ho
        rw [if_pos (by rfl)]
        go_simp
        go_at_call 50
        with_reducible refine (line_r w.heap.size c v _ HLd.out.is HLd.out.old.size k hup X false HXV.out).mono ?_
        rintro e w5 ⟨rfl, hb5⟩
        have HL5 := Lib.hid (HLd.out.later hb5)
        have HX5 := Lib.hid (HXd.out.later hb5)
        have HB5 := Lib.hid hb5
        have HPa := Lib.hid (show w5.cell? ⟨w.heap.size, 0, none⟩ = some (.int .i64 c.ins) ∧ w5.cell? ⟨w.heap.size, 1, none⟩ = some (.int .i64 c.outs) ∧ w5.cell? ⟨w.heap.size, 2, none⟩ = some (.int .i64 c.slots) ∧ w5.cell? ⟨w.heap.size, 3, none⟩ = some (.int .i64 c.crosses) ∧ w5.cell? ⟨w.heap.size, 4, none⟩ = some (.int .i64 c.lines) ∧ w5.cell? ⟨w.heap.size, 5, none⟩ = some (.slice v.mems.1 v.mems.2.1 v.mems.2.2) ∧ w5.cell? ⟨w.heap.size, 6, none⟩ = some (.slice v.conts.1 v.conts.2.1 v.conts.2.2) ∧ w5.cell? ⟨w.heap.size, 7, none⟩ = some (.slice v.step.1 v.step.2.1 v.step.2.2) ∧ w5.cell? ⟨w.heap.size, 8, none⟩ = some (.slice v.deriv.1 v.deriv.2.1 v.deriv.2.2) ∧ w5.cell? ⟨w.heap.size, 9, none⟩ = some (.slice v.cross.1 v.cross.2.1 v.cross.2.2) ∧ w5.cell? ⟨W1.heap.size, 2, none⟩ = some (.slice (some ⟨g, off, none⟩) a.2.1 a.2.2) ∧ w5.cell? ⟨g, off + j, none⟩ = some (.int .i64 X) from ⟨HL5.out.blk.cell 0 rfl, HL5.out.blk.cell 1 rfl, HL5.out.blk.cell 2 rfl, HL5.out.blk.cell 3 rfl, HL5.out.blk.cell 4 rfl, HL5.out.blk.cell 5 rfl, HL5.out.blk.cell 6 rfl, HL5.out.blk.cell 7 rfl, HL5.out.blk.cell 8 rfl, HL5.out.blk.cell 9 rfl, by rw [← hab.out]; exact HX5.out.cell 2 rfl, (hb5.cell HGW.out).trans HP.out.2.2.2.2.2.2.2.2.2.2.2⟩)
        clear hb5
        refine hK.out _ _ HPa.out (fun hHeld => ?_)
        clear hK K
        try simp only [Act.put, List.setIfInBounds_toArray, List.set_cons_zero, List.set_cons_succ]
        refine takeH 27 117 ?_ (by kernel_rfl) (by kernel_rfl) (by kernel_rfl) (by kernel_rfl) (fun _ _ _ h => h) (by kernel_rfl) (fun o ho w hSw => ?_) (by assumption) ?_
        rotate_left
        · (simp only [List.getElem?_toArray, List.getElem?_cons_succ, List.getElem?_cons_zero, Option.some.injEq] at ho; subst ho; (try dsimp only at hSw); go_simp; try with_reducible rfl)
        try simp only [Act.put, List.setIfInBounds_toArray, List.set_cons_zero, List.set_cons_succ]
        refine takeH 28 118 ?_ (by kernel_rfl) (by kernel_rfl) (by kernel_rfl) (by kernel_rfl) (fun _ _ _ h => h) (by kernel_rfl) (fun o ho w hSw => ?_) (by assumption) ?_
        rotate_left
        · (simp only [List.getElem?_toArray, List.getElem?_cons_succ, List.getElem?_cons_zero, Option.some.injEq] at ho; subst ho; (try dsimp only at hSw); go_simp; try with_reducible rfl)
        try simp only [Act.put, List.setIfInBounds_toArray, List.set_cons_zero, List.set_cons_succ]
        refine takeH 29 119 ?_ (by kernel_rfl) (by kernel_rfl) (by kernel_rfl) (by kernel_rfl) (fun _ _ _ h => h) (by kernel_rfl) (fun o ho w hSw => ?_) (by assumption) ?_
        rotate_left
        · (simp only [List.getElem?_toArray, List.getElem?_cons_succ, List.getElem?_cons_zero, Option.some.injEq] at ho; subst ho; (try dsimp only at hSw); go_simp; try with_reducible rfl)
        try simp only [Act.put, List.setIfInBounds_toArray, List.set_cons_zero, List.set_cons_succ]
        refine wpAnyH_done (by kernel_rfl) ?_ _
        go_wp2
        go_ret
        exact ⟨ret_bool' (by rw [HV.out, split_no HIWq.out.1 hlt (by rw [if_neg HJS.out, ← HXE.out]; exact HXW.out)]; simp), HL5.out.old⟩
      | true =>
        have HXV : Hid (wrB c.lines (lTo (c.cross.take k)) X = true) := Lib.hid (hv0)
        have HXW := Lib.hid hv0
        clear hv0
        go_wp2
        refine wp_region_held_drew (S := fun w' => w'.cell? ⟨w.heap.size, 0, none⟩ = some (.int .i64 c.ins) ∧ w'.cell? ⟨w.heap.size, 1, none⟩ = some (.int .i64 c.outs) ∧ w'.cell? ⟨w.heap.size, 2, none⟩ = some (.int .i64 c.slots) ∧ w'.cell? ⟨w.heap.size, 3, none⟩ = some (.int .i64 c.crosses) ∧ w'.cell? ⟨w.heap.size, 4, none⟩ = some (.int .i64 c.lines) ∧ w'.cell? ⟨w.heap.size, 5, none⟩ = some (.slice v.mems.1 v.mems.2.1 v.mems.2.2) ∧ w'.cell? ⟨w.heap.size, 6, none⟩ = some (.slice v.conts.1 v.conts.2.1 v.conts.2.2) ∧ w'.cell? ⟨w.heap.size, 7, none⟩ = some (.slice v.step.1 v.step.2.1 v.step.2.2) ∧ w'.cell? ⟨w.heap.size, 8, none⟩ = some (.slice v.deriv.1 v.deriv.2.1 v.deriv.2.2) ∧ w'.cell? ⟨w.heap.size, 9, none⟩ = some (.slice v.cross.1 v.cross.2.1 v.cross.2.2) ∧ w'.cell? ⟨W1.heap.size, 2, none⟩ = some (.slice (some ⟨g, off, none⟩) a.2.1 a.2.2) ∧ w'.cell? ⟨g, off + j, none⟩ = some (.int .i64 X)) (by kernel_rfl) HP.out (fun hHeld => ?_)
        refine takeH 0 90 ?_ (by kernel_rfl) (by kernel_rfl) (by kernel_rfl) (by kernel_rfl) (fun _ _ _ h => h) (by kernel_rfl) (fun o ho w hSw => ?_) (by assumption) ?_
        rotate_left
        · (simp only [List.getElem?_toArray, List.getElem?_cons_succ, List.getElem?_cons_zero, Option.some.injEq] at ho; subst ho; (try dsimp only at hSw); go_simp; try with_reducible rfl)
        try simp only [Act.put, List.setIfInBounds_toArray, List.set_cons_zero, List.set_cons_succ]
        refine takeH 1 91 ?_ (by kernel_rfl) (by kernel_rfl) (by kernel_rfl) (by kernel_rfl) (fun _ _ _ h => h) (by kernel_rfl) (fun o ho w hSw => ?_) (by assumption) ?_
        rotate_left
        · (simp only [List.getElem?_toArray, List.getElem?_cons_succ, List.getElem?_cons_zero, Option.some.injEq] at ho; subst ho; (try dsimp only at hSw); go_simp; try with_reducible rfl)
        try simp only [Act.put, List.setIfInBounds_toArray, List.set_cons_zero, List.set_cons_succ]
        refine takeH 2 92 ?_ (by kernel_rfl) (by kernel_rfl) (by kernel_rfl) (by kernel_rfl) (fun _ _ _ h => h) (by kernel_rfl) (fun o ho w hSw => ?_) (by assumption) ?_
        rotate_left
        · (simp only [List.getElem?_toArray, List.getElem?_cons_succ, List.getElem?_cons_zero, Option.some.injEq] at ho; subst ho; (try dsimp only at hSw); go_simp; try with_reducible rfl)
        try simp only [Act.put, List.setIfInBounds_toArray, List.set_cons_zero, List.set_cons_succ]
        refine takeH 3 93 ?_ (by kernel_rfl) (by kernel_rfl) (by kernel_rfl) (by kernel_rfl) (fun _ _ _ h => h) (by kernel_rfl) (fun o ho w hSw => ?_) (by assumption) ?_
        rotate_left
        · (simp only [List.getElem?_toArray, List.getElem?_cons_succ, List.getElem?_cons_zero, Option.some.injEq] at ho; subst ho; (try dsimp only at hSw); go_simp; try with_reducible rfl)
        try simp only [Act.put, List.setIfInBounds_toArray, List.set_cons_zero, List.set_cons_succ]
        refine skipH 4 94 (by kernel_rfl) (by kernel_rfl) (by kernel_rfl) (by kernel_rfl) (fun _ _ _ h => h) (by kernel_rfl) (by assumption) ?_
        try simp only [Act.put, List.setIfInBounds_toArray, List.set_cons_zero, List.set_cons_succ]
        refine skipH 5 95 (by kernel_rfl) (by kernel_rfl) (by kernel_rfl) (by kernel_rfl) (fun _ _ _ h => h) (by kernel_rfl) (by assumption) ?_
        try simp only [Act.put, List.setIfInBounds_toArray, List.set_cons_zero, List.set_cons_succ]
        refine skipH 6 96 (by kernel_rfl) (by kernel_rfl) (by kernel_rfl) (by kernel_rfl) (fun _ _ _ h => h) (by kernel_rfl) (by assumption) ?_
        try simp only [Act.put, List.setIfInBounds_toArray, List.set_cons_zero, List.set_cons_succ]
        refine skipH 7 97 (by kernel_rfl) (by kernel_rfl) (by kernel_rfl) (by kernel_rfl) (fun _ _ _ h => h) (by kernel_rfl) (by assumption) ?_
        try simp only [Act.put, List.setIfInBounds_toArray, List.set_cons_zero, List.set_cons_succ]
        refine skipH 8 98 (by kernel_rfl) (by kernel_rfl) (by kernel_rfl) (by kernel_rfl) (fun _ _ _ h => h) (by kernel_rfl) (by assumption) ?_
        try simp only [Act.put, List.setIfInBounds_toArray, List.set_cons_zero, List.set_cons_succ]
        refine skipH 9 99 (by kernel_rfl) (by kernel_rfl) (by kernel_rfl) (by kernel_rfl) (fun _ _ _ h => h) (by kernel_rfl) (by assumption) ?_
        try simp only [Act.put, List.setIfInBounds_toArray, List.set_cons_zero, List.set_cons_succ]
        refine skipH 10 100 (by kernel_rfl) (by kernel_rfl) (by kernel_rfl) (by kernel_rfl) (fun _ _ _ h => h) (by kernel_rfl) (by assumption) ?_
        try simp only [Act.put, List.setIfInBounds_toArray, List.set_cons_zero, List.set_cons_succ]
        refine skipH 11 101 (by kernel_rfl) (by kernel_rfl) (by kernel_rfl) (by kernel_rfl) (fun _ _ _ h => h) (by kernel_rfl) (by assumption) ?_
        try simp only [Act.put, List.setIfInBounds_toArray, List.set_cons_zero, List.set_cons_succ]
        refine skipH 12 102 (by kernel_rfl) (by kernel_rfl) (by kernel_rfl) (by kernel_rfl) (fun _ _ _ h => h) (by kernel_rfl) (by assumption) ?_
        try simp only [Act.put, List.setIfInBounds_toArray, List.set_cons_zero, List.set_cons_succ]
        refine takeH 13 103 ?_ (by kernel_rfl) (by kernel_rfl) (by kernel_rfl) (by kernel_rfl) (fun _ _ _ h => h) (by kernel_rfl) (fun o ho w hSw => ?_) (by assumption) ?_
        rotate_left
        · (simp only [List.getElem?_toArray, List.getElem?_cons_succ, List.getElem?_cons_zero, Option.some.injEq] at ho; subst ho; (try dsimp only at hSw); go_simp; try with_reducible rfl)
        try simp only [Act.put, List.setIfInBounds_toArray, List.set_cons_zero, List.set_cons_succ]
        refine takeH 14 104 ?_ (by kernel_rfl) (by kernel_rfl) (by kernel_rfl) (by kernel_rfl) (fun _ _ _ h => h) (by kernel_rfl) (fun o ho w hSw => ?_) (by assumption) ?_
        rotate_left
        · (simp only [List.getElem?_toArray, List.getElem?_cons_succ, List.getElem?_cons_zero, Option.some.injEq] at ho; subst ho; (try dsimp only at hSw); go_simp; try with_reducible rfl)
        try simp only [Act.put, List.setIfInBounds_toArray, List.set_cons_zero, List.set_cons_succ]
        refine takeH 15 105 ?_ (by kernel_rfl) (by kernel_rfl) (by kernel_rfl) (by kernel_rfl) (fun _ _ _ h => h) (by kernel_rfl) (fun o ho w hSw => ?_) (by assumption) ?_
        rotate_left
        · (simp only [List.getElem?_toArray, List.getElem?_cons_succ, List.getElem?_cons_zero, Option.some.injEq] at ho; subst ho; (try dsimp only at hSw); go_simp; try with_reducible rfl)
        try simp only [Act.put, List.setIfInBounds_toArray, List.set_cons_zero, List.set_cons_succ]
        refine takeH 16 106 ?_ (by kernel_rfl) (by kernel_rfl) (by kernel_rfl) (by kernel_rfl) (fun _ _ _ h => h) (by kernel_rfl) (fun o ho w hSw => ?_) (by assumption) ?_
        rotate_left
        · (simp only [List.getElem?_toArray, List.getElem?_cons_succ, List.getElem?_cons_zero, Option.some.injEq] at ho; subst ho; (try dsimp only at hSw); go_simp; try with_reducible rfl)
        try simp only [Act.put, List.setIfInBounds_toArray, List.set_cons_zero, List.set_cons_succ]
        refine takeH 17 107 ?_ (by kernel_rfl) (by kernel_rfl) (by kernel_rfl) (by kernel_rfl) (fun _ _ _ h => h) (by kernel_rfl) (fun o ho w hSw => ?_) (by assumption) ?_
        rotate_left
        · (simp only [List.getElem?_toArray, List.getElem?_cons_succ, List.getElem?_cons_zero, Option.some.injEq] at ho; subst ho; (try dsimp only at hSw); go_simp; try with_reducible rfl)
        try simp only [Act.put, List.setIfInBounds_toArray, List.set_cons_zero, List.set_cons_succ]
        refine takeH 18 108 ?_ (by kernel_rfl) (by kernel_rfl) (by kernel_rfl) (by kernel_rfl) (fun _ _ _ h => h) (by kernel_rfl) (fun o ho w hSw => ?_) (by assumption) ?_
        rotate_left
        · (simp only [List.getElem?_toArray, List.getElem?_cons_succ, List.getElem?_cons_zero, Option.some.injEq] at ho; subst ho; (try dsimp only at hSw); go_simp; try with_reducible rfl)
        try simp only [Act.put, List.setIfInBounds_toArray, List.set_cons_zero, List.set_cons_succ]
        refine takeH 19 109 ?_ (by kernel_rfl) (by kernel_rfl) (by kernel_rfl) (by kernel_rfl) (fun _ _ _ h => h) (by kernel_rfl) (fun o ho w hSw => ?_) (by assumption) ?_
        rotate_left
        · (simp only [List.getElem?_toArray, List.getElem?_cons_succ, List.getElem?_cons_zero, Option.some.injEq] at ho; subst ho; (try dsimp only at hSw); go_simp; try with_reducible rfl)
        try simp only [Act.put, List.setIfInBounds_toArray, List.set_cons_zero, List.set_cons_succ]
        refine takeH 20 110 ?_ (by kernel_rfl) (by kernel_rfl) (by kernel_rfl) (by kernel_rfl) (fun _ _ _ h => h) (by kernel_rfl) (fun o ho w hSw => ?_) (by assumption) ?_
        rotate_left
        · (simp only [List.getElem?_toArray, List.getElem?_cons_succ, List.getElem?_cons_zero, Option.some.injEq] at ho; subst ho; (try dsimp only at hSw); go_simp; try with_reducible rfl)
        try simp only [Act.put, List.setIfInBounds_toArray, List.set_cons_zero, List.set_cons_succ]
        refine takeH 21 111 ?_ (by kernel_rfl) (by kernel_rfl) (by kernel_rfl) (by kernel_rfl) (fun _ _ _ h => h) (by kernel_rfl) (fun o ho w hSw => ?_) (by assumption) ?_
        rotate_left
        · (simp only [List.getElem?_toArray, List.getElem?_cons_succ, List.getElem?_cons_zero, Option.some.injEq] at ho; subst ho; (try dsimp only at hSw); go_simp; try with_reducible rfl)
        try simp only [Act.put, List.setIfInBounds_toArray, List.set_cons_zero, List.set_cons_succ]
        refine takeH 22 112 ?_ (by kernel_rfl) (by kernel_rfl) (by kernel_rfl) (by kernel_rfl) (fun _ _ _ h => h) (by kernel_rfl) (fun o ho w hSw => ?_) (by assumption) ?_
        rotate_left
        · (simp only [List.getElem?_toArray, List.getElem?_cons_succ, List.getElem?_cons_zero, Option.some.injEq] at ho; subst ho; (try dsimp only at hSw); go_simp; try with_reducible rfl)
        try simp only [Act.put, List.setIfInBounds_toArray, List.set_cons_zero, List.set_cons_succ]
        refine takeH 23 113 ?_ (by kernel_rfl) (by kernel_rfl) (by kernel_rfl) (by kernel_rfl) (fun _ _ _ h => h) (by kernel_rfl) (fun o ho w hSw => ?_) (by assumption) ?_
        rotate_left
        · (simp only [List.getElem?_toArray, List.getElem?_cons_succ, List.getElem?_cons_zero, Option.some.injEq] at ho; subst ho; (try dsimp only at hSw); go_simp; try with_reducible rfl)
        try simp only [Act.put, List.setIfInBounds_toArray, List.set_cons_zero, List.set_cons_succ]
        refine takeH 24 114 ?_ (by kernel_rfl) (by kernel_rfl) (by kernel_rfl) (by kernel_rfl) (fun _ _ _ h => h) (by kernel_rfl) (fun o ho w hSw => ?_) (by assumption) ?_
        rotate_left
        · (simp only [List.getElem?_toArray, List.getElem?_cons_succ, List.getElem?_cons_zero, Option.some.injEq] at ho; subst ho; (try dsimp only at hSw); go_simp; try with_reducible rfl)
        try simp only [Act.put, List.setIfInBounds_toArray, List.set_cons_zero, List.set_cons_succ]
        refine takeH 25 115 ?_ (by kernel_rfl) (by kernel_rfl) (by kernel_rfl) (by kernel_rfl) (fun _ _ _ h => h) (by kernel_rfl) (fun o ho w hSw => ?_) (by assumption) ?_
        rotate_left
        · (simp only [List.getElem?_toArray, List.getElem?_cons_succ, List.getElem?_cons_zero, Option.some.injEq] at ho; subst ho; (try dsimp only at hSw); go_simp; try with_reducible rfl)
        try simp only [Act.put, List.setIfInBounds_toArray, List.set_cons_zero, List.set_cons_succ]
        refine callH 26 (by kernel_rfl) (by kernel_rfl) (fun o ho K hK => ?_)
        simp only [List.getElem?_toArray, List.getElem?_cons_succ, List.getElem?_cons_zero, Option.some.injEq] at ho; subst ho
        rw [if_pos (by rfl)]
        go_simp
        go_at_call 50
        with_reducible refine (line_r w.heap.size c v _ HLd.out.is HLd.out.old.size k hup X true HXV.out).mono ?_
        rintro e w5 ⟨rfl, hb5⟩
        have HL5 := Lib.hid (HLd.out.later hb5)
        have HX5 := Lib.hid (HXd.out.later hb5)
        have HB5 := Lib.hid hb5
        have HPa := Lib.hid (show w5.cell? ⟨w.heap.size, 0, none⟩ = some (.int .i64 c.ins) ∧ w5.cell? ⟨w.heap.size, 1, none⟩ = some (.int .i64 c.outs) ∧ w5.cell? ⟨w.heap.size, 2, none⟩ = some (.int .i64 c.slots) ∧ w5.cell? ⟨w.heap.size, 3, none⟩ = some (.int .i64 c.crosses) ∧ w5.cell? ⟨w.heap.size, 4, none⟩ = some (.int .i64 c.lines) ∧ w5.cell? ⟨w.heap.size, 5, none⟩ = some (.slice v.mems.1 v.mems.2.1 v.mems.2.2) ∧ w5.cell? ⟨w.heap.size, 6, none⟩ = some (.slice v.conts.1 v.conts.2.1 v.conts.2.2) ∧ w5.cell? ⟨w.heap.size, 7, none⟩ = some (.slice v.step.1 v.step.2.1 v.step.2.2) ∧ w5.cell? ⟨w.heap.size, 8, none⟩ = some (.slice v.deriv.1 v.deriv.2.1 v.deriv.2.2) ∧ w5.cell? ⟨w.heap.size, 9, none⟩ = some (.slice v.cross.1 v.cross.2.1 v.cross.2.2) ∧ w5.cell? ⟨W1.heap.size, 2, none⟩ = some (.slice (some ⟨g, off, none⟩) a.2.1 a.2.2) ∧ w5.cell? ⟨g, off + j, none⟩ = some (.int .i64 X) from ⟨HL5.out.blk.cell 0 rfl, HL5.out.blk.cell 1 rfl, HL5.out.blk.cell 2 rfl, HL5.out.blk.cell 3 rfl, HL5.out.blk.cell 4 rfl, HL5.out.blk.cell 5 rfl, HL5.out.blk.cell 6 rfl, HL5.out.blk.cell 7 rfl, HL5.out.blk.cell 8 rfl, HL5.out.blk.cell 9 rfl, by rw [← hab.out]; exact HX5.out.cell 2 rfl, (hb5.cell HGW.out).trans HP.out.2.2.2.2.2.2.2.2.2.2.2⟩)
        clear hb5
        refine hK.out _ _ HPa.out (fun hHeld => ?_)
        clear hK K
        try simp only [Act.put, List.setIfInBounds_toArray, List.set_cons_zero, List.set_cons_succ]
        refine takeH 27 117 ?_ (by kernel_rfl) (by kernel_rfl) (by kernel_rfl) (by kernel_rfl) (fun _ _ _ h => h) (by kernel_rfl) (fun o ho w hSw => ?_) (by assumption) ?_
        rotate_left
        · (simp only [List.getElem?_toArray, List.getElem?_cons_succ, List.getElem?_cons_zero, Option.some.injEq] at ho; subst ho; (try dsimp only at hSw); go_simp; try with_reducible rfl)
        try simp only [Act.put, List.setIfInBounds_toArray, List.set_cons_zero, List.set_cons_succ]
        refine takeH 28 118 ?_ (by kernel_rfl) (by kernel_rfl) (by kernel_rfl) (by kernel_rfl) (fun _ _ _ h => h) (by kernel_rfl) (fun o ho w hSw => ?_) (by assumption) ?_
        rotate_left
        · (simp only [List.getElem?_toArray, List.getElem?_cons_succ, List.getElem?_cons_zero, Option.some.injEq] at ho; subst ho; (try dsimp only at hSw); go_simp; try with_reducible rfl)
        try simp only [Act.put, List.setIfInBounds_toArray, List.set_cons_zero, List.set_cons_succ]
        refine takeH 29 119 ?_ (by kernel_rfl) (by kernel_rfl) (by kernel_rfl) (by kernel_rfl) (fun _ _ _ h => h) (by kernel_rfl) (fun o ho w hSw => ?_) (by assumption) ?_
        rotate_left
        · (simp only [List.getElem?_toArray, List.getElem?_cons_succ, List.getElem?_cons_zero, Option.some.injEq] at ho; subst ho; (try dsimp only at hSw); go_simp; try with_reducible rfl)
        try simp only [Act.put, List.setIfInBounds_toArray, List.set_cons_zero, List.set_cons_succ]
        refine wpAnyH_done (by kernel_rfl) ?_ _
        go_wp2
        go_roundw
        case rel => exact ⟨j + 1, by omega, by go_num, Lib.hid (fun i hi => by
          rcases Nat.lt_or_ge i j with q | q
          · exact HA.out i q
          · obtain rfl : i = j := by omega
            rw [if_neg HJS.out, ← HXE.out]; exact HXW.out), Lib.hid (HBr.out.drew.trans (HB5.out.mono HBr.out.size))⟩
        case measure => simp [intOf]; omega
    · obtain rfl : j = a.2.1 := by omega
      have HSP := Lib.hid (split_yes HIW.out.args.1 HA.out)
      go_wp2
      go_ret
      exact ⟨ret_bool' (by rw [HV.out, HN.out, HPK.out, HGE.out, HR0.out, HSP.out.1, HSP.out.2, HDD.out]; rfl), HLq.out.old⟩

end Go.Proofs.Ytcljmfhelgkfaaa
