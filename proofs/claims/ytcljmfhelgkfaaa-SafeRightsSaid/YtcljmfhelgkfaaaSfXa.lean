/- What deriv of the answer tells. No condition but bounds. -/
import Derived.Test.YtcljmfhelgkfaaaSfX
import Derived.Deep.RegionWith
import Derived.Deep.RegionHeld3
import Derived.Deep.DeepCutAuto
import Derived.Deep.RegionLaw
import Derived.BigRegion
import Derived.IntWalk
namespace Go.Proofs.Ytcljmfhelgkfaaa
set_option linter.unusedVariables false
set_option linter.unusedSimpArgs false
set_option maxRecDepth 100000
open Go.RowKit

section
variable {P : Program} {ops : Array Oper} {Q : Exit → Act → World → Prop} {md : Region.Mode} {S : World → Prop}
theorem skipH (i d : Nat) {fuel : Nat} {listed : Array Bool} {a : Act} {w : World} (hd : (ops[i]?).map (·.dst) = some (some d))
    (hs : Region.noSelect ops = true) (hf : Region.free md ops listed i = true) (hr : (Region.ready md ops listed).contains i = true)
    (hQ : ∀ c a w, Q (.panic c) (a.put (some d) undef) w → Q (.panic c) a w) (hw : (ops[i]?).map (fun o => Region.wanted o (yielded ops a.tmps)) = some false) (hS : S w)
    (h : wpAnyH P md ops Q S fuel (listed.setIfInBounds i true) (a.put (some d) undef) w) : wpAnyH P md ops Q S (fuel + 1) listed a w := by
  cases ho : ops[i]? with
  | none => rw [ho] at hd; cases hd
  | some o =>
    rw [ho] at hd hw
    have e1 : o.dst = some d := by simpa using hd
    have e2 : Region.wanted o (yielded ops a.tmps) = false := by simpa using hw
    exact wpAnyH_take (oi := o) (v := undef) ho hs hf hr (by rw [e1]; exact hQ) (Or.inr ⟨e2, rfl⟩) hS (by rw [e1]; exact h)
theorem takeH (i d : Nat) (v : Value) {fuel : Nat} {listed : Array Bool} {a : Act} {w : World} (hd : (ops[i]?).map (·.dst) = some (some d))
    (hs : Region.noSelect ops = true) (hf : Region.free md ops listed i = true) (hr : (Region.ready md ops listed).contains i = true)
    (hQ : ∀ c a w, Q (.panic c) (a.put (some d) v) w → Q (.panic c) a w) (hw : (ops[i]?).map (fun o => Region.wanted o (yielded ops a.tmps)) = some true)
    (hy : ∀ o, ops[i]? = some o → ∀ w, S w → (execOp a.eval o).run P w = .ok (.value v) w) (hS : S w)
    (h : wpAnyH P md ops Q S fuel (listed.setIfInBounds i true) (a.put (some d) v) w) : wpAnyH P md ops Q S (fuel + 1) listed a w := by
  cases ho : ops[i]? with
  | none => rw [ho] at hd; cases hd
  | some o =>
    have h5 := hy o ho
    rw [ho] at hd hw
    have e1 : o.dst = some d := by simpa using hd
    have e2 : Region.wanted o (yielded ops a.tmps) = true := by simpa using hw
    exact wpAnyH_take (oi := o) (v := v) ho hs hf hr (by rw [e1]; exact hQ) (Or.inl ⟨e2, h5⟩) hS (by rw [e1]; exact h)
theorem callH (i : Nat) {fuel : Nat} {listed : Array Bool} {a : Act} {w : World} (hr : Region.ready md ops listed = [i]) (hn : (ops[i]?).isSome = true)
    (h : ∀ o, ops[i]? = some o → ∀ K' : Act → World → Prop, Shut (∀ a w, S w → (S w → wpAnyH P md ops Q S fuel (listed.setIfInBounds i true) a w) → K' a w) → if Region.wanted o (yielded ops a.tmps) = true then Oper.wp P o a w K' Q else K' (a.put o.dst undef) w) : wpAnyH P md ops Q S (fuel + 1) listed a w := by
  refine wpAnyH_ready (rs := [i]) hr (by simp) ?_
  cases ho : ops[i]? with
  | none => rw [ho] at hn; cases hn
  | some o => exact AllReadyH.cons ho (h o ho) AllReadyH.nil
end
set_option maxHeartbeats 4000000 in
theorem d6_6 (B : Nat) (c : CodeM) (v : CodeV) (w : World) (h : CodeIs w B c v) (hB : B ≤ w.heap.size) (hok : OkS c v.step.2.1) (q : InsP) (a m d r : Option Addr × Nat × Nat) (hx : InsW w B q a m d r) (h1 : q.op = opSlope) (hk : inB q.k v.conts.2.1 = true) (ho : a.2.1 % 2 = 0) (h0 : r.2.1 = 0) (hg : gdB c.slots (wTo c.step) q.guard = true) : Calls Try.prog 25 #[.agg #[.int .i64 c.ins, .int .i64 c.outs, .int .i64 c.slots, .int .i64 c.crosses, .int .i64 c.lines, .slice v.mems.1 v.mems.2.1 v.mems.2.2, .slice v.conts.1 v.conts.2.1 v.conts.2.2, .slice v.step.1 v.step.2.1 v.step.2.2, .slice v.deriv.1 v.deriv.2.1 v.deriv.2.2, .slice v.cross.1 v.cross.2.1 v.cross.2.2], .agg #[.string q.op, .int .i64 q.dst, .slice a.1 a.2.1 a.2.2, .int .i64 q.k, .int .i64 q.lit.kind, .bool q.lit.neg, .slice m.1 m.2.1 m.2.2, .slice d.1 d.2.1 d.2.2, .string q.lit.name, .int .i64 q.guard, .slice r.1 r.2.1 r.2.2]] w fun e w' => e = .returned (.bool (drB c (wTo c.step) q)) ∧ Below w.heap.size w w' := by
  obtain ⟨r1, rn, rc⟩ := r
  obtain rfl : rn = 0 := h0
  have HR0 : Hid (decide ((r1, 0, rc).2.1 = (0 : Nat)) = true) := Lib.hid rfl
  obtain ⟨W1, hW1⟩ : ∃ W1, W1 = (w.alloc (.cells #[.int .i64 c.ins, .int .i64 c.outs, .int .i64 c.slots, .int .i64 c.crosses, .int .i64 c.lines, .slice v.mems.1 v.mems.2.1 v.mems.2.2, .slice v.conts.1 v.conts.2.1 v.conts.2.2, .slice v.step.1 v.step.2.1 v.step.2.2, .slice v.deriv.1 v.deriv.2.1 v.deriv.2.2, .slice v.cross.1 v.cross.2.1 v.cross.2.2] 25)).alloc (.cells #[.string q.op, .int .i64 q.dst, .slice a.1 a.2.1 a.2.2, .int .i64 q.k, .int .i64 q.lit.kind, .bool q.lit.neg, .slice m.1 m.2.1 m.2.2, .slice d.1 d.2.1 d.2.2, .string q.lit.name, .int .i64 q.guard, .slice r1 0 rc] 52) := ⟨_, rfl⟩
  have HV := Lib.hid (drB_eq (W := (wTo c.step)) h hx)
  have HL := Lib.hid (show LwSt w c v W1 from by rw [hW1]; exact (LwSt.start (h.more hB)).later ((Below.refl _ _).alloc (Nat.le_refl _) _))
  have HX := Lib.hid (show Blk W1 (w.heap.size + 1) 52 (ics q a m d (r1, 0, rc)) from by rw [hW1]; have h := Blk.new (w.alloc (.cells #[.int .i64 c.ins, .int .i64 c.outs, .int .i64 c.slots, .int .i64 c.crosses, .int .i64 c.lines, .slice v.mems.1 v.mems.2.1 v.mems.2.2, .slice v.conts.1 v.conts.2.1 v.conts.2.2, .slice v.step.1 v.step.2.1 v.step.2.2, .slice v.deriv.1 v.deriv.2.1 v.deriv.2.2, .slice v.cross.1 v.cross.2.1 v.cross.2.2] 25)) 52 #[.string q.op, .int .i64 q.dst, .slice a.1 a.2.1 a.2.2, .int .i64 q.k, .int .i64 q.lit.kind, .bool q.lit.neg, .slice m.1 m.2.1 m.2.2, .slice d.1 d.2.1 d.2.2, .string q.lit.name, .int .i64 q.guard, .slice r1 0 rc]; rw [size_alloc] at h; exact h)
  have HIW := Lib.hid (show InsW W1 w.heap.size q a m d (r1, 0, rc) from { hx with args := (hx.args.more hB).below HL.out.old, resets := (hx.resets.more hB).below HL.out.old })
  have HOK := Lib.hid hok
  have HWE := Lib.hid (wTo_all (c := c) h.step.1)
  have hma := hx.args.len_le
  have hmr : 0 ≤ maxLen := Nat.zero_le _
  have hm2 := h.conts.len_le
  unfold maxLen at hma hmr hm2
  clear h hB hok hx
  have g1 : (q.op.toList == [115, 108, 111, 112, 101]) = true := by rw [h1, Lib.toList_data]; rfl
  have H1 : Hid (decide (q.op = opSlope) = true) := Lib.hid (decide_eq_true h1)
  clear h1
  have HKI := Lib.hid hk
  clear hk
  have he2 : (a.2.1 : Int) % 2 = 0 := by omega
  have HG : Hid (gdB c.slots (wTo (c.step.take v.step.2.1)) q.guard = true) := Lib.hid (by rw [HWE.out]; exact hg)
  have HGE := Lib.hid hg
  clear hg
  obtain ⟨n0, n1, n2, n3, n4, n5, n6, n7, n8, n9⟩ := HL.out.blk.code
  obtain ⟨p0, p1, p2, p3, p4, p5, p6, p7, p8, p9, p10⟩ := HX.out.elev
  have hq0 := HX.out.lt
  go_enter Try.func25, Try.ntmps25
  go_upto_region 1 with fail
  rw [← hW1]
  clear hW1
  go_upto_region 4 with (first | (go_at_call 48; (with_reducible refine (in_t q.k (v.conts.2.1 : Int) true _ HKI.out).mono ?_); rintro e w9 ⟨rfl, rfl⟩) | (go_at_call 46; (with_reducible refine (guard_r w.heap.size c v _ HL.out.is HL.out.old.size v.step.2.1 (Nat.le_refl _) HOK.out q.guard true HG.out).mono ?_); rintro e w2 ⟨rfl, hb2⟩; have HIW := Lib.hid (HIW.out.keep (hb2.mono HL.out.old.size)); have HL := Lib.hid (HL.out.later hb2); have HX := Lib.hid (HX.out.later hb2); clear hb2 n0 n1 n2 n3 n4 n5 n6 n7 n8 n9 p0 p1 p2 p3 p4 p5 p6 p7 p8 p9 p10 hq0; obtain ⟨n0, n1, n2, n3, n4, n5, n6, n7, n8, n9⟩ := HL.out.blk.code; obtain ⟨p0, p1, p2, p3, p4, p5, p6, p7, p8, p9, p10⟩ := HX.out.elev; have hq0 := HX.out.lt))
  have HV2 : Hid (drB c (wTo c.step) q = twoB c.slots (wTo c.step) q.args) := Lib.hid (by rw [HV.out, H1.out, HKI.out, HGE.out, HR0.out]; rfl)
  go_wp2_with fail
  go_loopw [6] (fun t wr => ∃ k : Nat, k * 2 ≤ a.2.1 ∧ t = .int .i64 ((k * 2 : Nat) : Int) ∧ Hid (twoB c.slots (wTo c.step) q.args = twoB c.slots (wTo c.step) (q.args.drop (k * 2))) ∧ Hid (Below w2.heap.size w2 wr)) (fun t _ => a.2.1 - (intOf t).toNat)
  case atStart => exact ⟨0, Nat.zero_le _, rfl, Lib.hid rfl, Lib.hid (Below.refl _ _)⟩
  case round =>
    obtain ⟨k, hk, rfl, HK, HBr⟩ := hrel
    obtain ⟨i, hi⟩ : ∃ i : Nat, i = k * 2 := ⟨_, rfl⟩
    have HIK := Lib.hid hi
    rw [← hi] at hk HK ⊢
    have hev : i % 2 = 0 := by omega
    have HLq := Lib.hid (HL.out.later HBr.out)
    have HXq := Lib.hid (HX.out.later HBr.out)
    clear hi p0 p1 p2 p3 p4 p5 p6 p7 p8 p9 p10 n0 n1 n2 n3 n4 n5 n6 n7 n8 n9 hq0
    have p2 : wr.cell? ⟨w.heap.size + 1, 2, none⟩ = some (.slice a.1 a.2.1 a.2.2) := HXq.out.cell 2 rfl
    have hq0 := HXq.out.lt
    have hi62 : i + 1 ≤ 9223372036854775807 := by omega
    by_cases hlt : i + 1 < a.2.1
    · have hi63 : i + 2 ≤ 9223372036854775807 := by omega
      have hl0 : i < a.2.1 := by omega
      have HIWq := Lib.hid (HIW.out.args.below (HBr.out.mono HL.out.old.size))
      obtain ⟨g, off, ha, hgl, hc0⟩ := HIWq.out.at_ hl0
      obtain ⟨g', off', ha', hgl', hc1⟩ := HIWq.out.at_ hlt
      obtain ⟨rfl, rfl⟩ : g = g' ∧ off = off' := by rw [ha] at ha'; injection ha' with ha'; injection ha' with e1 e2; exact ⟨e1, e2⟩
      obtain ⟨G0, hG0⟩ : ∃ G0, G0 = q.args.getD i 0 := ⟨_, rfl⟩
      obtain ⟨V0, hV0⟩ : ∃ V0, V0 = q.args.getD (i + 1) 0 := ⟨_, rfl⟩
      have HTW := Lib.hid (twoB_at (S := c.slots) (W := (wTo c.step)) (l := q.args) (k := i) (by rw [HIWq.out.1]; exact hlt))
      rw [← hG0, ← hV0] at HTW
      rw [← hG0] at hc0
      rw [← hV0] at hc1
      have hab := Lib.hid ha
      rw [ha] at p2
      have HLd := Lib.hid (HLq.out.later (Below.refl _ _).drew)
      have HXd := Lib.hid (HXq.out.later (Below.refl _ _).drew)
      have HGW : Hid (g < wr.drew.heap.size) := Lib.hid (Nat.lt_of_lt_of_le hgl HLq.out.old.size)
      have HP := Lib.hid (show wr.drew.cell? ⟨w.heap.size, 0, none⟩ = some (.int .i64 c.ins) ∧ wr.drew.cell? ⟨w.heap.size, 1, none⟩ = some (.int .i64 c.outs) ∧ wr.drew.cell? ⟨w.heap.size, 2, none⟩ = some (.int .i64 c.slots) ∧ wr.drew.cell? ⟨w.heap.size, 3, none⟩ = some (.int .i64 c.crosses) ∧ wr.drew.cell? ⟨w.heap.size, 4, none⟩ = some (.int .i64 c.lines) ∧ wr.drew.cell? ⟨w.heap.size, 5, none⟩ = some (.slice v.mems.1 v.mems.2.1 v.mems.2.2) ∧ wr.drew.cell? ⟨w.heap.size, 6, none⟩ = some (.slice v.conts.1 v.conts.2.1 v.conts.2.2) ∧ wr.drew.cell? ⟨w.heap.size, 7, none⟩ = some (.slice v.step.1 v.step.2.1 v.step.2.2) ∧ wr.drew.cell? ⟨w.heap.size, 8, none⟩ = some (.slice v.deriv.1 v.deriv.2.1 v.deriv.2.2) ∧ wr.drew.cell? ⟨w.heap.size, 9, none⟩ = some (.slice v.cross.1 v.cross.2.1 v.cross.2.2) ∧ wr.drew.cell? ⟨w.heap.size + 1, 2, none⟩ = some (.slice (some ⟨g, off, none⟩) a.2.1 a.2.2) ∧ wr.drew.cell? ⟨g, off + i, none⟩ = some (.int .i64 G0) ∧ wr.drew.cell? ⟨g, off + (i + 1), none⟩ = some (.int .i64 V0) from ⟨HLd.out.blk.cell 0 rfl, HLd.out.blk.cell 1 rfl, HLd.out.blk.cell 2 rfl, HLd.out.blk.cell 3 rfl, HLd.out.blk.cell 4 rfl, HLd.out.blk.cell 5 rfl, HLd.out.blk.cell 6 rfl, HLd.out.blk.cell 7 rfl, HLd.out.blk.cell 8 rfl, HLd.out.blk.cell 9 rfl, p2, hc0, hc1⟩)
      clear ha ha' hG0 hV0 hgl' hgl hc0 hc1
      have HE := Lib.hid HWE.out
      cases hg0 : gdB c.slots (wTo c.step) G0 with
      | false =>
        have HG0 : Hid (gdB c.slots (wTo (c.step.take v.step.2.1)) G0 = false) := Lib.hid (by rw [HWE.out]; exact hg0)
        have HV0 : Hid (wrB c.slots (wTo (c.step.take v.step.2.1)) V0 = wrB c.slots (wTo (c.step.take v.step.2.1)) V0) := Lib.hid rfl
        have HG1 := Lib.hid hg0
        clear hg0
        go_wp2
        refine wp_region_held_drew (S := fun w' => w'.cell? ⟨w.heap.size, 0, none⟩ = some (.int .i64 c.ins) ∧ w'.cell? ⟨w.heap.size, 1, none⟩ = some (.int .i64 c.outs) ∧ w'.cell? ⟨w.heap.size, 2, none⟩ = some (.int .i64 c.slots) ∧ w'.cell? ⟨w.heap.size, 3, none⟩ = some (.int .i64 c.crosses) ∧ w'.cell? ⟨w.heap.size, 4, none⟩ = some (.int .i64 c.lines) ∧ w'.cell? ⟨w.heap.size, 5, none⟩ = some (.slice v.mems.1 v.mems.2.1 v.mems.2.2) ∧ w'.cell? ⟨w.heap.size, 6, none⟩ = some (.slice v.conts.1 v.conts.2.1 v.conts.2.2) ∧ w'.cell? ⟨w.heap.size, 7, none⟩ = some (.slice v.step.1 v.step.2.1 v.step.2.2) ∧ w'.cell? ⟨w.heap.size, 8, none⟩ = some (.slice v.deriv.1 v.deriv.2.1 v.deriv.2.2) ∧ w'.cell? ⟨w.heap.size, 9, none⟩ = some (.slice v.cross.1 v.cross.2.1 v.cross.2.2) ∧ w'.cell? ⟨w.heap.size + 1, 2, none⟩ = some (.slice (some ⟨g, off, none⟩) a.2.1 a.2.2) ∧ w'.cell? ⟨g, off + i, none⟩ = some (.int .i64 G0) ∧ w'.cell? ⟨g, off + (i + 1), none⟩ = some (.int .i64 V0)) (by kernel_rfl) HP.out (fun hHeld => ?_)
        refine takeH 0 51 ?_ (by kernel_rfl) (by kernel_rfl) (by kernel_rfl) (by kernel_rfl) (fun _ _ _ h => h) (by kernel_rfl) (fun o ho w hSw => ?_) (by assumption) ?_
        rotate_left
        · (simp only [List.getElem?_toArray, List.getElem?_cons_succ, List.getElem?_cons_zero, Option.some.injEq] at ho; subst ho; (try dsimp only at hSw); go_simp; try with_reducible rfl)
        try simp only [Act.put, List.setIfInBounds_toArray, List.set_cons_zero, List.set_cons_succ]
        refine takeH 1 52 ?_ (by kernel_rfl) (by kernel_rfl) (by kernel_rfl) (by kernel_rfl) (fun _ _ _ h => h) (by kernel_rfl) (fun o ho w hSw => ?_) (by assumption) ?_
        rotate_left
        · (simp only [List.getElem?_toArray, List.getElem?_cons_succ, List.getElem?_cons_zero, Option.some.injEq] at ho; subst ho; (try dsimp only at hSw); go_simp; try with_reducible rfl)
        try simp only [Act.put, List.setIfInBounds_toArray, List.set_cons_zero, List.set_cons_succ]
        refine takeH 2 53 ?_ (by kernel_rfl) (by kernel_rfl) (by kernel_rfl) (by kernel_rfl) (fun _ _ _ h => h) (by kernel_rfl) (fun o ho w hSw => ?_) (by assumption) ?_
        rotate_left
        · (simp only [List.getElem?_toArray, List.getElem?_cons_succ, List.getElem?_cons_zero, Option.some.injEq] at ho; subst ho; (try dsimp only at hSw); go_simp; try with_reducible rfl)
        try simp only [Act.put, List.setIfInBounds_toArray, List.set_cons_zero, List.set_cons_succ]
        refine takeH 3 54 ?_ (by kernel_rfl) (by kernel_rfl) (by kernel_rfl) (by kernel_rfl) (fun _ _ _ h => h) (by kernel_rfl) (fun o ho w hSw => ?_) (by assumption) ?_
        rotate_left
        · (simp only [List.getElem?_toArray, List.getElem?_cons_succ, List.getElem?_cons_zero, Option.some.injEq] at ho; subst ho; (try dsimp only at hSw); go_simp; try with_reducible rfl)
        try simp only [Act.put, List.setIfInBounds_toArray, List.set_cons_zero, List.set_cons_succ]
        refine takeH 4 55 ?_ (by kernel_rfl) (by kernel_rfl) (by kernel_rfl) (by kernel_rfl) (fun _ _ _ h => h) (by kernel_rfl) (fun o ho w hSw => ?_) (by assumption) ?_
        rotate_left
        · (simp only [List.getElem?_toArray, List.getElem?_cons_succ, List.getElem?_cons_zero, Option.some.injEq] at ho; subst ho; (try dsimp only at hSw); go_simp; try with_reducible rfl)
        try simp only [Act.put, List.setIfInBounds_toArray, List.set_cons_zero, List.set_cons_succ]
        refine takeH 5 56 ?_ (by kernel_rfl) (by kernel_rfl) (by kernel_rfl) (by kernel_rfl) (fun _ _ _ h => h) (by kernel_rfl) (fun o ho w hSw => ?_) (by assumption) ?_
        rotate_left
        · (simp only [List.getElem?_toArray, List.getElem?_cons_succ, List.getElem?_cons_zero, Option.some.injEq] at ho; subst ho; (try dsimp only at hSw); go_simp; try with_reducible rfl)
        try simp only [Act.put, List.setIfInBounds_toArray, List.set_cons_zero, List.set_cons_succ]
        refine takeH 6 57 ?_ (by kernel_rfl) (by kernel_rfl) (by kernel_rfl) (by kernel_rfl) (fun _ _ _ h => h) (by kernel_rfl) (fun o ho w hSw => ?_) (by assumption) ?_
        rotate_left
        · (simp only [List.getElem?_toArray, List.getElem?_cons_succ, List.getElem?_cons_zero, Option.some.injEq] at ho; subst ho; (try dsimp only at hSw); go_simp; try with_reducible rfl)
        try simp only [Act.put, List.setIfInBounds_toArray, List.set_cons_zero, List.set_cons_succ]
        refine callH 7 (by kernel_rfl) (by kernel_rfl) (fun o ho K hK => ?_)
        simp only [List.getElem?_toArray, List.getElem?_cons_succ, List.getElem?_cons_zero, Option.some.injEq] at ho; subst ho
        rw [if_pos (by rfl)]
        go_simp
        go_at_call 46
        with_reducible refine (guard_r w.heap.size c v _ HLd.out.is HLd.out.old.size v.step.2.1 (Nat.le_refl _) HOK.out G0 false HG0.out).mono ?_
        rintro e w5 ⟨rfl, hb5⟩
        have HL5 := Lib.hid (HLd.out.later hb5)
        have HX5 := Lib.hid (HXd.out.later hb5)
        have HB5 := Lib.hid hb5
        have HPa := Lib.hid (show w5.cell? ⟨w.heap.size, 0, none⟩ = some (.int .i64 c.ins) ∧ w5.cell? ⟨w.heap.size, 1, none⟩ = some (.int .i64 c.outs) ∧ w5.cell? ⟨w.heap.size, 2, none⟩ = some (.int .i64 c.slots) ∧ w5.cell? ⟨w.heap.size, 3, none⟩ = some (.int .i64 c.crosses) ∧ w5.cell? ⟨w.heap.size, 4, none⟩ = some (.int .i64 c.lines) ∧ w5.cell? ⟨w.heap.size, 5, none⟩ = some (.slice v.mems.1 v.mems.2.1 v.mems.2.2) ∧ w5.cell? ⟨w.heap.size, 6, none⟩ = some (.slice v.conts.1 v.conts.2.1 v.conts.2.2) ∧ w5.cell? ⟨w.heap.size, 7, none⟩ = some (.slice v.step.1 v.step.2.1 v.step.2.2) ∧ w5.cell? ⟨w.heap.size, 8, none⟩ = some (.slice v.deriv.1 v.deriv.2.1 v.deriv.2.2) ∧ w5.cell? ⟨w.heap.size, 9, none⟩ = some (.slice v.cross.1 v.cross.2.1 v.cross.2.2) ∧ w5.cell? ⟨w.heap.size + 1, 2, none⟩ = some (.slice (some ⟨g, off, none⟩) a.2.1 a.2.2) ∧ w5.cell? ⟨g, off + i, none⟩ = some (.int .i64 G0) ∧ w5.cell? ⟨g, off + (i + 1), none⟩ = some (.int .i64 V0) from ⟨HL5.out.blk.cell 0 rfl, HL5.out.blk.cell 1 rfl, HL5.out.blk.cell 2 rfl, HL5.out.blk.cell 3 rfl, HL5.out.blk.cell 4 rfl, HL5.out.blk.cell 5 rfl, HL5.out.blk.cell 6 rfl, HL5.out.blk.cell 7 rfl, HL5.out.blk.cell 8 rfl, HL5.out.blk.cell 9 rfl, by rw [← hab.out]; exact HX5.out.cell 2 rfl, (hb5.cell HGW.out).trans HP.out.2.2.2.2.2.2.2.2.2.2.2.1, (hb5.cell HGW.out).trans HP.out.2.2.2.2.2.2.2.2.2.2.2.2⟩)
        clear hb5
        refine hK.out _ _ HPa.out (fun hHeld => ?_)
        clear hK K
        try simp only [Act.put, List.setIfInBounds_toArray, List.set_cons_zero, List.set_cons_succ]
        refine takeH 8 59 ?_ (by kernel_rfl) (by kernel_rfl) (by kernel_rfl) (by kernel_rfl) (fun _ _ _ h => h) (by kernel_rfl) (fun o ho w hSw => ?_) (by assumption) ?_
        rotate_left
        · (simp only [List.getElem?_toArray, List.getElem?_cons_succ, List.getElem?_cons_zero, Option.some.injEq] at ho; subst ho; (try dsimp only at hSw); go_simp; try with_reducible rfl)
        try simp only [Act.put, List.setIfInBounds_toArray, List.set_cons_zero, List.set_cons_succ]
        refine takeH 9 60 ?_ (by kernel_rfl) (by kernel_rfl) (by kernel_rfl) (by kernel_rfl) (fun _ _ _ h => h) (by kernel_rfl) (fun o ho w hSw => ?_) (by assumption) ?_
        rotate_left
        · (simp only [List.getElem?_toArray, List.getElem?_cons_succ, List.getElem?_cons_zero, Option.some.injEq] at ho; subst ho; (try dsimp only at hSw); go_simp; try with_reducible rfl)
        try simp only [Act.put, List.setIfInBounds_toArray, List.set_cons_zero, List.set_cons_succ]
        refine skipH 10 61 (by kernel_rfl) (by kernel_rfl) (by kernel_rfl) (by kernel_rfl) (fun _ _ _ h => h) (by kernel_rfl) (by assumption) ?_
        try simp only [Act.put, List.setIfInBounds_toArray, List.set_cons_zero, List.set_cons_succ]
        refine skipH 11 62 (by kernel_rfl) (by kernel_rfl) (by kernel_rfl) (by kernel_rfl) (fun _ _ _ h => h) (by kernel_rfl) (by assumption) ?_
        try simp only [Act.put, List.setIfInBounds_toArray, List.set_cons_zero, List.set_cons_succ]
        refine skipH 12 63 (by kernel_rfl) (by kernel_rfl) (by kernel_rfl) (by kernel_rfl) (fun _ _ _ h => h) (by kernel_rfl) (by assumption) ?_
        try simp only [Act.put, List.setIfInBounds_toArray, List.set_cons_zero, List.set_cons_succ]
        refine skipH 13 64 (by kernel_rfl) (by kernel_rfl) (by kernel_rfl) (by kernel_rfl) (fun _ _ _ h => h) (by kernel_rfl) (by assumption) ?_
        try simp only [Act.put, List.setIfInBounds_toArray, List.set_cons_zero, List.set_cons_succ]
        refine skipH 14 65 (by kernel_rfl) (by kernel_rfl) (by kernel_rfl) (by kernel_rfl) (fun _ _ _ h => h) (by kernel_rfl) (by assumption) ?_
        try simp only [Act.put, List.setIfInBounds_toArray, List.set_cons_zero, List.set_cons_succ]
        refine skipH 15 66 (by kernel_rfl) (by kernel_rfl) (by kernel_rfl) (by kernel_rfl) (fun _ _ _ h => h) (by kernel_rfl) (by assumption) ?_
        try simp only [Act.put, List.setIfInBounds_toArray, List.set_cons_zero, List.set_cons_succ]
        refine skipH 16 67 (by kernel_rfl) (by kernel_rfl) (by kernel_rfl) (by kernel_rfl) (fun _ _ _ h => h) (by kernel_rfl) (by assumption) ?_
        try simp only [Act.put, List.setIfInBounds_toArray, List.set_cons_zero, List.set_cons_succ]
        refine skipH 17 68 (by kernel_rfl) (by kernel_rfl) (by kernel_rfl) (by kernel_rfl) (fun _ _ _ h => h) (by kernel_rfl) (by assumption) ?_
        try simp only [Act.put, List.setIfInBounds_toArray, List.set_cons_zero, List.set_cons_succ]
        refine skipH 18 69 (by kernel_rfl) (by kernel_rfl) (by kernel_rfl) (by kernel_rfl) (fun _ _ _ h => h) (by kernel_rfl) (by assumption) ?_
        try simp only [Act.put, List.setIfInBounds_toArray, List.set_cons_zero, List.set_cons_succ]
        refine skipH 19 70 (by kernel_rfl) (by kernel_rfl) (by kernel_rfl) (by kernel_rfl) (fun _ _ _ h => h) (by kernel_rfl) (by assumption) ?_
        try simp only [Act.put, List.setIfInBounds_toArray, List.set_cons_zero, List.set_cons_succ]
        refine takeH 20 71 ?_ (by kernel_rfl) (by kernel_rfl) (by kernel_rfl) (by kernel_rfl) (fun _ _ _ h => h) (by kernel_rfl) (fun o ho w hSw => ?_) (by assumption) ?_
        rotate_left
        · (simp only [List.getElem?_toArray, List.getElem?_cons_succ, List.getElem?_cons_zero, Option.some.injEq] at ho; subst ho; (try dsimp only at hSw); go_simp; try with_reducible rfl)
        try simp only [Act.put, List.setIfInBounds_toArray, List.set_cons_zero, List.set_cons_succ]
        refine wpAnyH_done (by kernel_rfl) ?_ _
        go_wp2
        go_ret
        exact ⟨ret_bool' (by rw [HV2.out, HK.out, HTW.out, HG1.out]; rfl), HL5.out.old⟩
      | true =>
        have HG0 : Hid (gdB c.slots (wTo (c.step.take v.step.2.1)) G0 = true) := Lib.hid (by rw [HWE.out]; exact hg0)
        have HG1 := Lib.hid hg0
        clear hg0
        cases hv0 : wrB c.slots (wTo c.step) V0 with
        | false =>
          have HV0 : Hid (wrB c.slots (wTo (c.step.take v.step.2.1)) V0 = false) := Lib.hid (by rw [HWE.out]; exact hv0)
          have HV1 := Lib.hid hv0
          clear hv0
          go_wp2
          have hw1 : IntKind.i64.wrap ((i : Int) + 1) = (i : Int) + 1 := IntWalk.i64_in _ (by omega)
          have hw2 : (0 : Int) ≤ (i : Int) + 1 := by omega
          have hw4 : (i : Int) + 1 < (a.2.1 : Int) := by omega
          have hw3 : ((i : Int) + 1).toNat = i + 1 := by omega
          refine wp_region_held_drew (S := fun w' => w'.cell? ⟨w.heap.size, 0, none⟩ = some (.int .i64 c.ins) ∧ w'.cell? ⟨w.heap.size, 1, none⟩ = some (.int .i64 c.outs) ∧ w'.cell? ⟨w.heap.size, 2, none⟩ = some (.int .i64 c.slots) ∧ w'.cell? ⟨w.heap.size, 3, none⟩ = some (.int .i64 c.crosses) ∧ w'.cell? ⟨w.heap.size, 4, none⟩ = some (.int .i64 c.lines) ∧ w'.cell? ⟨w.heap.size, 5, none⟩ = some (.slice v.mems.1 v.mems.2.1 v.mems.2.2) ∧ w'.cell? ⟨w.heap.size, 6, none⟩ = some (.slice v.conts.1 v.conts.2.1 v.conts.2.2) ∧ w'.cell? ⟨w.heap.size, 7, none⟩ = some (.slice v.step.1 v.step.2.1 v.step.2.2) ∧ w'.cell? ⟨w.heap.size, 8, none⟩ = some (.slice v.deriv.1 v.deriv.2.1 v.deriv.2.2) ∧ w'.cell? ⟨w.heap.size, 9, none⟩ = some (.slice v.cross.1 v.cross.2.1 v.cross.2.2) ∧ w'.cell? ⟨w.heap.size + 1, 2, none⟩ = some (.slice (some ⟨g, off, none⟩) a.2.1 a.2.2) ∧ w'.cell? ⟨g, off + i, none⟩ = some (.int .i64 G0) ∧ w'.cell? ⟨g, off + (i + 1), none⟩ = some (.int .i64 V0)) (by kernel_rfl) HP.out (fun hHeld => ?_)
          refine takeH 0 51 ?_ (by kernel_rfl) (by kernel_rfl) (by kernel_rfl) (by kernel_rfl) (fun _ _ _ h => h) (by kernel_rfl) (fun o ho w hSw => ?_) (by assumption) ?_
          rotate_left
          · (simp only [List.getElem?_toArray, List.getElem?_cons_succ, List.getElem?_cons_zero, Option.some.injEq] at ho; subst ho; (try dsimp only at hSw); go_simp; try with_reducible rfl)
          try simp only [Act.put, List.setIfInBounds_toArray, List.set_cons_zero, List.set_cons_succ]
          refine takeH 1 52 ?_ (by kernel_rfl) (by kernel_rfl) (by kernel_rfl) (by kernel_rfl) (fun _ _ _ h => h) (by kernel_rfl) (fun o ho w hSw => ?_) (by assumption) ?_
          rotate_left
          · (simp only [List.getElem?_toArray, List.getElem?_cons_succ, List.getElem?_cons_zero, Option.some.injEq] at ho; subst ho; (try dsimp only at hSw); go_simp; try with_reducible rfl)
          try simp only [Act.put, List.setIfInBounds_toArray, List.set_cons_zero, List.set_cons_succ]
          refine takeH 2 53 ?_ (by kernel_rfl) (by kernel_rfl) (by kernel_rfl) (by kernel_rfl) (fun _ _ _ h => h) (by kernel_rfl) (fun o ho w hSw => ?_) (by assumption) ?_
          rotate_left
          · (simp only [List.getElem?_toArray, List.getElem?_cons_succ, List.getElem?_cons_zero, Option.some.injEq] at ho; subst ho; (try dsimp only at hSw); go_simp; try with_reducible rfl)
          try simp only [Act.put, List.setIfInBounds_toArray, List.set_cons_zero, List.set_cons_succ]
          refine takeH 3 54 ?_ (by kernel_rfl) (by kernel_rfl) (by kernel_rfl) (by kernel_rfl) (fun _ _ _ h => h) (by kernel_rfl) (fun o ho w hSw => ?_) (by assumption) ?_
          rotate_left
          · (simp only [List.getElem?_toArray, List.getElem?_cons_succ, List.getElem?_cons_zero, Option.some.injEq] at ho; subst ho; (try dsimp only at hSw); go_simp; try with_reducible rfl)
          try simp only [Act.put, List.setIfInBounds_toArray, List.set_cons_zero, List.set_cons_succ]
          refine takeH 4 55 ?_ (by kernel_rfl) (by kernel_rfl) (by kernel_rfl) (by kernel_rfl) (fun _ _ _ h => h) (by kernel_rfl) (fun o ho w hSw => ?_) (by assumption) ?_
          rotate_left
          · (simp only [List.getElem?_toArray, List.getElem?_cons_succ, List.getElem?_cons_zero, Option.some.injEq] at ho; subst ho; (try dsimp only at hSw); go_simp; try with_reducible rfl)
          try simp only [Act.put, List.setIfInBounds_toArray, List.set_cons_zero, List.set_cons_succ]
          refine takeH 5 56 ?_ (by kernel_rfl) (by kernel_rfl) (by kernel_rfl) (by kernel_rfl) (fun _ _ _ h => h) (by kernel_rfl) (fun o ho w hSw => ?_) (by assumption) ?_
          rotate_left
          · (simp only [List.getElem?_toArray, List.getElem?_cons_succ, List.getElem?_cons_zero, Option.some.injEq] at ho; subst ho; (try dsimp only at hSw); go_simp; try with_reducible rfl)
          try simp only [Act.put, List.setIfInBounds_toArray, List.set_cons_zero, List.set_cons_succ]
          refine takeH 6 57 ?_ (by kernel_rfl) (by kernel_rfl) (by kernel_rfl) (by kernel_rfl) (fun _ _ _ h => h) (by kernel_rfl) (fun o ho w hSw => ?_) (by assumption) ?_
          rotate_left
          · (simp only [List.getElem?_toArray, List.getElem?_cons_succ, List.getElem?_cons_zero, Option.some.injEq] at ho; subst ho; (try dsimp only at hSw); go_simp; try with_reducible rfl)
          try simp only [Act.put, List.setIfInBounds_toArray, List.set_cons_zero, List.set_cons_succ]
          refine callH 7 (by kernel_rfl) (by kernel_rfl) (fun o ho K hK => ?_)
          simp only [List.getElem?_toArray, List.getElem?_cons_succ, List.getElem?_cons_zero, Option.some.injEq] at ho; subst ho
          rw [if_pos (by rfl)]
          go_simp
          go_at_call 46
          with_reducible refine (guard_r w.heap.size c v _ HLd.out.is HLd.out.old.size v.step.2.1 (Nat.le_refl _) HOK.out G0 true HG0.out).mono ?_
          rintro e w5 ⟨rfl, hb5⟩
          have HL5 := Lib.hid (HLd.out.later hb5)
          have HX5 := Lib.hid (HXd.out.later hb5)
          have HB5 := Lib.hid hb5
          have HPa := Lib.hid (show w5.cell? ⟨w.heap.size, 0, none⟩ = some (.int .i64 c.ins) ∧ w5.cell? ⟨w.heap.size, 1, none⟩ = some (.int .i64 c.outs) ∧ w5.cell? ⟨w.heap.size, 2, none⟩ = some (.int .i64 c.slots) ∧ w5.cell? ⟨w.heap.size, 3, none⟩ = some (.int .i64 c.crosses) ∧ w5.cell? ⟨w.heap.size, 4, none⟩ = some (.int .i64 c.lines) ∧ w5.cell? ⟨w.heap.size, 5, none⟩ = some (.slice v.mems.1 v.mems.2.1 v.mems.2.2) ∧ w5.cell? ⟨w.heap.size, 6, none⟩ = some (.slice v.conts.1 v.conts.2.1 v.conts.2.2) ∧ w5.cell? ⟨w.heap.size, 7, none⟩ = some (.slice v.step.1 v.step.2.1 v.step.2.2) ∧ w5.cell? ⟨w.heap.size, 8, none⟩ = some (.slice v.deriv.1 v.deriv.2.1 v.deriv.2.2) ∧ w5.cell? ⟨w.heap.size, 9, none⟩ = some (.slice v.cross.1 v.cross.2.1 v.cross.2.2) ∧ w5.cell? ⟨w.heap.size + 1, 2, none⟩ = some (.slice (some ⟨g, off, none⟩) a.2.1 a.2.2) ∧ w5.cell? ⟨g, off + i, none⟩ = some (.int .i64 G0) ∧ w5.cell? ⟨g, off + (i + 1), none⟩ = some (.int .i64 V0) from ⟨HL5.out.blk.cell 0 rfl, HL5.out.blk.cell 1 rfl, HL5.out.blk.cell 2 rfl, HL5.out.blk.cell 3 rfl, HL5.out.blk.cell 4 rfl, HL5.out.blk.cell 5 rfl, HL5.out.blk.cell 6 rfl, HL5.out.blk.cell 7 rfl, HL5.out.blk.cell 8 rfl, HL5.out.blk.cell 9 rfl, by rw [← hab.out]; exact HX5.out.cell 2 rfl, (hb5.cell HGW.out).trans HP.out.2.2.2.2.2.2.2.2.2.2.2.1, (hb5.cell HGW.out).trans HP.out.2.2.2.2.2.2.2.2.2.2.2.2⟩)
          clear hb5
          refine hK.out _ _ HPa.out (fun hHeld => ?_)
          clear hK K
          try simp only [Act.put, List.setIfInBounds_toArray, List.set_cons_zero, List.set_cons_succ]
          refine takeH 8 59 ?_ (by kernel_rfl) (by kernel_rfl) (by kernel_rfl) (by kernel_rfl) (fun _ _ _ h => h) (by kernel_rfl) (fun o ho w hSw => ?_) (by assumption) ?_
          rotate_left
          · (simp only [List.getElem?_toArray, List.getElem?_cons_succ, List.getElem?_cons_zero, Option.some.injEq] at ho; subst ho; (try dsimp only at hSw); go_simp; try with_reducible rfl)
          try simp only [Act.put, List.setIfInBounds_toArray, List.set_cons_zero, List.set_cons_succ]
          refine takeH 9 60 ?_ (by kernel_rfl) (by kernel_rfl) (by kernel_rfl) (by kernel_rfl) (fun _ _ _ h => h) (by kernel_rfl) (fun o ho w hSw => ?_) (by assumption) ?_
          rotate_left
          · (simp only [List.getElem?_toArray, List.getElem?_cons_succ, List.getElem?_cons_zero, Option.some.injEq] at ho; subst ho; (try dsimp only at hSw); go_simp; try with_reducible rfl)
          try simp only [Act.put, List.setIfInBounds_toArray, List.set_cons_zero, List.set_cons_succ]
          refine takeH 10 61 ?_ (by kernel_rfl) (by kernel_rfl) (by kernel_rfl) (by kernel_rfl) (fun _ _ _ h => h) (by kernel_rfl) (fun o ho w hSw => ?_) (by assumption) ?_
          rotate_left
          · (simp only [List.getElem?_toArray, List.getElem?_cons_succ, List.getElem?_cons_zero, Option.some.injEq] at ho; subst ho; (try dsimp only at hSw); go_simp; try with_reducible rfl)
          try simp only [Act.put, List.setIfInBounds_toArray, List.set_cons_zero, List.set_cons_succ]
          refine takeH 11 62 ?_ (by kernel_rfl) (by kernel_rfl) (by kernel_rfl) (by kernel_rfl) (fun _ _ _ h => h) (by kernel_rfl) (fun o ho w hSw => ?_) (by assumption) ?_
          rotate_left
          · (simp only [List.getElem?_toArray, List.getElem?_cons_succ, List.getElem?_cons_zero, Option.some.injEq] at ho; subst ho; (try dsimp only at hSw); go_simp; try with_reducible rfl)
          try simp only [Act.put, List.setIfInBounds_toArray, List.set_cons_zero, List.set_cons_succ]
          refine takeH 12 63 ?_ (by kernel_rfl) (by kernel_rfl) (by kernel_rfl) (by kernel_rfl) (fun _ _ _ h => h) (by kernel_rfl) (fun o ho w hSw => ?_) (by assumption) ?_
          rotate_left
          · (simp only [List.getElem?_toArray, List.getElem?_cons_succ, List.getElem?_cons_zero, Option.some.injEq] at ho; subst ho; (try dsimp only at hSw); go_simp; try with_reducible rfl)
          try simp only [Act.put, List.setIfInBounds_toArray, List.set_cons_zero, List.set_cons_succ]
          refine takeH 13 64 ?_ (by kernel_rfl) (by kernel_rfl) (by kernel_rfl) (by kernel_rfl) (fun _ _ _ h => h) (by kernel_rfl) (fun o ho w hSw => ?_) (by assumption) ?_
          rotate_left
          · (simp only [List.getElem?_toArray, List.getElem?_cons_succ, List.getElem?_cons_zero, Option.some.injEq] at ho; subst ho; (try dsimp only at hSw); go_simp; try with_reducible rfl)
          try simp only [Act.put, List.setIfInBounds_toArray, List.set_cons_zero, List.set_cons_succ]
          refine takeH 14 65 ?_ (by kernel_rfl) (by kernel_rfl) (by kernel_rfl) (by kernel_rfl) (fun _ _ _ h => h) (by kernel_rfl) (fun o ho w hSw => ?_) (by assumption) ?_
          rotate_left
          · (simp only [List.getElem?_toArray, List.getElem?_cons_succ, List.getElem?_cons_zero, Option.some.injEq] at ho; subst ho; (try dsimp only at hSw); go_simp; try with_reducible rfl)
          try simp only [Act.put, List.setIfInBounds_toArray, List.set_cons_zero, List.set_cons_succ]
          refine takeH 15 66 ?_ (by kernel_rfl) (by kernel_rfl) (by kernel_rfl) (by kernel_rfl) (fun _ _ _ h => h) (by kernel_rfl) (fun o ho w hSw => ?_) (by assumption) ?_
          rotate_left
          · (simp only [List.getElem?_toArray, List.getElem?_cons_succ, List.getElem?_cons_zero, Option.some.injEq] at ho; subst ho; (try dsimp only at hSw); go_simp; try with_reducible rfl)
          try simp only [Act.put, List.setIfInBounds_toArray, List.set_cons_zero, List.set_cons_succ]
          refine takeH 16 67 ?_ (by kernel_rfl) (by kernel_rfl) (by kernel_rfl) (by kernel_rfl) (fun _ _ _ h => h) (by kernel_rfl) (fun o ho w hSw => ?_) (by assumption) ?_
          rotate_left
          · (simp only [List.getElem?_toArray, List.getElem?_cons_succ, List.getElem?_cons_zero, Option.some.injEq] at ho; subst ho; (try dsimp only at hSw); go_simp; try with_reducible rfl)
          try simp only [Act.put, List.setIfInBounds_toArray, List.set_cons_zero, List.set_cons_succ]
          refine takeH 17 68 ?_ (by kernel_rfl) (by kernel_rfl) (by kernel_rfl) (by kernel_rfl) (fun _ _ _ h => h) (by kernel_rfl) (fun o ho w hSw => ?_) (by assumption) ?_
          rotate_left
          · (simp only [List.getElem?_toArray, List.getElem?_cons_succ, List.getElem?_cons_zero, Option.some.injEq] at ho; subst ho; (try dsimp only at hSw); go_simp; try with_reducible rfl)
          try simp only [Act.put, List.setIfInBounds_toArray, List.set_cons_zero, List.set_cons_succ]
          refine callH 18 (by kernel_rfl) (by kernel_rfl) (fun o ho K hK => ?_)
          simp only [List.getElem?_toArray, List.getElem?_cons_succ, List.getElem?_cons_zero, Option.some.injEq] at ho; subst ho
          rw [if_pos (by rfl)]
          go_simp
          go_at_call 49
          with_reducible refine (written_r w.heap.size c v _ HL5.out.is HL5.out.old.size v.step.2.1 (Nat.le_refl _) HOK.out V0 false HV0.out).mono ?_
          rintro e w6 ⟨rfl, hb6⟩
          have HL6 := Lib.hid (HL5.out.later hb6)
          have HX6 := Lib.hid (HX5.out.later hb6)
          have HB6 := Lib.hid (HB5.out.trans (hb6.mono HB5.out.size))
          have HPb := Lib.hid (show w6.cell? ⟨w.heap.size, 0, none⟩ = some (.int .i64 c.ins) ∧ w6.cell? ⟨w.heap.size, 1, none⟩ = some (.int .i64 c.outs) ∧ w6.cell? ⟨w.heap.size, 2, none⟩ = some (.int .i64 c.slots) ∧ w6.cell? ⟨w.heap.size, 3, none⟩ = some (.int .i64 c.crosses) ∧ w6.cell? ⟨w.heap.size, 4, none⟩ = some (.int .i64 c.lines) ∧ w6.cell? ⟨w.heap.size, 5, none⟩ = some (.slice v.mems.1 v.mems.2.1 v.mems.2.2) ∧ w6.cell? ⟨w.heap.size, 6, none⟩ = some (.slice v.conts.1 v.conts.2.1 v.conts.2.2) ∧ w6.cell? ⟨w.heap.size, 7, none⟩ = some (.slice v.step.1 v.step.2.1 v.step.2.2) ∧ w6.cell? ⟨w.heap.size, 8, none⟩ = some (.slice v.deriv.1 v.deriv.2.1 v.deriv.2.2) ∧ w6.cell? ⟨w.heap.size, 9, none⟩ = some (.slice v.cross.1 v.cross.2.1 v.cross.2.2) ∧ w6.cell? ⟨w.heap.size + 1, 2, none⟩ = some (.slice (some ⟨g, off, none⟩) a.2.1 a.2.2) ∧ w6.cell? ⟨g, off + i, none⟩ = some (.int .i64 G0) ∧ w6.cell? ⟨g, off + (i + 1), none⟩ = some (.int .i64 V0) from ⟨HL6.out.blk.cell 0 rfl, HL6.out.blk.cell 1 rfl, HL6.out.blk.cell 2 rfl, HL6.out.blk.cell 3 rfl, HL6.out.blk.cell 4 rfl, HL6.out.blk.cell 5 rfl, HL6.out.blk.cell 6 rfl, HL6.out.blk.cell 7 rfl, HL6.out.blk.cell 8 rfl, HL6.out.blk.cell 9 rfl, by rw [← hab.out]; exact HX6.out.cell 2 rfl, (hb6.cell (Nat.lt_of_lt_of_le HGW.out HB5.out.size)).trans HPa.out.2.2.2.2.2.2.2.2.2.2.2.1, (hb6.cell (Nat.lt_of_lt_of_le HGW.out HB5.out.size)).trans HPa.out.2.2.2.2.2.2.2.2.2.2.2.2⟩)
          clear hb6
          refine hK.out _ _ HPb.out (fun hHeld => ?_)
          clear hK K
          try simp only [Act.put, List.setIfInBounds_toArray, List.set_cons_zero, List.set_cons_succ]
          refine takeH 19 70 ?_ (by kernel_rfl) (by kernel_rfl) (by kernel_rfl) (by kernel_rfl) (fun _ _ _ h => h) (by kernel_rfl) (fun o ho w hSw => ?_) (by assumption) ?_
          rotate_left
          · (simp only [List.getElem?_toArray, List.getElem?_cons_succ, List.getElem?_cons_zero, Option.some.injEq] at ho; subst ho; (try dsimp only at hSw); go_simp; try with_reducible rfl)
          try simp only [Act.put, List.setIfInBounds_toArray, List.set_cons_zero, List.set_cons_succ]
          refine takeH 20 71 ?_ (by kernel_rfl) (by kernel_rfl) (by kernel_rfl) (by kernel_rfl) (fun _ _ _ h => h) (by kernel_rfl) (fun o ho w hSw => ?_) (by assumption) ?_
          rotate_left
          · (simp only [List.getElem?_toArray, List.getElem?_cons_succ, List.getElem?_cons_zero, Option.some.injEq] at ho; subst ho; (try dsimp only at hSw); go_simp; try with_reducible rfl)
          try simp only [Act.put, List.setIfInBounds_toArray, List.set_cons_zero, List.set_cons_succ]
          refine wpAnyH_done (by kernel_rfl) ?_ _
          clear hw1 hw2 hw3 hw4
          go_wp2
          go_ret
          exact ⟨ret_bool' (by rw [HV2.out, HK.out, HTW.out, HG1.out, HV1.out]; rfl), HL6.out.old⟩
        | true =>
          have HV0 : Hid (wrB c.slots (wTo (c.step.take v.step.2.1)) V0 = true) := Lib.hid (by rw [HWE.out]; exact hv0)
          have HV1 := Lib.hid hv0
          clear hv0
          go_wp2
          have hw1 : IntKind.i64.wrap ((i : Int) + 1) = (i : Int) + 1 := IntWalk.i64_in _ (by omega)
          have hw2 : (0 : Int) ≤ (i : Int) + 1 := by omega
          have hw4 : (i : Int) + 1 < (a.2.1 : Int) := by omega
          have hw3 : ((i : Int) + 1).toNat = i + 1 := by omega
          refine wp_region_held_drew (S := fun w' => w'.cell? ⟨w.heap.size, 0, none⟩ = some (.int .i64 c.ins) ∧ w'.cell? ⟨w.heap.size, 1, none⟩ = some (.int .i64 c.outs) ∧ w'.cell? ⟨w.heap.size, 2, none⟩ = some (.int .i64 c.slots) ∧ w'.cell? ⟨w.heap.size, 3, none⟩ = some (.int .i64 c.crosses) ∧ w'.cell? ⟨w.heap.size, 4, none⟩ = some (.int .i64 c.lines) ∧ w'.cell? ⟨w.heap.size, 5, none⟩ = some (.slice v.mems.1 v.mems.2.1 v.mems.2.2) ∧ w'.cell? ⟨w.heap.size, 6, none⟩ = some (.slice v.conts.1 v.conts.2.1 v.conts.2.2) ∧ w'.cell? ⟨w.heap.size, 7, none⟩ = some (.slice v.step.1 v.step.2.1 v.step.2.2) ∧ w'.cell? ⟨w.heap.size, 8, none⟩ = some (.slice v.deriv.1 v.deriv.2.1 v.deriv.2.2) ∧ w'.cell? ⟨w.heap.size, 9, none⟩ = some (.slice v.cross.1 v.cross.2.1 v.cross.2.2) ∧ w'.cell? ⟨w.heap.size + 1, 2, none⟩ = some (.slice (some ⟨g, off, none⟩) a.2.1 a.2.2) ∧ w'.cell? ⟨g, off + i, none⟩ = some (.int .i64 G0) ∧ w'.cell? ⟨g, off + (i + 1), none⟩ = some (.int .i64 V0)) (by kernel_rfl) HP.out (fun hHeld => ?_)
          refine takeH 0 51 ?_ (by kernel_rfl) (by kernel_rfl) (by kernel_rfl) (by kernel_rfl) (fun _ _ _ h => h) (by kernel_rfl) (fun o ho w hSw => ?_) (by assumption) ?_
          rotate_left
          · (simp only [List.getElem?_toArray, List.getElem?_cons_succ, List.getElem?_cons_zero, Option.some.injEq] at ho; subst ho; (try dsimp only at hSw); go_simp; try with_reducible rfl)
          try simp only [Act.put, List.setIfInBounds_toArray, List.set_cons_zero, List.set_cons_succ]
          refine takeH 1 52 ?_ (by kernel_rfl) (by kernel_rfl) (by kernel_rfl) (by kernel_rfl) (fun _ _ _ h => h) (by kernel_rfl) (fun o ho w hSw => ?_) (by assumption) ?_
          rotate_left
          · (simp only [List.getElem?_toArray, List.getElem?_cons_succ, List.getElem?_cons_zero, Option.some.injEq] at ho; subst ho; (try dsimp only at hSw); go_simp; try with_reducible rfl)
          try simp only [Act.put, List.setIfInBounds_toArray, List.set_cons_zero, List.set_cons_succ]
          refine takeH 2 53 ?_ (by kernel_rfl) (by kernel_rfl) (by kernel_rfl) (by kernel_rfl) (fun _ _ _ h => h) (by kernel_rfl) (fun o ho w hSw => ?_) (by assumption) ?_
          rotate_left
          · (simp only [List.getElem?_toArray, List.getElem?_cons_succ, List.getElem?_cons_zero, Option.some.injEq] at ho; subst ho; (try dsimp only at hSw); go_simp; try with_reducible rfl)
          try simp only [Act.put, List.setIfInBounds_toArray, List.set_cons_zero, List.set_cons_succ]
          refine takeH 3 54 ?_ (by kernel_rfl) (by kernel_rfl) (by kernel_rfl) (by kernel_rfl) (fun _ _ _ h => h) (by kernel_rfl) (fun o ho w hSw => ?_) (by assumption) ?_
          rotate_left
          · (simp only [List.getElem?_toArray, List.getElem?_cons_succ, List.getElem?_cons_zero, Option.some.injEq] at ho; subst ho; (try dsimp only at hSw); go_simp; try with_reducible rfl)
          try simp only [Act.put, List.setIfInBounds_toArray, List.set_cons_zero, List.set_cons_succ]
          refine takeH 4 55 ?_ (by kernel_rfl) (by kernel_rfl) (by kernel_rfl) (by kernel_rfl) (fun _ _ _ h => h) (by kernel_rfl) (fun o ho w hSw => ?_) (by assumption) ?_
          rotate_left
          · (simp only [List.getElem?_toArray, List.getElem?_cons_succ, List.getElem?_cons_zero, Option.some.injEq] at ho; subst ho; (try dsimp only at hSw); go_simp; try with_reducible rfl)
          try simp only [Act.put, List.setIfInBounds_toArray, List.set_cons_zero, List.set_cons_succ]
          refine takeH 5 56 ?_ (by kernel_rfl) (by kernel_rfl) (by kernel_rfl) (by kernel_rfl) (fun _ _ _ h => h) (by kernel_rfl) (fun o ho w hSw => ?_) (by assumption) ?_
          rotate_left
          · (simp only [List.getElem?_toArray, List.getElem?_cons_succ, List.getElem?_cons_zero, Option.some.injEq] at ho; subst ho; (try dsimp only at hSw); go_simp; try with_reducible rfl)
          try simp only [Act.put, List.setIfInBounds_toArray, List.set_cons_zero, List.set_cons_succ]
          refine takeH 6 57 ?_ (by kernel_rfl) (by kernel_rfl) (by kernel_rfl) (by kernel_rfl) (fun _ _ _ h => h) (by kernel_rfl) (fun o ho w hSw => ?_) (by assumption) ?_
          rotate_left
          · (simp only [List.getElem?_toArray, List.getElem?_cons_succ, List.getElem?_cons_zero, Option.some.injEq] at ho; subst ho; (try dsimp only at hSw); go_simp; try with_reducible rfl)
          try simp only [Act.put, List.setIfInBounds_toArray, List.set_cons_zero, List.set_cons_succ]
          refine callH 7 (by kernel_rfl) (by kernel_rfl) (fun o ho K hK => ?_)
          simp only [List.getElem?_toArray, List.getElem?_cons_succ, List.getElem?_cons_zero, Option.some.injEq] at ho; subst ho
          rw [if_pos (by rfl)]
          go_simp
          go_at_call 46
          with_reducible refine (guard_r w.heap.size c v _ HLd.out.is HLd.out.old.size v.step.2.1 (Nat.le_refl _) HOK.out G0 true HG0.out).mono ?_
          rintro e w5 ⟨rfl, hb5⟩
          have HL5 := Lib.hid (HLd.out.later hb5)
          have HX5 := Lib.hid (HXd.out.later hb5)
          have HB5 := Lib.hid hb5
          have HPa := Lib.hid (show w5.cell? ⟨w.heap.size, 0, none⟩ = some (.int .i64 c.ins) ∧ w5.cell? ⟨w.heap.size, 1, none⟩ = some (.int .i64 c.outs) ∧ w5.cell? ⟨w.heap.size, 2, none⟩ = some (.int .i64 c.slots) ∧ w5.cell? ⟨w.heap.size, 3, none⟩ = some (.int .i64 c.crosses) ∧ w5.cell? ⟨w.heap.size, 4, none⟩ = some (.int .i64 c.lines) ∧ w5.cell? ⟨w.heap.size, 5, none⟩ = some (.slice v.mems.1 v.mems.2.1 v.mems.2.2) ∧ w5.cell? ⟨w.heap.size, 6, none⟩ = some (.slice v.conts.1 v.conts.2.1 v.conts.2.2) ∧ w5.cell? ⟨w.heap.size, 7, none⟩ = some (.slice v.step.1 v.step.2.1 v.step.2.2) ∧ w5.cell? ⟨w.heap.size, 8, none⟩ = some (.slice v.deriv.1 v.deriv.2.1 v.deriv.2.2) ∧ w5.cell? ⟨w.heap.size, 9, none⟩ = some (.slice v.cross.1 v.cross.2.1 v.cross.2.2) ∧ w5.cell? ⟨w.heap.size + 1, 2, none⟩ = some (.slice (some ⟨g, off, none⟩) a.2.1 a.2.2) ∧ w5.cell? ⟨g, off + i, none⟩ = some (.int .i64 G0) ∧ w5.cell? ⟨g, off + (i + 1), none⟩ = some (.int .i64 V0) from ⟨HL5.out.blk.cell 0 rfl, HL5.out.blk.cell 1 rfl, HL5.out.blk.cell 2 rfl, HL5.out.blk.cell 3 rfl, HL5.out.blk.cell 4 rfl, HL5.out.blk.cell 5 rfl, HL5.out.blk.cell 6 rfl, HL5.out.blk.cell 7 rfl, HL5.out.blk.cell 8 rfl, HL5.out.blk.cell 9 rfl, by rw [← hab.out]; exact HX5.out.cell 2 rfl, (hb5.cell HGW.out).trans HP.out.2.2.2.2.2.2.2.2.2.2.2.1, (hb5.cell HGW.out).trans HP.out.2.2.2.2.2.2.2.2.2.2.2.2⟩)
          clear hb5
          refine hK.out _ _ HPa.out (fun hHeld => ?_)
          clear hK K
          try simp only [Act.put, List.setIfInBounds_toArray, List.set_cons_zero, List.set_cons_succ]
          refine takeH 8 59 ?_ (by kernel_rfl) (by kernel_rfl) (by kernel_rfl) (by kernel_rfl) (fun _ _ _ h => h) (by kernel_rfl) (fun o ho w hSw => ?_) (by assumption) ?_
          rotate_left
          · (simp only [List.getElem?_toArray, List.getElem?_cons_succ, List.getElem?_cons_zero, Option.some.injEq] at ho; subst ho; (try dsimp only at hSw); go_simp; try with_reducible rfl)
          try simp only [Act.put, List.setIfInBounds_toArray, List.set_cons_zero, List.set_cons_succ]
          refine takeH 9 60 ?_ (by kernel_rfl) (by kernel_rfl) (by kernel_rfl) (by kernel_rfl) (fun _ _ _ h => h) (by kernel_rfl) (fun o ho w hSw => ?_) (by assumption) ?_
          rotate_left
          · (simp only [List.getElem?_toArray, List.getElem?_cons_succ, List.getElem?_cons_zero, Option.some.injEq] at ho; subst ho; (try dsimp only at hSw); go_simp; try with_reducible rfl)
          try simp only [Act.put, List.setIfInBounds_toArray, List.set_cons_zero, List.set_cons_succ]
          refine takeH 10 61 ?_ (by kernel_rfl) (by kernel_rfl) (by kernel_rfl) (by kernel_rfl) (fun _ _ _ h => h) (by kernel_rfl) (fun o ho w hSw => ?_) (by assumption) ?_
          rotate_left
          · (simp only [List.getElem?_toArray, List.getElem?_cons_succ, List.getElem?_cons_zero, Option.some.injEq] at ho; subst ho; (try dsimp only at hSw); go_simp; try with_reducible rfl)
          try simp only [Act.put, List.setIfInBounds_toArray, List.set_cons_zero, List.set_cons_succ]
          refine takeH 11 62 ?_ (by kernel_rfl) (by kernel_rfl) (by kernel_rfl) (by kernel_rfl) (fun _ _ _ h => h) (by kernel_rfl) (fun o ho w hSw => ?_) (by assumption) ?_
          rotate_left
          · (simp only [List.getElem?_toArray, List.getElem?_cons_succ, List.getElem?_cons_zero, Option.some.injEq] at ho; subst ho; (try dsimp only at hSw); go_simp; try with_reducible rfl)
          try simp only [Act.put, List.setIfInBounds_toArray, List.set_cons_zero, List.set_cons_succ]
          refine takeH 12 63 ?_ (by kernel_rfl) (by kernel_rfl) (by kernel_rfl) (by kernel_rfl) (fun _ _ _ h => h) (by kernel_rfl) (fun o ho w hSw => ?_) (by assumption) ?_
          rotate_left
          · (simp only [List.getElem?_toArray, List.getElem?_cons_succ, List.getElem?_cons_zero, Option.some.injEq] at ho; subst ho; (try dsimp only at hSw); go_simp; try with_reducible rfl)
          try simp only [Act.put, List.setIfInBounds_toArray, List.set_cons_zero, List.set_cons_succ]
          refine takeH 13 64 ?_ (by kernel_rfl) (by kernel_rfl) (by kernel_rfl) (by kernel_rfl) (fun _ _ _ h => h) (by kernel_rfl) (fun o ho w hSw => ?_) (by assumption) ?_
          rotate_left
          · (simp only [List.getElem?_toArray, List.getElem?_cons_succ, List.getElem?_cons_zero, Option.some.injEq] at ho; subst ho; (try dsimp only at hSw); go_simp; try with_reducible rfl)
          try simp only [Act.put, List.setIfInBounds_toArray, List.set_cons_zero, List.set_cons_succ]
          refine takeH 14 65 ?_ (by kernel_rfl) (by kernel_rfl) (by kernel_rfl) (by kernel_rfl) (fun _ _ _ h => h) (by kernel_rfl) (fun o ho w hSw => ?_) (by assumption) ?_
          rotate_left
          · (simp only [List.getElem?_toArray, List.getElem?_cons_succ, List.getElem?_cons_zero, Option.some.injEq] at ho; subst ho; (try dsimp only at hSw); go_simp; try with_reducible rfl)
          try simp only [Act.put, List.setIfInBounds_toArray, List.set_cons_zero, List.set_cons_succ]
          refine takeH 15 66 ?_ (by kernel_rfl) (by kernel_rfl) (by kernel_rfl) (by kernel_rfl) (fun _ _ _ h => h) (by kernel_rfl) (fun o ho w hSw => ?_) (by assumption) ?_
          rotate_left
          · (simp only [List.getElem?_toArray, List.getElem?_cons_succ, List.getElem?_cons_zero, Option.some.injEq] at ho; subst ho; (try dsimp only at hSw); go_simp; try with_reducible rfl)
          try simp only [Act.put, List.setIfInBounds_toArray, List.set_cons_zero, List.set_cons_succ]
          refine takeH 16 67 ?_ (by kernel_rfl) (by kernel_rfl) (by kernel_rfl) (by kernel_rfl) (fun _ _ _ h => h) (by kernel_rfl) (fun o ho w hSw => ?_) (by assumption) ?_
          rotate_left
          · (simp only [List.getElem?_toArray, List.getElem?_cons_succ, List.getElem?_cons_zero, Option.some.injEq] at ho; subst ho; (try dsimp only at hSw); go_simp; try with_reducible rfl)
          try simp only [Act.put, List.setIfInBounds_toArray, List.set_cons_zero, List.set_cons_succ]
          refine takeH 17 68 ?_ (by kernel_rfl) (by kernel_rfl) (by kernel_rfl) (by kernel_rfl) (fun _ _ _ h => h) (by kernel_rfl) (fun o ho w hSw => ?_) (by assumption) ?_
          rotate_left
          · (simp only [List.getElem?_toArray, List.getElem?_cons_succ, List.getElem?_cons_zero, Option.some.injEq] at ho; subst ho; (try dsimp only at hSw); go_simp; try with_reducible rfl)
          try simp only [Act.put, List.setIfInBounds_toArray, List.set_cons_zero, List.set_cons_succ]
          refine callH 18 (by kernel_rfl) (by kernel_rfl) (fun o ho K hK => ?_)
          simp only [List.getElem?_toArray, List.getElem?_cons_succ, List.getElem?_cons_zero, Option.some.injEq] at ho; subst ho
          rw [if_pos (by rfl)]
          go_simp
          go_at_call 49
          with_reducible refine (written_r w.heap.size c v _ HL5.out.is HL5.out.old.size v.step.2.1 (Nat.le_refl _) HOK.out V0 true HV0.out).mono ?_
          rintro e w6 ⟨rfl, hb6⟩
          have HL6 := Lib.hid (HL5.out.later hb6)
          have HX6 := Lib.hid (HX5.out.later hb6)
          have HB6 := Lib.hid (HB5.out.trans (hb6.mono HB5.out.size))
          have HPb := Lib.hid (show w6.cell? ⟨w.heap.size, 0, none⟩ = some (.int .i64 c.ins) ∧ w6.cell? ⟨w.heap.size, 1, none⟩ = some (.int .i64 c.outs) ∧ w6.cell? ⟨w.heap.size, 2, none⟩ = some (.int .i64 c.slots) ∧ w6.cell? ⟨w.heap.size, 3, none⟩ = some (.int .i64 c.crosses) ∧ w6.cell? ⟨w.heap.size, 4, none⟩ = some (.int .i64 c.lines) ∧ w6.cell? ⟨w.heap.size, 5, none⟩ = some (.slice v.mems.1 v.mems.2.1 v.mems.2.2) ∧ w6.cell? ⟨w.heap.size, 6, none⟩ = some (.slice v.conts.1 v.conts.2.1 v.conts.2.2) ∧ w6.cell? ⟨w.heap.size, 7, none⟩ = some (.slice v.step.1 v.step.2.1 v.step.2.2) ∧ w6.cell? ⟨w.heap.size, 8, none⟩ = some (.slice v.deriv.1 v.deriv.2.1 v.deriv.2.2) ∧ w6.cell? ⟨w.heap.size, 9, none⟩ = some (.slice v.cross.1 v.cross.2.1 v.cross.2.2) ∧ w6.cell? ⟨w.heap.size + 1, 2, none⟩ = some (.slice (some ⟨g, off, none⟩) a.2.1 a.2.2) ∧ w6.cell? ⟨g, off + i, none⟩ = some (.int .i64 G0) ∧ w6.cell? ⟨g, off + (i + 1), none⟩ = some (.int .i64 V0) from ⟨HL6.out.blk.cell 0 rfl, HL6.out.blk.cell 1 rfl, HL6.out.blk.cell 2 rfl, HL6.out.blk.cell 3 rfl, HL6.out.blk.cell 4 rfl, HL6.out.blk.cell 5 rfl, HL6.out.blk.cell 6 rfl, HL6.out.blk.cell 7 rfl, HL6.out.blk.cell 8 rfl, HL6.out.blk.cell 9 rfl, by rw [← hab.out]; exact HX6.out.cell 2 rfl, (hb6.cell (Nat.lt_of_lt_of_le HGW.out HB5.out.size)).trans HPa.out.2.2.2.2.2.2.2.2.2.2.2.1, (hb6.cell (Nat.lt_of_lt_of_le HGW.out HB5.out.size)).trans HPa.out.2.2.2.2.2.2.2.2.2.2.2.2⟩)
          clear hb6
          refine hK.out _ _ HPb.out (fun hHeld => ?_)
          clear hK K
          try simp only [Act.put, List.setIfInBounds_toArray, List.set_cons_zero, List.set_cons_succ]
          refine takeH 19 70 ?_ (by kernel_rfl) (by kernel_rfl) (by kernel_rfl) (by kernel_rfl) (fun _ _ _ h => h) (by kernel_rfl) (fun o ho w hSw => ?_) (by assumption) ?_
          rotate_left
          · (simp only [List.getElem?_toArray, List.getElem?_cons_succ, List.getElem?_cons_zero, Option.some.injEq] at ho; subst ho; (try dsimp only at hSw); go_simp; try with_reducible rfl)
          try simp only [Act.put, List.setIfInBounds_toArray, List.set_cons_zero, List.set_cons_succ]
          refine takeH 20 71 ?_ (by kernel_rfl) (by kernel_rfl) (by kernel_rfl) (by kernel_rfl) (fun _ _ _ h => h) (by kernel_rfl) (fun o ho w hSw => ?_) (by assumption) ?_
          rotate_left
          · (simp only [List.getElem?_toArray, List.getElem?_cons_succ, List.getElem?_cons_zero, Option.some.injEq] at ho; subst ho; (try dsimp only at hSw); go_simp; try with_reducible rfl)
          try simp only [Act.put, List.setIfInBounds_toArray, List.set_cons_zero, List.set_cons_succ]
          refine wpAnyH_done (by kernel_rfl) ?_ _
          clear hw1 hw2 hw3 hw4
          go_wp2
          go_roundw
          case rel => exact ⟨k + 1, by have := HIK.out; omega, by rw [show (k + 1) * 2 = i + 2 by have := HIK.out; omega]; go_num, Lib.hid (by rw [HK.out, HTW.out, HG1.out, HV1.out, show (k + 1) * 2 = i + 2 by have := HIK.out; omega]; rfl), Lib.hid (HBr.out.drew.trans (HB6.out.mono HBr.out.size))⟩
          case measure => simp [intOf]; omega
    · obtain rfl : i = a.2.1 := by omega
      go_wp2
      go_ret
      exact ⟨ret_bool' (by rw [HV2.out, HK.out, ← HIW.out.args.1, List.drop_length]; rfl), HLq.out.old⟩
theorem deriv6_t (B : Nat) (c : CodeM) (v : CodeV) (w : World) (h : CodeIs w B c v) (hB : B ≤ w.heap.size) (hok : OkS c v.step.2.1) (q : InsP) (a m d r : Option Addr × Nat × Nat) (hx : InsW w B q a m d r) : Calls Try.prog 25 #[.agg #[.int .i64 c.ins, .int .i64 c.outs, .int .i64 c.slots, .int .i64 c.crosses, .int .i64 c.lines, .slice v.mems.1 v.mems.2.1 v.mems.2.2, .slice v.conts.1 v.conts.2.1 v.conts.2.2, .slice v.step.1 v.step.2.1 v.step.2.2, .slice v.deriv.1 v.deriv.2.1 v.deriv.2.2, .slice v.cross.1 v.cross.2.1 v.cross.2.2], .agg #[.string q.op, .int .i64 q.dst, .slice a.1 a.2.1 a.2.2, .int .i64 q.k, .int .i64 q.lit.kind, .bool q.lit.neg, .slice m.1 m.2.1 m.2.2, .slice d.1 d.2.1 d.2.2, .string q.lit.name, .int .i64 q.guard, .slice r.1 r.2.1 r.2.2]] w fun e w' => e = .returned (.bool (drB c (wTo c.step) q)) ∧ Below w.heap.size w w' := by
  by_cases h1 : q.op = opSlope
  · cases hk : inB q.k v.conts.2.1 with
    | false => exact d6_2 B c v w h hB hok q a m d r hx h1 hk
    | true =>
    by_cases ho : a.2.1 % 2 = 1
    · exact d6_3 B c v w h hB hok q a m d r hx h1 hk ho
    have ho : a.2.1 % 2 = 0 := by omega
    by_cases h0 : r.2.1 = 0
    · cases hg : gdB c.slots (wTo c.step) q.guard with
      | false => exact d6_5 B c v w h hB hok q a m d r hx h1 hk ho h0 hg
      | true => exact d6_6 B c v w h hB hok q a m d r hx h1 hk ho h0 hg
    · exact d6_4 B c v w h hB hok q a m d r hx h1 hk ho h0
  · exact d6_1 B c v w h hB hok q a m d r hx h1

end Go.Proofs.Ytcljmfhelgkfaaa
