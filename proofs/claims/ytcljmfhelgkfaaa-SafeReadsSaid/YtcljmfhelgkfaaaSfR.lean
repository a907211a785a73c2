/- What SafeReads tells of object code that lies in memory. No condition. -/
import Derived.Test.YtcljmfhelgkfaaaSfS
import Derived.Laws.AppendOwnNone
import Derived.Deep.RegionWith
import Derived.Deep.RegionHeld3
import Derived.Deep.DeepCutAuto
import Derived.BigRegion
namespace Go.Proofs.Ytcljmfhelgkfaaa
set_option linter.unusedVariables false
set_option linter.unusedSimpArgs false
set_option maxRecDepth 100000
open Go.RowKit

/-- append(row, src), the row the call's own, src any row of numbers -/
theorem appendR {w : World} {ops : Array Oper} {rest : List Oper} {o : Oper} {a : Act} {Q : Exit → Act → World → Prop} (hgd : o.guard = none) (s x : Operand) (t : TypeId) (ht : Try.prog.underlying t = some (.slice 3))
    (hop : o.op = .call { callee := .builtin .append, args := #[s, x], argTypes := #[t, t] })
    (B B' : Nat) (v : Value) (xs : List Int) (A : Option Addr) (n c : Nat) (ys : List Int) (hs : a.eval s = v) (hx : a.eval x = .slice A n c) (hown : Own w B v xs) (hr : IRow w B' A n c ys) (hB : B ≤ w.heap.size) (hl : xs.length ≤ 1000000000) (hn : n ≤ 1000000)
    (hK : ∀ v' w', Own w' B v' (xs ++ ys) → Only [v.ownBlock] w w' → (v'.ownBlock = v.ownBlock ∨ ∃ k, v'.ownBlock = some k ∧ w.heap.size ≤ k) → wpList Try.prog ops Q rest (a.put o.dst v') w') :
    wpList Try.prog ops Q (o :: rest) a w := by
  obtain ⟨i0, hi, hz0, hz1, hz2⟩ := info_parts Try.info3
  cases A with
  | none =>
    have hc : c = 0 := hr.2.2.2.1 rfl
    have hn0 : n = 0 := by have := hr.2.1; omega
    subst hc hn0
    have hy : ys = [] := List.length_eq_zero_iff.1 hr.1
    subst hy
    refine wpList_append_own_none hgd s x t hop B 3 i0 1 ht hi v xs.length (xs.map (Value.int .i64)) hs hown hx ?_
    exact hK v w (by rw [List.append_nil]; exact hown) (Only.refl _ _) (.inl rfl)
  | some ad =>
    refine wpList_append_own_at _ hgd s x t hop B 3 i0 (.int .i64 0) 1 8 ht hi hz0 hz1 hz2 rfl (by decide) v xs.length (xs.map (Value.int .i64)) hs hown ad n c (ys.map (Value.int .i64)) hx (by rw [List.length_map, hr.1, Nat.mul_one]) (fun j u hu => ?_) (fun u hu => ?_) (by unfold maxLen; omega) (by omega) hB ?_
    · rw [List.getElem?_map] at hu
      obtain ⟨y, hy, rfl⟩ := Option.map_eq_some_iff.1 hu
      have hj : j < n := by rw [← hr.1]; exact (List.getElem?_eq_some_iff.1 hy).1
      obtain ⟨b, off, e, _, hc⟩ := hr.at_ hj
      injection e with e
      subst e
      rw [Go.WideShapes.add_plain, hc]
      congr 2
      simp [List.getD, hy]
    · rw [List.mem_map] at hu
      obtain ⟨y, _, rfl⟩ := hu
      rfl
    · intro v' w' hown' hgrow _ hat
      refine hK v' w' ?_ (Only.of_grown hgrow (Or.inl (by simp))) ?_
      · unfold Own; simpa [hr.1] using hown'
      · rcases hat with h | h
        · exact Or.inl h
        · exact Or.inr ⟨_, h, Nat.le_refl _⟩
/-- a new row of nothing -/
theorem Own.fresh (w : World) (B : Nat) (hB : B ≤ w.heap.size) : Own (w.alloc (.cells #[] 3)) B (.slice (some ⟨w.heap.size, 0, none⟩) 0 0) [] :=
  ⟨rfl, .inr ⟨w.heap.size, 0, #[], rfl, hB, heap_alloc_new w _, Nat.le_refl _, Nat.zero_le _, rfl, rfl⟩⟩
/-- a row of the call's own stays the only one that has turned -/
theorem Only.own {B : Nat} {v : Value} {xs : List Int} {a b : World} (h : Only [v.ownBlock] a b) (ho : Own a B v xs) (hB : B ≤ a.heap.size) : Below B a b :=
  h.below hB fun j hj => by
    simp at hj
    exact (ho.lt hj.symm).1
/-- append(row, src) as a step of a region that draws: the row the call's own, src any row of numbers -/
theorem stepR {w : World} {ops : Array Oper} {o : Oper} {a : Act} {K : Act → World → Prop} {Q : Exit → Act → World → Prop} {E : Prop} (hgd : o.guard = none) (s x : Operand) (t : TypeId) (ht : Try.prog.underlying t = some (.slice 3))
    (hop : o.op = .call { callee := .builtin .append, args := #[s, x], argTypes := #[t, t] })
    (B B' : Nat) (v : Value) (xs : List Int) (A : Option Addr) (n c : Nat) (ys : List Int) (hs : a.eval s = v) (hx : a.eval x = .slice A n c) (hown : Own w B v xs) (hr : IRow w B' A n c ys) (hB : B ≤ w.heap.size) (hl : xs.length ≤ 1000000000) (hn : n ≤ 1000000)
    (hK : ∀ v' w', Own w' B v' (xs ++ ys) → Only [v.ownBlock] w w' → (v'.ownBlock = v.ownBlock ∨ ∃ k, v'.ownBlock = some k ∧ w.heap.size ≤ k) → K (a.put o.dst v') w') :
    if Region.wanted o (yielded ops a.tmps) = true then Oper.wp Try.prog o a w K Q else E := by
  have hw : Region.wanted o (yielded ops a.tmps) = true := by simp [Region.wanted, hgd]
  rw [if_pos hw]
  obtain ⟨i0, hi, hz0, hz1, hz2⟩ := info_parts Try.info3
  cases A with
  | none =>
    have hc : c = 0 := hr.2.2.2.1 rfl
    have hn0 : n = 0 := by have := hr.2.1; omega
    subst hc hn0
    have hy : ys = [] := List.length_eq_zero_iff.1 hr.1
    subst hy
    have hrun := run_append_owned_none (P := Try.prog) (w := w) B t o.type 3 i0 1 ht hi v xs.length (xs.map (Value.int .i64)) hown
    unfold Oper.wp
    simp [execOp, hop, resolve, invoke, builtin, hs, hx, hrun, Result.andThen]
    exact hK v w (by rw [List.append_nil]; exact hown) (Only.refl _ _) (.inl rfl)
  | some ad =>
    obtain ⟨v', w', hr', h2, h3, h4, h5⟩ := run_append_own_at (P := Try.prog) w B t o.type 3 i0 (.int .i64 0) 1 8 ht hi hz0 hz1 hz2 rfl (by decide) v xs.length (xs.map (Value.int .i64)) hown ad n c (ys.map (Value.int .i64)) (by rw [List.length_map, hr.1, Nat.mul_one]) (fun j u hu => by
      rw [List.getElem?_map] at hu
      obtain ⟨y, hy, rfl⟩ := Option.map_eq_some_iff.1 hu
      have hj : j < n := by rw [← hr.1]; exact (List.getElem?_eq_some_iff.1 hy).1
      obtain ⟨b, off, e, _, hc⟩ := hr.at_ hj
      injection e with e
      subst e
      rw [Go.WideShapes.add_plain, hc]
      congr 2
      simp [List.getD, hy]) (fun u hu => by
      rw [List.mem_map] at hu
      obtain ⟨y, _, rfl⟩ := hu
      rfl) (by unfold maxLen; omega) (by omega) hB
    unfold Oper.wp execOp
    simp only [hop, resolve, invoke, builtin, Sem.run_bind, Sem.run_pure, Result.andThen_ok, List.map_toArray, List.map_cons, List.map_nil, hs, hx, hr']
    refine hK v' w' ?_ (Only.of_grown h3 (Or.inl (by simp))) ?_
    · unfold Own; simpa [hr.1] using h2
    · rcases h5 with h | h
      · exact Or.inl h
      · exact Or.inr ⟨_, h, Nat.le_refl _⟩
theorem own_slice {w : World} {B : Nat} {v : Value} {xs : List Int} (h : Own w B v xs) : ∃ a n c, v = .slice a n c := by
  obtain ⟨a, c, e⟩ := h.len; exact ⟨a, _, c, e⟩
theorem own_row {w : World} {B : Nat} {A : Option Addr} {n c : Nat} {xs : List Int} (h : Own w B (.slice A n c) xs) : IRow w w.heap.size A n c xs := by
  obtain ⟨a, c', e, hr⟩ := h.irow
  injection e with e1 e2 e3
  subst e1 e2 e3
  exact hr
theorem LwSt.put {w W : World} {c : CodeM} {v : CodeV} (h : LwSt w c v W) {g i : Nat} (hg : w.heap.size < g) (u : Value) : LwSt w c v (W.setCell ⟨g, i, none⟩ u) :=
  ⟨h.is.below ((Below.refl w.heap.size W).setCell (p := ⟨g, i, none⟩) (Nat.le_of_lt hg) u), by unfold Blk; rw [Below.heap_setCell W _ _ w.heap.size (Nat.ne_of_lt hg)]; exact h.blk, h.old.setCell (p := ⟨g, i, none⟩) (Nat.le_of_lt hg) u⟩
/-- what the marks say, once an instruction is read -/
theorem stB_reads {c : CodeM} {W : List Int} {x : InsP} (h : stB c W x = true) : gdB c.slots W x.guard = true ∧ x.args.all (wrB c.slots W) = true ∧ x.resets.all (wrB c.slots W) = true ∧ (isEnd x.op || inB x.dst c.slots) = true := by
  unfold stB at h
  simp only [Bool.and_eq_true] at h
  exact ⟨h.1.2.1.1, h.1.2.1.2, h.1.2.2, h.2⟩
theorem wrB_yes {S : Int} {W : List Int} {j : Int} (h : wrB S W j = true) : ∃ i : Nat, j = (i : Int) ∧ j < S ∧ j ∈ W := by
  unfold wrB at h
  rw [Bool.and_eq_true, decide_eq_true_eq] at h
  obtain ⟨i, h1, h2⟩ := inB_yes h.1
  exact ⟨i, h1, h2, h.2⟩
theorem fewC_step {c : CodeM} (h : fewC c = true) : c.step.length ≤ 60 ∧ ∀ x ∈ c.step, x.args.length ≤ 20 ∧ x.resets.length ≤ 20 := by
  unfold fewC fewB at h
  simp only [Bool.and_eq_true, decide_eq_true_eq, List.all_eq_true] at h
  refine ⟨h.1.1, fun x hx => ?_⟩
  have := h.1.2 x hx
  unfold fewI at this
  simp only [Bool.and_eq_true, decide_eq_true_eq] at this
  exact ⟨this.1, this.2.1⟩
set_option maxHeartbeats 4000000 in
theorem sr_1 (c : CodeM) (v : CodeV) (w : World) (h : CodeIs w w.heap.size c v) (hf : fewC c = false) : Calls Try.prog 6 #[codeV c v] w (LawPost w) := by
  obtain ⟨W1, hW1⟩ : ∃ W1, W1 = w.alloc (.cells #[.int .i64 c.ins, .int .i64 c.outs, .int .i64 c.slots, .int .i64 c.crosses, .int .i64 c.lines, .slice v.mems.1 v.mems.2.1 v.mems.2.2, .slice v.conts.1 v.conts.2.1 v.conts.2.2, .slice v.step.1 v.step.2.1 v.step.2.2, .slice v.deriv.1 v.deriv.2.1 v.deriv.2.2, .slice v.cross.1 v.cross.2.1 v.cross.2.2] 25) := ⟨_, rfl⟩
  have HL := Lib.hid (show LwSt w c v W1 from by rw [hW1]; exact LwSt.start h)
  clear h
  unfold codeV
  have HF := Lib.hid hf
  clear hf
  obtain ⟨n0, n1, n2, n3, n4, n5, n6, n7, n8, n9⟩ := HL.out.blk.code
  go_enter Try.func6, Try.ntmps6
  go_upto_region 1 with fail
  rw [← hW1]
  clear hW1
  go_wp2_with (first | (go_at_call 8; (with_reducible refine (few_b w.heap.size false c v _ HL.out.is HL.out.old.size HF.out).mono ?_); rintro e w2 ⟨rfl, hb2⟩; have HL := Lib.hid (HL.out.later hb2); clear hb2 n0 n1 n2 n3 n4 n5 n6 n7 n8 n9; obtain ⟨n0, n1, n2, n3, n4, n5, n6, n7, n8, n9⟩ := HL.out.blk.code) | (go_at_call 11; refine (awake_t _).mono ?_; rintro e w4 ⟨rfl, hb4⟩))
  go_ret
  exact ⟨rfl, (HL.out.later hb4).old⟩
set_option maxHeartbeats 4000000 in
theorem sr_2 (c : CodeM) (v : CodeV) (w : World) (h : CodeIs w w.heap.size c v) (hf : fewC c = true) (hr : ¬ RightC c) : Calls Try.prog 6 #[codeV c v] w (LawPost w) := by
  obtain ⟨W1, hW1⟩ : ∃ W1, W1 = w.alloc (.cells #[.int .i64 c.ins, .int .i64 c.outs, .int .i64 c.slots, .int .i64 c.crosses, .int .i64 c.lines, .slice v.mems.1 v.mems.2.1 v.mems.2.2, .slice v.conts.1 v.conts.2.1 v.conts.2.2, .slice v.step.1 v.step.2.1 v.step.2.2, .slice v.deriv.1 v.deriv.2.1 v.deriv.2.2, .slice v.cross.1 v.cross.2.1 v.cross.2.2] 25) := ⟨_, rfl⟩
  have HL := Lib.hid (show LwSt w c v W1 from by rw [hW1]; exact LwSt.start h)
  clear h
  unfold codeV
  have HF := Lib.hid hf
  have HRC := Lib.hid hr
  clear hf hr
  obtain ⟨n0, n1, n2, n3, n4, n5, n6, n7, n8, n9⟩ := HL.out.blk.code
  go_enter Try.func6, Try.ntmps6
  go_upto_region 1 with fail
  rw [← hW1]
  clear hW1
  go_wp2_with (first | (go_at_call 8; (with_reducible refine (few_b w.heap.size true c v _ HL.out.is HL.out.old.size HF.out).mono ?_); rintro e w2 ⟨rfl, hb2⟩; have HL := Lib.hid (HL.out.later hb2); clear hb2 n0 n1 n2 n3 n4 n5 n6 n7 n8 n9; obtain ⟨n0, n1, n2, n3, n4, n5, n6, n7, n8, n9⟩ := HL.out.blk.code) | (go_at_call 9; (with_reducible refine (rgt_no w.heap.size c v _ HL.out.is HL.out.old.size HRC.out).mono ?_); rintro e w3 ⟨rfl, hb3⟩; have HL := Lib.hid (HL.out.later hb3); clear hb3 n0 n1 n2 n3 n4 n5 n6 n7 n8 n9; obtain ⟨n0, n1, n2, n3, n4, n5, n6, n7, n8, n9⟩ := HL.out.blk.code) | (go_at_call 11; refine (awake_t _).mono ?_; rintro e w4 ⟨rfl, hb4⟩))
  go_ret
  exact ⟨rfl, (HL.out.later hb4).old⟩
set_option maxHeartbeats 4000000 in
theorem sr_3 (c : CodeM) (v : CodeV) (w : World) (h : CodeIs w w.heap.size c v) (hf : fewC c = true) (hr : RightC c) : Calls Try.prog 6 #[codeV c v] w (LawPost w) := by
  obtain ⟨W1, hW1⟩ : ∃ W1, W1 = w.alloc (.cells #[.int .i64 c.ins, .int .i64 c.outs, .int .i64 c.slots, .int .i64 c.crosses, .int .i64 c.lines, .slice v.mems.1 v.mems.2.1 v.mems.2.2, .slice v.conts.1 v.conts.2.1 v.conts.2.2, .slice v.step.1 v.step.2.1 v.step.2.2, .slice v.deriv.1 v.deriv.2.1 v.deriv.2.2, .slice v.cross.1 v.cross.2.1 v.cross.2.2] 25) := ⟨_, rfl⟩
  have HL := Lib.hid (show LwSt w c v W1 from by rw [hW1]; exact LwSt.start h)
  clear h
  unfold codeV
  have HFS := Lib.hid (fewC_step hf)
  have HF := Lib.hid hf
  have HRC := Lib.hid hr
  obtain ⟨S, hS, hS2⟩ : ∃ S : Nat, c.slots = (S : Int) ∧ S ≤ 65536 := by
    have k2 := hr.slots
    unfold cntB at k2
    simp at k2
    exact ⟨c.slots.toNat, by omega, by omega⟩
  have HSE := Lib.hid hS
  clear hf hr hS
  obtain ⟨n0, n1, n2, n3, n4, n5, n6, n7, n8, n9⟩ := HL.out.blk.code
  go_enter Try.func6, Try.ntmps6
  go_upto_region 1 with fail
  rw [← hW1]
  clear hW1
  go_upto_region 3 with (first | (go_at_call 8; (with_reducible refine (few_b w.heap.size true c v _ HL.out.is HL.out.old.size HF.out).mono ?_); rintro e w2 ⟨rfl, hb2⟩; have HL := Lib.hid (HL.out.later hb2); clear hb2 n0 n1 n2 n3 n4 n5 n6 n7 n8 n9; obtain ⟨n0, n1, n2, n3, n4, n5, n6, n7, n8, n9⟩ := HL.out.blk.code) | (go_at_call 9; (with_reducible refine (rgt_yes w.heap.size c v _ HL.out.is HL.out.old.size HRC.out).mono ?_); rintro e w3 ⟨rfl, hb3⟩; have HL := Lib.hid (HL.out.later hb3); clear hb3 n0 n1 n2 n3 n4 n5 n6 n7 n8 n9; obtain ⟨n0, n1, n2, n3, n4, n5, n6, n7, n8, n9⟩ := HL.out.blk.code))
  go_upto_region 4 with (at_make; refine makeB rfl _ rfl _ S rfl HSE.out (by omega) ?_; intro w4 hm4 hb4)
  have HL0 := Lib.hid (HL.out.later hb4)
  obtain ⟨gd, hgd⟩ : ∃ gd, gd = w3.heap.size := ⟨_, rfl⟩
  rw [← hgd] at hm4 ⊢
  have HGD : Hid (w.heap.size < gd) := Lib.hid (by rw [hgd]; exact HL.out.blk.lt)
  have HGD0 : Hid (gd ≤ gd) := Lib.hid (Nat.le_refl _)
  have HM0 : Hid (BMem w4 gd (mkB S [])) := Lib.hid (by rw [mkB_nil]; exact hm4)
  have hm := HL0.out.is.step.len_le
  have hn60 : v.step.2.1 ≤ 60 := by rw [← HL0.out.is.step.1]; exact HFS.out.1
  clear hgd hm4 hb4 n0 n1 n2 n3 n4 n5 n6 n7 n8 n9
  obtain ⟨n0, n1, n2, n3, n4, n5, n6, n7, n8, n9⟩ := HL0.out.blk.code
  go_wp2_with fail
  go_loopw [4] (fun t wr => ∃ k : Nat, k ≤ v.step.2.1 ∧ t = .int .i64 k ∧ Hid (LwSt w c v wr) ∧ Hid (BMem wr gd (mkB S (wTo (c.step.take k)))) ∧ Hid (Below gd w4 wr)) (fun t _ => v.step.2.1 - (intOf t).toNat)
  case atStart => exact ⟨0, Nat.zero_le _, rfl, HL0, HM0, Lib.hid (Below.refl _ _)⟩
  case round =>
    obtain ⟨k, hk, rfl, HLr, HMr, HB0⟩ := hrel
    clear n0 n1 n2 n3 n4 n5 n6 n7 n8 n9
    obtain ⟨n0, n1, n2, n3, n4, n5, n6, n7, n8, n9⟩ := HLr.out.blk.code
    by_cases hlt : k < v.step.2.1
    · obtain ⟨x, hx⟩ := HLr.out.is.step.ex hlt
      obtain ⟨b, off, ha, hbl, hat⟩ := HLr.out.is.step.at_ hx
      obtain ⟨a, m, d, r, hiw, _, _, _, x0, x1, x2, x3, x4, x5, x6, x7, x8, x9, x10⟩ := hat.cells
      obtain ⟨w0, rfl⟩ : ∃ w0 : World, w0 = wr := ⟨_, rfl⟩
      have HX := Lib.hid hx
      have HST := Lib.hid (HRC.out.step k x hx)
      have HRDS := Lib.hid (stB_reads HST.out)
      have HEN := Lib.hid (stB_en HST.out)
      obtain ⟨W1, hW1⟩ : ∃ W1, W1 = w0.alloc (.cells #[.string x.op, .int .i64 x.dst, .slice a.1 a.2.1 a.2.2, .int .i64 x.k, .int .i64 x.lit.kind, .bool x.lit.neg, .slice m.1 m.2.1 m.2.2, .slice d.1 d.2.1 d.2.2, .string x.lit.name, .int .i64 x.guard, .slice r.1 r.2.1 r.2.2] 52) := ⟨_, rfl⟩
      have hb1 : Below w0.heap.size w0 W1 := by rw [hW1]; exact (Below.refl _ _).alloc (Nat.le_refl _) _
      have HX1 := Lib.hid (show Blk W1 w0.heap.size 52 (ics x a m d r) from by rw [hW1]; exact Blk.new _ _ _)
      have HL1 := Lib.hid (HLr.out.later hb1)
      have HM1 := Lib.hid (HMr.out.below hb1 HMr.out.lt)
      have HB1 := Lib.hid (show Below gd w0 W1 from hb1.mono (Nat.le_of_lt HMr.out.lt))
      have HIW := Lib.hid (hiw.keep (hb1.mono HLr.out.old.size))
      have hna : a.2.1 ≤ 20 := by rw [← hiw.args.1]; exact (HFS.out.2 x (List.mem_of_getElem? hx)).1
      have hnr : r.2.1 ≤ 20 := by rw [← hiw.resets.1]; exact (HFS.out.2 x (List.mem_of_getElem? hx)).2
      have hbw : b < w0.heap.size := Nat.lt_of_lt_of_le hbl HLr.out.old.size
      have hkI : (k : Int) < (v.step.2.1 : Int) := by omega
      have hq1 : w0.heap.size < W1.heap.size := HX1.out.lt
      obtain ⟨EA, hEA⟩ : ∃ EA, EA = v.step.1 := ⟨_, rfl⟩
      rw [← hEA] at ha n7
      clear hEA
      subst ha
      have HF0 := Lib.hid (show W1.drew.cell? ⟨w0.heap.size, 2, none⟩ = some (.slice a.1 a.2.1 a.2.2) ∧ W1.drew.cell? ⟨w0.heap.size, 10, none⟩ = some (.slice r.1 r.2.1 r.2.2) from ⟨HX1.out.cell 2 rfl, HX1.out.cell 10 rfl⟩)
      have HBA : Hid (Below W1.heap.size W1 (W1.alloc (.cells #[] 3)).drew) := Lib.hid ((Below.refl W1.heap.size W1).alloc (Nat.le_refl _) (.cells #[] 3)).drew
      have HXA := Lib.hid (HX1.out.later HBA.out)
      have HFA := Lib.hid (show (W1.alloc (.cells #[] 3)).drew.cell? ⟨w0.heap.size, 2, none⟩ = some (.slice a.1 a.2.1 a.2.2) ∧ (W1.alloc (.cells #[] 3)).drew.cell? ⟨w0.heap.size, 10, none⟩ = some (.slice r.1 r.2.1 r.2.2) from ⟨HXA.out.cell 2 rfl, HXA.out.cell 10 rfl⟩)
      have HOA : Hid (Own (W1.alloc (.cells #[] 3)).drew W1.heap.size (.slice (some ⟨W1.heap.size, 0, none⟩) 0 0) []) := Lib.hid (Own.fresh W1 W1.heap.size (Nat.le_refl _))
      have HRA := Lib.hid (HIW.out.args.below (HBA.out.mono HL1.out.old.size))
      clear hx hiw hat hbl hb1
      go_upto_region 8 with fail
      rw [← hW1]
      clear hW1 x0 x1 x2 x3 x4 x5 x6 x7 x8 x9 x10
      go_region_held3 (fun w' => w'.cell? ⟨w0.heap.size, 2, none⟩ = some (.slice a.1 a.2.1 a.2.2) ∧ w'.cell? ⟨w0.heap.size, 10, none⟩ = some (.slice r.1 r.2.1 r.2.2)) (first | with_reducible exact HF0.out | with_reducible exact HFA.out | exact HFB.out | exact HFC.out | exact HFA.out) (first
        | (refine stepR rfl _ _ 29 Try.underlying29 rfl W1.heap.size w.heap.size (.slice (some ⟨W1.heap.size, 0, none⟩) 0 0) [] a.1 a.2.1 a.2.2 x.args rfl rfl HOA.out HRA.out HBA.out.size (by simp) (by omega) ?_; intro v2 w2 hown honly hat; obtain ⟨a2, z2, c2, hv2⟩ := own_slice hown; subst hv2; have HO2 := Lib.hid hown; have HB2 := Lib.hid (HBA.out.trans (honly.own HOA.out HBA.out.size)); have HX2 := Lib.hid (HX1.out.later HB2.out); have HFB := Lib.hid (show w2.cell? ⟨w0.heap.size, 2, none⟩ = some (.slice a.1 a.2.1 a.2.2) ∧ w2.cell? ⟨w0.heap.size, 10, none⟩ = some (.slice r.1 r.2.1 r.2.2) from ⟨HX2.out.cell 2 rfl, HX2.out.cell 10 rfl⟩); have HRB := Lib.hid (HIW.out.resets.below (HB2.out.mono HL1.out.old.size)); clear hown honly hat)
        | (refine stepR rfl _ _ 29 Try.underlying29 rfl W1.heap.size w.heap.size (.slice a2 z2 c2) ([] ++ x.args) r.1 r.2.1 r.2.2 x.resets rfl rfl HO2.out HRB.out HB2.out.size (by simp; have := HIW.out.args.1; omega) (by omega) ?_; intro v5 w5 hown honly hat; obtain ⟨a5, z5, c5, hv5⟩ := own_slice hown; subst hv5; have HO5 := Lib.hid hown; have HB5 := Lib.hid (HB2.out.trans (honly.own HO2.out HB2.out.size)); have HX5 := Lib.hid (HX1.out.later HB5.out); have HFC := Lib.hid (show w5.cell? ⟨w0.heap.size, 2, none⟩ = some (.slice a.1 a.2.1 a.2.2) ∧ w5.cell? ⟨w0.heap.size, 10, none⟩ = some (.slice r.1 r.2.1 r.2.2) from ⟨HX5.out.cell 2 rfl, HX5.out.cell 10 rfl⟩); clear hown honly hat))
      have lALL : ∀ j ∈ [] ++ x.args ++ x.resets, wrB c.slots (wTo (c.step.take k)) j = true := by
        intro j hj
        rw [List.nil_append, List.mem_append] at hj
        rcases hj with hj | hj
        · exact List.all_eq_true.1 HRDS.out.2.1 j hj
        · exact List.all_eq_true.1 HRDS.out.2.2.1 j hj
      obtain ⟨l, hl⟩ : ∃ l, l = [] ++ x.args ++ x.resets := ⟨_, rfl⟩
      have HLN5 : Hid (l.length ≤ 41) := Lib.hid (by rw [hl]; simp; have := HIW.out.args.1; have := HIW.out.resets.1; omega)
      have HLN40 : Hid (l.length ≤ 40) := Lib.hid (by rw [hl]; simp; have := HIW.out.args.1; have := HIW.out.resets.1; omega)
      rw [← hl] at lALL HO5
      clear hl
      obtain ⟨p0, p1, p2, p3, p4, p5, p6, p7, p8, p9, p10⟩ := HX5.out.elev
      have hx5 : w0.heap.size < w5.heap.size := HX5.out.lt
      by_cases hg : 0 ≤ x.guard
      · have g0 : decide (0 ≤ x.guard) = true := decide_eq_true hg
        have hgw : wrB c.slots (wTo (c.step.take k)) x.guard = true := by
          have := HRDS.out.1
          unfold gdB at this
          rw [show decide (x.guard < 0) = false by rw [decide_eq_false_iff_not]; omega, Bool.false_or] at this
          exact this
        have HGW := Lib.hid hgw
        clear hgw
        go_upto_region 11 with (at_builtin; refine appendH rfl _ _ 29 Try.underlying29 rfl W1.heap.size (.slice a5 z5 c5) l x.guard 3 w5.heap.size rfl rfl rfl HO5.out HB5.out.size (by have := HLN40.out; omega) ?_; intro v6 w6 hown honly hat; obtain ⟨a6, z6, c6, hv6⟩ := own_slice hown; subst hv6; have HO6 := Lib.hid hown; have HB6 := Lib.hid (HB5.out.trans (honly.own HO5.out HB5.out.size)); clear hown honly hat)
        have HLN6 : Hid ((l ++ [x.guard]).length ≤ 41) := Lib.hid (by rw [List.length_append]; have := HLN40.out; simp; omega)
        have l6ALL : ∀ j ∈ l ++ [x.guard], wrB c.slots (wTo (c.step.take k)) j = true := by
          intro j hj
          rw [List.mem_append] at hj
          rcases hj with hj | hj
          · exact lALL j hj
          · rw [List.mem_singleton] at hj; rw [hj]; exact HGW.out
        obtain ⟨l6, hl6⟩ : ∃ l6, l6 = l ++ [x.guard] := ⟨_, rfl⟩
        rw [← hl6] at l6ALL HLN6 HO6
        clear hl6 lALL
        have HLL := Lib.hid l6ALL
        clear l6ALL
        have HRl := Lib.hid (own_row HO6.out)
        have HL4 := Lib.hid (HL1.out.later HB6.out)
        have HX4 := Lib.hid (HX1.out.later HB6.out)
        have HM4 := Lib.hid (HM1.out.below HB6.out HM1.out.lt)
        have hnl : z6 ≤ 41 := by have := HLN6.out; rw [HRl.out.1] at this; exact this
        have hgd := HM4.out.lt
        clear p0 p1 p2 p3 p4 p5 p6 p7 p8 p9 p10
        go_wp2_with fail
        go_loopw [7] (fun t wq => ∃ m : Nat, m ≤ z6 ∧ t = .int .i64 m ∧ Hid (Below w6.heap.size w6 wq)) (fun t _ => z6 - (intOf t).toNat)
        case atStart => exact ⟨0, Nat.zero_le _, rfl, Lib.hid (Below.refl _ _)⟩
        case round =>
          obtain ⟨j, hj, rfl, HBq⟩ := hrel
          have HLq := Lib.hid (HL4.out.later HBq.out)
          have HXq := Lib.hid (HX4.out.later HBq.out)
          have HMq := Lib.hid (HM4.out.below HBq.out HM4.out.lt)
          have hgq := HMq.out.lt
          have hwq : w.heap.size < wr.heap.size := HLq.out.blk.lt
          have hxq : w0.heap.size < wr.heap.size := HXq.out.lt
          obtain ⟨n0, n1, n2, n3, n4, n5, n6, n7, n8, n9⟩ := HLq.out.blk.code
          obtain ⟨p0, p1, p2, p3, p4, p5, p6, p7, p8, p9, p10⟩ := HXq.out.elev
          by_cases hlt2 : j < z6
          · obtain ⟨gb, go, hga, hgb, hgc⟩ := (HRl.out.below HBq.out).at_ hlt2
            obtain ⟨X, hX⟩ : ∃ X, X = l6.getD j 0 := ⟨_, rfl⟩
            rw [← hX] at hgc
            have hw := HLL.out X (by rw [hX, List.getD_eq_getElem?_getD, List.getElem?_eq_getElem (by rw [HRl.out.1]; exact hlt2)]; exact List.getElem_mem _)
            obtain ⟨i, hi, hiS, him⟩ := wrB_yes hw
            have hiS' : i < S := by rw [HSE.out] at hiS; omega
            have lc := HMq.out.cell i (by rw [mkB_len]; exact hiS')
            rw [mkB_get hiS', show decide ((i : Int) ∈ wTo (c.step.take k)) = true from decide_eq_true (by rw [← hi]; exact him)] at lc
            rw [hi] at hgc
            rw [HSE.out] at n2
            have g1 : decide ((i : Int) < 0) = false := by rw [decide_eq_false_iff_not]; omega
            have g2 : decide ((S : Int) ≤ (i : Int)) = false := by rw [decide_eq_false_iff_not]; omega
            have hjI : (j : Int) < (z6 : Int) := by omega
            subst hga
            clear hX hw hi hiS him
            go_wp2
            go_quiet (fail)
            go_wp2
            go_roundw
            case rel => exact ⟨j + 1, by omega, by go_num, Lib.hid (below_drewN HBq.out)⟩
            case measure => simp [intOf]; omega
          · obtain rfl : j = z6 := by omega
            obtain ⟨N1, hN1⟩ : ∃ N1, N1 = (argsV x.op).1 := ⟨_, rfl⟩
            obtain ⟨N2, hN2⟩ : ∃ N2, N2 = (argsV x.op).2 := ⟨_, rfl⟩
            have HAT := Lib.hid (args_t x.op)
            rw [← hN1, ← hN2] at HAT
            have HBT := Lib.hid ((HB1.out.trans (HB6.out.mono (Nat.le_of_lt HM1.out.lt))).trans (HBq.out.mono (Nat.le_trans (Nat.le_of_lt HM1.out.lt) HB6.out.size)))
            cases hie : isEnd x.op with
            | true =>
              have h0 := (args_enS HEN.out).1 hie
              rw [← hN1] at h0
              subst h0
              have HIE := Lib.hid hie
              clear hie hN1 hN2
              go_wp2_with (go_at_call 15; (with_reducible refine (HAT.out _).mono ?_); rintro e w7 ⟨rfl, rfl⟩)
              go_roundw
              case rel => exact ⟨k + 1, by omega, by go_num, HLq, Lib.hid (by rw [take_snoc HX.out, wTo_end HIE.out]; exact HMq.out), Lib.hid (HB0.out.trans HBT.out)⟩
              case measure => simp [intOf]; omega
            | false =>
              have h0 := (args_enS HEN.out).2 hie
              rw [← hN1] at h0
              have hd := HRDS.out.2.2.2
              rw [hie, Bool.false_or] at hd
              obtain ⟨i, hi, hiS⟩ := inB_yes hd
              have hiS' : i < S := by rw [HSE.out] at hiS; omega
              have lc := HMq.out.cell i (by rw [mkB_len]; exact hiS')
              have lf := HMq.out.free i
              rw [hi] at p1
              have HI := Lib.hid hi
              have HIE := Lib.hid hie
              have g0 : decide (0 ≤ N1) = true := decide_eq_true h0
              have hiI : (i : Int) < (S : Int) := by omega
              clear hie hN1 hN2 hd hi hiS
              go_wp2_with (go_at_call 15; (with_reducible refine (HAT.out _).mono ?_); rintro e w7 ⟨rfl, rfl⟩)
              go_roundw
              case rel => exact ⟨k + 1, by omega, by go_num, Lib.hid (HLq.out.put HGD.out _), Lib.hid (by rw [take_snoc HX.out, wTo_eq HIE.out, HI.out, ← mkB_set]; exact HMq.out.set i true), Lib.hid ((HB0.out.trans HBT.out).setCell (p := ⟨gd, i, none⟩) HGD0.out _)⟩
              case measure => simp [intOf]; omega
      · have g0 : decide (0 ≤ x.guard) = false := decide_eq_false hg
        go_upto_region 11 with fail
        have HLL := Lib.hid lALL
        clear lALL
        have HRl := Lib.hid (own_row HO5.out)
        have HL4 := Lib.hid (HL1.out.later HB5.out)
        have HX4 := Lib.hid (HX1.out.later HB5.out)
        have HM4 := Lib.hid (HM1.out.below HB5.out HM1.out.lt)
        have hnl : z5 ≤ 41 := by have := HLN5.out; rw [HRl.out.1] at this; exact this
        have hgd := HM4.out.lt
        clear p0 p1 p2 p3 p4 p5 p6 p7 p8 p9 p10
        go_wp2_with fail
        go_loopw [7] (fun t wq => ∃ m : Nat, m ≤ z5 ∧ t = .int .i64 m ∧ Hid (Below w5.heap.size w5 wq)) (fun t _ => z5 - (intOf t).toNat)
        case atStart => exact ⟨0, Nat.zero_le _, rfl, Lib.hid (Below.refl _ _)⟩
        case round =>
          obtain ⟨j, hj, rfl, HBq⟩ := hrel
          have HLq := Lib.hid (HL4.out.later HBq.out)
          have HXq := Lib.hid (HX4.out.later HBq.out)
          have HMq := Lib.hid (HM4.out.below HBq.out HM4.out.lt)
          have hgq := HMq.out.lt
          have hwq : w.heap.size < wr.heap.size := HLq.out.blk.lt
          have hxq : w0.heap.size < wr.heap.size := HXq.out.lt
          obtain ⟨n0, n1, n2, n3, n4, n5, n6, n7, n8, n9⟩ := HLq.out.blk.code
          obtain ⟨p0, p1, p2, p3, p4, p5, p6, p7, p8, p9, p10⟩ := HXq.out.elev
          by_cases hlt2 : j < z5
          · obtain ⟨gb, go, hga, hgb, hgc⟩ := (HRl.out.below HBq.out).at_ hlt2
            obtain ⟨X, hX⟩ : ∃ X, X = l.getD j 0 := ⟨_, rfl⟩
            rw [← hX] at hgc
            have hw := HLL.out X (by rw [hX, List.getD_eq_getElem?_getD, List.getElem?_eq_getElem (by rw [HRl.out.1]; exact hlt2)]; exact List.getElem_mem _)
            obtain ⟨i, hi, hiS, him⟩ := wrB_yes hw
            have hiS' : i < S := by rw [HSE.out] at hiS; omega
            have lc := HMq.out.cell i (by rw [mkB_len]; exact hiS')
            rw [mkB_get hiS', show decide ((i : Int) ∈ wTo (c.step.take k)) = true from decide_eq_true (by rw [← hi]; exact him)] at lc
            rw [hi] at hgc
            rw [HSE.out] at n2
            have g1 : decide ((i : Int) < 0) = false := by rw [decide_eq_false_iff_not]; omega
            have g2 : decide ((S : Int) ≤ (i : Int)) = false := by rw [decide_eq_false_iff_not]; omega
            have hjI : (j : Int) < (z5 : Int) := by omega
            subst hga
            clear hX hw hi hiS him
            go_wp2
            go_quiet (fail)
            go_wp2
            go_roundw
            case rel => exact ⟨j + 1, by omega, by go_num, Lib.hid (below_drewN HBq.out)⟩
            case measure => simp [intOf]; omega
          · obtain rfl : j = z5 := by omega
            obtain ⟨N1, hN1⟩ : ∃ N1, N1 = (argsV x.op).1 := ⟨_, rfl⟩
            obtain ⟨N2, hN2⟩ : ∃ N2, N2 = (argsV x.op).2 := ⟨_, rfl⟩
            have HAT := Lib.hid (args_t x.op)
            rw [← hN1, ← hN2] at HAT
            have HBT := Lib.hid ((HB1.out.trans (HB5.out.mono (Nat.le_of_lt HM1.out.lt))).trans (HBq.out.mono (Nat.le_trans (Nat.le_of_lt HM1.out.lt) HB5.out.size)))
            cases hie : isEnd x.op with
            | true =>
              have h0 := (args_enS HEN.out).1 hie
              rw [← hN1] at h0
              subst h0
              have HIE := Lib.hid hie
              clear hie hN1 hN2
              go_wp2_with (go_at_call 15; (with_reducible refine (HAT.out _).mono ?_); rintro e w7 ⟨rfl, rfl⟩)
              go_roundw
              case rel => exact ⟨k + 1, by omega, by go_num, HLq, Lib.hid (by rw [take_snoc HX.out, wTo_end HIE.out]; exact HMq.out), Lib.hid (HB0.out.trans HBT.out)⟩
              case measure => simp [intOf]; omega
            | false =>
              have h0 := (args_enS HEN.out).2 hie
              rw [← hN1] at h0
              have hd := HRDS.out.2.2.2
              rw [hie, Bool.false_or] at hd
              obtain ⟨i, hi, hiS⟩ := inB_yes hd
              have hiS' : i < S := by rw [HSE.out] at hiS; omega
              have lc := HMq.out.cell i (by rw [mkB_len]; exact hiS')
              have lf := HMq.out.free i
              rw [hi] at p1
              have HI := Lib.hid hi
              have HIE := Lib.hid hie
              have g0 : decide (0 ≤ N1) = true := decide_eq_true h0
              have hiI : (i : Int) < (S : Int) := by omega
              clear hie hN1 hN2 hd hi hiS
              go_wp2_with (go_at_call 15; (with_reducible refine (HAT.out _).mono ?_); rintro e w7 ⟨rfl, rfl⟩)
              go_roundw
              case rel => exact ⟨k + 1, by omega, by go_num, Lib.hid (HLq.out.put HGD.out _), Lib.hid (by rw [take_snoc HX.out, wTo_eq HIE.out, HI.out, ← mkB_set]; exact HMq.out.set i true), Lib.hid ((HB0.out.trans HBT.out).setCell (p := ⟨gd, i, none⟩) HGD0.out _)⟩
              case measure => simp [intOf]; omega
    · obtain rfl : k = v.step.2.1 := by omega
      have HL := HLr
      go_wp2_with (go_at_call 11; refine (awake_t _).mono ?_; rintro e w4 ⟨rfl, hb4⟩)
      go_ret
      exact ⟨rfl, (HL.out.later hb4).old⟩
theorem safeReads_walk (c : CodeM) (v : CodeV) (w : World) (h : CodeIs w w.heap.size c v) : Calls Try.prog 6 #[codeV c v] w (LawPost w) := by
  cases hf : fewC c with
  | false => exact sr_1 c v w h hf
  | true =>
    by_cases hr : RightC c
    · exact sr_3 c v w h hf hr
    · exact sr_2 c v w h hf hr

end Go.Proofs.Ytcljmfhelgkfaaa
