/- What allKept tells. No condition. -/
import Derived.Test.YtioebjjnadgdjaaZFlK
namespace Go.Proofs.Ytioebjjnadgdjaa
set_option linter.unusedVariables false
set_option linter.unusedSimpArgs false
set_option maxRecDepth 100000
open Go.RowKit

theorem keptB_outs {f : FlatM} (h : wiB f.outs f.names.length = false) : keptB f = false := by unfold keptB; rw [h]; simp
theorem keptB_again {f : FlatM} (h : wiB f.again f.names.length = false) : keptB f = false := by unfold keptB; rw [h]; simp
theorem keptB_mems {f : FlatM} (h : f.mems.all (memB f) = false) : keptB f = false := by unfold keptB; rw [h]; simp
theorem keptB_conts {f : FlatM} (h : f.conts.all (contB f) = false) : keptB f = false := by unfold keptB; rw [h]; simp
theorem keptB_yes {f : FlatM} (h0 : wiB f.outs f.names.length = true) (h1 : wiB f.again f.names.length = true) (h2 : f.mems.all (memB f) = true) (h3 : f.conts.all (contB f) = true) : keptB f = true := by unfold keptB; rw [h0, h1, h2, h3]; rfl

set_option maxHeartbeats 2000000 in
theorem allKept_t (v : FlatV) (f : FlatM) (B : Nat) (w : World) (h : FlatIs w B v f) (hB : B ≤ w.heap.size) :
    Calls Try.prog 47 #[flatV v] w fun e w' => e = .returned (.bool (keptB f)) ∧ Below w.heap.size w w' := by
  have hm4 := h.mems.len_le
  have hm5 := h.conts.len_le
  have HNN := Lib.hid h.names.1
  have HQM : Hid (∀ x, memB f x = (plB x.next v.names.2.1 && guB x.guard v.names.2.1 && wiB x.resets v.names.2.1)) := Lib.hid fun x => by unfold memB; rw [h.names.1]
  have HQC : Hid (∀ x, contB f x = (plB x.var v.names.2.1 && guB x.guard v.names.2.1 && wiB x.resets v.names.2.1 && x.slopes.all (slopeB f))) := Lib.hid fun x => by unfold contB; rw [h.names.1]
  have HE4 := Lib.hid h.mems.1
  have HE5 := Lib.hid h.conts.1
  have HF := Lib.hid (show FlatIs (w.alloc (.cells (fvs v) 29)) B v f from h.below ((Below.refl B w).alloc hB _)); clear h
  have HK := Lib.hid (Blk.new w 29 (fvs v))
  have HB0 := Lib.hid (show Below w.heap.size w (w.alloc (.cells (fvs v) 29)) from (Below.refl _ _).alloc (Nat.le_refl _) _)
  have HBB := Lib.hid hB; clear hB
  have HS : Hid (St (w.alloc (.cells (fvs v) 29)) B w.heap.size w.heap.size 29 v f (fvs v) (fun _ => True) (w.alloc (.cells (fvs v) 29))) := Lib.hid ⟨HK.out, HK.out, HF.out, trivial, Below.refl _ _, HBB.out, fun _ _ _ _ => trivial⟩
  unfold maxLen at hm4 hm5
  unfold flatV sl3
  go_enter Try.func47, Try.ntmps47
  cases h1 : wiB f.outs v.names.2.1 with
  | false =>
    have H1 := Lib.hid h1; clear h1
    go_wp2_with (first | (go_at_call 61; refine (areVars_at v.outs.1 v.outs.2.1 v.outs.2.2 B f.outs v false _ HS.out.is.outs HS.out.hB H1.out).mono ?_; rintro e w1 ⟨rfl, hb⟩; replace HS := Lib.hid (HS.out.later hb); clear hb; obtain ⟨f0, f1, f2, f3, f4, f5, f6, f7⟩ := HS.out.fb.flat))
    go_ret
    exact ⟨ret_bool' (keptB_outs (by rw [HNN.out]; exact H1.out)).symm, HB0.out.trans (HS.out.old.mono (Nat.le_succ _))⟩
  | true =>
    have H1 := Lib.hid h1; clear h1
    cases h2 : wiB f.again v.names.2.1 with
    | false =>
      have H2 := Lib.hid h2; clear h2
      go_wp2_with (first | (go_at_call 61; refine (areVars_at v.outs.1 v.outs.2.1 v.outs.2.2 B f.outs v true _ HS.out.is.outs HS.out.hB H1.out).mono ?_; rintro e w1 ⟨rfl, hb⟩; replace HS := Lib.hid (HS.out.later hb); clear hb; obtain ⟨f0, f1, f2, f3, f4, f5, f6, f7⟩ := HS.out.fb.flat) | (go_at_call 61; refine (areVars_at v.again.1 v.again.2.1 v.again.2.2 B f.again v false _ HS.out.is.again HS.out.hB H2.out).mono ?_; rintro e w1 ⟨rfl, hb⟩; replace HS := Lib.hid (HS.out.later hb); clear hb; obtain ⟨f0, f1, f2, f3, f4, f5, f6, f7⟩ := HS.out.fb.flat))
      go_ret
      exact ⟨ret_bool' (keptB_again (by rw [HNN.out]; exact H2.out)).symm, HB0.out.trans (HS.out.old.mono (Nat.le_succ _))⟩
    | true =>
      have H2 := Lib.hid h2; clear h2
      go_wp2_with (first | (go_at_call 61; refine (areVars_at v.outs.1 v.outs.2.1 v.outs.2.2 B f.outs v true _ HS.out.is.outs HS.out.hB H1.out).mono ?_; rintro e w1 ⟨rfl, hb⟩; replace HS := Lib.hid (HS.out.later hb); clear hb; obtain ⟨f0, f1, f2, f3, f4, f5, f6, f7⟩ := HS.out.fb.flat) | (go_at_call 61; refine (areVars_at v.again.1 v.again.2.1 v.again.2.2 B f.again v true _ HS.out.is.again HS.out.hB H2.out).mono ?_; rintro e w1 ⟨rfl, hb⟩; replace HS := Lib.hid (HS.out.later hb); clear hb; obtain ⟨f0, f1, f2, f3, f4, f5, f6, f7⟩ := HS.out.fb.flat))
      have HO := Lib.hid HS.out.old; clear HS
      have HA1 := H1; have HA2 := H2; clear H1 H2
      clear f0 f1 f2 f3 f4 f5 f6 f7
      go_loopw [22] (fun t wr => ∃ k : Nat, k ≤ v.mems.2.1 ∧ t = .int .i64 k ∧ Hid ((f.mems.take k).all (memB f) = true) ∧ Hid (Below (w.heap.size + 1) (w.alloc (.cells (fvs v) 29)) wr)) (fun t _ => v.mems.2.1 - (intOf t).toNat)
      case atStart => exact ⟨0, Nat.zero_le _, rfl, Lib.hid rfl, HO⟩
      case round =>
        obtain ⟨k, hk, rfl, hz, hbr⟩ := hrel
        have hfb := HK.out.below hbr.out (Nat.lt_succ_self _)
        have hbB := hbr.out.mono (Nat.le_succ_of_le HBB.out)
        obtain ⟨f0, f1, f2, f3, f4, f5, f6, f7⟩ := hfb.flat
        have hgl : w.heap.size < wr.heap.size := hfb.lt
        by_cases hlt : k < v.mems.2.1
        · have his := HF.out.below hbB
          obtain ⟨x, hx⟩ := his.mems.ex hlt
          obtain ⟨b, off, ha, hlb, hat⟩ := his.mems.at_ hx
          obtain ⟨m, d, r, _, _, hrow, e0, e1, e2, e3, e4, e5, e6, e7⟩ := hat.cells
          have hbl : b < wr.heap.size := Nat.lt_of_lt_of_le hlb (Nat.le_trans HBB.out (Nat.le_of_lt hfb.lt))
          have HS := Lib.hid (St.new (T := 70) (P := fun W => IRow W B r.1 r.2.1 r.2.2 x.resets) (memvs x m d r) hfb his hbr.out HBB.out (fun _ _ q h => h.below q) hrow)
          have HX := Lib.hid hx
          rw [ha]
          clear hfb hat hx hbB his ha hrow
          cases h1 : plB x.next v.names.2.1 with
          | false =>
            have H1 := Lib.hid h1; clear h1
            go_wp2_with (first | (go_at_call 64; refine (isVar_at x.next v false _ H1.out).mono ?_; rintro e w1 ⟨rfl, hb⟩; replace HS := Lib.hid (HS.out.later hb); clear hb; obtain ⟨f0, f1, f2, f3, f4, f5, f6, f7⟩ := HS.out.fb.flat; obtain ⟨e0, e1, e2, e3, e4, e5, e6, e7⟩ := HS.out.qb.mem))
            go_ret
            exact ⟨ret_bool' (keptB_mems (all_no HX.out (by rw [HQM.out, H1.out]; simp))).symm, HB0.out.trans (HS.out.old.mono (Nat.le_succ _))⟩
          | true =>
            have H1 := Lib.hid h1; clear h1
            cases h2 : guB x.guard v.names.2.1 with
            | false =>
              have H2 := Lib.hid h2; clear h2
              go_wp2_with (first | (go_at_call 64; refine (isVar_at x.next v true _ H1.out).mono ?_; rintro e w1 ⟨rfl, hb⟩; replace HS := Lib.hid (HS.out.later hb); clear hb; obtain ⟨f0, f1, f2, f3, f4, f5, f6, f7⟩ := HS.out.fb.flat; obtain ⟨e0, e1, e2, e3, e4, e5, e6, e7⟩ := HS.out.qb.mem) | (go_at_call 60; refine (isGuard_at x.guard v false _ H2.out).mono ?_; rintro e w1 ⟨rfl, hb⟩; replace HS := Lib.hid (HS.out.later hb); clear hb; obtain ⟨f0, f1, f2, f3, f4, f5, f6, f7⟩ := HS.out.fb.flat; obtain ⟨e0, e1, e2, e3, e4, e5, e6, e7⟩ := HS.out.qb.mem))
              go_ret
              exact ⟨ret_bool' (keptB_mems (all_no HX.out (by rw [HQM.out, H1.out, H2.out]; simp))).symm, HB0.out.trans (HS.out.old.mono (Nat.le_succ _))⟩
            | true =>
              have H2 := Lib.hid h2; clear h2
              cases h3 : wiB x.resets v.names.2.1 with
              | false =>
                have H3 := Lib.hid h3; clear h3
                go_wp2_with (first | (go_at_call 64; refine (isVar_at x.next v true _ H1.out).mono ?_; rintro e w1 ⟨rfl, hb⟩; replace HS := Lib.hid (HS.out.later hb); clear hb; obtain ⟨f0, f1, f2, f3, f4, f5, f6, f7⟩ := HS.out.fb.flat; obtain ⟨e0, e1, e2, e3, e4, e5, e6, e7⟩ := HS.out.qb.mem) | (go_at_call 60; refine (isGuard_at x.guard v true _ H2.out).mono ?_; rintro e w1 ⟨rfl, hb⟩; replace HS := Lib.hid (HS.out.later hb); clear hb; obtain ⟨f0, f1, f2, f3, f4, f5, f6, f7⟩ := HS.out.fb.flat; obtain ⟨e0, e1, e2, e3, e4, e5, e6, e7⟩ := HS.out.qb.mem) | (go_at_call 61; refine (areVars_at r.1 r.2.1 r.2.2 B x.resets v false _ HS.out.row HS.out.hB H3.out).mono ?_; rintro e w1 ⟨rfl, hb⟩; replace HS := Lib.hid (HS.out.later hb); clear hb; obtain ⟨f0, f1, f2, f3, f4, f5, f6, f7⟩ := HS.out.fb.flat; obtain ⟨e0, e1, e2, e3, e4, e5, e6, e7⟩ := HS.out.qb.mem))
                go_ret
                exact ⟨ret_bool' (keptB_mems (all_no HX.out (by rw [HQM.out, H1.out, H2.out, H3.out]; simp))).symm, HB0.out.trans (HS.out.old.mono (Nat.le_succ _))⟩
              | true =>
                have H3 := Lib.hid h3; clear h3
                go_wp2_with (first | (go_at_call 64; refine (isVar_at x.next v true _ H1.out).mono ?_; rintro e w1 ⟨rfl, hb⟩; replace HS := Lib.hid (HS.out.later hb); clear hb; obtain ⟨f0, f1, f2, f3, f4, f5, f6, f7⟩ := HS.out.fb.flat; obtain ⟨e0, e1, e2, e3, e4, e5, e6, e7⟩ := HS.out.qb.mem) | (go_at_call 60; refine (isGuard_at x.guard v true _ H2.out).mono ?_; rintro e w1 ⟨rfl, hb⟩; replace HS := Lib.hid (HS.out.later hb); clear hb; obtain ⟨f0, f1, f2, f3, f4, f5, f6, f7⟩ := HS.out.fb.flat; obtain ⟨e0, e1, e2, e3, e4, e5, e6, e7⟩ := HS.out.qb.mem) | (go_at_call 61; refine (areVars_at r.1 r.2.1 r.2.2 B x.resets v true _ HS.out.row HS.out.hB H3.out).mono ?_; rintro e w1 ⟨rfl, hb⟩; replace HS := Lib.hid (HS.out.later hb); clear hb; obtain ⟨f0, f1, f2, f3, f4, f5, f6, f7⟩ := HS.out.fb.flat; obtain ⟨e0, e1, e2, e3, e4, e5, e6, e7⟩ := HS.out.qb.mem))
                go_roundw
                case rel => exact ⟨k + 1, by omega, by go_num, Lib.hid (by rw [all_succ HX.out, HQM.out, H1.out, H2.out, H3.out]; exact (by simpa using hz.out)), Lib.hid HS.out.old⟩
                case measure => simp [intOf]; omega
        · have HMM := Lib.hid (all_end HE4.out (by rw [show v.mems.2.1 = k by omega]; exact hz.out))
          clear hfb hbB
          go_wp2
          clear f0 f1 f2 f3 f4 f5 f6 f7 hgl
          have HBR := hbr; clear hbr hz
          obtain ⟨W9, rfl⟩ : ∃ W9 : World, W9 = wr := ⟨_, rfl⟩
          go_loopw [49] (fun t wr => ∃ k : Nat, k ≤ v.conts.2.1 ∧ t = .int .i64 k ∧ Hid ((f.conts.take k).all (contB f) = true) ∧ Hid (Below (w.heap.size + 1) (w.alloc (.cells (fvs v) 29)) wr)) (fun t _ => v.conts.2.1 - (intOf t).toNat)
          case atStart => exact ⟨0, Nat.zero_le _, rfl, Lib.hid rfl, HBR⟩
          case round =>
            obtain ⟨k, hk, rfl, hz, hbr⟩ := hrel
            have hfb := HK.out.below hbr.out (Nat.lt_succ_self _)
            have hbB := hbr.out.mono (Nat.le_succ_of_le HBB.out)
            obtain ⟨f0, f1, f2, f3, f4, f5, f6, f7⟩ := hfb.flat
            have hgl : w.heap.size < wr.heap.size := hfb.lt
            by_cases hlt : k < v.conts.2.1
            · have his := HF.out.below hbB
              obtain ⟨x, hx⟩ := his.conts.ex hlt
              obtain ⟨b, off, ha, hlb, hat⟩ := his.conts.at_ hx
              obtain ⟨m, d, r, s, _, _, hrow, hrs, e0, e1, e2, e3, e4, e5, e6, e7, e8⟩ := hat.cells
              have hbl : b < wr.heap.size := Nat.lt_of_lt_of_le hlb (Nat.le_trans HBB.out (Nat.le_of_lt hfb.lt))
              have HS := Lib.hid (St.new (T := 73) (P := fun W => IRow W B r.1 r.2.1 r.2.2 x.resets ∧ SRow 2 SlopeAt W B s.1 s.2.1 s.2.2 x.slopes) (contvs x m d r s) hfb his hbr.out HBB.out (fun _ _ q h => ⟨h.1.below q, h.2.keep fun _ _ _ q1 q2 => q2.keep q1 fun _ hp => q.cell hp⟩) ⟨hrow, hrs⟩)
              have HX := Lib.hid hx
              rw [ha]
              clear hfb hat hx hbB his ha hrow hrs
              cases h1 : plB x.var v.names.2.1 with
              | false =>
                have H1 := Lib.hid h1; clear h1
                go_wp2_with (first | (go_at_call 64; refine (isVar_at x.var v false _ H1.out).mono ?_; rintro e w1 ⟨rfl, hb⟩; replace HS := Lib.hid (HS.out.later hb); clear hb; obtain ⟨f0, f1, f2, f3, f4, f5, f6, f7⟩ := HS.out.fb.flat; obtain ⟨e0, e1, e2, e3, e4, e5, e6, e7, e8⟩ := HS.out.qb.cont))
                go_ret
                exact ⟨ret_bool' (keptB_conts (all_no HX.out (by rw [HQC.out, H1.out]; simp))).symm, HB0.out.trans (HS.out.old.mono (Nat.le_succ _))⟩
              | true =>
                have H1 := Lib.hid h1; clear h1
                cases h2 : guB x.guard v.names.2.1 with
                | false =>
                  have H2 := Lib.hid h2; clear h2
                  go_wp2_with (first | (go_at_call 64; refine (isVar_at x.var v true _ H1.out).mono ?_; rintro e w1 ⟨rfl, hb⟩; replace HS := Lib.hid (HS.out.later hb); clear hb; obtain ⟨f0, f1, f2, f3, f4, f5, f6, f7⟩ := HS.out.fb.flat; obtain ⟨e0, e1, e2, e3, e4, e5, e6, e7, e8⟩ := HS.out.qb.cont) | (go_at_call 60; refine (isGuard_at x.guard v false _ H2.out).mono ?_; rintro e w1 ⟨rfl, hb⟩; replace HS := Lib.hid (HS.out.later hb); clear hb; obtain ⟨f0, f1, f2, f3, f4, f5, f6, f7⟩ := HS.out.fb.flat; obtain ⟨e0, e1, e2, e3, e4, e5, e6, e7, e8⟩ := HS.out.qb.cont))
                  go_ret
                  exact ⟨ret_bool' (keptB_conts (all_no HX.out (by rw [HQC.out, H1.out, H2.out]; simp))).symm, HB0.out.trans (HS.out.old.mono (Nat.le_succ _))⟩
                | true =>
                  have H2 := Lib.hid h2; clear h2
                  cases h3 : wiB x.resets v.names.2.1 with
                  | false =>
                    have H3 := Lib.hid h3; clear h3
                    go_wp2_with (first | (go_at_call 64; refine (isVar_at x.var v true _ H1.out).mono ?_; rintro e w1 ⟨rfl, hb⟩; replace HS := Lib.hid (HS.out.later hb); clear hb; obtain ⟨f0, f1, f2, f3, f4, f5, f6, f7⟩ := HS.out.fb.flat; obtain ⟨e0, e1, e2, e3, e4, e5, e6, e7, e8⟩ := HS.out.qb.cont) | (go_at_call 60; refine (isGuard_at x.guard v true _ H2.out).mono ?_; rintro e w1 ⟨rfl, hb⟩; replace HS := Lib.hid (HS.out.later hb); clear hb; obtain ⟨f0, f1, f2, f3, f4, f5, f6, f7⟩ := HS.out.fb.flat; obtain ⟨e0, e1, e2, e3, e4, e5, e6, e7, e8⟩ := HS.out.qb.cont) | (go_at_call 61; refine (areVars_at r.1 r.2.1 r.2.2 B x.resets v false _ HS.out.row.1 HS.out.hB H3.out).mono ?_; rintro e w1 ⟨rfl, hb⟩; replace HS := Lib.hid (HS.out.later hb); clear hb; obtain ⟨f0, f1, f2, f3, f4, f5, f6, f7⟩ := HS.out.fb.flat; obtain ⟨e0, e1, e2, e3, e4, e5, e6, e7, e8⟩ := HS.out.qb.cont))
                    go_ret
                    exact ⟨ret_bool' (keptB_conts (all_no HX.out (by rw [HQC.out, H1.out, H2.out, H3.out]; simp))).symm, HB0.out.trans (HS.out.old.mono (Nat.le_succ _))⟩
                  | true =>
                    have H3 := Lib.hid h3; clear h3
                    cases h4 : x.slopes.all (slopeB f) with
                    | false =>
                      have H4 := Lib.hid h4; clear h4
                      go_wp2_with (first | (go_at_call 64; refine (isVar_at x.var v true _ H1.out).mono ?_; rintro e w1 ⟨rfl, hb⟩; replace HS := Lib.hid (HS.out.later hb); clear hb; obtain ⟨f0, f1, f2, f3, f4, f5, f6, f7⟩ := HS.out.fb.flat; obtain ⟨e0, e1, e2, e3, e4, e5, e6, e7, e8⟩ := HS.out.qb.cont) | (go_at_call 60; refine (isGuard_at x.guard v true _ H2.out).mono ?_; rintro e w1 ⟨rfl, hb⟩; replace HS := Lib.hid (HS.out.later hb); clear hb; obtain ⟨f0, f1, f2, f3, f4, f5, f6, f7⟩ := HS.out.fb.flat; obtain ⟨e0, e1, e2, e3, e4, e5, e6, e7, e8⟩ := HS.out.qb.cont) | (go_at_call 61; refine (areVars_at r.1 r.2.1 r.2.2 B x.resets v true _ HS.out.row.1 HS.out.hB H3.out).mono ?_; rintro e w1 ⟨rfl, hb⟩; replace HS := Lib.hid (HS.out.later hb); clear hb; obtain ⟨f0, f1, f2, f3, f4, f5, f6, f7⟩ := HS.out.fb.flat; obtain ⟨e0, e1, e2, e3, e4, e5, e6, e7, e8⟩ := HS.out.qb.cont) | (go_at_call 65; refine (areSlopes_b s.1 s.2.1 s.2.2 x.slopes v f B false _ HS.out.row.2 HS.out.is HS.out.hB H4.out).mono ?_; rintro e w1 ⟨rfl, hb⟩; replace HS := Lib.hid (HS.out.later hb); clear hb; obtain ⟨f0, f1, f2, f3, f4, f5, f6, f7⟩ := HS.out.fb.flat; obtain ⟨e0, e1, e2, e3, e4, e5, e6, e7, e8⟩ := HS.out.qb.cont))
                      go_ret
                      exact ⟨ret_bool' (keptB_conts (all_no HX.out (by rw [HQC.out, H1.out, H2.out, H3.out, H4.out]; simp))).symm, HB0.out.trans (HS.out.old.mono (Nat.le_succ _))⟩
                    | true =>
                      have H4 := Lib.hid h4; clear h4
                      go_wp2_with (first | (go_at_call 64; refine (isVar_at x.var v true _ H1.out).mono ?_; rintro e w1 ⟨rfl, hb⟩; replace HS := Lib.hid (HS.out.later hb); clear hb; obtain ⟨f0, f1, f2, f3, f4, f5, f6, f7⟩ := HS.out.fb.flat; obtain ⟨e0, e1, e2, e3, e4, e5, e6, e7, e8⟩ := HS.out.qb.cont) | (go_at_call 60; refine (isGuard_at x.guard v true _ H2.out).mono ?_; rintro e w1 ⟨rfl, hb⟩; replace HS := Lib.hid (HS.out.later hb); clear hb; obtain ⟨f0, f1, f2, f3, f4, f5, f6, f7⟩ := HS.out.fb.flat; obtain ⟨e0, e1, e2, e3, e4, e5, e6, e7, e8⟩ := HS.out.qb.cont) | (go_at_call 61; refine (areVars_at r.1 r.2.1 r.2.2 B x.resets v true _ HS.out.row.1 HS.out.hB H3.out).mono ?_; rintro e w1 ⟨rfl, hb⟩; replace HS := Lib.hid (HS.out.later hb); clear hb; obtain ⟨f0, f1, f2, f3, f4, f5, f6, f7⟩ := HS.out.fb.flat; obtain ⟨e0, e1, e2, e3, e4, e5, e6, e7, e8⟩ := HS.out.qb.cont) | (go_at_call 65; refine (areSlopes_b s.1 s.2.1 s.2.2 x.slopes v f B true _ HS.out.row.2 HS.out.is HS.out.hB H4.out).mono ?_; rintro e w1 ⟨rfl, hb⟩; replace HS := Lib.hid (HS.out.later hb); clear hb; obtain ⟨f0, f1, f2, f3, f4, f5, f6, f7⟩ := HS.out.fb.flat; obtain ⟨e0, e1, e2, e3, e4, e5, e6, e7, e8⟩ := HS.out.qb.cont))
                      go_roundw
                      case rel => exact ⟨k + 1, by omega, by go_num, Lib.hid (by rw [all_succ HX.out, HQC.out, H1.out, H2.out, H3.out, H4.out]; exact (by simpa using hz.out)), Lib.hid HS.out.old⟩
                      case measure => simp [intOf]; omega
            · clear hfb hbB
              go_wp2
              go_ret
              exact ⟨ret_bool' (keptB_yes (by rw [HNN.out]; exact HA1.out) (by rw [HNN.out]; exact HA2.out) HMM.out (all_end HE5.out (by rw [show v.conts.2.1 = k by omega]; exact hz.out))).symm, HB0.out.trans (hbr.out.mono (Nat.le_succ _))⟩

end Go.Proofs.Ytioebjjnadgdjaa
