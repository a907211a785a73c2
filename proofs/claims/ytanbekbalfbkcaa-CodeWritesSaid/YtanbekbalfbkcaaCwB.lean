/- What CodeWrites tells of a flat program that lies in memory. No condition. -/
import Derived.Test.YtanbekbalfbkcaaCwA
import Derived.Deep.DeepCutAuto
import Derived.Deep.RegionWith
namespace Go.Proofs.Ytanbekbalfbkcaa
set_option linter.unusedVariables false
set_option linter.unusedSimpArgs false
set_option maxRecDepth 100000
open Go.RowKit Gr

theorem rep_get (n : Nat) (m : Int) : ∀ i, i < n → (List.replicate n m).getD i 0 = m := by intro i hi; simp [List.getD_eq_getElem?_getD, hi]
theorem rep_row {w : World} {g n : Nat} {m : Int} (h : IMem w g (List.replicate n m)) (hn : n ≤ 1000000) : IRow w w.heap.size (some ⟨g, 0, none⟩) n n (List.replicate n m) := by
  have := h.irow (B := w.heap.size) (c := n) h.lt (by simp) (by unfold maxLen; omega)
  rwa [List.length_replicate] at this
set_option maxHeartbeats 8000000 in
theorem codeWrites_walk (v : FlatV) (f : FlatM) (w : World) (h : FlatIs w w.heap.size v f) : Calls Try.prog 4 #[flatV v] w (LawPost w) := by
  have HL0 := Lib.hid (LwSt.start h)
  have HSM := Lib.hid (small15_t v f w.heap.size _ HL0.out.is HL0.out.hB)
  clear h
  unfold flatV sl3 fvs planZ at HSM
  unfold flatV sl3
  go_enter Try.func4, Try.ntmps4
  go_wp2_with fail
  refine HSM.out.mono ?_
  rintro e w1 ⟨⟨b1, rfl, hs1⟩, hb1⟩
  have HL1 := Lib.hid (HL0.out.later hb1)
  clear hb1
  cases b1 with
  | false =>
    go_wp2
    go_ret
    exact ⟨rfl, HL1.out.old⟩
  | true =>
    obtain ⟨hs, hq25⟩ := hs1 rfl
    have hsm : v.names.2.1 ≤ 200 := by rw [← HL1.out.is.names.1]; exact hs.names
    have HSF := Lib.hid hs
    clear hs
    obtain ⟨f0, f1, f2, f3, f4, f5, f6, f7⟩ := HL1.out.blk.flat
    cases hg : goodB f with
    | false =>
      have HOF := Lib.hid (rof_no v f w.heap.size w1 HL1.out.is HL1.out.hB (by omega) hg)
      unfold flatV sl3 at HOF
      have HGB := Lib.hid hg
      clear hg
      go_wp2_with fail
      refine HOF.out.mono ?_
      rintro e w2 ⟨rfl, hb2⟩
      have HL2 := Lib.hid (HL1.out.later hb2)
      clear hb2 f0 f1 f2 f3 f4 f5 f6 f7
      obtain ⟨W3, hW3⟩ : ∃ W3, W3 = w2.alloc (.cells #[.slice none 0 0, .slice none 0 0, .int .i64 0] 32) := ⟨_, rfl⟩
      have hb3 : Below w2.heap.size w2 W3 := by rw [hW3]; exact (Below.refl _ _).alloc (Nat.le_refl _) _
      have HP3 := Lib.hid (show Blk W3 w2.heap.size 32 #[.slice none 0 0, .slice none 0 0, .int .i64 0] from by rw [hW3]; exact Blk.new _ _ _)
      have HL3 := Lib.hid (HL2.out.later hb3)
      have HCN := Lib.hid (cof_no v f w.heap.size none none 0 0 0 0 0 [] [] W3 HL3.out.is HL3.out.hB (IRow.nil _ _) (IRow.nil _ _) HSF.out (by omega) (fun q => by have := q.good; rw [HGB.out] at this; cases this))
      unfold flatV sl3 planV at HCN
      unfold planV
      clear hb3
      go_upto_region 4 with fail
      rw [← hW3]
      clear hW3
      obtain ⟨f0, f1, f2, f3, f4, f5, f6, f7⟩ := HL3.out.blk.flat
      have p0 := HP3.out.cell 0 rfl
      have p1 := HP3.out.cell 1 rfl
      have p2 := HP3.out.cell 2 rfl
      have hq1 : w2.heap.size < W3.heap.size := HP3.out.lt
      have hq2 : w.heap.size < W3.heap.size := HL3.out.blk.lt
      go_wp2_with fail
      refine HCN.out.mono ?_
      rintro e w4 ⟨rfl, hb4⟩
      have HL4 := Lib.hid (HL3.out.later hb4)
      have HL5 := Lib.hid (HL4.out.later ((Below.refl w4.heap.size w4).alloc (Nat.le_refl _) (.cells #[.int .i64 0, .int .i64 0, .int .i64 0, .int .i64 0, .int .i64 0, .slice none 0 0, .slice none 0 0, .slice none 0 0, .slice none 0 0, .slice none 0 0] 39)))
      clear hb4 f0 f1 f2 f3 f4 f5 f6 f7 p0 p1 p2
      go_wp2_with (go_at_call 8; refine (awake15_t _).mono ?_; rintro e w6 ⟨rfl, hb6⟩)
      go_ret
      exact ⟨rfl, (HL5.out.later hb6).old⟩
    | true =>
      have HGD := Lib.hid hg
      have HOF := Lib.hid (rof_t v f w.heap.size w1 HL1.out.is HL1.out.hB hg HSF.out)
      unfold flatV sl3 at HOF
      clear hg
      go_wp2_with fail
      refine HOF.out.mono ?_
      rintro e w2 ⟨ho | ho, hb2⟩
      rotate_left
      · obtain ⟨rfl, out, hl, hlt, hno⟩ := ho
        have HL2 := Lib.hid (HL1.out.later hb2)
        have HNZ : Hid (0 < v.names.2.1) := Lib.hid (by omega)
        clear hb2 f0 f1 f2 f3 f4 f5 f6 f7 hl hlt hno
        obtain ⟨W3, hW3⟩ : ∃ W3, W3 = w2.alloc (.cells #[.slice none 0 0, .slice none 0 0, .int .i64 0] 32) := ⟨_, rfl⟩
        have hb3 : Below w2.heap.size w2 W3 := by rw [hW3]; exact (Below.refl _ _).alloc (Nat.le_refl _) _
        have HP3 := Lib.hid (show Blk W3 w2.heap.size 32 #[.slice none 0 0, .slice none 0 0, .int .i64 0] from by rw [hW3]; exact Blk.new _ _ _)
        have HL3 := Lib.hid (HL2.out.later hb3)
        have HCN := Lib.hid (cof_no v f w.heap.size none none 0 0 0 0 0 [] [] W3 HL3.out.is HL3.out.hB (IRow.nil _ _) (IRow.nil _ _) HSF.out (by omega) (fun q => by have := q.once.len; have := HNZ.out; simp at *; omega))
        unfold flatV sl3 planV at HCN
        unfold planV
        clear hb3
        go_upto_region 4 with fail
        rw [← hW3]
        clear hW3
        obtain ⟨f0, f1, f2, f3, f4, f5, f6, f7⟩ := HL3.out.blk.flat
        have p0 := HP3.out.cell 0 rfl
        have p1 := HP3.out.cell 1 rfl
        have p2 := HP3.out.cell 2 rfl
        have hq1 : w2.heap.size < W3.heap.size := HP3.out.lt
        have hq2 : w.heap.size < W3.heap.size := HL3.out.blk.lt
        go_wp2_with fail
        refine HCN.out.mono ?_
        rintro e w4 ⟨rfl, hb4⟩
        have HL4 := Lib.hid (HL3.out.later hb4)
        have HL5 := Lib.hid (HL4.out.later ((Below.refl w4.heap.size w4).alloc (Nat.le_refl _) (.cells #[.int .i64 0, .int .i64 0, .int .i64 0, .int .i64 0, .int .i64 0, .slice none 0 0, .slice none 0 0, .slice none 0 0, .slice none 0 0, .slice none 0 0] 39)))
        clear hb4 f0 f1 f2 f3 f4 f5 f6 f7 p0 p1 p2
        go_wp2_with (go_at_call 8; refine (awake15_t _).mono ?_; rintro e w6 ⟨rfl, hb6⟩)
        go_ret
        exact ⟨rfl, (HL5.out.later hb6).old⟩
      obtain ⟨A, c, out, g, xs, S, rfl, hown, hmem, hpl⟩ := ho
      have HGL : Hid ((gOf f).length = v.names.2.1) := Lib.hid (by unfold gOf; rw [gTo_len]; exact HL1.out.is.names.1)
      have HRP := Lib.hid (rplan_right HGD.out HGL.out hpl)
      have HL2 := Lib.hid (HL1.out.later hb2)
      obtain ⟨W3, hW3⟩ : ∃ W3, W3 = w2.alloc (.cells #[.slice A v.names.2.1 c, .slice (some ⟨g, 0, none⟩) v.names.2.1 v.names.2.1, .int .i64 (S : Nat)] 32) := ⟨_, rfl⟩
      have hb3 : Below w2.heap.size w2 W3 := by rw [hW3]; exact (Below.refl _ _).alloc (Nat.le_refl _) _
      have HP3 := Lib.hid (show Blk W3 w2.heap.size 32 #[.slice A v.names.2.1 c, .slice (some ⟨g, 0, none⟩) v.names.2.1 v.names.2.1, .int .i64 (S : Nat)] from by rw [hW3]; exact Blk.new _ _ _)
      have HL3 := Lib.hid (HL2.out.later hb3)
      have hSn : S ≤ v.names.2.1 := by obtain ⟨sls, hlo⟩ := hpl.slots; exact hlo.le
      have hir : IRow W3 w2.heap.size (some ⟨g, 0, none⟩) v.names.2.1 v.names.2.1 xs := by
        have := (hmem.below hb3 hmem.lt).irow hmem.lt (c := xs.length) (Nat.le_refl _) (by rw [HRP.out.slots.1]; unfold maxLen; omega)
        rw [HRP.out.slots.1] at this
        exact this
      have HCO := Lib.hid (cof_t v f w2.heap.size A (some ⟨g, 0, none⟩) c v.names.2.1 (S : Nat) (ints out) xs W3 (HL3.out.is.more HL2.out.hB) hb3.size (hown.below hb3) hir HSF.out (by omega) (by omega) HRP.out)
      have HON := Lib.hid HRP.out.once
      have HSL := Lib.hid HRP.out.slots
      have HIR3 := Lib.hid (hir.more hb3.size)
      unfold flatV sl3 planV at HCO
      unfold planV
      clear hb3 hir hown hmem hpl hb2 f0 f1 f2 f3 f4 f5 f6 f7
      go_upto_region 4 with fail
      rw [← hW3]
      clear hW3
      obtain ⟨f0, f1, f2, f3, f4, f5, f6, f7⟩ := HL3.out.blk.flat
      have p0 := HP3.out.cell 0 rfl
      have p1 := HP3.out.cell 1 rfl
      have p2 := HP3.out.cell 2 rfl
      have hq1 : w2.heap.size < W3.heap.size := HP3.out.lt
      have hq2 : w.heap.size < W3.heap.size := HL3.out.blk.lt
      go_wp2_with fail
      refine HCO.out.mono ?_
      rintro e w4 ⟨⟨m, cc, ⟨sA, sn, sc⟩, ⟨dA, dn, dc⟩, ⟨xA, xn, xc⟩, qs, ys, ds, zs, rfl, ⟨hsm4, hxl, hxq, hty⟩, ⟨hdm, hdt⟩, ⟨hzm, hzt, hzi⟩⟩, hb4⟩
      simp only at hsm4 hdm hzm
      have HL4 := Lib.hid (HL3.out.later hb4)
      obtain ⟨W5, hW5⟩ : ∃ W5, W5 = w4.alloc (.cells #[.int .i64 (v.ins.2.1 : Int), .int .i64 (v.outs.2.1 : Int), .int .i64 (S : Nat), .int .i64 (v.cross.2.1 : Int), .int .i64 (linesTo f v.cross.2.1 : Nat), .slice m.1 m.2.1 m.2.2, .slice cc.1 cc.2.1 cc.2.2, .slice sA sn sc, .slice dA dn dc, .slice xA xn xc] 39) := ⟨_, rfl⟩
      have hb5 : Below w4.heap.size w4 W5 := by rw [hW5]; exact (Below.refl _ _).alloc (Nat.le_refl _) _
      have HK5 := Lib.hid (show Blk W5 w4.heap.size 39 #[.int .i64 (v.ins.2.1 : Int), .int .i64 (v.outs.2.1 : Int), .int .i64 (S : Nat), .int .i64 (v.cross.2.1 : Int), .int .i64 (linesTo f v.cross.2.1 : Nat), .slice m.1 m.2.1 m.2.2, .slice cc.1 cc.2.1 cc.2.2, .slice sA sn sc, .slice dA dn dc, .slice xA xn xc] from by rw [hW5]; exact Blk.new _ _ _)
      have HL5 := Lib.hid (HL4.out.later hb5)
      have HSM5 := Lib.hid (hsm4.keep hb5)
      have HDM5 := Lib.hid (hdm.keep hb5)
      have HZM5 := Lib.hid (hzm.keep hb5)
      have hsn : sn = v.names.2.1 + v.mems.2.1 + v.conts.2.1 + v.outs.2.1 + v.again.2.1 := by
        have := step_len hxl HON.out.len hty
        rw [hsm4.1, HL5.out.is.mems.1, HL5.out.is.conts.1, HL5.out.is.outs.1, HL5.out.is.again.1] at this
        exact this
      have hdn : dn = v.conts.2.1 := by rw [← hdm.1, ← tags_len, hdt, tg_len, HL5.out.is.conts.1]
      have hxn : xn = linesTo f v.cross.2.1 + v.cross.2.1 := by rw [← hzm.1, cross_len hzt, HL5.out.is.cross.1]
      have HP5 := Lib.hid ((HP3.out.later hb4).later hb5)
      have HIR5 := Lib.hid (HIR3.out.below (hb4.trans (hb5.mono hb4.size)))
      have HIN := Lib.hid (show ∀ x ∈ qs ++ ys, _ from fun x hx => step_in HGD.out hxl hxq hty HON.out HSL.out hx)
      have HFD := Lib.hid (dsts_all HGD.out hxl hxq hty)
      have HFK := Lib.hid ((ofOp_all HGD.out hxq hty (op := opKeep) (by decide)).trans (ofT_keep f))
      have HFC := Lib.hid ((ofOp_all HGD.out hxq hty (op := opState) (by decide)).trans (ofT_state f))
      have HFO := Lib.hid ((ofOp_all HGD.out hxq hty (op := opOut) (by decide)).trans (ofT_out f))
      have HZT := Lib.hid hzt
      have HCX := Lib.hid HL5.out.is.cross.1
      have HLL := Lib.hid (linesTo_le HSF.out)
      have hx20 : v.cross.2.1 ≤ 20 := by rw [← HCX.out]; exact HSF.out.cross
      have hm100 : v.mems.2.1 ≤ 100 := by rw [← HL5.out.is.mems.1]; exact HSF.out.mems
      have hc20 : v.conts.2.1 ≤ 20 := by rw [← HL5.out.is.conts.1]; exact HSF.out.conts
      have ho50 : v.outs.2.1 ≤ 50 := by rw [← HL5.out.is.outs.1]; exact HSF.out.outs
      have ha50 : v.again.2.1 ≤ 50 := by rw [← HL5.out.is.again.1]; exact HSF.out.again
      have HLM := Lib.hid HL5.out.is.mems.1
      have HLC := Lib.hid HL5.out.is.conts.1
      have HLO := Lib.hid HL5.out.is.outs.1
      obtain ⟨NL, hNL⟩ : ∃ NL, NL = linesTo f v.cross.2.1 := ⟨_, rfl⟩
      have HNL := Lib.hid hNL
      have hNL6 : NL ≤ 600 := by have := HLL.out v.cross.2.1; omega
      have HSN := Lib.hid hsn
      have HXN := Lib.hid hxn
      have H45 := Lib.hid hb5.size
      have HB45 := Lib.hid (show W3.heap.size ≤ W5.heap.size from Nat.le_trans hb4.size hb5.size)
      clear hsn hdn hxn hsm4 hxl hxq hty hdm hdt hzm hzt hzi hb4 f0 f1 f2 f3 f4 f5 f6 f7 p0 p1 p2 HP3 HCO
      go_upto_region 5 with fail
      rw [HCX.out, ← hW5]
      clear hW5 hb5
      rw [← hNL] at HK5
      clear hNL
      obtain ⟨f0, f1, f2, f3, f4, f5, f6, f7⟩ := HL5.out.blk.flat
      obtain ⟨n0, n1, n2, n3, n4, n5, n6, n7, n8, n9⟩ := HK5.out.ten
      have p0 := HP5.out.cell 0 rfl
      have p1 := HP5.out.cell 1 rfl
      have p2 := HP5.out.cell 2 rfl
      have hq1 : w2.heap.size < W5.heap.size := HP5.out.lt
      have hq2 : w4.heap.size < W5.heap.size := HK5.out.lt
      go_upto_region 7 with fail
      have HB7 := Lib.hid (Below.refl W5.heap.size W5)
      go_cut [7, 8] (fun s7 s8 wx => ∃ gS gL : Nat, s7 = .slice (some ⟨gS, 0, none⟩) S S ∧ s8 = .slice (some ⟨gL, 0, none⟩) NL NL ∧ Hid (Two W5 gS gL S NL wx))
      case first =>
        have hk1 := zr_run S (by omega)
        have hk2 := zr_run NL (by omega)
        go_region
        all_goals
          go_wp2_with fail
          go_meet
          case rel =>
            first
            | exact ⟨_, _, rfl, rfl, Lib.hid (two_at HB7.out.drew S NL)⟩
            | exact ⟨_, _, rfl, rfl, Lib.hid (two_at HB7.out.drew NL S).swap⟩
      case rest =>
        obtain ⟨gS, gL, rfl, rfl, HT2⟩ := hcut
        obtain ⟨W6, rfl⟩ : ∃ W6 : World, W6 = wc := ⟨_, rfl⟩
        have HL6 := Lib.hid (HL5.out.later HT2.out.2.2.2.2.2)
        clear f0 f1 f2 f3 f4 f5 f6 f7 n0 n1 n2 n3 n4 n5 n6 n7 n8 n9 p0 p1 p2 HB7
        obtain ⟨f0, f1, f2, f3, f4, f5, f6, f7⟩ := HL6.out.blk.flat
        have hq3 : w.heap.size < W6.heap.size := HL6.out.blk.lt
        go_upto_region 8 with fail
        have HB7 := Lib.hid (Below.refl W6.heap.size W6)
        go_cut [9, 10, 11] (fun s9 s10 s11 wx => ∃ gK gC gO : Nat, s9 = .slice (some ⟨gK, 0, none⟩) v.mems.2.1 v.mems.2.1 ∧ s10 = .slice (some ⟨gC, 0, none⟩) v.conts.2.1 v.conts.2.1 ∧ s11 = .slice (some ⟨gO, 0, none⟩) v.outs.2.1 v.outs.2.1 ∧ Hid (Three W6 gK gC gO v.mems.2.1 v.conts.2.1 v.outs.2.1 wx))
        case first =>
          have hk1 := zr_run v.mems.2.1 (by omega)
          have hk2 := zr_run v.conts.2.1 (by omega)
          have hk3 := zr_run v.outs.2.1 (by omega)
          go_region
          all_goals
            go_wp2_with fail
            go_meet
            case rel =>
              first
              | exact ⟨_, _, _, rfl, rfl, rfl, Lib.hid (three_at HB7.out.drew v.mems.2.1 v.conts.2.1 v.outs.2.1)⟩
              | exact ⟨_, _, _, rfl, rfl, rfl, Lib.hid (three_at HB7.out.drew v.conts.2.1 v.mems.2.1 v.outs.2.1).s12⟩
              | exact ⟨_, _, _, rfl, rfl, rfl, Lib.hid (three_at HB7.out.drew v.mems.2.1 v.outs.2.1 v.conts.2.1).s23⟩
              | exact ⟨_, _, _, rfl, rfl, rfl, Lib.hid (three_at HB7.out.drew v.outs.2.1 v.mems.2.1 v.conts.2.1).s12.s23⟩
              | exact ⟨_, _, _, rfl, rfl, rfl, Lib.hid (three_at HB7.out.drew v.conts.2.1 v.outs.2.1 v.mems.2.1).s23.s12⟩
              | exact ⟨_, _, _, rfl, rfl, rfl, Lib.hid (three_at HB7.out.drew v.outs.2.1 v.conts.2.1 v.mems.2.1).s12.s23.s12⟩
        case rest =>
          obtain ⟨gK, gC, gO, rfl, rfl, rfl, HT3⟩ := hcut
          obtain ⟨W7, rfl⟩ : ∃ W7 : World, W7 = wc := ⟨_, rfl⟩
          have HR7 := Lib.hid (HT2.out.five HT3.out)
          clear f0 f1 f2 f3 f4 f5 f6 f7 HB7 HT2 HT3 HL6
          obtain ⟨n0, n1, n2, n3, n4, n5, n6, n7, n8, n9⟩ := (HK5.out.later HR7.out.old).ten
          go_wp2_with fail
          obtain ⟨N, hN⟩ : ∃ N, N = v.names.2.1 + v.mems.2.1 + v.conts.2.1 + v.outs.2.1 + v.again.2.1 := ⟨_, rfl⟩
          obtain rfl : sn = N := by rw [hN]; exact HSN.out
          have hN9 : sn ≤ 1000 := by omega
          clear hN
          go_loopw [12] (fun t wr => ∃ k : Nat, k ≤ sn ∧ t = .int .i64 k ∧ Hid (R5 W5 gS gL gK gC gO (tab S (cnt (dsts ((qs ++ ys).take k)))) (List.replicate NL 0) (tab v.mems.2.1 (cnt (ofOp opKeep ((qs ++ ys).take k)))) (tab v.conts.2.1 (cnt (ofOp opState ((qs ++ ys).take k)))) (tab v.outs.2.1 (cnt (ofOp opOut ((qs ++ ys).take k)))) wr)) (fun t _ => sn - (intOf t).toNat)
          case atStart => exact ⟨0, Nat.zero_le _, rfl, Lib.hid (by rw [List.take_zero, show dsts [] = [] from rfl, show ofOp opKeep [] = [] from rfl, show ofOp opState [] = [] from rfl, show ofOp opOut [] = [] from rfl, tab_start, tab_start, tab_start, tab_start]; exact HR7.out)⟩
          case round =>
            obtain ⟨k, hk, rfl, HR⟩ := hrel
            clear n0 n1 n2 n3 n4 n5 n6 n7 n8 n9
            obtain ⟨n0, n1, n2, n3, n4, n5, n6, n7, n8, n9⟩ := (HK5.out.later HR.out.old).ten
            by_cases hlt : k < sn
            · obtain ⟨x, hx⟩ : ∃ x, (qs ++ ys)[k]? = some x := ⟨_, List.getElem?_eq_getElem (by rw [HSM5.out.1]; exact hlt)⟩
              obtain ⟨b, hbA, hbl, hc⟩ := HSM5.out.at_ hx
              replace hbl := Nat.lt_of_lt_of_le hbl H45.out
              obtain ⟨c0, c1, c2, c3, c4, c5, c6, c7, c8, c9, c10⟩ := SMem.eleven hc HR.out.old hbl
              obtain ⟨i0, i1, i2, i3⟩ := HIN.out x (List.mem_of_getElem? hx)
              have hkI : (k : Int) < (sn : Int) := by omega
              have HTK := Lib.hid (take_snoc hx)
              have hbw : b < wr.heap.size := Nat.lt_of_lt_of_le hbl HR.out.old.size
              subst hbA
              clear hx hc hbl
              by_cases h1 : x.op = opKeep
              · obtain ⟨d, hd, hdn⟩ := i0 h1
                have hdn' : d < v.mems.2.1 := by rw [← HLM.out]; exact hdn
                obtain ⟨C, hC⟩ : ∃ C, C = cnt (ofOp opKeep ((qs ++ ys).take k)) d := ⟨_, rfl⟩
                have lc := HR.out.mc.cell d (by rw [tab_len]; exact hdn')
                rw [tab_get hdn', ← hC] at lc
                have lf := HR.out.mc.free d
                have hlw := HR.out.mc.lt
                have hC0 := cnt_ofOp opKeep (qs ++ ys) k d
                rw [← hC] at hC0
                have hdI : (d : Int) < (v.mems.2.1 : Int) := by omega
                have HD := Lib.hid hd
                have HCC := Lib.hid hC
                have H1 := Lib.hid (show x.op = opKeep by assumption)
                clear hdn hC
                rw [h1, show opKeep = (⟨#[107, 101, 101, 112]⟩ : ByteArray) from rfl] at c0
                rw [hd] at c3
                clear h1 hd i0 i1 i2 i3
                go_wp2_with fail
                go_roundw
                case rel => exact ⟨k + 1, by omega, by go_num, Lib.hid (by rw [HTK.out, dsts_yes (by rw [H1.out]; decide), ofOp_yes H1.out, ofOp_no (op := opState) (by rw [H1.out]; decide), ofOp_no (op := opOut) (by rw [H1.out]; decide), HD.out, ← bump hdn', ← HCC.out]; exact (HR.out.putC d (C + 1)).alloc _)⟩
                case measure => simp [intOf]; omega
              by_cases h2 : x.op = opState
              · obtain ⟨d, hd, hdn⟩ := i1 h2
                have hdn' : d < v.conts.2.1 := by rw [← HLC.out]; exact hdn
                obtain ⟨C, hC⟩ : ∃ C, C = cnt (ofOp opState ((qs ++ ys).take k)) d := ⟨_, rfl⟩
                have lc := HR.out.md.cell d (by rw [tab_len]; exact hdn')
                rw [tab_get hdn', ← hC] at lc
                have lf := HR.out.md.free d
                have hlw := HR.out.md.lt
                have hC0 := cnt_ofOp opState (qs ++ ys) k d
                rw [← hC] at hC0
                have hdI : (d : Int) < (v.conts.2.1 : Int) := by omega
                have HD := Lib.hid hd
                have HCC := Lib.hid hC
                have H1 := Lib.hid (show x.op = opState by assumption)
                clear hdn hC
                rw [h2, show opState = (⟨#[115, 116, 97, 116, 101]⟩ : ByteArray) from rfl] at c0
                rw [hd] at c3
                clear h1 h2 hd i0 i1 i2 i3
                go_wp2_with fail
                go_roundw
                case rel => exact ⟨k + 1, by omega, by go_num, Lib.hid (by rw [HTK.out, dsts_yes (by rw [H1.out]; decide), ofOp_yes H1.out, ofOp_no (op := opKeep) (by rw [H1.out]; decide), ofOp_no (op := opOut) (by rw [H1.out]; decide), HD.out, ← bump hdn', ← HCC.out]; exact (HR.out.putD d (C + 1)).alloc _)⟩
                case measure => simp [intOf]; omega
              by_cases h3 : x.op = opOut
              · obtain ⟨d, hd, hdn⟩ := i2 h3
                have hdn' : d < v.outs.2.1 := by rw [← HLO.out]; exact hdn
                obtain ⟨C, hC⟩ : ∃ C, C = cnt (ofOp opOut ((qs ++ ys).take k)) d := ⟨_, rfl⟩
                have lc := HR.out.me.cell d (by rw [tab_len]; exact hdn')
                rw [tab_get hdn', ← hC] at lc
                have lf := HR.out.me.free d
                have hlw := HR.out.me.lt
                have hC0 := cnt_ofOp opOut (qs ++ ys) k d
                rw [← hC] at hC0
                have hdI : (d : Int) < (v.outs.2.1 : Int) := by omega
                have HD := Lib.hid hd
                have HCC := Lib.hid hC
                have H1 := Lib.hid (show x.op = opOut by assumption)
                clear hdn hC
                rw [h3, show opOut = (⟨#[111, 117, 116]⟩ : ByteArray) from rfl] at c0
                rw [hd] at c3
                clear h1 h2 h3 hd i0 i1 i2 i3
                go_wp2_with fail
                go_roundw
                case rel => exact ⟨k + 1, by omega, by go_num, Lib.hid (by rw [HTK.out, dsts_yes (by rw [H1.out]; decide), ofOp_yes H1.out, ofOp_no (op := opKeep) (by rw [H1.out]; decide), ofOp_no (op := opState) (by rw [H1.out]; decide), HD.out, ← bump hdn', ← HCC.out]; exact (HR.out.putE d (C + 1)).alloc _)⟩
                case measure => simp [intOf]; omega
              by_cases h4 : x.op = opAgain
              · have H1 := Lib.hid h4
                rw [h4, show opAgain = (⟨#[97, 103, 97, 105, 110]⟩ : ByteArray) from rfl] at c0
                clear h1 h2 h3 h4 i0 i1 i2 i3
                go_wp2_with fail
                go_roundw
                case rel => exact ⟨k + 1, by omega, by go_num, Lib.hid (by rw [HTK.out, dsts_yes (by rw [H1.out]; decide), ofOp_no (op := opKeep) (by rw [H1.out]; decide), ofOp_no (op := opState) (by rw [H1.out]; decide), ofOp_no (op := opOut) (by rw [H1.out]; decide)]; exact HR.out.alloc _)⟩
                case measure => simp [intOf]; omega
              have h5 : isEnd x.op = false := by simp [isEnd, h1, h2, h3, h4]
              obtain ⟨d, hd, hdn⟩ := i3 h5
              have H5 := Lib.hid h5
              have H4 := Lib.hid (And.intro h1 (And.intro h2 h3))
              have hdn' : d < S := hdn
              obtain ⟨C, hC⟩ : ∃ C, C = cnt (dsts ((qs ++ ys).take k)) d := ⟨_, rfl⟩
              have lc := HR.out.ma.cell d (by rw [tab_len]; exact hdn')
              rw [tab_get hdn', ← hC] at lc
              have lf := HR.out.ma.free d
              have hlw := HR.out.ma.lt
              have hC0 := cnt_dsts (qs ++ ys) k d
              rw [← hC] at hC0
              have hdI : (d : Int) < (S : Int) := by omega
              have HD := Lib.hid hd
              have HCC := Lib.hid hC
              have g1 := str_no (l := [107, 101, 101, 112]) h1
              have g2 := str_no (l := [115, 116, 97, 116, 101]) h2
              have g3 := str_no (l := [111, 117, 116]) h3
              have g4 := str_no (l := [97, 103, 97, 105, 110]) h4
              rw [hd] at c1
              clear h1 h2 h3 h4 h5 hd hC i0 i1 i2 i3
              go_wp2_with fail
              go_roundw
              case rel => exact ⟨k + 1, by omega, by go_num, Lib.hid (by rw [HTK.out, dsts_no H5.out, ofOp_no (op := opKeep) H4.out.1, ofOp_no (op := opState) H4.out.2.1, ofOp_no (op := opOut) H4.out.2.2, HD.out, ← bump hdn', ← HCC.out]; exact (HR.out.putA d (C + 1)).alloc _)⟩
              case measure => simp [intOf]; omega
            · obtain rfl : k = sn := by omega
              have hta : (qs ++ ys).take k = qs ++ ys := by rw [← HSM5.out.1, List.take_length]
              rw [hta] at HR
              clear hta hlt hk
              have HRA := Lib.hid (show R5 W5 gS gL gK gC gO (tab S (cnt xs)) (List.replicate NL 0) (List.replicate v.mems.2.1 1) (List.replicate v.conts.2.1 1) (List.replicate v.outs.2.1 1) wr from by
                have h := HR.out
                rw [HFD.out, HFK.out, HFC.out, HFO.out, HLM.out, HLC.out, HLO.out, ones rfl, ones rfl, ones rfl, tab_ext (h := cnt xs) fun j _ => cnt_slots HON.out HSL.out.1 j] at h
                exact h)
              clear HR
              obtain ⟨W8, rfl⟩ : ∃ W8 : World, W8 = wr := ⟨_, rfl⟩
              go_wp2_with fail
              obtain ⟨N, hN⟩ : ∃ N, N = NL + v.cross.2.1 := ⟨_, rfl⟩
              obtain rfl : xn = N := by rw [hN, HNL.out]; exact HXN.out
              have hX9 : xn ≤ 1000 := by omega
              clear hN
              go_loopw [14] (fun t wr => ∃ k : Nat, k ≤ xn ∧ t = .int .i64 k ∧ Hid (R5 W5 gS gL gK gC gO (tab S (cnt xs)) (tab NL (cnt (lins (zs.take k)))) (List.replicate v.mems.2.1 1) (List.replicate v.conts.2.1 1) (List.replicate v.outs.2.1 1) wr)) (fun t _ => xn - (intOf t).toNat)
              case atStart => exact ⟨0, Nat.zero_le _, rfl, Lib.hid (by rw [List.take_zero, show lins [] = [] from rfl, tab_start]; exact HRA.out)⟩
              case round =>
                obtain ⟨k, hk, rfl, HR⟩ := hrel
                clear n0 n1 n2 n3 n4 n5 n6 n7 n8 n9
                obtain ⟨n0, n1, n2, n3, n4, n5, n6, n7, n8, n9⟩ := (HK5.out.later HR.out.old).ten
                by_cases hlt : k < xn
                · obtain ⟨z, hz⟩ : ∃ z, zs[k]? = some z := ⟨_, List.getElem?_eq_getElem (by rw [HZM5.out.1]; exact hlt)⟩
                  obtain ⟨b, hbA, hbl, hc⟩ := HZM5.out.at_ hz
                  replace hbl := Nat.lt_of_lt_of_le hbl H45.out
                  obtain ⟨c0, c1, c2, c3, c4, c5, c6, c7, c8, c9, c10⟩ := SMem.eleven hc HR.out.old hbl
                  clear c2 c3 c4 c5 c6 c7 c8 c9 c10
                  have hkI : (k : Int) < (xn : Int) := by omega
                  have HTK := Lib.hid (take_snoc hz)
                  have hbw : b < wr.heap.size := Nat.lt_of_lt_of_le hbl HR.out.old.size
                  have hmz := List.mem_of_getElem? hz
                  subst hbA
                  clear hz hc hbl
                  by_cases h1 : z.op = askN
                  · have H1 := Lib.hid h1
                    rw [h1, show askN = (⟨#[97, 115, 107]⟩ : ByteArray) from rfl] at c0
                    clear h1 hmz
                    go_wp2_with fail
                    go_roundw
                    case rel => exact ⟨k + 1, by omega, by go_num, Lib.hid (by rw [HTK.out, lins_no H1.out]; exact HR.out)⟩
                    case measure => simp [intOf]; omega
                  · obtain ⟨d, hd, hdn⟩ := lins_in HZT.out hmz h1
                    have hdn' : d < NL := by rw [HCX.out, ← HNL.out] at hdn; exact hdn
                    obtain ⟨C, hC⟩ : ∃ C, C = cnt (lins (zs.take k)) d := ⟨_, rfl⟩
                    have lc := HR.out.mb.cell d (by rw [tab_len]; exact hdn')
                    rw [tab_get hdn', ← hC] at lc
                    have lf := HR.out.mb.free d
                    have hC0 := cnt_lins zs k d
                    rw [← hC] at hC0
                    have hdI : (d : Int) < (NL : Int) := by omega
                    have HD := Lib.hid hd
                    have HCC := Lib.hid hC
                    have H1 := Lib.hid h1
                    have g1 := str_no (l := [97, 115, 107]) h1
                    rw [hd] at c1
                    clear h1 hd hdn hC hmz
                    go_wp2_with fail
                    go_roundw
                    case rel => exact ⟨k + 1, by omega, by go_num, Lib.hid (by rw [HTK.out, lins_yes H1.out, HD.out, ← bump hdn', ← HCC.out]; exact HR.out.putB d (C + 1))⟩
                    case measure => simp [intOf]; omega
                · obtain rfl : k = xn := by omega
                  have HRB := Lib.hid (show R5 W5 gS gL gK gC gO (left S xs 0 0) (List.replicate NL 1) (List.replicate v.mems.2.1 1) (List.replicate v.conts.2.1 1) (List.replicate v.outs.2.1 1) wr from by
                    have h := HR.out
                    rw [show zs.take k = zs by rw [← HZM5.out.1, List.take_length], lins_all HZT.out, HCX.out, ← HNL.out, ones rfl, ← left_start] at h
                    exact h)
                  clear HR HRA hlt hk
                  obtain ⟨W9, rfl⟩ : ∃ W9 : World, W9 = wr := ⟨_, rfl⟩
                  have p2 := (HP5.out.later HRB.out.old).cell 2 rfl
                  go_wp2_with fail
                  go_loopw [15] (fun t wr => ∃ i : Nat, i ≤ S ∧ t = .int .i64 i ∧ Hid (R5 W5 gS gL gK gC gO (left S xs i 0) (List.replicate NL 1) (List.replicate v.mems.2.1 1) (List.replicate v.conts.2.1 1) (List.replicate v.outs.2.1 1) wr)) (fun t _ => S - (intOf t).toNat)
                  case atStart => exact ⟨0, Nat.zero_le _, rfl, HRB⟩
                  case round =>
                    obtain ⟨i, hi, rfl, HR⟩ := hrel
                    clear p2 n0 n1 n2 n3 n4 n5 n6 n7 n8 n9
                    have p2 := (HP5.out.later HR.out.old).cell 2 rfl
                    by_cases hlt : i < S
                    · have hiI : (i : Int) < (S : Int) := by omega
                      have p1 := (HP5.out.later HR.out.old).cell 1 rfl
                      obtain ⟨wo, rfl⟩ : ∃ wo : World, wo = wr := ⟨_, rfl⟩
                      go_wp2_with fail
                      go_loopw [16] (fun t wr => ∃ j : Nat, j ≤ v.names.2.1 ∧ t = .int .i64 j ∧ Hid (R5 W5 gS gL gK gC gO (left S xs i j) (List.replicate NL 1) (List.replicate v.mems.2.1 1) (List.replicate v.conts.2.1 1) (List.replicate v.outs.2.1 1) wr)) (fun t _ => v.names.2.1 - (intOf t).toNat)
                      case atStart => exact ⟨0, Nat.zero_le _, rfl, HR⟩
                      case round =>
                        obtain ⟨j, hj, rfl, HQ⟩ := hrel
                        clear p1 p2
                        have p1 := (HP5.out.later HQ.out.old).cell 1 rfl
                        have p2 := (HP5.out.later HQ.out.old).cell 2 rfl
                        by_cases hlt2 : j < v.names.2.1
                        · have hjI : (j : Int) < (v.names.2.1 : Int) := by omega
                          obtain ⟨bb, oo, hbe, hbl, hc⟩ := (HIR5.out.below (HQ.out.old.mono HB45.out)).at_ hlt2
                          obtain ⟨rfl, rfl⟩ : g = bb ∧ 0 = oo := by injection hbe with hbe; injection hbe with e1 e2; exact ⟨e1, e2⟩
                          rw [Nat.zero_add] at hc
                          have hjl : j < xs.length := by rw [HSL.out.1]; exact hlt2
                          obtain ⟨X, hX⟩ : ∃ X, X = xs.getD j 0 := ⟨_, rfl⟩
                          rw [← hX] at hc
                          clear hbe
                          by_cases he : X = (i : Int)
                          · have HXE := Lib.hid (hX.symm.trans he)
                            rw [he] at hc
                            obtain ⟨C, hC⟩ : ∃ C, C = cnt xs i - cnt (xs.take j) i := ⟨_, rfl⟩
                            have lc := HQ.out.ma.cell i (by rw [left_len]; exact hlt)
                            rw [left_at hlt, ← hC] at lc
                            have lf := HQ.out.ma.free i
                            have hC0 := left_ge (S := S) (sl := xs) (i := i) (v := j)
                            rw [← hC, List.length_take, HSL.out.1] at hC0
                            have hC1 : -1000 ≤ C ∧ C ≤ 1000 := by omega
                            have HCC := Lib.hid hC
                            have HJL := Lib.hid hjl
                            clear hC0 hC hX he hjl
                            go_wp2_with fail
                            go_roundw
                            case rel => exact ⟨j + 1, by omega, by go_num, Lib.hid (by rw [← left_yes HJL.out HXE.out, ← HCC.out]; exact HQ.out.putA i (C - 1))⟩
                            case measure => simp [intOf]; omega
                          · have HXE := Lib.hid (show ¬ xs.getD j 0 = (i : Int) from fun e => he (hX.trans e))
                            have HJL := Lib.hid hjl
                            have g1 : (X == (i : Int)) = false := by simp [he]
                            have g2 : decide (X = (i : Int)) = false := by simp [he]
                            clear hX hjl
                            go_wp2_with fail
                            go_roundw
                            case rel => exact ⟨j + 1, by omega, by go_num, Lib.hid (by rw [← left_no HJL.out HXE.out]; exact HQ.out)⟩
                            case measure => simp [intOf]; omega
                        · obtain rfl : j = v.names.2.1 := by omega
                          have HQ2 := Lib.hid (show R5 W5 gS gL gK gC gO (left S xs (i + 1) 0) (List.replicate NL 1) (List.replicate v.mems.2.1 1) (List.replicate v.conts.2.1 1) (List.replicate v.outs.2.1 1) wr from by
                            have h := HQ.out
                            rw [← HSL.out.1, left_next] at h
                            exact h)
                          clear HQ
                          go_wp2_with fail
                          go_roundw
                          case rel => exact ⟨i + 1, by omega, by go_num, HQ2⟩
                          case measure => simp [intOf]; omega
                    · obtain rfl : i = S := by omega
                      rw [left_end] at HR
                      obtain ⟨WE, rfl⟩ : ∃ WE : World, WE = wr := ⟨_, rfl⟩
                      have hS9 : i ≤ 200 := by omega
                      have HA0 := Lib.hid (all0_t i i (some ⟨gS, 0, none⟩) WE.heap.size WE (List.replicate i 0) (rep_row HR.out.ma (by omega)) (rep_get i 0))
                      have HA1 := Lib.hid (all1_t NL NL (some ⟨gL, 0, none⟩) WE.heap.size WE (List.replicate NL 1) (rep_row HR.out.mb (by omega)) (rep_get NL 1))
                      have HA2 := Lib.hid (all1_t v.mems.2.1 v.mems.2.1 (some ⟨gK, 0, none⟩) WE.heap.size WE (List.replicate v.mems.2.1 1) (rep_row HR.out.mc (by omega)) (rep_get _ 1))
                      have HA3 := Lib.hid (all1_t v.conts.2.1 v.conts.2.1 (some ⟨gC, 0, none⟩) WE.heap.size WE (List.replicate v.conts.2.1 1) (rep_row HR.out.md (by omega)) (rep_get _ 1))
                      have HA4 := Lib.hid (all1_t v.outs.2.1 v.outs.2.1 (some ⟨gO, 0, none⟩) WE.heap.size WE (List.replicate v.outs.2.1 1) (rep_row HR.out.me (by omega)) (rep_get _ 1))
                      have HLE := Lib.hid (HL5.out.later HR.out.old)
                      clear HR hlt hi
                      go_wp2_with (first
                        | (go_at_call 9; (with_reducible refine HA0.out.mono ?_); rintro e w6 ⟨rfl, rfl⟩)
                        | (go_at_call 9; (with_reducible refine HA1.out.mono ?_); rintro e w6 ⟨rfl, rfl⟩)
                        | (go_at_call 9; (with_reducible refine HA2.out.mono ?_); rintro e w6 ⟨rfl, rfl⟩)
                        | (go_at_call 9; (with_reducible refine HA3.out.mono ?_); rintro e w6 ⟨rfl, rfl⟩)
                        | (go_at_call 9; (with_reducible refine HA4.out.mono ?_); rintro e w6 ⟨rfl, rfl⟩)
                        | (go_at_call 8; refine (awake15_t _).mono ?_; rintro e w6 ⟨rfl, hb6⟩))
                      go_ret
                      exact ⟨rfl, (HLE.out.later hb6).old⟩

end Go.Proofs.Ytanbekbalfbkcaa
