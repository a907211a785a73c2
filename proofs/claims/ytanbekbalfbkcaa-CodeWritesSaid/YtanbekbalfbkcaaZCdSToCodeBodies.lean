/- What CodeBodies tells of a flat program that lies in memory, in part. No condition. · A flat program that came in. No condition. · Proved: for any flat program the law CodeBodies returns true and changes nothing that it was handed. No condition. -/
import Derived.Test.YtanbekbalfbkcaaZCdQToCdR
import Derived.Test.YtanbekbalfbkcaaZFlYToFlZ
import Derived.Deep.DeepCutAuto
import Derived.ProofKit
import Derived.OpenShut
import Derived.ShutString
import Derived.ChangeOld
import Derived.Lib.SmallJoins
import Derived.SizedLaws
namespace Go.Proofs.Ytanbekbalfbkcaa
set_option linter.unusedVariables false
set_option linter.unusedSimpArgs false
set_option maxRecDepth 100000
open Go.RowKit Gr

theorem ext_l (s : ByteArray) : (⟨#[108]⟩ ++ s : ByteArray).extract 0 1 = ⟨#[108]⟩ := by
  apply ByteArray.ext
  apply Array.ext'
  simp [ByteArray.data_extract, ByteArray.data_append]
theorem Try.ownKnob : ownKnob Try.prog.godebug = none := by kernel_rfl
theorem Try.laidOut : laidOutB Try.prog = true := by kernel_rfl
/-- what each law tells -/
def LawPost (w : World) (e : Ending) (w' : World) : Prop := e = .returned (.bool true) ∧ Below w.heap.size w w'
/-- what is known behind small: the world, the program in it -/
structure LwSt (w : World) (v : FlatV) (f : FlatM) (W : World) : Prop where
  is : FlatIs W w.heap.size v f
  blk : Blk W w.heap.size 29 (fvs v)
  old : Below w.heap.size w W
theorem LwSt.later {w W W' : World} {v : FlatV} {f : FlatM} (h : LwSt w v f W) (hb : Below W.heap.size W W') : LwSt w v f W' :=
  ⟨h.is.below (hb.mono h.old.size), h.blk.later hb, h.old.trans (hb.mono h.old.size)⟩
theorem LwSt.hB {w W : World} {v : FlatV} {f : FlatM} (h : LwSt w v f W) : w.heap.size ≤ W.heap.size := h.old.size
theorem LwSt.start {w : World} {v : FlatV} {f : FlatM} (h : FlatIs w w.heap.size v f) : LwSt w v f (w.alloc (.cells (fvs v) 29)) :=
  ⟨h.below ((Below.refl _ _).alloc (Nat.le_refl _) _), Blk.new _ _ _, (Below.refl _ _).alloc (Nat.le_refl _) _⟩

set_option maxHeartbeats 8000000 in
theorem codeBodies_walk (v : FlatV) (f : FlatM) (w : World) (h : FlatIs w w.heap.size v f) : Calls Try.prog 3 #[flatV v] w (LawPost w) := by
  have HL0 := Lib.hid (LwSt.start h)
  have HSM := Lib.hid (small15_t v f w.heap.size _ HL0.out.is HL0.out.hB)
  clear h
  unfold flatV sl3 fvs planZ at HSM
  unfold flatV sl3
  go_enter Try.func3, Try.ntmps3
  go_wp2_with fail
  refine HSM.out.mono ?_
  rintro e w1 ⟨⟨b1, rfl, hs1⟩, hb1⟩
  have HL1 := Lib.hid (HL0.out.later hb1)
  clear hb1
  cases b1 with
  | false =>
    go_wp2
    go_ret
    exact ⟨rfl, HL1.out.old⟩
  | true =>
    obtain ⟨hs, hq25⟩ := hs1 rfl
    have hsm : v.names.2.1 ≤ 200 := by rw [← HL1.out.is.names.1]; exact hs.names
    have HSF := Lib.hid hs
    clear hs
    obtain ⟨f0, f1, f2, f3, f4, f5, f6, f7⟩ := HL1.out.blk.flat
    cases hg : goodB f with
    | false =>
      have HOF := Lib.hid (rof_no v f w.heap.size w1 HL1.out.is HL1.out.hB (by omega) hg)
      unfold flatV sl3 at HOF
      have HGB := Lib.hid hg
      clear hg
      go_wp2_with fail
      refine HOF.out.mono ?_
      rintro e w2 ⟨rfl, hb2⟩
      have HL2 := Lib.hid (HL1.out.later hb2)
      clear hb2 f0 f1 f2 f3 f4 f5 f6 f7
      obtain ⟨W3, hW3⟩ : ∃ W3, W3 = w2.alloc (.cells #[.slice none 0 0, .slice none 0 0, .int .i64 0] 32) := ⟨_, rfl⟩
      have hb3 : Below w2.heap.size w2 W3 := by rw [hW3]; exact (Below.refl _ _).alloc (Nat.le_refl _) _
      have HP3 := Lib.hid (show Blk W3 w2.heap.size 32 #[.slice none 0 0, .slice none 0 0, .int .i64 0] from by rw [hW3]; exact Blk.new _ _ _)
      have HL3 := Lib.hid (HL2.out.later hb3)
      have HCN := Lib.hid (cof_no v f w.heap.size none none 0 0 0 0 0 [] [] W3 HL3.out.is HL3.out.hB (IRow.nil _ _) (IRow.nil _ _) HSF.out (by omega) (fun q => by have := q.good; rw [HGB.out] at this; cases this))
      unfold flatV sl3 planV at HCN
      unfold planV
      clear hb3
      go_upto_region 4 with fail
      rw [← hW3]
      clear hW3
      obtain ⟨f0, f1, f2, f3, f4, f5, f6, f7⟩ := HL3.out.blk.flat
      have p0 := HP3.out.cell 0 rfl
      have p1 := HP3.out.cell 1 rfl
      have p2 := HP3.out.cell 2 rfl
      have hq1 : w2.heap.size < W3.heap.size := HP3.out.lt
      have hq2 : w.heap.size < W3.heap.size := HL3.out.blk.lt
      go_wp2_with fail
      refine HCN.out.mono ?_
      rintro e w4 ⟨rfl, hb4⟩
      have HL4 := Lib.hid (HL3.out.later hb4)
      have HL5 := Lib.hid (HL4.out.later ((Below.refl w4.heap.size w4).alloc (Nat.le_refl _) (.cells #[.int .i64 0, .int .i64 0, .int .i64 0, .int .i64 0, .int .i64 0, .slice none 0 0, .slice none 0 0, .slice none 0 0, .slice none 0 0, .slice none 0 0] 39)))
      clear hb4 f0 f1 f2 f3 f4 f5 f6 f7 p0 p1 p2
      go_wp2_with (go_at_call 8; refine (awake15_t _).mono ?_; rintro e w6 ⟨rfl, hb6⟩)
      go_ret
      exact ⟨rfl, (HL5.out.later hb6).old⟩
    | true =>
      have HGD := Lib.hid hg
      have HOF := Lib.hid (rof_t v f w.heap.size w1 HL1.out.is HL1.out.hB hg HSF.out)
      unfold flatV sl3 at HOF
      clear hg
      go_wp2_with fail
      refine HOF.out.mono ?_
      rintro e w2 ⟨ho | ho, hb2⟩
      rotate_left
      · obtain ⟨rfl, out, hl, hlt, hno⟩ := ho
        have HL2 := Lib.hid (HL1.out.later hb2)
        have HNZ : Hid (0 < v.names.2.1) := Lib.hid (by omega)
        clear hb2 f0 f1 f2 f3 f4 f5 f6 f7 hl hlt hno
        obtain ⟨W3, hW3⟩ : ∃ W3, W3 = w2.alloc (.cells #[.slice none 0 0, .slice none 0 0, .int .i64 0] 32) := ⟨_, rfl⟩
        have hb3 : Below w2.heap.size w2 W3 := by rw [hW3]; exact (Below.refl _ _).alloc (Nat.le_refl _) _
        have HP3 := Lib.hid (show Blk W3 w2.heap.size 32 #[.slice none 0 0, .slice none 0 0, .int .i64 0] from by rw [hW3]; exact Blk.new _ _ _)
        have HL3 := Lib.hid (HL2.out.later hb3)
        have HCN := Lib.hid (cof_no v f w.heap.size none none 0 0 0 0 0 [] [] W3 HL3.out.is HL3.out.hB (IRow.nil _ _) (IRow.nil _ _) HSF.out (by omega) (fun q => by have := q.once.len; have := HNZ.out; simp at *; omega))
        unfold flatV sl3 planV at HCN
        unfold planV
        clear hb3
        go_upto_region 4 with fail
        rw [← hW3]
        clear hW3
        obtain ⟨f0, f1, f2, f3, f4, f5, f6, f7⟩ := HL3.out.blk.flat
        have p0 := HP3.out.cell 0 rfl
        have p1 := HP3.out.cell 1 rfl
        have p2 := HP3.out.cell 2 rfl
        have hq1 : w2.heap.size < W3.heap.size := HP3.out.lt
        have hq2 : w.heap.size < W3.heap.size := HL3.out.blk.lt
        go_wp2_with fail
        refine HCN.out.mono ?_
        rintro e w4 ⟨rfl, hb4⟩
        have HL4 := Lib.hid (HL3.out.later hb4)
        have HL5 := Lib.hid (HL4.out.later ((Below.refl w4.heap.size w4).alloc (Nat.le_refl _) (.cells #[.int .i64 0, .int .i64 0, .int .i64 0, .int .i64 0, .int .i64 0, .slice none 0 0, .slice none 0 0, .slice none 0 0, .slice none 0 0, .slice none 0 0] 39)))
        clear hb4 f0 f1 f2 f3 f4 f5 f6 f7 p0 p1 p2
        go_wp2_with (go_at_call 8; refine (awake15_t _).mono ?_; rintro e w6 ⟨rfl, hb6⟩)
        go_ret
        exact ⟨rfl, (HL5.out.later hb6).old⟩
      obtain ⟨A, c, out, g, xs, S, rfl, hown, hmem, hpl⟩ := ho
      have HGL : Hid ((gOf f).length = v.names.2.1) := Lib.hid (by unfold gOf; rw [gTo_len]; exact HL1.out.is.names.1)
      have HRP := Lib.hid (rplan_right HGD.out HGL.out hpl)
      have HL2 := Lib.hid (HL1.out.later hb2)
      obtain ⟨W3, hW3⟩ : ∃ W3, W3 = w2.alloc (.cells #[.slice A v.names.2.1 c, .slice (some ⟨g, 0, none⟩) v.names.2.1 v.names.2.1, .int .i64 (S : Nat)] 32) := ⟨_, rfl⟩
      have hb3 : Below w2.heap.size w2 W3 := by rw [hW3]; exact (Below.refl _ _).alloc (Nat.le_refl _) _
      have HP3 := Lib.hid (show Blk W3 w2.heap.size 32 #[.slice A v.names.2.1 c, .slice (some ⟨g, 0, none⟩) v.names.2.1 v.names.2.1, .int .i64 (S : Nat)] from by rw [hW3]; exact Blk.new _ _ _)
      have HL3 := Lib.hid (HL2.out.later hb3)
      have hSn : S ≤ v.names.2.1 := by obtain ⟨sls, hlo⟩ := hpl.slots; exact hlo.le
      have hir : IRow W3 w2.heap.size (some ⟨g, 0, none⟩) v.names.2.1 v.names.2.1 xs := by
        have := (hmem.below hb3 hmem.lt).irow hmem.lt (c := xs.length) (Nat.le_refl _) (by rw [HRP.out.slots.1]; unfold maxLen; omega)
        rw [HRP.out.slots.1] at this
        exact this
      have HCO := Lib.hid (cof_t v f w2.heap.size A (some ⟨g, 0, none⟩) c v.names.2.1 (S : Nat) (ints out) xs W3 (HL3.out.is.more HL2.out.hB) hb3.size (hown.below hb3) hir HSF.out (by omega) (by omega) HRP.out)
      have HON := Lib.hid HRP.out.once
      unfold flatV sl3 planV at HCO
      unfold planV
      clear hb3 hir hown hmem hpl hb2 f0 f1 f2 f3 f4 f5 f6 f7
      go_upto_region 4 with fail
      rw [← hW3]
      clear hW3
      obtain ⟨f0, f1, f2, f3, f4, f5, f6, f7⟩ := HL3.out.blk.flat
      have p0 := HP3.out.cell 0 rfl
      have p1 := HP3.out.cell 1 rfl
      have p2 := HP3.out.cell 2 rfl
      have hq1 : w2.heap.size < W3.heap.size := HP3.out.lt
      have hq2 : w.heap.size < W3.heap.size := HL3.out.blk.lt
      go_wp2_with fail
      refine HCO.out.mono ?_
      rintro e w4 ⟨⟨m, cc, ⟨sA, sn, sc⟩, ⟨dA, dn, dc⟩, ⟨xA, xn, xc⟩, qs, ys, ds, zs, rfl, ⟨hsm4, hxl, hxq, hty⟩, ⟨hdm, hdt⟩, ⟨hzm, hzt, hzi⟩⟩, hb4⟩
      simp only at hsm4 hdm hzm
      have HL4 := Lib.hid (HL3.out.later hb4)
      obtain ⟨W5, hW5⟩ : ∃ W5, W5 = w4.alloc (.cells #[.int .i64 (v.ins.2.1 : Int), .int .i64 (v.outs.2.1 : Int), .int .i64 (S : Nat), .int .i64 (v.cross.2.1 : Int), .int .i64 (linesTo f v.cross.2.1 : Nat), .slice m.1 m.2.1 m.2.2, .slice cc.1 cc.2.1 cc.2.2, .slice sA sn sc, .slice dA dn dc, .slice xA xn xc] 39) := ⟨_, rfl⟩
      have hb5 : Below w4.heap.size w4 W5 := by rw [hW5]; exact (Below.refl _ _).alloc (Nat.le_refl _) _
      have HK5 := Lib.hid (show Blk W5 w4.heap.size 39 #[.int .i64 (v.ins.2.1 : Int), .int .i64 (v.outs.2.1 : Int), .int .i64 (S : Nat), .int .i64 (v.cross.2.1 : Int), .int .i64 (linesTo f v.cross.2.1 : Nat), .slice m.1 m.2.1 m.2.2, .slice cc.1 cc.2.1 cc.2.2, .slice sA sn sc, .slice dA dn dc, .slice xA xn xc] from by rw [hW5]; exact Blk.new _ _ _)
      have HL5 := Lib.hid (HL4.out.later hb5)
      have HSM5 := Lib.hid (hsm4.keep hb5)
      have HDM5 := Lib.hid (hdm.keep hb5)
      have HZM5 := Lib.hid (hzm.keep hb5)
      have hsn : sn = v.names.2.1 + v.mems.2.1 + v.conts.2.1 + v.outs.2.1 + v.again.2.1 := by
        have := step_len hxl HON.out.len hty
        rw [hsm4.1, HL5.out.is.mems.1, HL5.out.is.conts.1, HL5.out.is.outs.1, HL5.out.is.again.1] at this
        exact this
      have hdn : dn = v.conts.2.1 := by rw [← hdm.1, ← tags_len, hdt, tg_len, HL5.out.is.conts.1]
      have hxn : xn = linesTo f v.cross.2.1 + v.cross.2.1 := by rw [← hzm.1, cross_len hzt, HL5.out.is.cross.1]
      have HST := Lib.hid (step_op HGD.out hxq hty)
      have HDT := Lib.hid (show tags ds = tg opSlope f.conts.length from hdt)
      have HZI := Lib.hid hzi
      have HZA := Lib.hid (asksN_all hzt)
      have HCX := Lib.hid HL5.out.is.cross.1
      have hlX : f.cross.length = v.cross.2.1 := HCX.out
      have HLL := Lib.hid (linesTo_le HSF.out)
      have hx20 : v.cross.2.1 ≤ 20 := by rw [← HCX.out]; exact HSF.out.cross
      have hm100 : v.mems.2.1 ≤ 100 := by rw [← HL5.out.is.mems.1]; exact HSF.out.mems
      have hc20 : v.conts.2.1 ≤ 20 := by rw [← HL5.out.is.conts.1]; exact HSF.out.conts
      have ho50 : v.outs.2.1 ≤ 50 := by rw [← HL5.out.is.outs.1]; exact HSF.out.outs
      have ha50 : v.again.2.1 ≤ 50 := by rw [← HL5.out.is.again.1]; exact HSF.out.again
      have HSN := Lib.hid hsn
      have HDN := Lib.hid hdn
      have HXN := Lib.hid hxn
      clear hlX hsn hdn hxn hsm4 hxl hxq hty hdm hdt hzm hzt hzi hb4 f0 f1 f2 f3 f4 f5 f6 f7 p0 p1 p2 HP3 HCO
      go_upto_region 5 with fail
      rw [HCX.out, ← hW5]
      clear hW5 hb5
      obtain ⟨f0, f1, f2, f3, f4, f5, f6, f7⟩ := HL5.out.blk.flat
      obtain ⟨n0, n1, n2, n3, n4, n5, n6, n7, n8, n9⟩ := HK5.out.ten
      go_wp2_with fail
      go_loop [7, 8] (fun s t => ∃ k : Nat, k ≤ v.cross.2.1 ∧ s = .int .i64 (linesTo f k : Nat) ∧ t = .int .i64 k) (fun _ t => v.cross.2.1 - (intOf t).toNat)
      case atStart => exact ⟨0, Nat.zero_le _, rfl, rfl⟩
      case round =>
        obtain ⟨k, hk, rfl, rfl⟩ := hrel
        by_cases hlt : k < v.cross.2.1
        · obtain ⟨x, hx⟩ := HL5.out.is.cross.ex hlt
          obtain ⟨b, off, ha, hbB, hat⟩ := HL5.out.is.cross.at_ hx
          obtain ⟨r, hrr, e0, e1⟩ := hat.cells
          have hr : r.2.1 = opsN f k := by unfold opsN; rw [hx]; exact hrr.1.symm
          have hr30 : r.2.1 ≤ 30 := by rw [hr]; exact opsN_le HSF.out k
          have hLk : linesTo f k ≤ 600 := by have := HLL.out k; omega
          have hkI : (k : Int) < (v.cross.2.1 : Int) := by omega
          have HR := Lib.hid hr
          rw [ha] at f6
          clear hx ha hat hrr hr
          go_wp2_with fail
          go_round
          case rel => exact ⟨k + 1, by omega, by rw [linesTo_succ, ← HR.out]; go_num, by go_num⟩
          case measure => simp [intOf]; omega
        · obtain rfl : k = v.cross.2.1 := by omega
          obtain rfl := HSN.out
          obtain rfl := HDN.out
          obtain rfl := HXN.out
          have hLx : linesTo f v.cross.2.1 ≤ 600 := by have := HLL.out v.cross.2.1; omega
          go_wp2_with fail
          go_loop [9] (fun t => ∃ k : Nat, k ≤ v.conts.2.1 ∧ t = .int .i64 k) (fun t => v.conts.2.1 - (intOf t).toNat)
          case atStart => exact ⟨0, Nat.zero_le _, rfl⟩
          case round =>
            obtain ⟨k, hk2, rfl⟩ := hrel
            by_cases hlt2 : k < v.conts.2.1
            · obtain ⟨x, hx⟩ : ∃ x, ds[k]? = some x := ⟨_, List.getElem?_eq_getElem (by rw [HDM5.out.1]; exact hlt2)⟩
              obtain ⟨b, hbA, hbl, hc⟩ := HDM5.out.at_ hx
              obtain ⟨hxo, hxk⟩ := deriv_at HDT.out hx
              have d0 : W5.cell? ⟨b, k * 11, none⟩ = some (.string ⟨#[115, 108, 111, 112, 101]⟩) := by have := hc 0 (.string x.op) rfl; rw [hxo, Nat.add_zero] at this; exact this
              have d3 : W5.cell? ⟨b, k * 11 + 3, none⟩ = some (.int .i64 (k : Int)) := by have := hc 3 (.int .i64 x.k) rfl; rw [hxk] at this; exact this
              have hkI : (k : Int) < (v.conts.2.1 : Int) := by omega
              subst hbA
              clear hx hc hxo hxk
              go_wp2_with fail
              go_round
              case rel => exact ⟨k + 1, by omega, by go_num⟩
              case measure => simp [intOf]; omega
            · obtain rfl : k = v.conts.2.1 := by omega
              go_wp2_with fail
              go_loop [10, 11] (fun s t => ∃ k : Nat, k ≤ linesTo f v.cross.2.1 + v.cross.2.1 ∧ s = .int .i64 (asksN (zs.take k) : Nat) ∧ t = .int .i64 k) (fun _ t => linesTo f v.cross.2.1 + v.cross.2.1 - (intOf t).toNat)
              case atStart => exact ⟨0, Nat.zero_le _, rfl, rfl⟩
              case round =>
                obtain ⟨k, hk3, rfl, rfl⟩ := hrel
                by_cases hlt3 : k < linesTo f v.cross.2.1 + v.cross.2.1
                · obtain ⟨z, hz⟩ : ∃ z, zs[k]? = some z := ⟨_, List.getElem?_eq_getElem (by rw [HZM5.out.1]; exact hlt3)⟩
                  obtain ⟨b, hbA, hbl, hc⟩ := HZM5.out.at_ hz
                  have hzx := HZI.out z (List.mem_of_getElem? hz)
                  have hAS : asksN (zs.take (k + 1)) = asksN (zs.take k) + if z.op = askN then 1 else 0 := by rw [List.take_add_one, hz]; exact asksN_snoc _ _
                  have hAL : asksN (zs.take k) ≤ k := by unfold asksN; exact Nat.le_trans (List.length_filter_le _ _) (by simp; omega)
                  have d0 : W5.cell? ⟨b, k * 11, none⟩ = some (.string z.op) := by have := hc 0 (.string z.op) rfl; rw [Nat.add_zero] at this; exact this
                  have hkI : (k : Int) < (linesTo f v.cross.2.1 : Int) + (v.cross.2.1 : Int) := by omega
                  subst hbA
                  obtain ⟨N0, hN0⟩ : ∃ N0, N0 = asksN (zs.take k) := ⟨_, rfl⟩
                  rw [← hN0] at hAS hAL ⊢
                  have HAS := Lib.hid hAS
                  clear hz hc hAS hN0
                  by_cases hzo : z.op = askN
                  · rw [hzo] at d0 HAS
                    rw [if_pos rfl] at HAS
                    unfold askN at d0
                    clear hzx hzo
                    go_wp2_with fail
                    go_round
                    case rel => exact ⟨k + 1, by omega, by rw [HAS.out]; go_num, by go_num⟩
                    case measure => simp [intOf]; omega
                  · rw [if_neg hzo] at HAS
                    obtain ⟨s', hs'⟩ := hzx.resolve_left hzo
                    have g0 := str_no (l := [97, 115, 107]) hzo
                    have hsz : z.op.size = 1 + s'.size := by rw [hs', ByteArray.size_append]; rfl
                    have g1 : ((z.op.extract 0 1).toList == [108]) = true := by rw [hs', ext_l, Lib.toList_data]; rfl
                    clear hs' hzx hzo
                    go_wp2_with fail
                    go_round
                    case rel => exact ⟨k + 1, by omega, by rw [HAS.out]; rfl, by go_num⟩
                    case measure => simp [intOf]; omega
                · obtain rfl : k = linesTo f v.cross.2.1 + v.cross.2.1 := by omega
                  have hzl : zs.take (linesTo f v.cross.2.1 + v.cross.2.1) = zs := by rw [← HZM5.out.1, List.take_length]
                  rw [hzl, HZA.out, HCX.out]
                  clear hzl
                  go_wp2_with fail
                  go_loop [12] (fun t => ∃ k : Nat, k ≤ v.names.2.1 + v.mems.2.1 + v.conts.2.1 + v.outs.2.1 + v.again.2.1 ∧ t = .int .i64 k) (fun t => v.names.2.1 + v.mems.2.1 + v.conts.2.1 + v.outs.2.1 + v.again.2.1 - (intOf t).toNat)
                  case atStart => exact ⟨0, Nat.zero_le _, rfl⟩
                  case round =>
                    obtain ⟨k, hk4, rfl⟩ := hrel
                    by_cases hlt4 : k < v.names.2.1 + v.mems.2.1 + v.conts.2.1 + v.outs.2.1 + v.again.2.1
                    · obtain ⟨z, hz⟩ : ∃ z, (qs ++ ys)[k]? = some z := ⟨_, List.getElem?_eq_getElem (by rw [HSM5.out.1]; exact hlt4)⟩
                      obtain ⟨b, hbA, hbl, hc⟩ := HSM5.out.at_ hz
                      have hzx := HST.out z (List.mem_of_getElem? hz)
                      have d0 : W5.cell? ⟨b, k * 11, none⟩ = some (.string z.op) := by have := hc 0 (.string z.op) rfl; rw [Nat.add_zero] at this; exact this
                      have g0 := str_no (l := [115, 108, 111, 112, 101]) hzx.1
                      have g1 := str_no (l := [97, 115, 107]) hzx.2
                      have hkI : (k : Int) < (v.names.2.1 : Int) + (v.mems.2.1 : Int) + (v.conts.2.1 : Int) + (v.outs.2.1 : Int) + (v.again.2.1 : Int) := by omega
                      subst hbA
                      clear hz hc hzx
                      go_wp2_with fail
                      go_round
                      case rel => exact ⟨k + 1, by omega, by go_num⟩
                      case measure => simp [intOf]; omega
                    · obtain rfl : k = v.names.2.1 + v.mems.2.1 + v.conts.2.1 + v.outs.2.1 + v.again.2.1 := by omega
                      go_wp2_with (go_at_call 8; refine (awake15_t _).mono ?_; rintro e w6 ⟨rfl, hb6⟩)
                      go_ret
                      exact ⟨rfl, (HL5.out.later hb6).old⟩

end Go.Proofs.Ytanbekbalfbkcaa

namespace Go.Proofs.Ytanbekbalfbkcaa
set_option linter.unusedVariables false
set_option linter.unusedSimpArgs false
set_option maxRecDepth 100000
open Go.ChangeShapes Go.WideShapes Go.ChangeAt Go.RowKit Go.Joins

theorem flat_of_trod {H : Type} {enc : TypeId × Value → H} {r : Reach} {b0 : Nat} {W : World} {v : Value} {d : DataW H} {p : List MemPlace} {base : Nat}
    (hv : Value.okWide Try.prog W r b0 29 v) (h : DataW.Trod enc Try.prog W base (fun _ => true) true 29 v d p) (hz : ∀ n ∈ d.weights Try.prog 29, n ≤ reachBytes) : ∃ fv f, v = flatV fv ∧ FlatIs W W.heap.size fv f := by
  obtain ⟨cs, rfl, _⟩ := okWide_struct Try.underlying29 hv
  obtain ⟨fuel, hf⟩ := h
  have ht : Tr W 29 cs.toList := ⟨H, enc, base, _, _, fuel, _, by simpa [Value.cells] using hf, hz⟩
  obtain ⟨fv, f, e, hi⟩ := flat_came ht
  exact ⟨fv, f, by simpa using e, hi⟩

end Go.Proofs.Ytanbekbalfbkcaa

namespace Go.Proofs.Ytanbekbalfbkcaa
open Go.ChangeShapes Go.WideShapes Go.ChangeAt Go.RowKit
set_option linter.unusedVariables false

set_option maxRecDepth 100000 in
theorem codeBodies_lifted (os : Os) (started : os.Started) (H : Type) (enc : TypeId × Value → H) :
    ReturnsInHanded {} Try.checked os 3 .any (Rows.codeBodiesSpec.pre6 enc Try.prog Try.f3 Rows.codeBodiesRow.domain false) (Rows.codeBodiesSpec.post enc Try.prog Try.f3 false true false false) := by
  refine returnsInHanded_of_change_sized (C := Try.checked) Try.ownKnob started (by kernel_rfl) Try.func3
    (ChangeSpec.witness6 (enc := enc) (C := Try.checked) false ⟨#[], #[.agg #[.slice none 0 0, .slice none 0 0, .slice none 0 0, .slice none 0 0, .slice none 0 0, .slice none 0 0, .slice none 0 0, .slice none 0 0]], []⟩ 8 (by kernel_rfl) (by kernel_rfl) (by kernel_rfl) (by kernel_rfl)) ?_
  intro W base args ds gs before hval0 hW hcnd hz _
  have hval : ∀ (j : Nat) t v, Try.f3.params[j]? = some t → args[j]? = some v → Value.okWide Try.prog W .any base t v := hval0
  have hW' := hW
  obtain ⟨p, q, hA0, hV, rfl, hfz, hnd⟩ := hW
  have hA : DataW.TrodAll enc Try.prog W 0 (fun _ => true) true Try.f3.params.toList args.toList ds p := hA0
  rw [Try.params3] at hA hval
  obtain ⟨v0, vs0, d0, ds0, p0, q0, hargs, rfl, rfl, h0, r0⟩ := trodAll_cons hA
  obtain ⟨rfl, rfl, rfl⟩ := trodAll_nil r0
  obtain rfl : args = #[v0] := by cases args; simp_all
  obtain ⟨rfl, rfl⟩ := trodVars_none hV
  have k0 := h0
  have lt0 : ∀ x ∈ p0, x.block < W.heap.size := by obtain ⟨m, hm⟩ := k0; exact DataW.trod_lt m _ _ _ hm
  obtain ⟨fv, f, rfl, hfi⟩ := flat_of_trod (hval 0 29 v0 rfl rfl) h0 (fun n hn => of_decide_eq_true (List.all_eq_true.1 hz n (DataW.weights_mem_each (j := 0) (t := 29) (d := d0) rfl rfl n hn)))
  clear hA0 hval0
  refine (codeBodies_walk fv f W hfi).mono fun e W' ⟨he, bel⟩ => ?_
  subst he
  exact ⟨_, rfl, _, _, _, [], _, [], hW', trodAll_mk1 (shut_bool Try.underlying4 _), (trodAll_cons_mk (Below.trod Try.laidOut (by kernel_rfl) (of_decide_eq_true (by kernel_rfl)) k0 bel lt0) trodAll_mk0), rfl, bel.frame _, fun h => by cases h⟩

theorem codeBodies_over : Rows.codeBodiesRow.holds Try.pinned (OpenSpec.ofChange Rows.codeBodiesSpec) :=
  OpenClaim.holds_of_wide 3 Try.f3 rfl rfl rfl rfl rfl rfl rfl ⟨rfl, rfl, rfl, rfl, rfl⟩ rfl rfl rfl rfl rfl (by kernel_rfl) Try.func3 (by kernel_rfl)
    (of_decide_eq_true (by kernel_rfl)) (by unfold Func.isWrapper; first | (rw [if_pos (by decide +kernel)]; kernel_rfl) | (rw [if_neg (by decide +kernel)]; exact ⟨rfl, rfl⟩))
    (fun os started H enc _ => codeBodies_lifted os started H enc)

theorem codeBodies_holds : Rows.CodeBodiesSaid := codeBodies_over
#print axioms codeBodies_holds
end Go.Proofs.Ytanbekbalfbkcaa
