/- What Right of the answer, and SafeRights, tell. No condition. -/
import Derived.Test.YtcljmfhelgkfaaaSfW
import Derived.Test.YtcljmfhelgkfaaaSfXa
import Derived.Test.YtcljmfhelgkfaaaSfYd
import Derived.Deep.RegionWith
import Derived.Deep.RegionHeld3
import Derived.Deep.DeepCutAuto
namespace Go.Proofs.Ytcljmfhelgkfaaa
set_option linter.unusedVariables false
set_option linter.unusedSimpArgs false
set_option maxRecDepth 100000
open Go.RowKit

theorem fewC_cross {c : CodeM} (h : fewC c = true) : c.cross.length ≤ 60 ∧ ∀ x ∈ c.cross, x.args.length ≤ 20 ∧ x.resets.length ≤ 20 := by
  unfold fewC fewB at h
  simp only [Bool.and_eq_true, decide_eq_true_eq, List.all_eq_true] at h
  refine ⟨h.2.2.1.1, fun x hx => ?_⟩
  have := h.2.2.1.2 x hx
  unfold fewI at this
  simp only [Bool.and_eq_true, decide_eq_true_eq] at this
  exact ⟨this.1, this.2.1⟩
theorem fewC_stepB {c : CodeM} (h : fewC c = true) : c.step.length ≤ 60 ∧ ∀ x ∈ c.step, x.args.length ≤ 20 ∧ x.resets.length ≤ 20 := by
  unfold fewC fewB at h
  simp only [Bool.and_eq_true, decide_eq_true_eq, List.all_eq_true] at h
  refine ⟨h.1.1, fun x hx => ?_⟩
  have := h.1.2 x hx
  unfold fewI at this
  simp only [Bool.and_eq_true, decide_eq_true_eq] at this
  exact ⟨this.1, this.2.1⟩
def cnts (c : CodeM) : List Int := [c.ins, c.outs, c.slots, c.crosses, c.lines]
theorem right_cnts {c : CodeM} (h : RightC c) : ∀ j, j < 5 → cntB ((cnts c).getD j 0) = true := by
  intro j hj
  match j, hj with
  | 0, _ => exact h.ins
  | 1, _ => exact h.outs
  | 2, _ => exact h.slots
  | 3, _ => exact h.crosses
  | 4, _ => exact h.lines
set_option maxHeartbeats 4000000 in
theorem right6_t (B : Nat) (c : CodeM) (v : CodeV) (w : World) (h : CodeIs w B c v) (hB : B ≤ w.heap.size) (hf : fewC c = true) : Calls Try.prog 10 #[.agg #[.int .i64 c.ins, .int .i64 c.outs, .int .i64 c.slots, .int .i64 c.crosses, .int .i64 c.lines, .slice v.mems.1 v.mems.2.1 v.mems.2.2, .slice v.conts.1 v.conts.2.1 v.conts.2.2, .slice v.step.1 v.step.2.1 v.step.2.2, .slice v.deriv.1 v.deriv.2.1 v.deriv.2.2, .slice v.cross.1 v.cross.2.1 v.cross.2.2]] w (RightPost c w) := by
  obtain ⟨W1, hW1⟩ : ∃ W1, W1 = (w.alloc (.cells #[.int .i64 c.ins, .int .i64 c.outs, .int .i64 c.slots, .int .i64 c.crosses, .int .i64 c.lines, .slice v.mems.1 v.mems.2.1 v.mems.2.2, .slice v.conts.1 v.conts.2.1 v.conts.2.2, .slice v.step.1 v.step.2.1 v.step.2.2, .slice v.deriv.1 v.deriv.2.1 v.deriv.2.2, .slice v.cross.1 v.cross.2.1 v.cross.2.2] 25)).alloc (.cells #[.int .i64 c.ins, .int .i64 c.outs, .int .i64 c.slots, .int .i64 c.crosses, .int .i64 c.lines] 3) := ⟨_, rfl⟩
  have HL := Lib.hid (show LwSt w c v W1 from by rw [hW1]; exact (LwSt.start (h.more hB)).later ((Below.refl _ _).alloc (Nat.le_refl _) _))
  have HFV := Lib.hid (show Blk W1 (w.heap.size + 1) 3 #[.int .i64 c.ins, .int .i64 c.outs, .int .i64 c.slots, .int .i64 c.crosses, .int .i64 c.lines] from by rw [hW1]; have h := Blk.new (w.alloc (.cells #[.int .i64 c.ins, .int .i64 c.outs, .int .i64 c.slots, .int .i64 c.crosses, .int .i64 c.lines, .slice v.mems.1 v.mems.2.1 v.mems.2.2, .slice v.conts.1 v.conts.2.1 v.conts.2.2, .slice v.step.1 v.step.2.1 v.step.2.2, .slice v.deriv.1 v.deriv.2.1 v.deriv.2.2, .slice v.cross.1 v.cross.2.1 v.cross.2.2] 25)) 3 #[.int .i64 c.ins, .int .i64 c.outs, .int .i64 c.slots, .int .i64 c.crosses, .int .i64 c.lines]; rw [size_alloc] at h; exact h)
  have HRW := Lib.hid (show IRow W1 W1.heap.size (some ⟨w.heap.size + 1, 0, none⟩) 5 5 (cnts c) from irow5 HFV.out)
  have HFS := Lib.hid (fewC_stepB hf)
  have HFX := Lib.hid (fewC_cross hf)
  clear h hB hf
  have hm1 := HL.out.is.step.len_le
  have hm2 := HL.out.is.deriv.len_le
  have hm3 := HL.out.is.cross.len_le
  unfold maxLen at hm1 hm2 hm3
  go_enter Try.func10, Try.ntmps10
  go_upto_region 2 with fail
  rw [← hW1]
  clear hW1
  obtain ⟨n0, n1, n2, n3, n4, n5, n6, n7, n8, n9⟩ := HL.out.blk.code
  go_wp2_with fail
  go_loop [4] (fun t => ∃ k : Nat, k ≤ 5 ∧ t = .int .i64 k ∧ Hid (∀ j, j < k → cntB ((cnts c).getD j 0) = true)) (fun t => 5 - (intOf t).toNat)
  case atStart => exact ⟨0, Nat.zero_le _, rfl, Lib.hid (fun j hj => by omega)⟩
  case round =>
    obtain ⟨k, hk, rfl, HA⟩ := hrel
    by_cases hlt : k < 5
    · obtain ⟨g, off, hga, hgl, hc0⟩ := HRW.out.at_ hlt
      obtain ⟨rfl, rfl⟩ : w.heap.size + 1 = g ∧ 0 = off := by injection hga with hga; injection hga with e1 e2; exact ⟨e1, e2⟩
      obtain ⟨X, hX⟩ : ∃ X, X = (cnts c).getD k 0 := ⟨_, rfl⟩
      rw [← hX, Nat.zero_add] at hc0
      have HXE := Lib.hid hX
      have hkI : (k : Int) < 5 := by omega
      clear hga hX
      by_cases h0 : X < 0
      · have g0 : decide (X < 0) = true := decide_eq_true h0
        have HNR : Hid (¬ RightC c) := Lib.hid (fun h => by have := right_cnts h k hlt; rw [← HXE.out] at this; unfold cntB at this; simp at this; omega)
        go_wp2_with fail
        go_ret
        exact ⟨false, rfl, ⟨(fun h => by cases h), (fun h => absurd h HNR.out)⟩, HL.out.old⟩
      have g0 : decide (X < 0) = false := decide_eq_false h0
      by_cases h1 : (65536 : Int) < X
      · have g1 : decide ((65536 : Int) < X) = true := decide_eq_true h1
        have HNR : Hid (¬ RightC c) := Lib.hid (fun h => by have := right_cnts h k hlt; rw [← HXE.out] at this; unfold cntB at this; simp at this; omega)
        go_wp2_with fail
        go_ret
        exact ⟨false, rfl, ⟨(fun h => by cases h), (fun h => absurd h HNR.out)⟩, HL.out.old⟩
      have g1 : decide ((65536 : Int) < X) = false := decide_eq_false h1
      have HXC : Hid (cntB X = true) := Lib.hid (by unfold cntB; simp; omega)
      go_wp2_with fail
      go_round
      case rel => exact ⟨k + 1, by omega, by go_num, Lib.hid (fun j hj => by
        rcases Nat.lt_or_ge j k with q | q
        · exact HA.out j q
        · obtain rfl : j = k := by omega
          rw [← HXE.out]; exact HXC.out)⟩
      case measure => simp [intOf]; omega
    · obtain rfl : k = 5 := by omega
      have HC5 := HA
      clear HA hlt hk
      go_wp2_with fail
      go_loopw [5] (fun t wr => ∃ k : Nat, k ≤ v.step.2.1 ∧ t = .int .i64 k ∧ Hid (OkS c k) ∧ Hid (LwSt w c v wr)) (fun t _ => v.step.2.1 - (intOf t).toNat)
      case atStart => exact ⟨0, Nat.zero_le _, rfl, Lib.hid (fun i x hi => by omega), HL⟩
      case round =>
        obtain ⟨k, hk, rfl, HO, HLr⟩ := hrel
        clear n0 n1 n2 n3 n4 n5 n6 n7 n8 n9
        obtain ⟨n0, n1, n2, n3, n4, n5, n6, n7, n8, n9⟩ := HLr.out.blk.code
        by_cases hlt : k < v.step.2.1
        · obtain ⟨x, hx⟩ := HLr.out.is.step.ex hlt
          have HX := Lib.hid hx
          have HZ := Lib.hid (HFS.out.2 x (List.mem_of_getElem? hx))
          have HST := Lib.hid (fun W (hL : LwSt w c v W) => step6_t w.heap.size c v W hL.is hL.old.size k (Nat.le_of_lt hlt) HO.out x HX.out HZ.out)
          have hkI : (k : Int) < (v.step.2.1 : Int) := by omega
          clear hx
          cases hs : stB c (wTo (c.step.take k)) x with
          | false =>
            have HS := Lib.hid hs
            clear hs
            rw [HS.out] at HST
            go_wp2_with (go_at_call 24; (with_reducible refine (HST.out _ HLr.out).mono ?_); rintro e w5 ⟨rfl, hb5⟩)
            go_ret
            exact ⟨false, rfl, ⟨(fun h => by cases h), (fun h => by have := h.step k x HX.out; rw [HS.out] at this; cases this)⟩, (HLr.out.later hb5).old⟩
          | true =>
            have HS := Lib.hid hs
            clear hs
            rw [HS.out] at HST
            go_wp2_with (go_at_call 24; (with_reducible refine (HST.out _ HLr.out).mono ?_); rintro e w5 ⟨rfl, hb5⟩)
            go_roundw
            case rel => exact ⟨k + 1, by omega, by go_num, Lib.hid (HO.out.next HX.out HS.out), Lib.hid (HLr.out.later hb5)⟩
            case measure => simp [intOf]; omega
        · obtain rfl : k = v.step.2.1 := by omega
          have HOS := HO
          have HL2 := HLr
          clear HO HLr hlt hk
          go_wp2_with fail
          go_loopw [6] (fun t wr => ∃ k : Nat, k ≤ v.deriv.2.1 ∧ t = .int .i64 k ∧ Hid (OkD c k) ∧ Hid (LwSt w c v wr)) (fun t _ => v.deriv.2.1 - (intOf t).toNat)
          case atStart => exact ⟨0, Nat.zero_le _, rfl, Lib.hid (fun i x hi => by omega), HL2⟩
          case round =>
            obtain ⟨k, hk, rfl, HO, HLr⟩ := hrel
            clear n0 n1 n2 n3 n4 n5 n6 n7 n8 n9
            obtain ⟨n0, n1, n2, n3, n4, n5, n6, n7, n8, n9⟩ := HLr.out.blk.code
            by_cases hlt : k < v.deriv.2.1
            · obtain ⟨x, hx⟩ := HLr.out.is.deriv.ex hlt
              obtain ⟨b, off0, ha, hbl, hat⟩ := HLr.out.is.deriv.at_ hx
              obtain ⟨off, hoff⟩ : ∃ off, off = off0 + k * 11 := ⟨_, rfl⟩
              rw [← hoff] at hat
              obtain ⟨a, m, d, r, hiw, _, _, _, x0, x1, x2, x3, x4, x5, x6, x7, x8, x9, x10⟩ := hat.cells
              have HX := Lib.hid hx
              have HIW := Lib.hid hiw
              have hbw : b < wr.heap.size := Nat.lt_of_lt_of_le hbl HLr.out.old.size
              have hkI : (k : Int) < (v.deriv.2.1 : Int) := by omega
              have HLd := Lib.hid (HLr.out.later (Below.refl _ _).drew)
              have HIWd := Lib.hid (HIW.out.keep (w' := wr.drew) (Below.refl _ _).drew)
              have HST := Lib.hid (deriv6_t w.heap.size c v wr.drew HLd.out.is HLd.out.old.size HOS.out x a m d r HIWd.out)
              rw [hoff] at x0 x1 x2 x3 x4 x5 x6 x7 x8 x9 x10
              clear hx hiw hat hbl hoff
              rw [ha] at n8 HST
              clear ha
              cases hs : drB c (wTo c.step) x with
              | false =>
                have HS := Lib.hid hs
                clear hs
                rw [HS.out] at HST
                go_wp2
                go_region_held3 (fun w' => w'.cell? ⟨w.heap.size, 0, none⟩ = some (.int .i64 c.ins) ∧ w'.cell? ⟨w.heap.size, 1, none⟩ = some (.int .i64 c.outs) ∧ w'.cell? ⟨w.heap.size, 2, none⟩ = some (.int .i64 c.slots) ∧ w'.cell? ⟨w.heap.size, 3, none⟩ = some (.int .i64 c.crosses) ∧ w'.cell? ⟨w.heap.size, 4, none⟩ = some (.int .i64 c.lines) ∧ w'.cell? ⟨w.heap.size, 5, none⟩ = some (.slice v.mems.1 v.mems.2.1 v.mems.2.2) ∧ w'.cell? ⟨w.heap.size, 6, none⟩ = some (.slice v.conts.1 v.conts.2.1 v.conts.2.2) ∧ w'.cell? ⟨w.heap.size, 7, none⟩ = some (.slice v.step.1 v.step.2.1 v.step.2.2) ∧ w'.cell? ⟨w.heap.size, 8, none⟩ = some (.slice (some ⟨b, off0, none⟩) v.deriv.2.1 v.deriv.2.2) ∧ w'.cell? ⟨w.heap.size, 9, none⟩ = some (.slice v.cross.1 v.cross.2.1 v.cross.2.2) ∧ w'.cell? ⟨b, off0 + k * 11, none⟩ = some (.string x.op) ∧ w'.cell? ⟨b, off0 + k * 11 + 1, none⟩ = some (.int .i64 x.dst) ∧ w'.cell? ⟨b, off0 + k * 11 + 2, none⟩ = some (.slice a.1 a.2.1 a.2.2) ∧ w'.cell? ⟨b, off0 + k * 11 + 3, none⟩ = some (.int .i64 x.k) ∧ w'.cell? ⟨b, off0 + k * 11 + 4, none⟩ = some (.int .i64 x.lit.kind) ∧ w'.cell? ⟨b, off0 + k * 11 + 5, none⟩ = some (.bool x.lit.neg) ∧ w'.cell? ⟨b, off0 + k * 11 + 6, none⟩ = some (.slice m.1 m.2.1 m.2.2) ∧ w'.cell? ⟨b, off0 + k * 11 + 7, none⟩ = some (.slice d.1 d.2.1 d.2.2) ∧ w'.cell? ⟨b, off0 + k * 11 + 8, none⟩ = some (.string x.lit.name) ∧ w'.cell? ⟨b, off0 + k * 11 + 9, none⟩ = some (.int .i64 x.guard) ∧ w'.cell? ⟨b, off0 + k * 11 + 10, none⟩ = some (.slice r.1 r.2.1 r.2.2)) (first | exact ⟨n0, n1, n2, n3, n4, n5, n6, n7, n8, n9, x0, x1, x2, x3, x4, x5, x6, x7, x8, x9, x10⟩ | exact HPa.out) (first
                  | (go_at_call 25; (with_reducible refine HST.out.mono ?_); rintro e w5 ⟨rfl, hb5⟩; have HL5 := Lib.hid (HLd.out.later hb5); have HPa := Lib.hid (show w5.cell? ⟨w.heap.size, 0, none⟩ = some (.int .i64 c.ins) ∧ w5.cell? ⟨w.heap.size, 1, none⟩ = some (.int .i64 c.outs) ∧ w5.cell? ⟨w.heap.size, 2, none⟩ = some (.int .i64 c.slots) ∧ w5.cell? ⟨w.heap.size, 3, none⟩ = some (.int .i64 c.crosses) ∧ w5.cell? ⟨w.heap.size, 4, none⟩ = some (.int .i64 c.lines) ∧ w5.cell? ⟨w.heap.size, 5, none⟩ = some (.slice v.mems.1 v.mems.2.1 v.mems.2.2) ∧ w5.cell? ⟨w.heap.size, 6, none⟩ = some (.slice v.conts.1 v.conts.2.1 v.conts.2.2) ∧ w5.cell? ⟨w.heap.size, 7, none⟩ = some (.slice v.step.1 v.step.2.1 v.step.2.2) ∧ w5.cell? ⟨w.heap.size, 8, none⟩ = some (.slice (some ⟨b, off0, none⟩) v.deriv.2.1 v.deriv.2.2) ∧ w5.cell? ⟨w.heap.size, 9, none⟩ = some (.slice v.cross.1 v.cross.2.1 v.cross.2.2) ∧ w5.cell? ⟨b, off0 + k * 11, none⟩ = some (.string x.op) ∧ w5.cell? ⟨b, off0 + k * 11 + 1, none⟩ = some (.int .i64 x.dst) ∧ w5.cell? ⟨b, off0 + k * 11 + 2, none⟩ = some (.slice a.1 a.2.1 a.2.2) ∧ w5.cell? ⟨b, off0 + k * 11 + 3, none⟩ = some (.int .i64 x.k) ∧ w5.cell? ⟨b, off0 + k * 11 + 4, none⟩ = some (.int .i64 x.lit.kind) ∧ w5.cell? ⟨b, off0 + k * 11 + 5, none⟩ = some (.bool x.lit.neg) ∧ w5.cell? ⟨b, off0 + k * 11 + 6, none⟩ = some (.slice m.1 m.2.1 m.2.2) ∧ w5.cell? ⟨b, off0 + k * 11 + 7, none⟩ = some (.slice d.1 d.2.1 d.2.2) ∧ w5.cell? ⟨b, off0 + k * 11 + 8, none⟩ = some (.string x.lit.name) ∧ w5.cell? ⟨b, off0 + k * 11 + 9, none⟩ = some (.int .i64 x.guard) ∧ w5.cell? ⟨b, off0 + k * 11 + 10, none⟩ = some (.slice r.1 r.2.1 r.2.2) from ⟨(hb5.cell (show w.heap.size < wr.drew.heap.size from HLd.out.blk.lt)).trans n0, (hb5.cell (show w.heap.size < wr.drew.heap.size from HLd.out.blk.lt)).trans n1, (hb5.cell (show w.heap.size < wr.drew.heap.size from HLd.out.blk.lt)).trans n2, (hb5.cell (show w.heap.size < wr.drew.heap.size from HLd.out.blk.lt)).trans n3, (hb5.cell (show w.heap.size < wr.drew.heap.size from HLd.out.blk.lt)).trans n4, (hb5.cell (show w.heap.size < wr.drew.heap.size from HLd.out.blk.lt)).trans n5, (hb5.cell (show w.heap.size < wr.drew.heap.size from HLd.out.blk.lt)).trans n6, (hb5.cell (show w.heap.size < wr.drew.heap.size from HLd.out.blk.lt)).trans n7, (hb5.cell (show w.heap.size < wr.drew.heap.size from HLd.out.blk.lt)).trans n8, (hb5.cell (show w.heap.size < wr.drew.heap.size from HLd.out.blk.lt)).trans n9, (hb5.cell (show b < wr.drew.heap.size from hbw)).trans x0, (hb5.cell (show b < wr.drew.heap.size from hbw)).trans x1, (hb5.cell (show b < wr.drew.heap.size from hbw)).trans x2, (hb5.cell (show b < wr.drew.heap.size from hbw)).trans x3, (hb5.cell (show b < wr.drew.heap.size from hbw)).trans x4, (hb5.cell (show b < wr.drew.heap.size from hbw)).trans x5, (hb5.cell (show b < wr.drew.heap.size from hbw)).trans x6, (hb5.cell (show b < wr.drew.heap.size from hbw)).trans x7, (hb5.cell (show b < wr.drew.heap.size from hbw)).trans x8, (hb5.cell (show b < wr.drew.heap.size from hbw)).trans x9, (hb5.cell (show b < wr.drew.heap.size from hbw)).trans x10⟩)))
                go_wp2
                go_ret
                exact ⟨false, rfl, ⟨(fun h => by cases h), (fun h => by have := h.deriv k x HX.out; rw [HS.out] at this; cases this)⟩, HL5.out.old⟩
              | true =>
                have HS := Lib.hid hs
                clear hs
                rw [HS.out] at HST
                go_wp2
                go_region_held3 (fun w' => w'.cell? ⟨w.heap.size, 0, none⟩ = some (.int .i64 c.ins) ∧ w'.cell? ⟨w.heap.size, 1, none⟩ = some (.int .i64 c.outs) ∧ w'.cell? ⟨w.heap.size, 2, none⟩ = some (.int .i64 c.slots) ∧ w'.cell? ⟨w.heap.size, 3, none⟩ = some (.int .i64 c.crosses) ∧ w'.cell? ⟨w.heap.size, 4, none⟩ = some (.int .i64 c.lines) ∧ w'.cell? ⟨w.heap.size, 5, none⟩ = some (.slice v.mems.1 v.mems.2.1 v.mems.2.2) ∧ w'.cell? ⟨w.heap.size, 6, none⟩ = some (.slice v.conts.1 v.conts.2.1 v.conts.2.2) ∧ w'.cell? ⟨w.heap.size, 7, none⟩ = some (.slice v.step.1 v.step.2.1 v.step.2.2) ∧ w'.cell? ⟨w.heap.size, 8, none⟩ = some (.slice (some ⟨b, off0, none⟩) v.deriv.2.1 v.deriv.2.2) ∧ w'.cell? ⟨w.heap.size, 9, none⟩ = some (.slice v.cross.1 v.cross.2.1 v.cross.2.2) ∧ w'.cell? ⟨b, off0 + k * 11, none⟩ = some (.string x.op) ∧ w'.cell? ⟨b, off0 + k * 11 + 1, none⟩ = some (.int .i64 x.dst) ∧ w'.cell? ⟨b, off0 + k * 11 + 2, none⟩ = some (.slice a.1 a.2.1 a.2.2) ∧ w'.cell? ⟨b, off0 + k * 11 + 3, none⟩ = some (.int .i64 x.k) ∧ w'.cell? ⟨b, off0 + k * 11 + 4, none⟩ = some (.int .i64 x.lit.kind) ∧ w'.cell? ⟨b, off0 + k * 11 + 5, none⟩ = some (.bool x.lit.neg) ∧ w'.cell? ⟨b, off0 + k * 11 + 6, none⟩ = some (.slice m.1 m.2.1 m.2.2) ∧ w'.cell? ⟨b, off0 + k * 11 + 7, none⟩ = some (.slice d.1 d.2.1 d.2.2) ∧ w'.cell? ⟨b, off0 + k * 11 + 8, none⟩ = some (.string x.lit.name) ∧ w'.cell? ⟨b, off0 + k * 11 + 9, none⟩ = some (.int .i64 x.guard) ∧ w'.cell? ⟨b, off0 + k * 11 + 10, none⟩ = some (.slice r.1 r.2.1 r.2.2)) (first | exact ⟨n0, n1, n2, n3, n4, n5, n6, n7, n8, n9, x0, x1, x2, x3, x4, x5, x6, x7, x8, x9, x10⟩ | exact HPa.out) (first
                  | (go_at_call 25; (with_reducible refine HST.out.mono ?_); rintro e w5 ⟨rfl, hb5⟩; have HL5 := Lib.hid (HLd.out.later hb5); have HPa := Lib.hid (show w5.cell? ⟨w.heap.size, 0, none⟩ = some (.int .i64 c.ins) ∧ w5.cell? ⟨w.heap.size, 1, none⟩ = some (.int .i64 c.outs) ∧ w5.cell? ⟨w.heap.size, 2, none⟩ = some (.int .i64 c.slots) ∧ w5.cell? ⟨w.heap.size, 3, none⟩ = some (.int .i64 c.crosses) ∧ w5.cell? ⟨w.heap.size, 4, none⟩ = some (.int .i64 c.lines) ∧ w5.cell? ⟨w.heap.size, 5, none⟩ = some (.slice v.mems.1 v.mems.2.1 v.mems.2.2) ∧ w5.cell? ⟨w.heap.size, 6, none⟩ = some (.slice v.conts.1 v.conts.2.1 v.conts.2.2) ∧ w5.cell? ⟨w.heap.size, 7, none⟩ = some (.slice v.step.1 v.step.2.1 v.step.2.2) ∧ w5.cell? ⟨w.heap.size, 8, none⟩ = some (.slice (some ⟨b, off0, none⟩) v.deriv.2.1 v.deriv.2.2) ∧ w5.cell? ⟨w.heap.size, 9, none⟩ = some (.slice v.cross.1 v.cross.2.1 v.cross.2.2) ∧ w5.cell? ⟨b, off0 + k * 11, none⟩ = some (.string x.op) ∧ w5.cell? ⟨b, off0 + k * 11 + 1, none⟩ = some (.int .i64 x.dst) ∧ w5.cell? ⟨b, off0 + k * 11 + 2, none⟩ = some (.slice a.1 a.2.1 a.2.2) ∧ w5.cell? ⟨b, off0 + k * 11 + 3, none⟩ = some (.int .i64 x.k) ∧ w5.cell? ⟨b, off0 + k * 11 + 4, none⟩ = some (.int .i64 x.lit.kind) ∧ w5.cell? ⟨b, off0 + k * 11 + 5, none⟩ = some (.bool x.lit.neg) ∧ w5.cell? ⟨b, off0 + k * 11 + 6, none⟩ = some (.slice m.1 m.2.1 m.2.2) ∧ w5.cell? ⟨b, off0 + k * 11 + 7, none⟩ = some (.slice d.1 d.2.1 d.2.2) ∧ w5.cell? ⟨b, off0 + k * 11 + 8, none⟩ = some (.string x.lit.name) ∧ w5.cell? ⟨b, off0 + k * 11 + 9, none⟩ = some (.int .i64 x.guard) ∧ w5.cell? ⟨b, off0 + k * 11 + 10, none⟩ = some (.slice r.1 r.2.1 r.2.2) from ⟨(hb5.cell (show w.heap.size < wr.drew.heap.size from HLd.out.blk.lt)).trans n0, (hb5.cell (show w.heap.size < wr.drew.heap.size from HLd.out.blk.lt)).trans n1, (hb5.cell (show w.heap.size < wr.drew.heap.size from HLd.out.blk.lt)).trans n2, (hb5.cell (show w.heap.size < wr.drew.heap.size from HLd.out.blk.lt)).trans n3, (hb5.cell (show w.heap.size < wr.drew.heap.size from HLd.out.blk.lt)).trans n4, (hb5.cell (show w.heap.size < wr.drew.heap.size from HLd.out.blk.lt)).trans n5, (hb5.cell (show w.heap.size < wr.drew.heap.size from HLd.out.blk.lt)).trans n6, (hb5.cell (show w.heap.size < wr.drew.heap.size from HLd.out.blk.lt)).trans n7, (hb5.cell (show w.heap.size < wr.drew.heap.size from HLd.out.blk.lt)).trans n8, (hb5.cell (show w.heap.size < wr.drew.heap.size from HLd.out.blk.lt)).trans n9, (hb5.cell (show b < wr.drew.heap.size from hbw)).trans x0, (hb5.cell (show b < wr.drew.heap.size from hbw)).trans x1, (hb5.cell (show b < wr.drew.heap.size from hbw)).trans x2, (hb5.cell (show b < wr.drew.heap.size from hbw)).trans x3, (hb5.cell (show b < wr.drew.heap.size from hbw)).trans x4, (hb5.cell (show b < wr.drew.heap.size from hbw)).trans x5, (hb5.cell (show b < wr.drew.heap.size from hbw)).trans x6, (hb5.cell (show b < wr.drew.heap.size from hbw)).trans x7, (hb5.cell (show b < wr.drew.heap.size from hbw)).trans x8, (hb5.cell (show b < wr.drew.heap.size from hbw)).trans x9, (hb5.cell (show b < wr.drew.heap.size from hbw)).trans x10⟩)))
                go_wp2
                go_roundw
                case rel => exact ⟨k + 1, by omega, by go_num, Lib.hid (HO.out.next HX.out HS.out), HL5⟩
                case measure => simp [intOf]; omega
            · obtain rfl : k = v.deriv.2.1 := by omega
              have HOD := HO
              have HL3 := HLr
              clear HO HLr hlt hk
              go_wp2_with fail
              go_loopw [7] (fun t wr => ∃ k : Nat, k ≤ v.cross.2.1 ∧ t = .int .i64 k ∧ Hid (OkX c k) ∧ Hid (LwSt w c v wr)) (fun t _ => v.cross.2.1 - (intOf t).toNat)
              case atStart => exact ⟨0, Nat.zero_le _, rfl, Lib.hid (fun i x hi => by omega), HL3⟩
              case round =>
                obtain ⟨k, hk, rfl, HO, HLr⟩ := hrel
                clear n0 n1 n2 n3 n4 n5 n6 n7 n8 n9
                obtain ⟨n0, n1, n2, n3, n4, n5, n6, n7, n8, n9⟩ := HLr.out.blk.code
                by_cases hlt : k < v.cross.2.1
                · obtain ⟨x, hx⟩ := HLr.out.is.cross.ex hlt
                  have HX := Lib.hid hx
                  have HZ := Lib.hid (HFX.out.2 x (List.mem_of_getElem? hx))
                  have HST := Lib.hid (fun W (hL : LwSt w c v W) => cross6_t w.heap.size c v W hL.is hL.old.size HOS.out k (Nat.le_of_lt hlt) x HX.out HZ.out)
                  have hkI : (k : Int) < (v.cross.2.1 : Int) := by omega
                  clear hx
                  cases hs : crB c (wTo c.step) (lTo (c.cross.take k)) x with
                  | false =>
                    have HS := Lib.hid hs
                    clear hs
                    rw [HS.out] at HST
                    go_wp2_with (go_at_call 26; (with_reducible refine (HST.out _ HLr.out).mono ?_); rintro e w5 ⟨rfl, hb5⟩)
                    go_ret
                    exact ⟨false, rfl, ⟨(fun h => by cases h), (fun h => by have := h.cross k x HX.out; rw [HS.out] at this; cases this)⟩, (HLr.out.later hb5).old⟩
                  | true =>
                    have HS := Lib.hid hs
                    clear hs
                    rw [HS.out] at HST
                    go_wp2_with (go_at_call 26; (with_reducible refine (HST.out _ HLr.out).mono ?_); rintro e w5 ⟨rfl, hb5⟩)
                    go_roundw
                    case rel => exact ⟨k + 1, by omega, by go_num, Lib.hid (HO.out.next HX.out HS.out), Lib.hid (HLr.out.later hb5)⟩
                    case measure => simp [intOf]; omega
                · obtain rfl : k = v.cross.2.1 := by omega
                  go_wp2
                  go_ret
                  exact ⟨true, rfl, ⟨(fun _ => ⟨HC5.out 0 (by omega), HC5.out 1 (by omega), HC5.out 2 (by omega), HC5.out 3 (by omega), HC5.out 4 (by omega), (OkS_all HLr.out.is.step.1).1 HOS.out, (OkD_all HLr.out.is.deriv.1).1 HOD.out, (OkX_all HLr.out.is.cross.1).1 HO.out⟩), (fun _ => rfl)⟩, HLr.out.old⟩
theorem right6_b (B : Nat) (b : Bool) (c : CodeM) (v : CodeV) (w : World) (h : CodeIs w B c v) (hB : B ≤ w.heap.size) (hf : fewC c = true) (hr : b = true ↔ RightC c) : Calls Try.prog 10 #[.agg #[.int .i64 c.ins, .int .i64 c.outs, .int .i64 c.slots, .int .i64 c.crosses, .int .i64 c.lines, .slice v.mems.1 v.mems.2.1 v.mems.2.2, .slice v.conts.1 v.conts.2.1 v.conts.2.2, .slice v.step.1 v.step.2.1 v.step.2.2, .slice v.deriv.1 v.deriv.2.1 v.deriv.2.2, .slice v.cross.1 v.cross.2.1 v.cross.2.2]] w fun e w' => e = .returned (.bool b) ∧ Below w.heap.size w w' :=
  (right6_t B c v w h hB hf).mono fun e w' ⟨b', h1, h2, h3⟩ => ⟨by rw [h1, show b' = b from by rw [Bool.eq_iff_iff]; exact h2.trans hr.symm], h3⟩
theorem right_b (B : Nat) (b : Bool) (c : CodeM) (v : CodeV) (w : World) (h : CodeIs w B c v) (hB : B ≤ w.heap.size) (hr : b = true ↔ RightC c) : Calls Try.prog 9 #[.agg #[.int .i64 c.ins, .int .i64 c.outs, .int .i64 c.slots, .int .i64 c.crosses, .int .i64 c.lines, .slice v.mems.1 v.mems.2.1 v.mems.2.2, .slice v.conts.1 v.conts.2.1 v.conts.2.2, .slice v.step.1 v.step.2.1 v.step.2.2, .slice v.deriv.1 v.deriv.2.1 v.deriv.2.2, .slice v.cross.1 v.cross.2.1 v.cross.2.2]] w fun e w' => e = .returned (.bool b) ∧ Below w.heap.size w w' :=
  (right_t B c v w h hB).mono fun e w' ⟨b', h1, h2, h3⟩ => ⟨by rw [h1, show b' = b from by rw [Bool.eq_iff_iff]; exact h2.trans hr.symm], h3⟩
set_option maxHeartbeats 4000000 in
theorem sri_1 (c : CodeM) (v : CodeV) (w : World) (h : CodeIs w w.heap.size c v) (hf : fewC c = false) : Calls Try.prog 3 #[codeV c v] w (LawPost w) := by
  obtain ⟨W1, hW1⟩ : ∃ W1, W1 = w.alloc (.cells #[.int .i64 c.ins, .int .i64 c.outs, .int .i64 c.slots, .int .i64 c.crosses, .int .i64 c.lines, .slice v.mems.1 v.mems.2.1 v.mems.2.2, .slice v.conts.1 v.conts.2.1 v.conts.2.2, .slice v.step.1 v.step.2.1 v.step.2.2, .slice v.deriv.1 v.deriv.2.1 v.deriv.2.2, .slice v.cross.1 v.cross.2.1 v.cross.2.2] 25) := ⟨_, rfl⟩
  have HL := Lib.hid (show LwSt w c v W1 from by rw [hW1]; exact LwSt.start h)
  clear h
  unfold codeV
  have HF := Lib.hid hf
  clear hf
  obtain ⟨n0, n1, n2, n3, n4, n5, n6, n7, n8, n9⟩ := HL.out.blk.code
  go_enter Try.func3, Try.ntmps3
  go_upto_region 1 with fail
  rw [← hW1]
  clear hW1
  go_wp2_with (go_at_call 8; (with_reducible refine (few_b w.heap.size false c v _ HL.out.is HL.out.old.size HF.out).mono ?_); rintro e w2 ⟨rfl, hb2⟩; have HL := Lib.hid (HL.out.later hb2); clear hb2 n0 n1 n2 n3 n4 n5 n6 n7 n8 n9; obtain ⟨n0, n1, n2, n3, n4, n5, n6, n7, n8, n9⟩ := HL.out.blk.code)
  go_ret
  exact ⟨rfl, HL.out.old⟩
set_option maxHeartbeats 4000000 in
theorem sri_true (c : CodeM) (v : CodeV) (w : World) (h : CodeIs w w.heap.size c v) (hf : fewC c = true) (hr : true = true ↔ RightC c) : Calls Try.prog 3 #[codeV c v] w (LawPost w) := by
  obtain ⟨W1, hW1⟩ : ∃ W1, W1 = w.alloc (.cells #[.int .i64 c.ins, .int .i64 c.outs, .int .i64 c.slots, .int .i64 c.crosses, .int .i64 c.lines, .slice v.mems.1 v.mems.2.1 v.mems.2.2, .slice v.conts.1 v.conts.2.1 v.conts.2.2, .slice v.step.1 v.step.2.1 v.step.2.2, .slice v.deriv.1 v.deriv.2.1 v.deriv.2.2, .slice v.cross.1 v.cross.2.1 v.cross.2.2] 25) := ⟨_, rfl⟩
  have HL := Lib.hid (show LwSt w c v W1 from by rw [hW1]; exact LwSt.start h)
  clear h
  unfold codeV
  have HF := Lib.hid hf
  have HRC := Lib.hid hr
  clear hf hr
  obtain ⟨n0, n1, n2, n3, n4, n5, n6, n7, n8, n9⟩ := HL.out.blk.code
  go_enter Try.func3, Try.ntmps3
  go_upto_region 1 with fail
  rw [← hW1]
  clear hW1
  go_upto_region 3 with (go_at_call 8; (with_reducible refine (few_b w.heap.size true c v _ HL.out.is HL.out.old.size HF.out).mono ?_); rintro e w2 ⟨rfl, hb2⟩; have HL := Lib.hid (HL.out.later hb2); clear hb2 n0 n1 n2 n3 n4 n5 n6 n7 n8 n9; obtain ⟨n0, n1, n2, n3, n4, n5, n6, n7, n8, n9⟩ := HL.out.blk.code)
  have HL := Lib.hid (HL.out.later (Below.refl _ _).drew)
  have HP := Lib.hid (show w2.drew.cell? ⟨w.heap.size, 0, none⟩ = some (.int .i64 c.ins) ∧ w2.drew.cell? ⟨w.heap.size, 1, none⟩ = some (.int .i64 c.outs) ∧ w2.drew.cell? ⟨w.heap.size, 2, none⟩ = some (.int .i64 c.slots) ∧ w2.drew.cell? ⟨w.heap.size, 3, none⟩ = some (.int .i64 c.crosses) ∧ w2.drew.cell? ⟨w.heap.size, 4, none⟩ = some (.int .i64 c.lines) ∧ w2.drew.cell? ⟨w.heap.size, 5, none⟩ = some (.slice v.mems.1 v.mems.2.1 v.mems.2.2) ∧ w2.drew.cell? ⟨w.heap.size, 6, none⟩ = some (.slice v.conts.1 v.conts.2.1 v.conts.2.2) ∧ w2.drew.cell? ⟨w.heap.size, 7, none⟩ = some (.slice v.step.1 v.step.2.1 v.step.2.2) ∧ w2.drew.cell? ⟨w.heap.size, 8, none⟩ = some (.slice v.deriv.1 v.deriv.2.1 v.deriv.2.2) ∧ w2.drew.cell? ⟨w.heap.size, 9, none⟩ = some (.slice v.cross.1 v.cross.2.1 v.cross.2.2) from ⟨HL.out.blk.cell 0 rfl, HL.out.blk.cell 1 rfl, HL.out.blk.cell 2 rfl, HL.out.blk.cell 3 rfl, HL.out.blk.cell 4 rfl, HL.out.blk.cell 5 rfl, HL.out.blk.cell 6 rfl, HL.out.blk.cell 7 rfl, HL.out.blk.cell 8 rfl, HL.out.blk.cell 9 rfl⟩)
  clear n0 n1 n2 n3 n4 n5 n6 n7 n8 n9
  go_region_held3 (fun w' => w'.cell? ⟨w.heap.size, 0, none⟩ = some (.int .i64 c.ins) ∧ w'.cell? ⟨w.heap.size, 1, none⟩ = some (.int .i64 c.outs) ∧ w'.cell? ⟨w.heap.size, 2, none⟩ = some (.int .i64 c.slots) ∧ w'.cell? ⟨w.heap.size, 3, none⟩ = some (.int .i64 c.crosses) ∧ w'.cell? ⟨w.heap.size, 4, none⟩ = some (.int .i64 c.lines) ∧ w'.cell? ⟨w.heap.size, 5, none⟩ = some (.slice v.mems.1 v.mems.2.1 v.mems.2.2) ∧ w'.cell? ⟨w.heap.size, 6, none⟩ = some (.slice v.conts.1 v.conts.2.1 v.conts.2.2) ∧ w'.cell? ⟨w.heap.size, 7, none⟩ = some (.slice v.step.1 v.step.2.1 v.step.2.2) ∧ w'.cell? ⟨w.heap.size, 8, none⟩ = some (.slice v.deriv.1 v.deriv.2.1 v.deriv.2.2) ∧ w'.cell? ⟨w.heap.size, 9, none⟩ = some (.slice v.cross.1 v.cross.2.1 v.cross.2.2)) (exact HP.out) (first
    | (go_at_call 9; (with_reducible refine (right_b w.heap.size true c v _ HL.out.is HL.out.old.size (by simpa using HRC.out)).mono ?_); rintro e w5 ⟨rfl, hb5⟩; replace HL := Lib.hid (HL.out.later hb5); replace HP := Lib.hid (show w5.cell? ⟨w.heap.size, 0, none⟩ = some (.int .i64 c.ins) ∧ w5.cell? ⟨w.heap.size, 1, none⟩ = some (.int .i64 c.outs) ∧ w5.cell? ⟨w.heap.size, 2, none⟩ = some (.int .i64 c.slots) ∧ w5.cell? ⟨w.heap.size, 3, none⟩ = some (.int .i64 c.crosses) ∧ w5.cell? ⟨w.heap.size, 4, none⟩ = some (.int .i64 c.lines) ∧ w5.cell? ⟨w.heap.size, 5, none⟩ = some (.slice v.mems.1 v.mems.2.1 v.mems.2.2) ∧ w5.cell? ⟨w.heap.size, 6, none⟩ = some (.slice v.conts.1 v.conts.2.1 v.conts.2.2) ∧ w5.cell? ⟨w.heap.size, 7, none⟩ = some (.slice v.step.1 v.step.2.1 v.step.2.2) ∧ w5.cell? ⟨w.heap.size, 8, none⟩ = some (.slice v.deriv.1 v.deriv.2.1 v.deriv.2.2) ∧ w5.cell? ⟨w.heap.size, 9, none⟩ = some (.slice v.cross.1 v.cross.2.1 v.cross.2.2) from ⟨HL.out.blk.cell 0 rfl, HL.out.blk.cell 1 rfl, HL.out.blk.cell 2 rfl, HL.out.blk.cell 3 rfl, HL.out.blk.cell 4 rfl, HL.out.blk.cell 5 rfl, HL.out.blk.cell 6 rfl, HL.out.blk.cell 7 rfl, HL.out.blk.cell 8 rfl, HL.out.blk.cell 9 rfl⟩); clear hb5)
    | (go_at_call 10; (with_reducible refine (right6_b w.heap.size true c v _ HL.out.is HL.out.old.size HF.out (by simpa using HRC.out)).mono ?_); rintro e w6 ⟨rfl, hb6⟩; replace HL := Lib.hid (HL.out.later hb6); replace HP := Lib.hid (show w6.cell? ⟨w.heap.size, 0, none⟩ = some (.int .i64 c.ins) ∧ w6.cell? ⟨w.heap.size, 1, none⟩ = some (.int .i64 c.outs) ∧ w6.cell? ⟨w.heap.size, 2, none⟩ = some (.int .i64 c.slots) ∧ w6.cell? ⟨w.heap.size, 3, none⟩ = some (.int .i64 c.crosses) ∧ w6.cell? ⟨w.heap.size, 4, none⟩ = some (.int .i64 c.lines) ∧ w6.cell? ⟨w.heap.size, 5, none⟩ = some (.slice v.mems.1 v.mems.2.1 v.mems.2.2) ∧ w6.cell? ⟨w.heap.size, 6, none⟩ = some (.slice v.conts.1 v.conts.2.1 v.conts.2.2) ∧ w6.cell? ⟨w.heap.size, 7, none⟩ = some (.slice v.step.1 v.step.2.1 v.step.2.2) ∧ w6.cell? ⟨w.heap.size, 8, none⟩ = some (.slice v.deriv.1 v.deriv.2.1 v.deriv.2.2) ∧ w6.cell? ⟨w.heap.size, 9, none⟩ = some (.slice v.cross.1 v.cross.2.1 v.cross.2.2) from ⟨HL.out.blk.cell 0 rfl, HL.out.blk.cell 1 rfl, HL.out.blk.cell 2 rfl, HL.out.blk.cell 3 rfl, HL.out.blk.cell 4 rfl, HL.out.blk.cell 5 rfl, HL.out.blk.cell 6 rfl, HL.out.blk.cell 7 rfl, HL.out.blk.cell 8 rfl, HL.out.blk.cell 9 rfl⟩); clear hb6)
    | (go_at_call 11; refine (awake_t _).mono ?_; rintro e w4 ⟨rfl, hb4⟩; replace HL := Lib.hid (HL.out.later hb4); replace HP := Lib.hid (show w4.cell? ⟨w.heap.size, 0, none⟩ = some (.int .i64 c.ins) ∧ w4.cell? ⟨w.heap.size, 1, none⟩ = some (.int .i64 c.outs) ∧ w4.cell? ⟨w.heap.size, 2, none⟩ = some (.int .i64 c.slots) ∧ w4.cell? ⟨w.heap.size, 3, none⟩ = some (.int .i64 c.crosses) ∧ w4.cell? ⟨w.heap.size, 4, none⟩ = some (.int .i64 c.lines) ∧ w4.cell? ⟨w.heap.size, 5, none⟩ = some (.slice v.mems.1 v.mems.2.1 v.mems.2.2) ∧ w4.cell? ⟨w.heap.size, 6, none⟩ = some (.slice v.conts.1 v.conts.2.1 v.conts.2.2) ∧ w4.cell? ⟨w.heap.size, 7, none⟩ = some (.slice v.step.1 v.step.2.1 v.step.2.2) ∧ w4.cell? ⟨w.heap.size, 8, none⟩ = some (.slice v.deriv.1 v.deriv.2.1 v.deriv.2.2) ∧ w4.cell? ⟨w.heap.size, 9, none⟩ = some (.slice v.cross.1 v.cross.2.1 v.cross.2.2) from ⟨HL.out.blk.cell 0 rfl, HL.out.blk.cell 1 rfl, HL.out.blk.cell 2 rfl, HL.out.blk.cell 3 rfl, HL.out.blk.cell 4 rfl, HL.out.blk.cell 5 rfl, HL.out.blk.cell 6 rfl, HL.out.blk.cell 7 rfl, HL.out.blk.cell 8 rfl, HL.out.blk.cell 9 rfl⟩); clear hb4))
  all_goals
    go_wp2
    go_ret
    exact ⟨rfl, HL.out.old⟩
set_option maxHeartbeats 4000000 in
theorem sri_false (c : CodeM) (v : CodeV) (w : World) (h : CodeIs w w.heap.size c v) (hf : fewC c = true) (hr : false = true ↔ RightC c) : Calls Try.prog 3 #[codeV c v] w (LawPost w) := by
  obtain ⟨W1, hW1⟩ : ∃ W1, W1 = w.alloc (.cells #[.int .i64 c.ins, .int .i64 c.outs, .int .i64 c.slots, .int .i64 c.crosses, .int .i64 c.lines, .slice v.mems.1 v.mems.2.1 v.mems.2.2, .slice v.conts.1 v.conts.2.1 v.conts.2.2, .slice v.step.1 v.step.2.1 v.step.2.2, .slice v.deriv.1 v.deriv.2.1 v.deriv.2.2, .slice v.cross.1 v.cross.2.1 v.cross.2.2] 25) := ⟨_, rfl⟩
  have HL := Lib.hid (show LwSt w c v W1 from by rw [hW1]; exact LwSt.start h)
  clear h
  unfold codeV
  have HF := Lib.hid hf
  have HRC := Lib.hid hr
  clear hf hr
  obtain ⟨n0, n1, n2, n3, n4, n5, n6, n7, n8, n9⟩ := HL.out.blk.code
  go_enter Try.func3, Try.ntmps3
  go_upto_region 1 with fail
  rw [← hW1]
  clear hW1
  go_upto_region 3 with (go_at_call 8; (with_reducible refine (few_b w.heap.size true c v _ HL.out.is HL.out.old.size HF.out).mono ?_); rintro e w2 ⟨rfl, hb2⟩; have HL := Lib.hid (HL.out.later hb2); clear hb2 n0 n1 n2 n3 n4 n5 n6 n7 n8 n9; obtain ⟨n0, n1, n2, n3, n4, n5, n6, n7, n8, n9⟩ := HL.out.blk.code)
  have HL := Lib.hid (HL.out.later (Below.refl _ _).drew)
  have HP := Lib.hid (show w2.drew.cell? ⟨w.heap.size, 0, none⟩ = some (.int .i64 c.ins) ∧ w2.drew.cell? ⟨w.heap.size, 1, none⟩ = some (.int .i64 c.outs) ∧ w2.drew.cell? ⟨w.heap.size, 2, none⟩ = some (.int .i64 c.slots) ∧ w2.drew.cell? ⟨w.heap.size, 3, none⟩ = some (.int .i64 c.crosses) ∧ w2.drew.cell? ⟨w.heap.size, 4, none⟩ = some (.int .i64 c.lines) ∧ w2.drew.cell? ⟨w.heap.size, 5, none⟩ = some (.slice v.mems.1 v.mems.2.1 v.mems.2.2) ∧ w2.drew.cell? ⟨w.heap.size, 6, none⟩ = some (.slice v.conts.1 v.conts.2.1 v.conts.2.2) ∧ w2.drew.cell? ⟨w.heap.size, 7, none⟩ = some (.slice v.step.1 v.step.2.1 v.step.2.2) ∧ w2.drew.cell? ⟨w.heap.size, 8, none⟩ = some (.slice v.deriv.1 v.deriv.2.1 v.deriv.2.2) ∧ w2.drew.cell? ⟨w.heap.size, 9, none⟩ = some (.slice v.cross.1 v.cross.2.1 v.cross.2.2) from ⟨HL.out.blk.cell 0 rfl, HL.out.blk.cell 1 rfl, HL.out.blk.cell 2 rfl, HL.out.blk.cell 3 rfl, HL.out.blk.cell 4 rfl, HL.out.blk.cell 5 rfl, HL.out.blk.cell 6 rfl, HL.out.blk.cell 7 rfl, HL.out.blk.cell 8 rfl, HL.out.blk.cell 9 rfl⟩)
  clear n0 n1 n2 n3 n4 n5 n6 n7 n8 n9
  go_region_held3 (fun w' => w'.cell? ⟨w.heap.size, 0, none⟩ = some (.int .i64 c.ins) ∧ w'.cell? ⟨w.heap.size, 1, none⟩ = some (.int .i64 c.outs) ∧ w'.cell? ⟨w.heap.size, 2, none⟩ = some (.int .i64 c.slots) ∧ w'.cell? ⟨w.heap.size, 3, none⟩ = some (.int .i64 c.crosses) ∧ w'.cell? ⟨w.heap.size, 4, none⟩ = some (.int .i64 c.lines) ∧ w'.cell? ⟨w.heap.size, 5, none⟩ = some (.slice v.mems.1 v.mems.2.1 v.mems.2.2) ∧ w'.cell? ⟨w.heap.size, 6, none⟩ = some (.slice v.conts.1 v.conts.2.1 v.conts.2.2) ∧ w'.cell? ⟨w.heap.size, 7, none⟩ = some (.slice v.step.1 v.step.2.1 v.step.2.2) ∧ w'.cell? ⟨w.heap.size, 8, none⟩ = some (.slice v.deriv.1 v.deriv.2.1 v.deriv.2.2) ∧ w'.cell? ⟨w.heap.size, 9, none⟩ = some (.slice v.cross.1 v.cross.2.1 v.cross.2.2)) (exact HP.out) (first
    | (go_at_call 9; (with_reducible refine (right_b w.heap.size false c v _ HL.out.is HL.out.old.size (by simpa using HRC.out)).mono ?_); rintro e w5 ⟨rfl, hb5⟩; replace HL := Lib.hid (HL.out.later hb5); replace HP := Lib.hid (show w5.cell? ⟨w.heap.size, 0, none⟩ = some (.int .i64 c.ins) ∧ w5.cell? ⟨w.heap.size, 1, none⟩ = some (.int .i64 c.outs) ∧ w5.cell? ⟨w.heap.size, 2, none⟩ = some (.int .i64 c.slots) ∧ w5.cell? ⟨w.heap.size, 3, none⟩ = some (.int .i64 c.crosses) ∧ w5.cell? ⟨w.heap.size, 4, none⟩ = some (.int .i64 c.lines) ∧ w5.cell? ⟨w.heap.size, 5, none⟩ = some (.slice v.mems.1 v.mems.2.1 v.mems.2.2) ∧ w5.cell? ⟨w.heap.size, 6, none⟩ = some (.slice v.conts.1 v.conts.2.1 v.conts.2.2) ∧ w5.cell? ⟨w.heap.size, 7, none⟩ = some (.slice v.step.1 v.step.2.1 v.step.2.2) ∧ w5.cell? ⟨w.heap.size, 8, none⟩ = some (.slice v.deriv.1 v.deriv.2.1 v.deriv.2.2) ∧ w5.cell? ⟨w.heap.size, 9, none⟩ = some (.slice v.cross.1 v.cross.2.1 v.cross.2.2) from ⟨HL.out.blk.cell 0 rfl, HL.out.blk.cell 1 rfl, HL.out.blk.cell 2 rfl, HL.out.blk.cell 3 rfl, HL.out.blk.cell 4 rfl, HL.out.blk.cell 5 rfl, HL.out.blk.cell 6 rfl, HL.out.blk.cell 7 rfl, HL.out.blk.cell 8 rfl, HL.out.blk.cell 9 rfl⟩); clear hb5)
    | (go_at_call 10; (with_reducible refine (right6_b w.heap.size false c v _ HL.out.is HL.out.old.size HF.out (by simpa using HRC.out)).mono ?_); rintro e w6 ⟨rfl, hb6⟩; replace HL := Lib.hid (HL.out.later hb6); replace HP := Lib.hid (show w6.cell? ⟨w.heap.size, 0, none⟩ = some (.int .i64 c.ins) ∧ w6.cell? ⟨w.heap.size, 1, none⟩ = some (.int .i64 c.outs) ∧ w6.cell? ⟨w.heap.size, 2, none⟩ = some (.int .i64 c.slots) ∧ w6.cell? ⟨w.heap.size, 3, none⟩ = some (.int .i64 c.crosses) ∧ w6.cell? ⟨w.heap.size, 4, none⟩ = some (.int .i64 c.lines) ∧ w6.cell? ⟨w.heap.size, 5, none⟩ = some (.slice v.mems.1 v.mems.2.1 v.mems.2.2) ∧ w6.cell? ⟨w.heap.size, 6, none⟩ = some (.slice v.conts.1 v.conts.2.1 v.conts.2.2) ∧ w6.cell? ⟨w.heap.size, 7, none⟩ = some (.slice v.step.1 v.step.2.1 v.step.2.2) ∧ w6.cell? ⟨w.heap.size, 8, none⟩ = some (.slice v.deriv.1 v.deriv.2.1 v.deriv.2.2) ∧ w6.cell? ⟨w.heap.size, 9, none⟩ = some (.slice v.cross.1 v.cross.2.1 v.cross.2.2) from ⟨HL.out.blk.cell 0 rfl, HL.out.blk.cell 1 rfl, HL.out.blk.cell 2 rfl, HL.out.blk.cell 3 rfl, HL.out.blk.cell 4 rfl, HL.out.blk.cell 5 rfl, HL.out.blk.cell 6 rfl, HL.out.blk.cell 7 rfl, HL.out.blk.cell 8 rfl, HL.out.blk.cell 9 rfl⟩); clear hb6)
    | (go_at_call 11; refine (awake_t _).mono ?_; rintro e w4 ⟨rfl, hb4⟩; replace HL := Lib.hid (HL.out.later hb4); replace HP := Lib.hid (show w4.cell? ⟨w.heap.size, 0, none⟩ = some (.int .i64 c.ins) ∧ w4.cell? ⟨w.heap.size, 1, none⟩ = some (.int .i64 c.outs) ∧ w4.cell? ⟨w.heap.size, 2, none⟩ = some (.int .i64 c.slots) ∧ w4.cell? ⟨w.heap.size, 3, none⟩ = some (.int .i64 c.crosses) ∧ w4.cell? ⟨w.heap.size, 4, none⟩ = some (.int .i64 c.lines) ∧ w4.cell? ⟨w.heap.size, 5, none⟩ = some (.slice v.mems.1 v.mems.2.1 v.mems.2.2) ∧ w4.cell? ⟨w.heap.size, 6, none⟩ = some (.slice v.conts.1 v.conts.2.1 v.conts.2.2) ∧ w4.cell? ⟨w.heap.size, 7, none⟩ = some (.slice v.step.1 v.step.2.1 v.step.2.2) ∧ w4.cell? ⟨w.heap.size, 8, none⟩ = some (.slice v.deriv.1 v.deriv.2.1 v.deriv.2.2) ∧ w4.cell? ⟨w.heap.size, 9, none⟩ = some (.slice v.cross.1 v.cross.2.1 v.cross.2.2) from ⟨HL.out.blk.cell 0 rfl, HL.out.blk.cell 1 rfl, HL.out.blk.cell 2 rfl, HL.out.blk.cell 3 rfl, HL.out.blk.cell 4 rfl, HL.out.blk.cell 5 rfl, HL.out.blk.cell 6 rfl, HL.out.blk.cell 7 rfl, HL.out.blk.cell 8 rfl, HL.out.blk.cell 9 rfl⟩); clear hb4))
  all_goals
    go_wp2
    go_ret
    exact ⟨rfl, HL.out.old⟩
theorem safeRights_walk (c : CodeM) (v : CodeV) (w : World) (h : CodeIs w w.heap.size c v) : Calls Try.prog 3 #[codeV c v] w (LawPost w) := by
  cases hf : fewC c with
  | false => exact sri_1 c v w h hf
  | true =>
    by_cases hr : RightC c
    · exact sri_true c v w h hf ⟨(fun _ => hr), (fun _ => rfl)⟩
    · exact sri_false c v w h hf ⟨(fun h => by cases h), (fun h => absurd h hr)⟩

end Go.Proofs.Ytcljmfhelgkfaaa
