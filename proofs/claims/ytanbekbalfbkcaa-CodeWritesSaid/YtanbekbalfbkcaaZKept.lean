/- What kept tells: the variables that are needed behind all. No condition but bounds. -/
import Derived.Test.YtanbekbalfbkcaaZPlC
namespace Go.Proofs.Ytanbekbalfbkcaa
set_option linter.unusedVariables false
set_option linter.unusedSimpArgs false
set_option maxRecDepth 100000
open Go.RowKit

/-- what kept tells -/
def KeptPost (f : FlatM) (w : World) (e : Ending) (w' : World) : Prop := ∃ v, e = .returned v ∧ Own w' w.heap.size v (endL f) ∧ Below w.heap.size w w'

set_option maxHeartbeats 4000000 in
theorem kept_t (v : FlatV) (f : FlatM) (B : Nat) (w : World) (h : FlatIs w B v f) (hB : B ≤ w.heap.size) (hg : goodB f = true) (hs : SmallF f) :
    Calls Try.prog 47 #[flatV v] w (KeptPost f w) := by
  have hmM := h.mems.len_le
  have hmC := h.conts.len_le
  have hmX := h.cross.len_le
  have hno : v.outs.2.1 ≤ 50 := by rw [← h.outs.1]; exact hs.outs
  have hna : v.again.2.1 ≤ 50 := by rw [← h.again.1]; exact hs.again
  have HLO := Lib.hid h.outs.1
  have HLA := Lib.hid h.again.1
  have HS := Lib.hid hs
  have HLEN := Lib.hid (fun k j i => len_ok hs k j i)
  have HG := Lib.hid hg
  clear hs hg
  have HLM := Lib.hid h.mems.1
  have HLC := Lib.hid h.conts.1
  have HLX := Lib.hid h.cross.1
  have HC := Lib.hid (Ctx.mk' h hB); clear h hB
  unfold maxLen at hmM hmC hmX
  have HKB := Lib.hid HC.out.blk
  have HIS := Lib.hid HC.out.is
  have HBB := Lib.hid HC.out.le
  have HE0 := Lib.hid (show EndSt (w.alloc (.cells (fvs v) 29)) (w.heap.size + 1) (w.alloc (.cells (fvs v) 29)) (.slice none 0 0) [] from ⟨Own.nil _ _, Below.refl _ _, by simp⟩)
  have HOLD := Lib.hid HC.out.old
  unfold flatV sl3
  go_enter Try.func47, Try.ntmps47
  go_wp2_with (first | (at_builtin; refine appendR rfl _ _ 23 Try.underlying23 rfl (w.heap.size + 1) B (.slice none 0 0) ([]) v.outs.1 v.outs.2.1 v.outs.2.2 (f.outs) rfl rfl HE0.out.own (HIS.out.outs) HE0.out.size (by simp) (by omega) ?_; intro v1 w1 hown honly hat; obtain ⟨A1, n1, c1, hv1⟩ := val_slice hown; subst hv1; have HE1 := Lib.hid (HE0.out.app hown honly); clear hown honly hat; obtain ⟨f0, f1, f2, f3, f4, f5, f6, f7⟩ := (HKB.out.below HE1.out.old (Nat.lt_succ_self _)).flat) | (at_builtin; refine appendR rfl _ _ 23 Try.underlying23 rfl (w.heap.size + 1) B (.slice A1 n1 c1) ([] ++ f.outs) v.again.1 v.again.2.1 v.again.2.2 (f.again) rfl rfl HE1.out.own (HIS.out.again.below (HE1.out.old.mono (by have := HBB.out; omega))) HE1.out.size (by simp; have := HLO.out; omega) (by omega) ?_; intro v2 w2 hown honly hat; obtain ⟨A2, n2, c2, hv2⟩ := val_slice hown; subst hv2; have HE2 := Lib.hid (HE1.out.app hown honly); clear hown honly hat; obtain ⟨f0, f1, f2, f3, f4, f5, f6, f7⟩ := (HKB.out.below HE2.out.old (Nat.lt_succ_self _)).flat))
  have HEa : Hid (EndSt (w.alloc (.cells (fvs v) 29)) (w.heap.size + 1) w2 (.slice A2 n2 c2) (outsE f ++ memsE f 0)) := Lib.hid (by
    have : outsE f ++ memsE f 0 = [] ++ f.outs ++ f.again := by simp [outsE, memsE]
    rw [this]; exact HE2.out)
  clear HE0 HE1 HE2 f0 f1 f2 f3 f4 f5 f6 f7
  go_loopw [3, 25] (fun s3 s5 wr => ∃ (k : Nat) (A : Option Addr) (n c : Nat), k ≤ v.mems.2.1 ∧ s3 = .slice A n c ∧ s5 = .int .i64 k ∧ Hid (EndSt (w.alloc (.cells (fvs v) 29)) (w.heap.size + 1) wr (.slice A n c) (outsE f ++ memsE f k))) (fun _ t _ => v.mems.2.1 - (intOf t).toNat)
  case atStart => exact ⟨0, A2, n2, c2, Nat.zero_le _, rfl, rfl, HEa⟩
  case round =>
    obtain ⟨k, A, n, c, hk, rfl, rfl, hE⟩ := hrel
    obtain ⟨f0, f1, f2, f3, f4, f5, f6, f7⟩ := (HKB.out.below hE.out.old (Nat.lt_succ_self _)).flat
    by_cases hlt : k < v.mems.2.1
    · obtain ⟨x, hx⟩ := HIS.out.mems.ex hlt
      obtain ⟨b, off, ha, hlb, hat⟩ := HIS.out.mems.at_ hx
      obtain ⟨m, d, r, _, _, hrow, e0, e1, e2, e3, e4, e5, e6, e7⟩ := hat.cells
      have hbC : b < w.heap.size + 1 := Nat.lt_of_lt_of_le hlb (by have := HBB.out; omega)
      have ec : ∀ (i : Nat) (u : Value), (w.alloc (.cells (fvs v) 29)).cell? ⟨b, i, none⟩ = some u → wr.cell? ⟨b, i, none⟩ = some u := fun i u h => (hE.out.old.cell (p := ⟨b, i, none⟩) hbC).trans h
      replace e0 := ec _ _ e0; replace e1 := ec _ _ e1; replace e2 := ec _ _ e2; replace e3 := ec _ _ e3; replace e4 := ec _ _ e4; replace e5 := ec _ _ e5; replace e6 := ec _ _ e6; replace e7 := ec _ _ e7
      have hgl : w.heap.size < wr.heap.size := hE.out.size
      have hbl : b < wr.heap.size := Nat.lt_of_lt_of_le hbC hE.out.size
      have HX := Lib.hid hx
      have HROW := Lib.hid hrow
      have hr20 : r.2.1 ≤ 20 := by rw [← hrow.1]; exact HS.out.resets k x hx
      have HEb := Lib.hid ((hE.out.box 66 (memvs x m d r)).alloc (.cells #[.int .i64 x.next, .int .i64 x.guard] 3))
      have HI := Lib.hid (irow2h (wr.alloc (.cells (memvs x m d r) 66)) (H := wr.heap.size + 1) (by simp) x.next x.guard 3)
      rw [ha] at f4 ⊢
      clear ec hat hx hrow ha
      go_wp2_with (first | (at_builtin; refine appendR rfl _ _ 23 Try.underlying23 rfl (w.heap.size + 1) (wr.heap.size + 1 + 1) (.slice A n c) (outsE f ++ memsE f k) (some ⟨wr.heap.size + 1, 0, none⟩) 2 2 ([x.next, x.guard]) rfl rfl HEb.out.st.own (HI.out) HEb.out.st.size (by have := HLEN.out k 0 0; simp; omega) (by omega) ?_; intro v3 w3 hown honly hat; obtain ⟨A3, n3, c3, hv3⟩ := val_slice hown; subst hv3; have HE3 := Lib.hid (HEb.out.app hown honly hat); clear hown honly hat; obtain ⟨f0, f1, f2, f3, f4, f5, f6, f7⟩ := (HKB.out.below HE3.out.st.old (Nat.lt_succ_self _)).flat; obtain ⟨e0, e1, e2, e3, e4, e5, e6, e7⟩ := HE3.out.bx.mem) | (at_builtin; refine appendR rfl _ _ 23 Try.underlying23 rfl (w.heap.size + 1) B (.slice A3 n3 c3) (outsE f ++ memsE f k ++ [x.next, x.guard]) r.1 r.2.1 r.2.2 (x.resets) rfl rfl HE3.out.st.own (HROW.out.below (HE3.out.st.old.mono (by have := HBB.out; omega))) HE3.out.st.size (by have := HLEN.out k 0 0; simp; omega) (by omega) ?_; intro v4 w4 hown honly hat; obtain ⟨A4, n4, c4, hv4⟩ := val_slice hown; subst hv4; have HE4 := Lib.hid (HE3.out.app hown honly hat); clear hown honly hat; obtain ⟨f0, f1, f2, f3, f4, f5, f6, f7⟩ := (HKB.out.below HE4.out.st.old (Nat.lt_succ_self _)).flat; obtain ⟨e0, e1, e2, e3, e4, e5, e6, e7⟩ := HE4.out.bx.mem))
      go_roundw
      case rel => exact ⟨k + 1, A4, n4, c4, by omega, rfl, by go_num, Lib.hid (by
        have : outsE f ++ memsE f (k + 1) = outsE f ++ memsE f k ++ [x.next, x.guard] ++ x.resets := by unfold memsE; rw [flat_succ HX.out]; simp [memE]
        rw [this]; exact HE4.out.st)⟩
      case measure => simp [intOf]; omega
    · obtain rfl : k = v.mems.2.1 := by omega
      have HE1 : Hid (EndSt (w.alloc (.cells (fvs v) 29)) (w.heap.size + 1) wr (.slice A n c) (outsE f ++ memsE f f.mems.length ++ contsE f 0)) := Lib.hid (by
        have : outsE f ++ memsE f f.mems.length ++ contsE f 0 = outsE f ++ memsE f v.mems.2.1 := by rw [HLM.out]; simp [contsE]
        rw [this]; exact hE.out)
      go_wp2_with fail
      clear f0 f1 f2 f3 f4 f5 f6 f7 hE HEa
      obtain ⟨wo, rfl⟩ : ∃ wo : World, wo = wr := ⟨_, rfl⟩
      obtain ⟨LM, hLM⟩ : ∃ LM, LM = outsE f ++ memsE f f.mems.length := ⟨_, rfl⟩
      rw [← hLM] at HE1
      have HLM2 : Hid (LM.length ≤ 2300) := Lib.hid (by rw [hLM]; have := HLEN.out f.mems.length 0 0; simp; omega)
      have HLME := Lib.hid hLM; clear hLM
      go_loopw [3, 44] (fun s3 s5 wr => ∃ (k : Nat) (A : Option Addr) (n c : Nat), k ≤ v.conts.2.1 ∧ s3 = .slice A n c ∧ s5 = .int .i64 k ∧ Hid (EndSt (w.alloc (.cells (fvs v) 29)) (w.heap.size + 1) wr (.slice A n c) (LM ++ contsE f k))) (fun _ t _ => v.conts.2.1 - (intOf t).toNat)
      case atStart => exact ⟨0, A, n, c, Nat.zero_le _, rfl, rfl, HE1⟩
      case round =>
        obtain ⟨k, A, n, c, hk, rfl, rfl, hE⟩ := hrel
        obtain ⟨f0, f1, f2, f3, f4, f5, f6, f7⟩ := (HKB.out.below hE.out.old (Nat.lt_succ_self _)).flat
        by_cases hlt : k < v.conts.2.1
        · obtain ⟨wq, rfl⟩ : ∃ wq : World, wq = wr := ⟨_, rfl⟩
          obtain ⟨x, hx⟩ := HIS.out.conts.ex hlt
          obtain ⟨b, off, ha, hlb, hat⟩ := HIS.out.conts.at_ hx
          obtain ⟨m, d, r, s, _, _, hrow, hrs, e0, e1, e2, e3, e4, e5, e6, e7, e8⟩ := hat.cells
          have hbC : b < w.heap.size + 1 := Nat.lt_of_lt_of_le hlb (by have := HBB.out; omega)
          have ec : ∀ (i : Nat) (u : Value), (w.alloc (.cells (fvs v) 29)).cell? ⟨b, i, none⟩ = some u → wq.cell? ⟨b, i, none⟩ = some u := fun i u h => (hE.out.old.cell (p := ⟨b, i, none⟩) hbC).trans h
          replace e0 := ec _ _ e0; replace e1 := ec _ _ e1; replace e2 := ec _ _ e2; replace e3 := ec _ _ e3; replace e4 := ec _ _ e4; replace e5 := ec _ _ e5; replace e6 := ec _ _ e6; replace e7 := ec _ _ e7; replace e8 := ec _ _ e8
          have hgl : w.heap.size < wq.heap.size := hE.out.size
          have hbl : b < wq.heap.size := Nat.lt_of_lt_of_le hbC hE.out.size
          have HX := Lib.hid hx
          have HROW := Lib.hid hrow
          have HRS := Lib.hid hrs
          have hms := hrs.len_le
          unfold maxLen at hms
          have hr20 : r.2.1 ≤ 20 := by rw [← hrow.1]; exact (HS.out.creset k x hx).1
          have hs20 : x.slopes.length ≤ 20 := (HS.out.creset k x hx).2
          have HLS : Hid (x.slopes.length = s.2.1) := Lib.hid hrs.1
          have HEb := Lib.hid ((hE.out.box 70 (contvs x m d r s)).alloc (.cells #[.int .i64 x.var, .int .i64 x.guard] 3))
          have HI := Lib.hid (irow2h (wq.alloc (.cells (contvs x m d r s) 70)) (H := wq.heap.size + 1) (by simp) x.var x.guard 3)
          rw [ha] at f5 ⊢
          clear ec hat hx hrow hrs ha
          go_wp2_with (first | (at_builtin; refine appendR rfl _ _ 23 Try.underlying23 rfl (w.heap.size + 1) (wq.heap.size + 1 + 1) (.slice A n c) (LM ++ contsE f k) (some ⟨wq.heap.size + 1, 0, none⟩) 2 2 ([x.var, x.guard]) rfl rfl HEb.out.st.own (HI.out) HEb.out.st.size (by have := HLEN.out 0 k 0; have := HLM2.out; simp; omega) (by omega) ?_; intro v3 w3 hown honly hat; obtain ⟨A3, n3, c3, hv3⟩ := val_slice hown; subst hv3; have HE3 := Lib.hid (HEb.out.app hown honly hat); clear hown honly hat; obtain ⟨f0, f1, f2, f3, f4, f5, f6, f7⟩ := (HKB.out.below HE3.out.st.old (Nat.lt_succ_self _)).flat; obtain ⟨e0, e1, e2, e3, e4, e5, e6, e7, e8⟩ := HE3.out.bx.cont) | (at_builtin; refine appendR rfl _ _ 23 Try.underlying23 rfl (w.heap.size + 1) B (.slice A3 n3 c3) (LM ++ contsE f k ++ [x.var, x.guard]) r.1 r.2.1 r.2.2 (x.resets) rfl rfl HE3.out.st.own (HROW.out.below (HE3.out.st.old.mono (by have := HBB.out; omega))) HE3.out.st.size (by have := HLEN.out 0 k 0; have := HLM2.out; simp; omega) (by omega) ?_; intro v4 w4 hown honly hat; obtain ⟨A4, n4, c4, hv4⟩ := val_slice hown; subst hv4; have HE4 := Lib.hid (HE3.out.app hown honly hat); clear hown honly hat; obtain ⟨f0, f1, f2, f3, f4, f5, f6, f7⟩ := (HKB.out.below HE4.out.st.old (Nat.lt_succ_self _)).flat; obtain ⟨e0, e1, e2, e3, e4, e5, e6, e7, e8⟩ := HE4.out.bx.cont))
          clear f0 f1 f2 f3 f4 f5 f6 f7 e0 e1 e2 e3 e4 e5 e6 e7 e8
          obtain ⟨LC, hLC⟩ : ∃ LC, LC = LM ++ contsE f k ++ [x.var, x.guard] ++ x.resets := ⟨_, rfl⟩
          rw [← hLC] at HE4
          have HLC2 : Hid (LC.length ≤ 4400) := Lib.hid (by rw [hLC]; have := HLEN.out 0 k 0; have := HLM2.out; have := HS.out.creset k x HX.out; simp; omega)
          have HLCE := Lib.hid hLC; clear hLC hE HEb HE3
          have HE4s := Lib.hid HE4.out.st
          go_loopw [3, 62] (fun s3 s5 wr => ∃ (j : Nat) (A : Option Addr) (n c : Nat), j ≤ s.2.1 ∧ s3 = .slice A n c ∧ s5 = .int .i64 j ∧ Hid (EndSt (w.alloc (.cells (fvs v) 29)) (w.heap.size + 1) wr (.slice A n c) (LC ++ slopesE (x.slopes.take j)))) (fun _ t _ => s.2.1 - (intOf t).toNat)
          case atStart => exact ⟨0, A4, n4, c4, Nat.zero_le _, rfl, rfl, Lib.hid (by simpa [slopesE] using HE4s.out)⟩
          case round =>
            clear HE4s HE4
            obtain ⟨j, A, n, c, hj, rfl, rfl, hE⟩ := hrel
            obtain ⟨f0, f1, f2, f3, f4, f5, f6, f7⟩ := (HKB.out.below hE.out.old (Nat.lt_succ_self _)).flat
            by_cases hlt2 : j < s.2.1
            · obtain ⟨y, hy⟩ := HRS.out.ex hlt2
              obtain ⟨b2, off2, ha2, hlb2, hat2⟩ := HRS.out.at_ hy
              obtain ⟨e0, e1⟩ := hat2.cells
              have hbC2 : b2 < w.heap.size + 1 := Nat.lt_of_lt_of_le hlb2 (by have := HBB.out; omega)
              have ec : ∀ (i : Nat) (u : Value), (w.alloc (.cells (fvs v) 29)).cell? ⟨b2, i, none⟩ = some u → wr.cell? ⟨b2, i, none⟩ = some u := fun i u h => (hE.out.old.cell (p := ⟨b2, i, none⟩) hbC2).trans h
              replace e0 := ec _ _ e0; replace e1 := ec _ _ e1
              have hgl2 : w.heap.size < wr.heap.size := hE.out.size
              have hbl2 : b2 < wr.heap.size := Nat.lt_of_lt_of_le hbC2 hE.out.size
              have HY := Lib.hid hy
              have HEb := Lib.hid ((hE.out.box 84 (slopevs y)).alloc (.cells #[.int .i64 y.guard, .int .i64 y.var] 3))
              have HI2 := Lib.hid (irow2h (wr.alloc (.cells (slopevs y) 84)) (H := wr.heap.size + 1) (by simp) y.guard y.var 3)
              have HLY : Hid ((slopesE (x.slopes.take j)).length ≤ 100) := Lib.hid (by have := flat_len_take (g := fun s : SlopeM => [s.guard, s.var]) 2 j x.slopes (fun i y hy => by simp); unfold slopesE; omega)
              rw [ha2]
              clear ec hat2 hy ha2
              go_wp2_with (first | (at_builtin; refine appendR rfl _ _ 23 Try.underlying23 rfl (w.heap.size + 1) (wr.heap.size + 1 + 1) (.slice A n c) (LC ++ slopesE (x.slopes.take j)) (some ⟨wr.heap.size + 1, 0, none⟩) 2 2 ([y.guard, y.var]) rfl rfl HEb.out.st.own (HI2.out) HEb.out.st.size (by have := HLC2.out; have := HLY.out; simp; omega) (by omega) ?_; intro v5 w5 hown honly hat; obtain ⟨A5, n5, c5, hv5⟩ := val_slice hown; subst hv5; have HE5 := Lib.hid (HEb.out.app hown honly hat); clear hown honly hat; obtain ⟨f0, f1, f2, f3, f4, f5, f6, f7⟩ := (HKB.out.below HE5.out.st.old (Nat.lt_succ_self _)).flat; obtain ⟨e0, e1⟩ := HE5.out.bx.slope))
              go_roundw
              case rel => exact ⟨j + 1, A5, n5, c5, by omega, rfl, by go_num, Lib.hid (by
                have : LC ++ slopesE (x.slopes.take (j + 1)) = LC ++ slopesE (x.slopes.take j) ++ [y.guard, y.var] := by unfold slopesE; rw [flat_succ HY.out]; simp
                rw [this]; exact HE5.out.st)⟩
              case measure => simp [intOf]; omega
            · obtain rfl : j = s.2.1 := by omega
              go_wp2
              go_roundw
              case rel => exact ⟨k + 1, A, n, c, by omega, rfl, by go_num, Lib.hid (by
                have : LM ++ contsE f (k + 1) = LC ++ slopesE (x.slopes.take s.2.1) := by
                  rw [HLCE.out, List.take_of_length_le (by rw [HLS.out]; exact Nat.le_refl _)]; unfold contsE; rw [flat_succ HX.out]; simp [contE]
                rw [this]; exact hE.out)⟩
              case measure => simp [intOf]; omega
        · obtain rfl : k = v.conts.2.1 := by omega
          have HE2 : Hid (EndSt (w.alloc (.cells (fvs v) 29)) (w.heap.size + 1) wr (.slice A n c) (LM ++ contsE f f.conts.length ++ crosE f 0)) := Lib.hid (by
            have : LM ++ contsE f f.conts.length ++ crosE f 0 = LM ++ contsE f v.conts.2.1 := by rw [HLC.out]; simp [crosE]
            rw [this]; exact hE.out)
          go_wp2_with fail
          clear f0 f1 f2 f3 f4 f5 f6 f7 hE HE1
          obtain ⟨wq, rfl⟩ : ∃ wq : World, wq = wr := ⟨_, rfl⟩
          obtain ⟨LN, hLN⟩ : ∃ LN, LN = LM ++ contsE f f.conts.length := ⟨_, rfl⟩
          rw [← hLN] at HE2
          have HLN2 : Hid (LN.length ≤ 4400) := Lib.hid (by rw [hLN]; have := HLEN.out 0 f.conts.length 0; have := HLM2.out; simp; omega)
          have HLNE := Lib.hid hLN; clear hLN
          go_loopw [3, 78] (fun s3 s5 wr => ∃ (k : Nat) (A : Option Addr) (n c : Nat), k ≤ v.cross.2.1 ∧ s3 = .slice A n c ∧ s5 = .int .i64 k ∧ Hid (EndSt (w.alloc (.cells (fvs v) 29)) (w.heap.size + 1) wr (.slice A n c) (LN ++ crosE f k))) (fun _ t _ => v.cross.2.1 - (intOf t).toNat)
          case atStart => exact ⟨0, A, n, c, Nat.zero_le _, rfl, rfl, HE2⟩
          case round =>
            obtain ⟨k, A, n, c, hk, rfl, rfl, hE⟩ := hrel
            obtain ⟨f0, f1, f2, f3, f4, f5, f6, f7⟩ := (HKB.out.below hE.out.old (Nat.lt_succ_self _)).flat
            by_cases hlt : k < v.cross.2.1
            · obtain ⟨wp, rfl⟩ : ∃ wp : World, wp = wr := ⟨_, rfl⟩
              obtain ⟨x, hx⟩ := HIS.out.cross.ex hlt
              obtain ⟨b, off, ha, hlb, hat⟩ := HIS.out.cross.at_ hx
              obtain ⟨s, hrs, e0, e1⟩ := hat.cells
              have hbC : b < w.heap.size + 1 := Nat.lt_of_lt_of_le hlb (by have := HBB.out; omega)
              have ec : ∀ (i : Nat) (u : Value), (w.alloc (.cells (fvs v) 29)).cell? ⟨b, i, none⟩ = some u → wp.cell? ⟨b, i, none⟩ = some u := fun i u h => (hE.out.old.cell (p := ⟨b, i, none⟩) hbC).trans h
              replace e0 := ec _ _ e0; replace e1 := ec _ _ e1
              have hgl : w.heap.size < wp.heap.size := hE.out.size
              have hbl : b < wp.heap.size := Nat.lt_of_lt_of_le hbC hE.out.size
              have HX := Lib.hid hx
              have HRS := Lib.hid hrs
              have hms := hrs.len_le
              unfold maxLen at hms
              have hs30 : x.ops.length ≤ 30 := HS.out.ops k x hx
              have HLS : Hid (x.ops.length = s.2.1) := Lib.hid hrs.1
              have HEb := Lib.hid ((hE.out.box 45 (crossvs x s)).alloc (.cells #[.int .i64 x.guard] 3))
              have HI := Lib.hid (show IRow ((wp.alloc (.cells (crossvs x s) 45)).alloc (.cells #[.int .i64 x.guard] 3)) (wp.heap.size + 1 + 1) (some ⟨wp.heap.size + 1, 0, none⟩) 1 1 [x.guard] from by have := irow1 (wp.alloc (.cells (crossvs x s) 45)) x.guard 3; rw [size_alloc] at this; exact this)
              rw [ha] at f6 ⊢
              clear ec hat hx hrs ha
              go_wp2_with (first | (at_builtin; refine appendR rfl _ _ 23 Try.underlying23 rfl (w.heap.size + 1) (wp.heap.size + 1 + 1) (.slice A n c) (LN ++ crosE f k) (some ⟨wp.heap.size + 1, 0, none⟩) 1 1 ([x.guard]) rfl rfl HEb.out.st.own (HI.out) HEb.out.st.size (by have := HLEN.out 0 0 k; have := HLN2.out; simp; omega) (by omega) ?_; intro v3 w3 hown honly hat; obtain ⟨A3, n3, c3, hv3⟩ := val_slice hown; subst hv3; have HE3 := Lib.hid (HEb.out.app hown honly hat); clear hown honly hat; obtain ⟨f0, f1, f2, f3, f4, f5, f6, f7⟩ := (HKB.out.below HE3.out.st.old (Nat.lt_succ_self _)).flat; obtain ⟨e0, e1⟩ := HE3.out.bx.cross))
              clear f0 f1 f2 f3 f4 f5 f6 f7 e0 e1
              obtain ⟨LC, hLC⟩ : ∃ LC, LC = LN ++ crosE f k ++ [x.guard] := ⟨_, rfl⟩
              rw [← hLC] at HE3
              have HLC2 : Hid (LC.length ≤ 5500) := Lib.hid (by rw [hLC]; have := HLEN.out 0 0 k; have := HLN2.out; simp; omega)
              have HLCE := Lib.hid hLC; clear hLC hE HEb
              have HE3s := Lib.hid HE3.out.st
              go_loopw [3, 90] (fun s3 s5 wr => ∃ (j : Nat) (A : Option Addr) (n c : Nat), j ≤ s.2.1 ∧ s3 = .slice A n c ∧ s5 = .int .i64 j ∧ Hid (EndSt (w.alloc (.cells (fvs v) 29)) (w.heap.size + 1) wr (.slice A n c) (LC ++ copsE (x.ops.take j)))) (fun _ t _ => s.2.1 - (intOf t).toNat)
              case atStart => exact ⟨0, A3, n3, c3, Nat.zero_le _, rfl, rfl, Lib.hid (by simpa [copsE] using HE3s.out)⟩
              case round =>
                clear HE3s HE3
                obtain ⟨j, A, n, c, hj, rfl, rfl, hE⟩ := hrel
                obtain ⟨f0, f1, f2, f3, f4, f5, f6, f7⟩ := (HKB.out.below hE.out.old (Nat.lt_succ_self _)).flat
                by_cases hlt2 : j < s.2.1
                · obtain ⟨y, hy⟩ := HRS.out.ex hlt2
                  obtain ⟨b2, off2, ha2, hlb2, hat2⟩ := HRS.out.at_ hy
                  obtain ⟨r, hrr, e0, e1⟩ := hat2.cells
                  have hbC2 : b2 < w.heap.size + 1 := Nat.lt_of_lt_of_le hlb2 (by have := HBB.out; omega)
                  have ec : ∀ (i : Nat) (u : Value), (w.alloc (.cells (fvs v) 29)).cell? ⟨b2, i, none⟩ = some u → wr.cell? ⟨b2, i, none⟩ = some u := fun i u h => (hE.out.old.cell (p := ⟨b2, i, none⟩) hbC2).trans h
                  replace e0 := ec _ _ e0; replace e1 := ec _ _ e1
                  have hgl2 : w.heap.size < wr.heap.size := hE.out.size
                  have hbl2 : b2 < wr.heap.size := Nat.lt_of_lt_of_le hbC2 hE.out.size
                  have HY := Lib.hid hy
                  have HLY : Hid ((copsE (x.ops.take j)).length ≤ 100) := Lib.hid (by have := flat_len_take (g := copE) 1 j x.ops (fun i y hy => by unfold copE; split <;> simp); unfold copsE; omega)
                  have HN1 : Hid (copsE (x.ops.take (j + 1)) = copsE (x.ops.take j) ++ copE y) := Lib.hid (by unfold copsE; rw [flat_succ hy])
                  have HYB := Lib.hid (hE.out.box 80 (copvs y r))
                  by_cases hop : y.op = copVar ∨ y.op = copSel
                  · obtain ⟨hal, hpl⟩ := good_cop HG.out HX.out hy hop
                    have hal2 : 0 < r.2.1 := by rw [← hrr.1]; exact hal
                    obtain ⟨b3, off3, ha3, hlb3, hc3⟩ := (hrr.below (hE.out.old.mono (by have := HBB.out; omega))).at_ hal2
                    rw [Nat.add_zero] at hc3
                    obtain ⟨Z, hZ⟩ : ∃ Z, Z = y.args.getD 0 0 := ⟨_, rfl⟩
                    rw [← hZ] at hc3
                    have hbl3 : b3 < wr.heap.size := Nat.lt_of_lt_of_le hlb3 (by have := HBB.out; omega)
                    have HCO : Hid (copE y = [Z]) := Lib.hid (by unfold copE; rw [if_pos hop, hZ])
                    have HEb := Lib.hid ((hE.out.box 80 (copvs y r)).alloc (.cells #[.int .i64 Z] 3))
                    have HI2 := Lib.hid (show IRow ((wr.alloc (.cells (copvs y r) 80)).alloc (.cells #[.int .i64 Z] 3)) (wr.heap.size + 1 + 1) (some ⟨wr.heap.size + 1, 0, none⟩) 1 1 [Z] from by have := irow1 (wr.alloc (.cells (copvs y r) 80)) Z 3; rw [size_alloc] at this; exact this)
                    have hr1 := hrr.len_le
                    unfold maxLen at hr1
                    obtain ⟨r1, r2, r3⟩ := r
                    simp only at ha3 hal2 hr1 e1 HEb HI2 HYB
                    subst ha3
                    obtain ⟨op, args⟩ := y
                    simp only at e0 e1 hop HCO HEb HI2 HYB hZ hal
                    rw [ha2]
                    clear ec hat2 hy ha2 hrr hpl hZ hal HY
                    have hr0 : ¬ r2 = 0 := by omega
                    rcases hop with rfl | rfl
                    · unfold copVar bs at e0 HEb HI2 HYB
                      go_wp2_with (first | (at_builtin; refine appendR rfl _ _ 23 Try.underlying23 rfl (w.heap.size + 1) (wr.heap.size + 1 + 1) (.slice A n c) (LC ++ copsE (x.ops.take j)) (some ⟨wr.heap.size + 1, 0, none⟩) 1 1 ([Z]) rfl rfl HEb.out.st.own (HI2.out) HEb.out.st.size (by have := HLC2.out; have := HLY.out; simp; omega) (by omega) ?_; intro v5 w5 hown honly hat; obtain ⟨A5, n5, c5, hv5⟩ := val_slice hown; subst hv5; have HE5 := Lib.hid (HEb.out.app hown honly hat); clear hown honly hat; obtain ⟨f0, f1, f2, f3, f4, f5, f6, f7⟩ := (HKB.out.below HE5.out.st.old (Nat.lt_succ_self _)).flat ))
                      go_roundw
                      case rel => exact ⟨j + 1, A5, n5, c5, by omega, rfl, by go_num, Lib.hid (by
                        rw [HN1.out, HCO.out, ← List.append_assoc]; exact HE5.out.st)⟩
                      case measure => simp [intOf]; omega
                    · unfold copSel bs at e0 HEb HI2 HYB
                      go_wp2_with (first | (at_builtin; refine appendR rfl _ _ 23 Try.underlying23 rfl (w.heap.size + 1) (wr.heap.size + 1 + 1) (.slice A n c) (LC ++ copsE (x.ops.take j)) (some ⟨wr.heap.size + 1, 0, none⟩) 1 1 ([Z]) rfl rfl HEb.out.st.own (HI2.out) HEb.out.st.size (by have := HLC2.out; have := HLY.out; simp; omega) (by omega) ?_; intro v5 w5 hown honly hat; obtain ⟨A5, n5, c5, hv5⟩ := val_slice hown; subst hv5; have HE5 := Lib.hid (HEb.out.app hown honly hat); clear hown honly hat; obtain ⟨f0, f1, f2, f3, f4, f5, f6, f7⟩ := (HKB.out.below HE5.out.st.old (Nat.lt_succ_self _)).flat ))
                      go_roundw
                      case rel => exact ⟨j + 1, A5, n5, c5, by omega, rfl, by go_num, Lib.hid (by
                        rw [HN1.out, HCO.out, ← List.append_assoc]; exact HE5.out.st)⟩
                      case measure => simp [intOf]; omega
                  · have HCO : Hid (copE y = []) := Lib.hid (by unfold copE; rw [if_neg hop])
                    have g0 := str_no (show ¬ y.op = bs [118, 97, 114] from fun q => hop (.inl q))
                    have g1 := str_no (show ¬ y.op = bs [115, 101, 108] from fun q => hop (.inr q))
                    rw [ha2]
                    clear ec hat2 hy ha2 hrr hop
                    go_wp2
                    go_roundw
                    case rel => exact ⟨j + 1, A, n, c, by omega, rfl, by go_num, Lib.hid (by
                      rw [HN1.out, HCO.out, List.append_nil]; exact HYB.out.st)⟩
                    case measure => simp [intOf]; omega
                · obtain rfl : j = s.2.1 := by omega
                  go_wp2
                  go_roundw
                  case rel => exact ⟨k + 1, A, n, c, by omega, rfl, by go_num, Lib.hid (by
                    have : LN ++ crosE f (k + 1) = LC ++ copsE (x.ops.take s.2.1) := by
                      rw [HLCE.out, List.take_of_length_le (by rw [HLS.out]; exact Nat.le_refl _)]; unfold crosE; rw [flat_succ HX.out]; simp [crossE]
                    rw [this]; exact hE.out)⟩
                  case measure => simp [intOf]; omega
            · obtain rfl : k = v.cross.2.1 := by omega
              have HD : Hid (KeptPost f w (.returned (.slice A n c)) wr) := Lib.hid (by
                refine ⟨_, rfl, ?_, HOLD.out.trans (hE.out.old.mono (Nat.le_succ _))⟩
                have : endL f = LN ++ crosE f v.cross.2.1 := by rw [HLNE.out, HLME.out, ← HLX.out]; rfl
                rw [this]; exact hE.out.own.more (Nat.le_succ _))
              go_wp2
              go_ret
              exact HD.out

end Go.Proofs.Ytanbekbalfbkcaa
