/- What Small says. No condition. · What small and place tell. No condition. -/
import Derived.Test.YtpcpbpinhdbjiaaZFlKToFlL
import Derived.Test.YtpcpbpinhdbjiaaZFlHToFlJ
import Derived.Deep.DeepCutAuto
namespace Go.Proofs.Ytpcpbpinhdbjiaa
set_option linter.unusedVariables false
set_option linter.unusedSimpArgs false
set_option maxRecDepth 100000
open Go.RowKit

set_option maxHeartbeats 400000 in
theorem long_any (s : Bool) (m d : Option Addr × Nat × Nat) (w : World) : Calls Try.prog 9 #[.agg #[.bool s, .slice m.1 m.2.1 m.2.2, .slice d.1 d.2.1 d.2.2]] w (SomeB True w) := by
  go_enter Try.func9, Try.ntmps9
  go_wp2
  all_goals
    go_ret
    exact ⟨⟨_, rfl, fun _ => trivial⟩, (Below.refl _ _).alloc (Nat.le_refl _) _⟩

set_option maxHeartbeats 8000000 in
theorem small12_t (v : FlatV) (f : FlatM) (B : Nat) (w : World) (h : FlatIs w B v f) (hB : B ≤ w.heap.size) :
    Calls Try.prog 4 #[flatV v] w (SomeB (SmallF f) w) := by
  have hmE := h.eqs.len_le
  have hmN := h.names.len_le
  have hmM := h.mems.len_le
  have hmC := h.conts.len_le
  have hmX := h.cross.len_le
  have hmO := h.outs.len_le
  have hmA := h.again.len_le
  have hmI := h.ins.len_le
  have HLE := Lib.hid h.eqs.1
  have HLN := Lib.hid h.names.1
  have HLM := Lib.hid h.mems.1
  have HLC := Lib.hid h.conts.1
  have HLX := Lib.hid h.cross.1
  have HLO := Lib.hid h.outs.1
  have HLA := Lib.hid h.again.1
  have HLI := Lib.hid h.ins.1
  have HC := Lib.hid (Ctx.mk' h hB); clear h hB
  unfold maxLen at hmE hmN hmM hmC hmX hmO hmA hmI
  unfold flatV sl3
  by_cases t0 : v.eqs.2.1 ≤ 200
  rotate_left
  · have u0 : 200 < v.eqs.2.1 := by omega
    clear t0
    go_enter Try.func4, Try.ntmps4
    go_wp2_with fail
    go_ret
    exact ⟨⟨false, rfl, fun h => by cases h⟩, HC.out.old⟩
  by_cases t1 : v.names.2.1 ≤ 200
  rotate_left
  · have u1 : 200 < v.names.2.1 := by omega
    clear t1
    go_enter Try.func4, Try.ntmps4
    go_wp2_with fail
    go_ret
    exact ⟨⟨false, rfl, fun h => by cases h⟩, HC.out.old⟩
  by_cases t2 : v.mems.2.1 ≤ 100
  rotate_left
  · have u2 : 100 < v.mems.2.1 := by omega
    clear t2
    go_enter Try.func4, Try.ntmps4
    go_wp2_with fail
    go_ret
    exact ⟨⟨false, rfl, fun h => by cases h⟩, HC.out.old⟩
  by_cases t3 : v.conts.2.1 ≤ 20
  rotate_left
  · have u3 : 20 < v.conts.2.1 := by omega
    clear t3
    go_enter Try.func4, Try.ntmps4
    go_wp2_with fail
    go_ret
    exact ⟨⟨false, rfl, fun h => by cases h⟩, HC.out.old⟩
  by_cases t4 : v.cross.2.1 ≤ 20
  rotate_left
  · have u4 : 20 < v.cross.2.1 := by omega
    clear t4
    go_enter Try.func4, Try.ntmps4
    go_wp2_with fail
    go_ret
    exact ⟨⟨false, rfl, fun h => by cases h⟩, HC.out.old⟩
  by_cases t5 : v.outs.2.1 ≤ 50
  rotate_left
  · have u5 : 50 < v.outs.2.1 := by omega
    clear t5
    go_enter Try.func4, Try.ntmps4
    go_wp2_with fail
    go_ret
    exact ⟨⟨false, rfl, fun h => by cases h⟩, HC.out.old⟩
  by_cases t6 : v.again.2.1 ≤ 50
  rotate_left
  · have u6 : 50 < v.again.2.1 := by omega
    clear t6
    go_enter Try.func4, Try.ntmps4
    go_wp2_with fail
    go_ret
    exact ⟨⟨false, rfl, fun h => by cases h⟩, HC.out.old⟩
  by_cases t7 : v.ins.2.1 ≤ 20
  rotate_left
  · have u7 : 20 < v.ins.2.1 := by omega
    clear t7
    go_enter Try.func4, Try.ntmps4
    go_wp2_with fail
    go_ret
    exact ⟨⟨false, rfl, fun h => by cases h⟩, HC.out.old⟩
  go_enter Try.func4, Try.ntmps4
  go_wp2_with fail
  have HBR : Hid (Below (w.heap.size + 1) (w.alloc (.cells (fvs v) 29)) (w.alloc (.cells (fvs v) 29))) := Lib.hid (Below.refl _ _)
  go_loopw [3] (fun t wr => ∃ k : Nat, k ≤ v.eqs.2.1 ∧ t = .int .i64 k ∧ Hid (∀ (i : Nat) (x : FEqM), i < k → f.eqs[i]? = some x → x.args.length ≤ 30) ∧ Hid (Below (w.heap.size + 1) (w.alloc (.cells (fvs v) 29)) wr)) (fun t _ => v.eqs.2.1 - (intOf t).toNat)
  case atStart => exact ⟨0, Nat.zero_le _, rfl, Lib.hid (fun i x hi => by omega), HBR⟩
  case round =>
    obtain ⟨k, hk, rfl, hz, hbr⟩ := hrel
    have hfb := HC.out.blk.below hbr.out (Nat.lt_succ_self _)
    obtain ⟨f0, f1, f2, f3, f4, f5, f6, f7⟩ := hfb.flat
    have hgl : w.heap.size < wr.heap.size := hfb.lt
    have HOLD := Lib.hid (show Below w.heap.size w wr from HC.out.old.trans (hbr.out.mono (Nat.le_succ _)))
    by_cases hlt : k < v.eqs.2.1
    · have his := HC.out.is.below (hbr.out.mono (Nat.le_succ_of_le HC.out.le))
      obtain ⟨x, hx⟩ := his.eqs.ex hlt
      obtain ⟨b, off, ha, hlb, hat⟩ := his.eqs.at_ hx
      obtain ⟨a, m, d, hrow, _, _, e0, e1, e2, e3, e4, e5, e6, e7, e8, e9⟩ := hat.cells
      have hbl : b < wr.heap.size := Nat.lt_of_lt_of_le hlb (Nat.le_trans HC.out.le (Nat.le_of_lt hfb.lt))
      have HX := Lib.hid hx
      have HAL := Lib.hid hrow.1
      have hmx1 := hrow.len_le
      have hmx2 := hat.op.2
      have hmx3 := hat.lit.name.2
      unfold maxLen at hmx1 hmx2 hmx3
      rw [ha] at f3 ⊢
      clear his hat hx ha hfb hrow
      by_cases c0 : a.2.1 ≤ 30
      rotate_left
      · have c0' : 30 < a.2.1 := by omega
        clear c0
        go_wp2_with fail
        go_ret
        exact ⟨⟨false, rfl, fun h => by cases h⟩, HOLD.out⟩
      by_cases c1 : x.op.size ≤ 20
      rotate_left
      · have c1' : 20 < x.op.size := by omega
        clear c1
        go_wp2_with fail
        go_ret
        exact ⟨⟨false, rfl, fun h => by cases h⟩, HOLD.out⟩
      by_cases c9 : x.lit.name.size ≤ 100
      rotate_left
      · have c9' : 100 < x.lit.name.size := by omega
        clear c9
        go_wp2_with (go_at_call 9; refine (long_any _ m d _).mono ?_; rintro e w1 ⟨⟨b1, rfl, -⟩, hb⟩; obtain ⟨hcb, hfz⟩ := bcell hb; replace HOLD := Lib.hid (HOLD.out.trans (hb.mono HOLD.out.size)); have HNB := Lib.hid (hbr.out.trans (hb.mono hgl)); clear hb; cases b1)
        all_goals first
          | (go_ret; exact ⟨⟨false, rfl, fun h => by cases h⟩, HOLD.out⟩)
          | (go_roundw
             case rel => exact ⟨k + 1, by omega, by go_num, Lib.hid (fun i x hi hx => if h : i = k then by subst h; rw [HX.out] at hx; injection hx with hx; subst hx; exact by rw [HAL.out]; exact c0 else hz.out i x (by omega) hx), HNB⟩
             case measure => simp [intOf]; omega)
      go_wp2_with (go_at_call 9; refine (long_any _ m d _).mono ?_; rintro e w1 ⟨⟨b1, rfl, -⟩, hb⟩; obtain ⟨hcb, hfz⟩ := bcell hb; replace HOLD := Lib.hid (HOLD.out.trans (hb.mono HOLD.out.size)); have HNB := Lib.hid (hbr.out.trans (hb.mono hgl)); clear hb; cases b1)
      all_goals first
        | (go_ret; exact ⟨⟨false, rfl, fun h => by cases h⟩, HOLD.out⟩)
        | (go_roundw
           case rel => exact ⟨k + 1, by omega, by go_num, Lib.hid (fun i x hi hx => if h : i = k then by subst h; rw [HX.out] at hx; injection hx with hx; subst hx; exact by rw [HAL.out]; exact c0 else hz.out i x (by omega) hx), HNB⟩
           case measure => simp [intOf]; omega)
    · have HPE : Hid (∀ (i : Nat) (x : FEqM), f.eqs[i]? = some x → x.args.length ≤ 30) := Lib.hid (fun i x hx => hz.out i x (by have := (List.getElem?_eq_some_iff.1 hx).1; rw [show k = v.eqs.2.1 by omega]; have := HLE.out; omega) hx)
      go_wp2_with fail
      clear f0 f1 f2 f3 f4 f5 f6 f7 hgl hfb HOLD
      have HBR' := hbr; clear hbr hz HBR
      have HBR := HBR'; clear HBR'
      obtain ⟨woeqs, rfl⟩ : ∃ W : World, W = wr := ⟨_, rfl⟩
      go_loopw [4] (fun t wr => ∃ k : Nat, k ≤ v.mems.2.1 ∧ t = .int .i64 k ∧ Hid (∀ (i : Nat) (x : MemM), i < k → f.mems[i]? = some x → x.resets.length ≤ 20) ∧ Hid (Below (w.heap.size + 1) (w.alloc (.cells (fvs v) 29)) wr)) (fun t _ => v.mems.2.1 - (intOf t).toNat)
      case atStart => exact ⟨0, Nat.zero_le _, rfl, Lib.hid (fun i x hi => by omega), HBR⟩
      case round =>
        obtain ⟨k, hk, rfl, hz, hbr⟩ := hrel
        have hfb := HC.out.blk.below hbr.out (Nat.lt_succ_self _)
        obtain ⟨f0, f1, f2, f3, f4, f5, f6, f7⟩ := hfb.flat
        have hgl : w.heap.size < wr.heap.size := hfb.lt
        have HOLD := Lib.hid (show Below w.heap.size w wr from HC.out.old.trans (hbr.out.mono (Nat.le_succ _)))
        by_cases hlt : k < v.mems.2.1
        · have his := HC.out.is.below (hbr.out.mono (Nat.le_succ_of_le HC.out.le))
          obtain ⟨x, hx⟩ := his.mems.ex hlt
          obtain ⟨b, off, ha, hlb, hat⟩ := his.mems.at_ hx
          obtain ⟨m, d, r, _, _, hrow, e0, e1, e2, e3, e4, e5, e6, e7⟩ := hat.cells
          have hbl : b < wr.heap.size := Nat.lt_of_lt_of_le hlb (Nat.le_trans HC.out.le (Nat.le_of_lt hfb.lt))
          have HX := Lib.hid hx
          have HAL := Lib.hid hrow.1
          have hmx1 := hrow.len_le
          unfold maxLen at hmx1
          rw [ha] at f4 ⊢
          clear his hat hx ha hfb hrow
          by_cases c0 : r.2.1 ≤ 20
          rotate_left
          · have c0' : 20 < r.2.1 := by omega
            clear c0
            go_wp2_with fail
            go_ret
            exact ⟨⟨false, rfl, fun h => by cases h⟩, HOLD.out⟩
          go_wp2_with (go_at_call 9; refine (long_any _ m d _).mono ?_; rintro e w1 ⟨⟨b1, rfl, -⟩, hb⟩; obtain ⟨hcb, hfz⟩ := bcell hb; replace HOLD := Lib.hid (HOLD.out.trans (hb.mono HOLD.out.size)); have HNB := Lib.hid (hbr.out.trans (hb.mono hgl)); clear hb; cases b1)
          all_goals first
            | (go_ret; exact ⟨⟨false, rfl, fun h => by cases h⟩, HOLD.out⟩)
            | (go_roundw
               case rel => exact ⟨k + 1, by omega, by go_num, Lib.hid (fun i x hi hx => if h : i = k then by subst h; rw [HX.out] at hx; injection hx with hx; subst hx; exact by rw [HAL.out]; exact c0 else hz.out i x (by omega) hx), HNB⟩
               case measure => simp [intOf]; omega)
        · have HPM : Hid (∀ (i : Nat) (x : MemM), f.mems[i]? = some x → x.resets.length ≤ 20) := Lib.hid (fun i x hx => hz.out i x (by have := (List.getElem?_eq_some_iff.1 hx).1; rw [show k = v.mems.2.1 by omega]; have := HLM.out; omega) hx)
          go_wp2_with fail
          clear f0 f1 f2 f3 f4 f5 f6 f7 hgl hfb HOLD
          have HBR' := hbr; clear hbr hz HBR
          have HBR := HBR'; clear HBR'
          obtain ⟨womems, rfl⟩ : ∃ W : World, W = wr := ⟨_, rfl⟩
          go_loopw [5] (fun t wr => ∃ k : Nat, k ≤ v.conts.2.1 ∧ t = .int .i64 k ∧ Hid (∀ (i : Nat) (x : ContM), i < k → f.conts[i]? = some x → x.resets.length ≤ 20 ∧ x.slopes.length ≤ 20) ∧ Hid (Below (w.heap.size + 1) (w.alloc (.cells (fvs v) 29)) wr)) (fun t _ => v.conts.2.1 - (intOf t).toNat)
          case atStart => exact ⟨0, Nat.zero_le _, rfl, Lib.hid (fun i x hi => by omega), HBR⟩
          case round =>
            obtain ⟨k, hk, rfl, hz, hbr⟩ := hrel
            have hfb := HC.out.blk.below hbr.out (Nat.lt_succ_self _)
            obtain ⟨f0, f1, f2, f3, f4, f5, f6, f7⟩ := hfb.flat
            have hgl : w.heap.size < wr.heap.size := hfb.lt
            have HOLD := Lib.hid (show Below w.heap.size w wr from HC.out.old.trans (hbr.out.mono (Nat.le_succ _)))
            by_cases hlt : k < v.conts.2.1
            · have his := HC.out.is.below (hbr.out.mono (Nat.le_succ_of_le HC.out.le))
              obtain ⟨x, hx⟩ := his.conts.ex hlt
              obtain ⟨b, off, ha, hlb, hat⟩ := his.conts.at_ hx
              obtain ⟨m, d, r, s, _, _, hrow, hrs, e0, e1, e2, e3, e4, e5, e6, e7, e8⟩ := hat.cells
              have hbl : b < wr.heap.size := Nat.lt_of_lt_of_le hlb (Nat.le_trans HC.out.le (Nat.le_of_lt hfb.lt))
              have HX := Lib.hid hx
              have HAL := Lib.hid hrow.1
              have HAS := Lib.hid hrs.1
              have hmx1 := hrow.len_le
              have hmx2 := hrs.len_le
              unfold maxLen at hmx1 hmx2
              rw [ha] at f5 ⊢
              clear his hat hx ha hfb hrow hrs
              by_cases c0 : r.2.1 ≤ 20
              rotate_left
              · have c0' : 20 < r.2.1 := by omega
                clear c0
                go_wp2_with fail
                go_ret
                exact ⟨⟨false, rfl, fun h => by cases h⟩, HOLD.out⟩
              by_cases c1 : s.2.1 ≤ 20
              rotate_left
              · have c1' : 20 < s.2.1 := by omega
                clear c1
                go_wp2_with fail
                go_ret
                exact ⟨⟨false, rfl, fun h => by cases h⟩, HOLD.out⟩
              go_wp2_with (go_at_call 9; refine (long_any _ m d _).mono ?_; rintro e w1 ⟨⟨b1, rfl, -⟩, hb⟩; obtain ⟨hcb, hfz⟩ := bcell hb; replace HOLD := Lib.hid (HOLD.out.trans (hb.mono HOLD.out.size)); have HNB := Lib.hid (hbr.out.trans (hb.mono hgl)); clear hb; cases b1)
              all_goals first
                | (go_ret; exact ⟨⟨false, rfl, fun h => by cases h⟩, HOLD.out⟩)
                | (go_roundw
                   case rel => exact ⟨k + 1, by omega, by go_num, Lib.hid (fun i x hi hx => if h : i = k then by subst h; rw [HX.out] at hx; injection hx with hx; subst hx; exact ⟨by rw [HAL.out]; exact c0, by rw [HAS.out]; exact c1⟩ else hz.out i x (by omega) hx), HNB⟩
                   case measure => simp [intOf]; omega)
            · have HPC : Hid (∀ (i : Nat) (x : ContM), f.conts[i]? = some x → x.resets.length ≤ 20 ∧ x.slopes.length ≤ 20) := Lib.hid (fun i x hx => hz.out i x (by have := (List.getElem?_eq_some_iff.1 hx).1; rw [show k = v.conts.2.1 by omega]; have := HLC.out; omega) hx)
              go_wp2_with fail
              clear f0 f1 f2 f3 f4 f5 f6 f7 hgl hfb HOLD
              have HBR' := hbr; clear hbr hz HBR
              have HBR := HBR'; clear HBR'
              obtain ⟨woconts, rfl⟩ : ∃ W : World, W = wr := ⟨_, rfl⟩
              go_loopw [6] (fun t wr => ∃ k : Nat, k ≤ v.cross.2.1 ∧ t = .int .i64 k ∧ Hid (∀ (i : Nat) (x : CrossM), i < k → f.cross[i]? = some x → x.ops.length ≤ 30) ∧ Hid (Below (w.heap.size + 1) (w.alloc (.cells (fvs v) 29)) wr)) (fun t _ => v.cross.2.1 - (intOf t).toNat)
              case atStart => exact ⟨0, Nat.zero_le _, rfl, Lib.hid (fun i x hi => by omega), HBR⟩
              case round =>
                obtain ⟨k, hk, rfl, hz, hbr⟩ := hrel
                have hfb := HC.out.blk.below hbr.out (Nat.lt_succ_self _)
                obtain ⟨f0, f1, f2, f3, f4, f5, f6, f7⟩ := hfb.flat
                have hgl : w.heap.size < wr.heap.size := hfb.lt
                have HOLD := Lib.hid (show Below w.heap.size w wr from HC.out.old.trans (hbr.out.mono (Nat.le_succ _)))
                by_cases hlt : k < v.cross.2.1
                · have his := HC.out.is.below (hbr.out.mono (Nat.le_succ_of_le HC.out.le))
                  obtain ⟨x, hx⟩ := his.cross.ex hlt
                  obtain ⟨b, off, ha, hlb, hat⟩ := his.cross.at_ hx
                  obtain ⟨r, hrow, e0, e1⟩ := hat.cells
                  have hbl : b < wr.heap.size := Nat.lt_of_lt_of_le hlb (Nat.le_trans HC.out.le (Nat.le_of_lt hfb.lt))
                  have HX := Lib.hid hx
                  have HAL := Lib.hid hrow.1
                  have HRO := Lib.hid hrow
                  have hmx1 := hrow.len_le
                  unfold maxLen at hmx1
                  rw [ha] at f6 ⊢
                  clear his hat hx ha hfb hrow
                  by_cases c0 : r.2.1 ≤ 30
                  rotate_left
                  · have c0' : 30 < r.2.1 := by omega
                    clear c0
                    go_wp2_with fail
                    go_ret
                    exact ⟨⟨false, rfl, fun h => by cases h⟩, HOLD.out⟩
                  go_wp2_with fail
                  clear f0 f1 f2 f3 f4 f5 f7
                  go_loop [7] (fun t => ∃ j : Nat, j ≤ r.2.1 ∧ t = .int .i64 j) (fun t => r.2.1 - (intOf t).toNat)
                  case atStart => exact ⟨0, Nat.zero_le _, rfl⟩
                  case round =>
                    obtain ⟨j, hj, rfl⟩ := hrel
                    by_cases hjl : j < r.2.1
                    · obtain ⟨y, hy⟩ := HRO.out.ex hjl
                      obtain ⟨b2, off2, ha2, hlb2, hat2⟩ := HRO.out.at_ hy
                      obtain ⟨z, hrow2, q0, q1⟩ := hat2.cells
                      have hbl2 : b2 < wr.heap.size := Nat.lt_of_lt_of_le hlb2 (Nat.le_trans HC.out.le (Nat.le_of_lt hgl))
                      have hmz := hrow2.len_le
                      unfold maxLen at hmz
                      rw [ha2] at e1 ⊢
                      clear hy hat2 ha2 hrow2
                      by_cases c5 : z.2.1 ≤ 5
                      rotate_left
                      · have c5' : 5 < z.2.1 := by omega
                        clear c5
                        go_wp2_with fail
                        go_ret
                        exact ⟨⟨false, rfl, fun h => by cases h⟩, HOLD.out⟩
                      · go_wp2_with fail
                        go_round
                        case rel => exact ⟨j + 1, by omega, by go_num⟩
                        case measure => simp [intOf]; omega
                    · go_wp2_with fail
                      go_roundw
                      case rel => exact ⟨k + 1, by omega, by go_num, Lib.hid (fun i x hi hx => if h : i = k then by subst h; rw [HX.out] at hx; injection hx with hx; subst hx; exact by rw [HAL.out]; exact c0 else hz.out i x (by omega) hx), hbr⟩
                      case measure => simp [intOf]; omega
                · have HPX : Hid (∀ (i : Nat) (x : CrossM), f.cross[i]? = some x → x.ops.length ≤ 30) := Lib.hid (fun i x hx => hz.out i x (by have := (List.getElem?_eq_some_iff.1 hx).1; rw [show k = v.cross.2.1 by omega]; have := HLX.out; omega) hx)
                  go_wp2_with fail
                  go_ret
                  exact ⟨⟨true, rfl, fun _ => ⟨by rw [HLE.out]; exact t0, by rw [HLN.out]; exact t1, by rw [HLM.out]; exact t2, by rw [HLC.out]; exact t3, by rw [HLX.out]; exact t4, by rw [HLO.out]; exact t5, by rw [HLA.out]; exact t6, by rw [HLI.out]; exact t7, HPE.out, HPM.out, HPC.out, HPX.out⟩⟩, HOLD.out⟩

end Go.Proofs.Ytpcpbpinhdbjiaa

namespace Go.Proofs.Ytpcpbpinhdbjiaa
set_option linter.unusedVariables false
set_option linter.unusedSimpArgs false
set_option maxRecDepth 100000
open Go.RowKit

def planZ : Value := .agg #[.slice none 0 0, .slice none 0 0, .int .i64 0]
/-- the place of a variable in an order; -1, if it is not there -/
def plc (l : List Int) (x : Int) : Int := match l.findIdx? (fun y => y == x) with
  | some i => (i : Int)
  | none => -1
theorem plc_yes {l : List Int} {k : Nat} {x : Int} (hx : l[k]? = some x) (hn : ∀ y ∈ l.take k, y ≠ x) : plc l x = (k : Int) := by
  have : l.findIdx? (fun y => y == x) = some k := by
    rw [List.findIdx?_eq_some_iff_getElem]
    have hk : k < l.length := (List.getElem?_eq_some_iff.1 hx).1
    refine ⟨hk, by rw [(List.getElem?_eq_some_iff.1 hx).2]; simp, fun j hj => ?_⟩
    have := hn (l[j]'(by omega)) (by rw [List.mem_take_iff_getElem]; exact ⟨j, by omega, rfl⟩)
    simpa using this
  unfold plc; rw [this]
theorem plc_no {l : List Int} {x : Int} (hn : ∀ y ∈ l, y ≠ x) : plc l x = -1 := by
  have : l.findIdx? (fun y => y == x) = none := by
    rw [List.findIdx?_eq_none_iff]
    intro y hy; simpa using hn y hy
  unfold plc; rw [this]

set_option maxHeartbeats 400000 in
theorem place_t (a : Option Addr) (n c B : Nat) (xs : List Int) (X : Int) (w : World) (hr : IRow w B a n c xs) :
    Calls Try.prog 31 #[.slice a n c, .int .i64 X] w fun e w' => e = .returned (.int .i64 (plc xs X)) ∧ w = w' := by
  have hm := hr.len_le
  have HR := Lib.hid hr; clear hr
  unfold maxLen at hm
  go_enter Try.func31, Try.ntmps31
  go_wp2
  go_loop [5] (fun t => ∃ k : Nat, k ≤ n ∧ t = .int .i64 k ∧ Hid (∀ y ∈ xs.take k, y ≠ X)) (fun t => n - (intOf t).toNat)
  case atStart => exact ⟨0, Nat.zero_le _, rfl, Lib.hid (fun y hy => by simp at hy)⟩
  case round =>
    obtain ⟨k, hk, rfl, hz⟩ := hrel
    by_cases hlt : k < n
    · obtain ⟨g, off, rfl, hg, hcell⟩ := HR.out.at_ hlt
      have HX := Lib.hid (irow_get HR.out hlt)
      obtain ⟨Y, hY⟩ : ∃ Y, xs.getD k 0 = Y := ⟨_, rfl⟩
      rw [hY] at hcell HX
      clear hY
      by_cases hp : Y = X
      · have hpe : (Y == X) = true := by rw [beq_iff_eq]; exact hp
        have HP : Hid (plc xs X = (k : Int)) := Lib.hid (plc_yes (by rw [HX.out, hp]) hz.out)
        clear hp
        go_wp2
        go_ret
        exact ⟨by rw [HP.out]; first | rfl | simp, rfl⟩
      · have hpe : (Y == X) = false := by rw [beq_eq_false_iff_ne]; exact hp
        have HP := Lib.hid hp; clear hp
        go_wp2
        go_round
        case rel => exact ⟨k + 1, by omega, by go_num, Lib.hid (fun y hy => by
          rw [List.take_add_one, HX.out] at hy
          rw [List.mem_append] at hy
          rcases hy with hy | hy
          · exact hz.out y hy
          · simp at hy; subst hy; exact HP.out)⟩
        case measure => simp [intOf]; omega
    · have HP : Hid (plc xs X = -1) := Lib.hid (plc_no (fun y hy => hz.out y (by rwa [List.take_of_length_le (by rw [HR.out.1]; omega)])))
      go_wp2
      go_ret
      exact ⟨by rw [HP.out]; first | rfl | simp, rfl⟩

end Go.Proofs.Ytpcpbpinhdbjiaa
