/- Few. · The example, on plain lists. -/
import Derived.Test.YtkcgikoploohkaaGreatDoorZSf1
import Derived.Deep.DeepCutAuto
import Derived.Test.YtkcgikoploohkaaGreatDoorZSd5
import Derived.Laws.EntriesVeiled
import Derived.Lib.SlBytesConst
namespace Go.Proofs.YtkcgikoploohkaaGreatDoor
set_option linter.unusedVariables false
set_option linter.unusedSimpArgs false
set_option maxRecDepth 100000
open Go.RowKit Go.Shelf Nums

/-- short: no more than eight limbs in both parts -/
def RV.Sh (r : RV) : Prop := r.n + r.m ≤ 8
/-- a truth that, told, is so -/
def TellsIf (p : Prop) (w : World) (e : Ending) (w' : World) : Prop := (∃ b : Bool, e = .returned (.bool b) ∧ (b = true → p)) ∧ Below w.heap.size w w'
/-- what Few tells of a script -/
def FewP (v : SV) (L : List CM) : Prop := v.n ≤ 30 ∧ v.h.Sh ∧ ∀ x ∈ L, x.t.Sh ∧ x.v.Sh ∧ x.nm.size ≤ 200
/-- no longer than a row that came in can be -/
def RV.Came (r : RV) : Prop := r.n ≤ 1000000000000000 ∧ r.m ≤ 1000000000000000
theorem long_t (r : RV) (w : World) (h : r.Came) : Calls Tryz.prog 38 #[.agg #[.bool r.s, .slice r.a r.n r.c, .slice r.b r.m r.d]] w fun e w' => e = .returned (.bool (decide (8 < (r.n : Int) + (r.m : Int)))) ∧ Below w.heap.size w w' := by
  have e1 : r.n ≤ 1000000000000000 := h.1
  have e2 : r.m ≤ 1000000000000000 := h.2
  clear h
  go_enter Tryz.func38, Tryz.ntmps38
  go_wp2
  go_ret
  exact ⟨rfl, below_one _ _⟩
theorem few_no {p : Prop} {w w' : World} (hb : Below w.heap.size w w') : TellsIf p w (.returned (.bool false)) w' := ⟨⟨false, rfl, fun h => by cases h⟩, hb⟩
set_option maxHeartbeats 8000000 in
/-- Few -/
theorem few_t (v : SV) (h : Rat) (L : List CM) (w : World) (hv : v.Is h L w) (h1 : v.h.Came) (h2 : ∀ x ∈ L, x.t.Came ∧ x.v.Came) : Calls Tryz.prog 12 #[.agg #[.bool v.h.s, .slice v.h.a v.h.n v.h.c, .slice v.h.b v.h.m v.h.d, .int .i64 v.cas, .int .i64 v.bits, .slice v.a v.n v.c]] w (TellsIf (FewP v L) w) := by
  have HB := Lib.hid (below_one w (.cells #[.bool v.h.s, .slice v.h.a v.h.n v.h.c, .slice v.h.b v.h.m v.h.d, .int .i64 v.cas, .int .i64 v.bits, .slice v.a v.n v.c] 30))
  have HS := Lib.hid (show SBlk (w.alloc (.cells #[.bool v.h.s, .slice v.h.a v.h.n v.h.c, .slice v.h.b v.h.m v.h.d, .int .i64 v.cas, .int .i64 v.bits, .slice v.a v.n v.c] 30)) w.heap.size v from Blk.new _ _ _)
  have HV := Lib.hid hv
  have HH := Lib.hid h1
  have HX2 := Lib.hid h2
  have HN := Lib.hid (show L.length = v.n from hv.c.1)
  have hnb : v.n ≤ maxLen := Nat.le_trans hv.c.2.1 hv.c.2.2.1
  unfold maxLen at hnb
  clear hv h1 h2
  obtain ⟨p0, p1, p2, p3, p4, p5⟩ := HS.out.cells
  by_cases z0 : 30 < v.n
  · have z1 : (30 : Int) < (v.n : Int) := by omega
    go_enter Tryz.func12, Tryz.ntmps12
    go_wp2_with fail
    go_ret
    exact few_no HB.out
  have z1 : ¬ (30 : Int) < (v.n : Int) := by omega
  obtain ⟨d, hd⟩ : ∃ d, decide (8 < (v.h.n : Int) + (v.h.m : Int)) = d := ⟨_, rfl⟩
  have HD := Lib.hid hd
  clear hd
  cases d with
  | true =>
    go_enter Tryz.func12, Tryz.ntmps12
    go_wp2_with (go_at_call 38; (with_reducible refine (long_t v.h _ HH.out).mono ?_); rintro e w1 ⟨rfl, hb⟩; rw [HD.out]; replace HB := Lib.hid (bthen HB.out hb); clear hb)
    go_ret
    exact few_no HB.out
  | false =>
    go_enter Tryz.func12, Tryz.ntmps12
    go_upto_region 4 with (go_at_call 38; (with_reducible refine (long_t v.h _ HH.out).mono ?_); rintro e w1 ⟨rfl, hb⟩; rw [HD.out]; replace HS := Lib.hid (HS.out.later hb); replace HB := Lib.hid (bthen HB.out hb); clear hb p0 p1 p2 p3 p4 p5; obtain ⟨p0, p1, p2, p3, p4, p5⟩ := HS.out.cells)
    go_loopw [3] (fun t wr => ∃ k : Nat, k ≤ v.n ∧ t = .int .i64 k ∧ Hid (SBlk wr w.heap.size v) ∧ Hid (Below w.heap.size w wr) ∧ Hid (∀ (i : Nat) (y : CM), i < k → L[i]? = some y → y.t.Sh ∧ y.v.Sh ∧ y.nm.size ≤ 200)) (fun t _ => v.n - (intOf t).toNat)
    case atStart => exact ⟨0, Nat.zero_le _, rfl, HS, HB, Lib.hid (fun i y hi => by omega)⟩
    case round =>
      obtain ⟨k, hk, rfl, HS2, HB2, HO⟩ := hrel
      clear HS HB p0 p1 p2 p3 p4 p5
      have HS := HS2
      have HB := HB2
      clear HS2 HB2
      obtain ⟨p0, p1, p2, p3, p4, p5⟩ := HS.out.cells
      by_cases hlt : k < v.n
      · obtain ⟨x, hx⟩ : ∃ x, L[k]? = some x := ⟨_, List.getElem?_eq_getElem (by rw [HN.out]; exact hlt)⟩
        obtain ⟨b, off, ha, hbB0, hat0⟩ := HV.out.c.at_ hx
        have hat := hat0.later hbB0 HB.out
        have HMX := Lib.hid (HX2.out x (List.mem_of_getElem? hx))
        have HX := Lib.hid hx
        obtain ⟨c0, c1, c2, c3, c4, c5, c6, -, -⟩ := hat
        rw [show off + k * 7 + 5 = off + k * 7 + 4 + 1 from rfl] at c5
        rw [show off + k * 7 + 6 = off + k * 7 + 4 + 2 from rfl] at c6
        obtain ⟨W1, hW1⟩ : ∃ W1, W1 = wr.alloc (.cells #[.bool x.t.s, .slice x.t.a x.t.n x.t.c, .slice x.t.b x.t.m x.t.d, .string x.nm, .bool x.v.s, .slice x.v.a x.v.n x.v.c, .slice x.v.b x.v.m x.v.d] 43) := ⟨_, rfl⟩
        have hb1 : Below wr.heap.size wr W1 := by rw [hW1]; exact below_one _ _
        have HK1 := Lib.hid (show Blk W1 wr.heap.size 43 #[.bool x.t.s, .slice x.t.a x.t.n x.t.c, .slice x.t.b x.t.m x.t.d, .string x.nm, .bool x.v.s, .slice x.v.a x.v.n x.v.c, .slice x.v.b x.v.m x.v.d] by rw [hW1]; exact Blk.new _ _ _)
        replace HS := Lib.hid (SBlk.later HS.out hb1)
        replace HB := Lib.hid (bthen HB.out hb1)
        have HW1 := Lib.hid hW1
        clear hW1 hb1 hx hat0 hbB0
        go_upto_region 7 with fail
        rw [← HW1.out]; clear HW1 c0 c1 c2 c3 c4 c5 c6 p0 p1 p2 p3 p4 p5
        obtain ⟨p0, p1, p2, p3, p4, p5⟩ := HS.out.cells
        obtain ⟨c0, c1, c2, c3, c4, c5, c6⟩ := HK1.out.sev7
        have HA := Lib.hid ha
        clear ha
        try rw [← HA.out]
        obtain ⟨d1, hd1⟩ : ∃ d, decide (8 < (x.t.n : Int) + (x.t.m : Int)) = d := ⟨_, rfl⟩
        have HD1 := Lib.hid hd1
        clear hd1
        obtain ⟨d2, hd2⟩ : ∃ d, decide (8 < (x.v.n : Int) + (x.v.m : Int)) = d := ⟨_, rfl⟩
        have HD2 := Lib.hid hd2
        clear hd2
        cases d1 with
        | true =>
          go_wp2_with (first
          | (have mk := G1; go_at_call 38; (with_reducible refine (long_t x.v _ HMX.out.2).mono ?_); rintro e w2 ⟨rfl, hb⟩; rw [HD2.out]; replace HS := Lib.hid (SBlk.later HS.out hb); replace HB := Lib.hid (bthen HB.out hb); replace HK1 := Lib.hid (Blk.later HK1.out hb); clear hb; clear p0 p1 p2 p3 p4 p5 c0 c1 c2 c3 c4 c5 c6; obtain ⟨p0, p1, p2, p3, p4, p5⟩ := HS.out.cells; obtain ⟨c0, c1, c2, c3, c4, c5, c6⟩ := HK1.out.sev7)
          | (go_at_call 38; (with_reducible refine (long_t x.t _ HMX.out.1).mono ?_); rintro e w1 ⟨rfl, hb⟩; rw [HD1.out]; replace HS := Lib.hid (SBlk.later HS.out hb); replace HB := Lib.hid (bthen HB.out hb); replace HK1 := Lib.hid (Blk.later HK1.out hb); clear hb; clear p0 p1 p2 p3 p4 p5 c0 c1 c2 c3 c4 c5 c6; obtain ⟨p0, p1, p2, p3, p4, p5⟩ := HS.out.cells; obtain ⟨c0, c1, c2, c3, c4, c5, c6⟩ := HK1.out.sev7; have G1 : Hid True := trivial))
          go_ret
          exact few_no HB.out
        | false =>
          cases d2 with
          | true =>
            go_wp2_with (first
          | (have mk := G1; go_at_call 38; (with_reducible refine (long_t x.v _ HMX.out.2).mono ?_); rintro e w2 ⟨rfl, hb⟩; rw [HD2.out]; replace HS := Lib.hid (SBlk.later HS.out hb); replace HB := Lib.hid (bthen HB.out hb); replace HK1 := Lib.hid (Blk.later HK1.out hb); clear hb; clear p0 p1 p2 p3 p4 p5 c0 c1 c2 c3 c4 c5 c6; obtain ⟨p0, p1, p2, p3, p4, p5⟩ := HS.out.cells; obtain ⟨c0, c1, c2, c3, c4, c5, c6⟩ := HK1.out.sev7)
          | (go_at_call 38; (with_reducible refine (long_t x.t _ HMX.out.1).mono ?_); rintro e w1 ⟨rfl, hb⟩; rw [HD1.out]; replace HS := Lib.hid (SBlk.later HS.out hb); replace HB := Lib.hid (bthen HB.out hb); replace HK1 := Lib.hid (Blk.later HK1.out hb); clear hb; clear p0 p1 p2 p3 p4 p5 c0 c1 c2 c3 c4 c5 c6; obtain ⟨p0, p1, p2, p3, p4, p5⟩ := HS.out.cells; obtain ⟨c0, c1, c2, c3, c4, c5, c6⟩ := HK1.out.sev7; have G1 : Hid True := trivial))
            go_ret
            exact few_no HB.out
          | false =>
            by_cases z9 : 200 < x.nm.size
            · have z8 : (200 : Int) < (x.nm.size : Int) := by omega
              go_wp2_with (first
          | (have mk := G1; go_at_call 38; (with_reducible refine (long_t x.v _ HMX.out.2).mono ?_); rintro e w2 ⟨rfl, hb⟩; rw [HD2.out]; replace HS := Lib.hid (SBlk.later HS.out hb); replace HB := Lib.hid (bthen HB.out hb); replace HK1 := Lib.hid (Blk.later HK1.out hb); clear hb; clear p0 p1 p2 p3 p4 p5 c0 c1 c2 c3 c4 c5 c6; obtain ⟨p0, p1, p2, p3, p4, p5⟩ := HS.out.cells; obtain ⟨c0, c1, c2, c3, c4, c5, c6⟩ := HK1.out.sev7)
          | (go_at_call 38; (with_reducible refine (long_t x.t _ HMX.out.1).mono ?_); rintro e w1 ⟨rfl, hb⟩; rw [HD1.out]; replace HS := Lib.hid (SBlk.later HS.out hb); replace HB := Lib.hid (bthen HB.out hb); replace HK1 := Lib.hid (Blk.later HK1.out hb); clear hb; clear p0 p1 p2 p3 p4 p5 c0 c1 c2 c3 c4 c5 c6; obtain ⟨p0, p1, p2, p3, p4, p5⟩ := HS.out.cells; obtain ⟨c0, c1, c2, c3, c4, c5, c6⟩ := HK1.out.sev7; have G1 : Hid True := trivial))
              go_ret
              exact few_no HB.out
            · have z8 : ¬ (200 : Int) < (x.nm.size : Int) := by omega
              go_wp2_with (first
          | (have mk := G1; go_at_call 38; (with_reducible refine (long_t x.v _ HMX.out.2).mono ?_); rintro e w2 ⟨rfl, hb⟩; rw [HD2.out]; replace HS := Lib.hid (SBlk.later HS.out hb); replace HB := Lib.hid (bthen HB.out hb); replace HK1 := Lib.hid (Blk.later HK1.out hb); clear hb; clear p0 p1 p2 p3 p4 p5 c0 c1 c2 c3 c4 c5 c6; obtain ⟨p0, p1, p2, p3, p4, p5⟩ := HS.out.cells; obtain ⟨c0, c1, c2, c3, c4, c5, c6⟩ := HK1.out.sev7)
          | (go_at_call 38; (with_reducible refine (long_t x.t _ HMX.out.1).mono ?_); rintro e w1 ⟨rfl, hb⟩; rw [HD1.out]; replace HS := Lib.hid (SBlk.later HS.out hb); replace HB := Lib.hid (bthen HB.out hb); replace HK1 := Lib.hid (Blk.later HK1.out hb); clear hb; clear p0 p1 p2 p3 p4 p5 c0 c1 c2 c3 c4 c5 c6; obtain ⟨p0, p1, p2, p3, p4, p5⟩ := HS.out.cells; obtain ⟨c0, c1, c2, c3, c4, c5, c6⟩ := HK1.out.sev7; have G1 : Hid True := trivial))
              have HO2 := Lib.hid (show ∀ (i : Nat) (y : CM), i < k + 1 → L[i]? = some y → y.t.Sh ∧ y.v.Sh ∧ y.nm.size ≤ 200 from fun i y hi hy => by
                rcases Nat.lt_or_ge i k with q | q
                · exact HO.out i y q hy
                · obtain rfl : k = i := by omega
                  rw [HX.out] at hy
                  injection hy with hy
                  subst hy
                  have f1 := of_decide_eq_false HD1.out
                  have f2 := of_decide_eq_false HD2.out
                  exact ⟨by unfold RV.Sh; omega, by unfold RV.Sh; omega, by omega⟩)
              go_roundw
              case rel => exact ⟨k + 1, by omega, by go_num, HS, HB, HO2⟩
              case measure => simp [intOf]; omega
      · obtain rfl : k = v.n := by omega
        have HHD := Lib.hid (of_decide_eq_false HD.out)
        go_wp2
        go_ret
        exact ⟨⟨true, rfl, fun _ => ⟨by omega, by have := HHD.out; unfold RV.Sh; omega, fun d hd => by obtain ⟨i, hi, e⟩ := List.getElem_of_mem hd; exact HO.out i d (by rw [← HN.out]; exact hi) (by rw [List.getElem?_eq_getElem hi, e])⟩⟩, HB.out⟩

end Go.Proofs.YtkcgikoploohkaaGreatDoor

namespace Go.Proofs.YtkcgikoploohkaaGreatDoor
set_option linter.unusedVariables false
set_option linter.unusedSimpArgs false
set_option maxRecDepth 100000
open Go.RowKit Go.Shelf Nums

def awT : List UInt8 := [104, 111, 114, 105, 122, 111, 110, 32, 53, 47, 50, 10, 99, 97, 115, 99, 97, 100, 101, 32, 49, 48, 10, 98, 105, 116, 115, 32, 54, 52, 10, 97, 116, 32, 49, 46, 53, 32, 118, 32, 61, 32, 45, 49, 10]
def awS : ScT := ⟨mkRat 5 2, 10, 64, [(mkRat 3 2, ⟨#[118]⟩, -1)]⟩
theorem lim_le {n : Nat} (h : n < 4294967296) : (limbs n).length ≤ 12 := Nat.le_trans (len_of (k := 1) h) (by decide)
theorem num52 : NumT ⟨#[53, 47, 50]⟩ (some (mkRat 5 2)) := number_small _ _ 2 2 (fun w => parseQ_ok 2 _ _ ⟨#[53]⟩ ⟨#[50]⟩ ⟨#[53]⟩ false w ⟨by rfl, by decide⟩ (Or.inr ⟨rfl, rfl, by decide⟩) (by decide) (by decide) (allDig_of _ (by decide)) (by decide) (by decide) (allDig_of _ (by decide)) (by decide) (by decide) (by decide) (by decide) (by decide) (by rfl)) (lim_le (by decide +kernel)) (lim_le (by decide +kernel))
theorem num15 : NumT ⟨#[49, 46, 53]⟩ (some (mkRat 3 2)) := number_small _ _ 2 2 (fun w => parseD_ok 2 _ _ ⟨#[49]⟩ ⟨#[53]⟩ ⟨#[49]⟩ false w (by decide) ⟨by rfl, by decide⟩ (Or.inr ⟨rfl, rfl, by decide⟩) (by decide) (by decide) (allDig_of _ (by decide)) (by decide) (by decide) (allDig_of _ (by decide)) (by decide) (by decide) (by decide) (by decide)) (lim_le (by decide +kernel)) (lim_le (by decide +kernel))
theorem numm1 : NumT ⟨#[45, 49]⟩ (some (-1)) := number_small _ _ 2 2 (fun w => parse_int 2 2 (-1) _ w (by decide) (by decide) (by decide) (int_call 2 true _ ⟨#[49]⟩ (Or.inl ⟨rfl, rfl⟩) (by decide) (by decide) (allDig_of _ (by decide)) (by decide) (by decide))) (lim_le (by decide +kernel)) (lim_le (by decide +kernel))
theorem aw_parse {w : World} (hg : Gl w) : parseM numS awT = .inr awS := by
  have n1 := numS_eq hg num52
  have n2 := numS_eq hg num15
  have n3 := numS_eq hg numm1
  have t1 : takeM awT = some ([bHOR, ⟨#[53, 47, 50]⟩], awT.drop 12) := by rfl
  have t2 : takeM (awT.drop 12) = some ([bCAS, ⟨#[49, 48]⟩], awT.drop 23) := by rfl
  have t3 : takeM (awT.drop 23) = some ([bBITS, ⟨#[54, 52]⟩], awT.drop 31) := by rfl
  have t4 : takeM (awT.drop 31) = some ([bAT, ⟨#[49, 46, 53]⟩, ⟨#[118]⟩, bEQ, ⟨#[45, 49]⟩], []) := by rfl
  rw [parse_3 (lineM_yes t1 (by show (if bHOR = bHOR then numS _ else none) = _; rw [if_pos rfl]; exact n1)) (lineM_yes t2 (by rfl)) (lineM_yes t3 (by rfl))]
  rw [loopM_yes (by decide) (lineM_yes t4 (by show (if bAT = bAT ∧ nameB (⟨#[118]⟩ : ByteArray).data.toList = true ∧ bEQ = bEQ then pairM ⟨#[118]⟩ (numS _) (numS _) else none) = _; rw [if_pos ⟨rfl, by decide, rfl⟩, n2, n3]; rfl)), loopM_end (by decide)]
  rfl
theorem str52 : ratStr (mkRat 5 2) = ⟨#[53, 47, 50]⟩ := by
  have n1 : (mkRat 5 2).num = 5 := by decide +kernel
  have n2 : (mkRat 5 2).den = 2 := by decide +kernel
  rw [ratStr, if_neg (by rw [n2]; decide), n1, n2, decI, if_neg (by decide), show (5 : Int).natAbs = 5 from rfl, dec_digit 5 53 (by omega) (by omega) rfl, dec_digit 2 50 (by omega) (by omega) rfl]; rfl
theorem strm1 : ratStr (-1) = ⟨#[45, 49]⟩ := by
  rw [ratStr, if_pos (show (-1 : Rat).den = 1 by decide +kernel), show (-1 : Rat).num = -1 by decide +kernel, decI, if_pos (by decide), show (-1 : Int).natAbs = 1 from rfl, dec_digit 1 49 (by omega) (by omega) rfl]; rfl
theorem it10 : Lib.itoa 10 = [49, 48] := by decide +kernel
theorem it64 : Lib.itoa 64 = [54, 52] := by decide +kernel
theorem aw_print : printM awS = [104, 111, 114, 105, 122, 111, 110, 32, 53, 47, 50, 10, 99, 97, 115, 99, 97, 100, 101, 32, 49, 48, 10, 98, 105, 116, 115, 32, 54, 52, 10, 97, 116, 32, 51, 47, 50, 32, 118, 32, 61, 32, 45, 49, 10] := by
  have e1 : numL (mkRat 5 2) = [53, 47, 50] := by unfold numL; rw [str52]
  have e2 : numL (mkRat 3 2) = [51, 47, 50] := by unfold numL; rw [str32]
  have e3 : numL (-1) = [45, 49] := by unfold numL; rw [strm1]
  show lineP [bHOR.data.toList, numL (mkRat 5 2)] ++ lineP [bCAS.data.toList, Lib.itoa 10] ++ lineP [bBITS.data.toList, Lib.itoa 64] ++ ([lineP [[97, 116], numL (mkRat 3 2), [118], [61], numL (-1)]] : List (List UInt8)).flatten = _
  rw [e1, e2, e3, it10, it64]
  rfl
theorem aw_ok : okP awS = true := by
  show (shortT (ratStr (mkRat 5 2)) && cntB 10 && cntB 64 && [(mkRat 3 2, (⟨#[118]⟩ : ByteArray), (-1 : Rat))].all chB) = true
  have e : chB (mkRat 3 2, (⟨#[118]⟩ : ByteArray), (-1 : Rat)) = (nameB [118] && shortT (ratStr (mkRat 3 2)) && shortT (ratStr (-1))) := rfl
  rw [List.all_cons, List.all_nil, e, str52, str32, strm1]
  decide +kernel
theorem aw_right : rgtM awS [⟨#[118]⟩] = true := by rfl
theorem aw_wrong : rgtM awS [] = false := by rfl
theorem aw_row (w : World) : TRow (w.alloc (.cells (awT.map fun x => Value.int .u8 (x.toNat : Int)).toArray 5 (45, 46))) (some ⟨w.heap.size, 0, none⟩) 45 45 awT := by
  refine ⟨rfl, Nat.le_refl _, by unfold maxLen; decide, w.heap.size, 0, .inl rfl, fun i x hx => ⟨by simp, ?_⟩⟩
  rw [Nat.zero_add]
  have hb : (w.alloc (.cells (awT.map fun x => Value.int .u8 (x.toNat : Int)).toArray 5 (45, 46))).heap[w.heap.size]? = some (.cells (awT.map fun x => Value.int .u8 (x.toNat : Int)).toArray 5 (45, 46)) := by
    show (w.heap.push _)[w.heap.size]? = _
    simp
  unfold World.cell?
  simp only [hb]
  simp [hx]
theorem aw_xs {xs : List CM} (h : xs.map CM.told = awS.ch) (hf : ∀ x ∈ xs, x.Fit) : ∀ x ∈ xs, x.t.n ≤ 12 ∧ x.t.m ≤ 12 ∧ x.v.n ≤ 12 ∧ x.v.m ≤ 12 ∧ x.nm.size ≤ 200 := by
  intro x hx
  have hm : x.told ∈ awS.ch := by rw [← h]; exact List.mem_map_of_mem hx
  have e : x.told = (mkRat 3 2, ⟨#[118]⟩, -1) := by simpa [awS] using hm
  have e1 : x.p = mkRat 3 2 := congrArg Prod.fst e
  have e2 : x.nm = ⟨#[118]⟩ := congrArg (fun y => y.2.1) e
  have e3 : x.q = -1 := congrArg (fun y => y.2.2) e
  obtain ⟨⟨f1, f2⟩, f3, f4⟩ := hf x hx
  rw [f1, f2, f3, f4, e1, e2, e3]
  exact ⟨lim_le (by decide +kernel), lim_le (by decide +kernel), lim_le (by decide +kernel), lim_le (by decide +kernel), by decide⟩
theorem aw_h {v : SV} (h : v.h.Fit awS.h) : v.h.n ≤ 12 ∧ v.h.m ≤ 12 := by
  rw [h.1, h.2]
  exact ⟨lim_le (by decide +kernel), lim_le (by decide +kernel)⟩
theorem aw_eq {v : SV} {xs : List CM} (h1 : v.cas = awS.cas) (h2 : v.bits = awS.bits) (h3 : xs.map CM.told = awS.ch) : (⟨awS.h, v.cas, v.bits, xs.map CM.told⟩ : ScT) = awS := by rw [h1, h2, h3]
theorem aw_nil (w : World) : SRow w none 0 0 [] := ⟨rfl, Nat.le_refl _, Nat.zero_le _, 0, 0, .inr (Nat.le_refl _), fun i x hx => by cases hx⟩
set_option maxHeartbeats 8000000 in
theorem awake_t (w : World) (hg : Gl w) : Calls Tryz.prog 11 #[] w fun e w' => e = .returned (.bool true) ∧ Below w.heap.size w w' := by
  have hb1 := below_one w (.cells (awT.map fun x => Value.int .u8 (x.toNat : Int)).toArray 5 (45, 46))
  have HP := Lib.hid (parse_run _ _ _ awT _ (hg.later hb1) (aw_row w) (by decide))
  rw [aw_parse hg] at HP
  have HB1 := Lib.hid hb1
  have HG := Lib.hid (hg.later hb1)
  have kc := fun (w : World) (C : Array Value) (n c : Nat) => Lib.run_convert_bytes_const (P := Tryz.prog) w 22 5 C n c Tryz.underlying22 Tryz.underlying5
  clear hb1 hg
  go_enter Tryz.func11, Tryz.ntmps11
  go_upto_region 1 with fail
  go_upto_region 2 with (go_at_call 8; refine HP.out.mono ?_; rintro e w1 ⟨v, xs, rfl, hv, hf, hx, h1, h2, h3, hb⟩; have HV := Lib.hid hv; have HF := Lib.hid (aw_h hf); have HX := Lib.hid (aw_xs h3 hx); have HE := Lib.hid (aw_eq h1 h2 h3); have HC := Lib.hid (show v.cas = 10 ∧ v.bits = 64 from ⟨h1, h2⟩); have HB2 := Lib.hid (bthen HB1.out hb); have HG2 := Lib.hid (HG.out.later hb); clear hv hf hx h1 h2 h3 hb)
  obtain ⟨W2, hW2⟩ : ∃ W2, W2 = w1.alloc (.cells #[.bool v.h.s, .slice v.h.a v.h.n v.h.c, .slice v.h.b v.h.m v.h.d, .int .i64 v.cas, .int .i64 v.bits, .slice v.a v.n v.c] 30) := ⟨_, rfl⟩
  rw [← hW2]
  have b2 : Below w1.heap.size w1 W2 := by rw [hW2]; exact below_one _ _
  have HS := Lib.hid (show SBlk W2 w1.heap.size v by rw [hW2]; exact Blk.new _ _ _)
  have HI := Lib.hid (HV.out.later b2)
  have HG3 := Lib.hid (HG2.out.later b2)
  have HB3 := Lib.hid (bthen HB2.out b2)
  have HL := Lib.hid (show xs.length ≤ 70000 by have := HE.out; have e : xs.map CM.told = awS.ch := congrArg ScT.ch this; have := congrArg List.length e; rw [List.length_map] at this; rw [this]; decide)
  obtain ⟨g, hg⟩ : ∃ g, w1.heap.size = g := ⟨_, rfl⟩
  rw [hg] at HS ⊢
  clear hW2 b2 hg HP kc HG HG2 HB1 HB2 HV
  obtain ⟨p0, p1, p2, p3, p4, p5⟩ := HS.out.cells
  go_upto_region 3 with (go_at_call 13; refine (print_run v awS.h xs _ HG3.out HI.out ⟨Nat.le_trans HF.out.1 (by decide), Nat.le_trans HF.out.2 (by decide)⟩ (fun x hx => by have := HX.out x hx; omega) HL.out (by have := HC.out; omega)).mono ?_; rw [HE.out]; rintro e w3 ⟨h1, -, hb⟩; obtain ⟨a, n, c, rfl, ht⟩ := h1 aw_ok; have HT := Lib.hid ht; replace HS := Lib.hid (HS.out.later hb); replace HI := Lib.hid (HI.out.later hb); replace HB3 := Lib.hid (bthen HB3.out hb); clear h1 ht hb; clear p0 p1 p2 p3 p4 p5; obtain ⟨p0, p1, p2, p3, p4, p5⟩ := HS.out.cells)
  have hcv := HT.out.conv
  rw [aw_print] at hcv
  change _ = Result.ok (Value.string ⟨#[104, 111, 114, 105, 122, 111, 110, 32, 53, 47, 50, 10, 99, 97, 115, 99, 97, 100, 101, 32, 49, 48, 10, 98, 105, 116, 115, 32, 54, 52, 10, 97, 116, 32, 51, 47, 50, 32, 118, 32, 61, 32, 45, 49, 10]⟩) w3 at hcv
  go_wp2_with (first
    | (go_at_call 15; refine (right_t v awS.h xs _ 1 1 [⟨#[118]⟩] _ (HI.out.later (below_one _ _)) (srow_new w3 [⟨#[118]⟩] 9 (by decide)) ⟨Nat.le_trans HF.out.1 (by decide), Nat.le_trans HF.out.2 (by decide)⟩ (fun x hx => by have := HX.out x hx; omega)).mono ?_; rw [HE.out, aw_right]; rintro e w4 ⟨rfl, hb⟩; have hb4 := bthen (below_one w3 _) hb; replace HS := Lib.hid (HS.out.later hb4); replace HI := Lib.hid (HI.out.later hb4); replace HB3 := Lib.hid (bthen HB3.out hb4); clear hb hb4; clear p0 p1 p2 p3 p4 p5; obtain ⟨p0, p1, p2, p3, p4, p5⟩ := HS.out.cells)
    | (go_at_call 15; refine (right_t v awS.h xs none 0 0 [] _ HI.out (aw_nil _) ⟨Nat.le_trans HF.out.1 (by decide), Nat.le_trans HF.out.2 (by decide)⟩ (fun x hx => by have := HX.out x hx; omega)).mono ?_; rw [HE.out, aw_wrong]; rintro e w5 ⟨rfl, hb⟩; replace HB3 := Lib.hid (bthen HB3.out hb); clear hb))
  go_ret
  exact ⟨rfl, HB3.out⟩

end Go.Proofs.YtkcgikoploohkaaGreatDoor
