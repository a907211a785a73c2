/- The document's Right. -/
import Derived.Test.YtkcgikoploohkaaGreatDoorPa2
import Derived.Test.YtkcgikoploohkaaGreatDoorZSf1
import Derived.Deep.DeepCutAuto
import Derived.Laws.EntriesVeiled
namespace Go.Proofs.YtkcgikoploohkaaGreatDoor
set_option linter.unusedVariables false
set_option linter.unusedSimpArgs false
set_option maxRecDepth 100000
open Go.RowKit Go.Shelf Nums

/-- what Right asks besides of the changes -/
def rgtC (S : ScT) : Bool := decide (0 ≤ S.h) && decide (0 ≤ S.cas) && decide (S.cas ≤ 999999) && decide (1 ≤ S.bits) && decide (S.bits ≤ 900)
theorem rgt_eq (S : ScT) (ins : List ByteArray) : rgtM S ins = (rgtC S && okR S.h ins 0 S.ch) := rfl
set_option maxHeartbeats 8000000 in
theorem rright56_t (v : SV) (h : Rat) (L : List CM) (a : Option Addr) (n c : Nat) (ins : List ByteArray) (w : World) (hv : v.Is h L w) (hr : SRow w a n c ins) (h1 : v.h.n ≤ 34 ∧ v.h.m ≤ 34) (h2 : ∀ x ∈ L, x.t.n ≤ 34 ∧ x.t.m ≤ 34) :
    Calls Tryz.prog 56 #[.agg #[.bool v.h.s, .slice v.h.a v.h.n v.h.c, .slice v.h.b v.h.m v.h.d, .int .i64 v.cas, .int .i64 v.bits, .slice v.a v.n v.c], .slice a n c] w (fun e w' => e = .returned (.bool (rgtM ⟨h, v.cas, v.bits, L.map CM.told⟩ ins)) ∧ Below w.heap.size w w') := by
  have HB1 := Lib.hid (below_one w (.cells #[.bool v.h.s, .slice v.h.a v.h.n v.h.c, .slice v.h.b v.h.m v.h.d, .int .i64 v.cas, .int .i64 v.bits, .slice v.a v.n v.c] 30))
  have HK0 := Lib.hid (show SBlk (w.alloc (.cells #[.bool v.h.s, .slice v.h.a v.h.n v.h.c, .slice v.h.b v.h.m v.h.d, .int .i64 v.cas, .int .i64 v.bits, .slice v.a v.n v.c] 30)) w.heap.size v from Blk.new _ _ _)
  have HV := Lib.hid hv
  have HRN := Lib.hid hr
  have HH := Lib.hid h1
  have HX2 := Lib.hid h2
  have HN := Lib.hid (show L.length = v.n from hv.c.1)
  have hnb : v.n ≤ maxLen := Nat.le_trans hv.c.2.1 hv.c.2.2.1
  unfold maxLen at hnb
  clear hv hr h1 h2
  obtain ⟨p0, p1, p2, p3, p4, p5⟩ := HK0.out.cells
  have RG := Lib.hid (show rgtM ⟨h, v.cas, v.bits, L.map CM.told⟩ ins = (rgtC ⟨h, v.cas, v.bits, L.map CM.told⟩ && okR h ins 0 (L.map CM.told)) from rfl)
  go_enter Tryz.func56, Tryz.ntmps56
  go_upto_region 2 with (go_at_call 19; (with_reducible refine ((rofR 0 _ (by decide) (by decide)).mono ratK_V).mono ?_); rintro e w2 ⟨r0, rfl, hr0, hb⟩; have HQ0 := Lib.hid hr0; have HB3 := Lib.hid hb; clear hb hr0)
  obtain ⟨W3, hW3⟩ : ∃ W3, W3 = w2.alloc (.cells #[.bool r0.s, .slice r0.a r0.n r0.c, .slice r0.b r0.m r0.d] 27) := ⟨_, rfl⟩
  rw [← hW3]
  have HR0 : Hid (r0.n ≤ 34 ∧ r0.m ≤ 34) := by
    have hq := HQ0.out
    have hl : r0.n ≤ 2 ∧ r0.m ≤ 1 := ⟨hq.choose_spec.choose_spec.2.2.2.1, hq.choose_spec.choose_spec.2.2.2.2⟩
    exact Lib.hid ⟨by omega, by omega⟩
  have HS0 : Hid (RtSt w W3 v h w2.heap.size r0 0) := by
    have b3 : Below w2.heap.size w2 W3 := by rw [hW3]; exact below_one _ _
    have hz : w.heap.size < w2.heap.size := by have := HK0.out.lt; have := HB3.out.size; omega
    have e0 : ((0 : Int) : Rat) = 0 := rfl
    have hq := HQ0.out
    rw [e0] at hq
    have hl : r0.n ≤ 34 ∧ r0.m ≤ 34 := HR0.out
    exact Lib.hid ⟨(HK0.out.later HB3.out).later b3, by rw [hW3]; exact Blk.new _ _ _, bthen (bthen HB1.out HB3.out) b3, ((HV.out.h.later HB1.out).later HB3.out).later b3, (hq.self.later b3), by omega, by omega, hz⟩
  obtain ⟨g, hg⟩ : ∃ g, w2.heap.size = g := ⟨_, rfl⟩
  rw [hg] at HS0 ⊢
  clear hW3 HQ0 HB3 hg p0 p1 p2 p3 p4 p5 HK0
  obtain ⟨p0, p1, p2, p3, p4, p5⟩ := HS0.out.s.cells
  have hcv : v.n ≤ v.c := HV.out.c.2.1
  have hcm : v.c ≤ 9223372036854775807 := by have := HV.out.c.2.2.1; unfold maxLen at this; omega
  go_upto_region 3 with fail
  go_loopw [6] (fun t wr => ∃ k : Nat, k ≤ v.n ∧ t = .int .i64 k ∧ ∃ (r : RV) (q : Rat), Hid (RtSt w wr v h g r q) ∧ Hid (okR h ins 0 (L.map CM.told) = okR h ins q ((L.map CM.told).drop k)) ∧ Hid (r.n ≤ 34 ∧ r.m ≤ 34)) (fun t _ => v.n - (intOf t).toNat)
  case atStart => exact ⟨0, Nat.zero_le _, rfl, r0, 0, HS0, Lib.hid rfl, HR0⟩
  case round =>
    obtain ⟨k, hk, rfl, r, q, HS, HO, HRK⟩ := hrel
    clear HS0 p0 p1 p2 p3 p4 p5
    by_cases hlt : k < v.n
    · obtain ⟨x, hx⟩ : ∃ x, L[k]? = some x := ⟨_, List.getElem?_eq_getElem (by rw [HN.out]; exact hlt)⟩
      obtain ⟨b, off, ha, hbB0, hat0⟩ := HV.out.c.at_ hx
      have hat := hat0.later hbB0 HS.out.k
      have HO2 := Lib.hid (HO.out.trans (okR_next hx q))
      have hmx := HX2.out x (List.mem_of_getElem? hx)
      have HMX := Lib.hid hmx
      obtain ⟨p0, p1, p2, p3, p4, p5⟩ := HS.out.s.cells
      obtain ⟨c0, c1, c2, c3, c4, c5, c6, hxt, -⟩ := hat
      rw [show off + k * 7 + 5 = off + k * 7 + 4 + 1 from rfl] at c5
      rw [show off + k * 7 + 6 = off + k * 7 + 4 + 2 from rfl] at c6
      obtain ⟨W1, hW1⟩ : ∃ W1, W1 = wr.alloc (.cells #[.bool x.t.s, .slice x.t.a x.t.n x.t.c, .slice x.t.b x.t.m x.t.d, .string x.nm, .bool x.v.s, .slice x.v.a x.v.n x.v.c, .slice x.v.b x.v.m x.v.d] 43) := ⟨_, rfl⟩
      have hb1 : Below wr.heap.size wr W1 := by rw [hW1]; exact below_one _ _
      have HK1 := Lib.hid (show Blk W1 wr.heap.size 43 #[.bool x.t.s, .slice x.t.a x.t.n x.t.c, .slice x.t.b x.t.m x.t.d, .string x.nm, .bool x.v.s, .slice x.v.a x.v.n x.v.c, .slice x.v.b x.v.m x.v.d] by rw [hW1]; exact Blk.new _ _ _)
      have HXT := Lib.hid (RV.Is.later hxt hb1)
      replace HS := Lib.hid (HS.out.later hb1)
      replace HRN := Lib.hid (HRN.out.later (HS.out.k))
      have HW1 := Lib.hid hW1
      clear hW1 hb1 hx hmx hat0 hxt hbB0 HO
      go_upto_region 6 with fail
      rw [← HW1.out]; clear HW1 c0 c1 c2 c3 c4 c5 c6 p0 p1 p2 p3 p4 p5
      obtain ⟨p0, p1, p2, p3, p4, p5⟩ := HS.out.s.cells
      obtain ⟨q0, q1, q2⟩ := HS.out.c.three
      obtain ⟨c0, c1, c2, c3, c4, c5, c6⟩ := HK1.out.sev7
      have HA := Lib.hid ha
      clear ha
      try rw [← HA.out]
      by_cases y1 : x.p < q
      · have HC1 := Lib.hid (cmpR_lt y1)
        have HR := Lib.hid (show okR h ins 0 (L.map CM.told) = false from HO2.out.trans (by rw [show decide (q ≤ x.p) = false from decide_eq_false (by grind)]; simp))
        obtain ⟨T1, hT1⟩ : ∃ T1 : Int, T1 = -1 := ⟨_, rfl⟩
        have t1 : T1 < 0 := by omega
        rw [← hT1] at HC1
        clear y1 hT1
        go_wp2_with (first
          | (have mk := G1; go_at_call 18; (with_reducible refine (rcmp_v T2 HXT.out HS.out.hi HC2.out HMX.out.1 HMX.out.2 HH.out.1 HH.out.2).mono ?_); rintro e w2 ⟨rfl, hb⟩; replace HS := Lib.hid (HS.out.later hb); replace HK1 := Lib.hid (Blk.later HK1.out hb); replace HXT := Lib.hid (RV.Is.later HXT.out hb); replace HRN := Lib.hid (SRow.later HRN.out hb); clear hb; clear p0 p1 p2 p3 p4 p5 q0 q1 q2 c0 c1 c2 c3 c4 c5 c6; obtain ⟨p0, p1, p2, p3, p4, p5⟩ := HS.out.s.cells; obtain ⟨q0, q1, q2⟩ := HS.out.c.three; obtain ⟨c0, c1, c2, c3, c4, c5, c6⟩ := HK1.out.sev7)
          | (go_at_call 18; (with_reducible refine (rcmp_v T1 HXT.out HS.out.ri HC1.out HMX.out.1 HMX.out.2 HRK.out.1 HRK.out.2).mono ?_); rintro e w1 ⟨rfl, hb⟩; replace HS := Lib.hid (HS.out.later hb); replace HK1 := Lib.hid (Blk.later HK1.out hb); replace HXT := Lib.hid (RV.Is.later HXT.out hb); replace HRN := Lib.hid (SRow.later HRN.out hb); clear hb; clear p0 p1 p2 p3 p4 p5 q0 q1 q2 c0 c1 c2 c3 c4 c5 c6; obtain ⟨p0, p1, p2, p3, p4, p5⟩ := HS.out.s.cells; obtain ⟨q0, q1, q2⟩ := HS.out.c.three; obtain ⟨c0, c1, c2, c3, c4, c5, c6⟩ := HK1.out.sev7; have G1 : Hid True := trivial)
          | (go_at_call 95; (with_reducible refine (in_t HRN.out).mono ?_); rintro e w3 ⟨rfl, rfl⟩))
        go_ret
        rw [RG.out, HR.out, Bool.and_false]
        exact ⟨rfl, HS.out.k⟩
      obtain ⟨T1, hT1, t1⟩ := cmp_geT y1
      have HC1 := Lib.hid hT1
      clear hT1
      by_cases y2 : h < x.p
      · have HC2 := Lib.hid (cmpR_gt y2)
        have HR := Lib.hid (show okR h ins 0 (L.map CM.told) = false from HO2.out.trans (by rw [show decide (x.p ≤ h) = false from decide_eq_false (by grind)]; simp))
        obtain ⟨T2, hT2⟩ : ∃ T2 : Int, T2 = 1 := ⟨_, rfl⟩
        have t2 : 0 < T2 := by omega
        rw [← hT2] at HC2
        clear y1 y2 hT2
        go_wp2_with (first
          | (have mk := G1; go_at_call 18; (with_reducible refine (rcmp_v T2 HXT.out HS.out.hi HC2.out HMX.out.1 HMX.out.2 HH.out.1 HH.out.2).mono ?_); rintro e w2 ⟨rfl, hb⟩; replace HS := Lib.hid (HS.out.later hb); replace HK1 := Lib.hid (Blk.later HK1.out hb); replace HXT := Lib.hid (RV.Is.later HXT.out hb); replace HRN := Lib.hid (SRow.later HRN.out hb); clear hb; clear p0 p1 p2 p3 p4 p5 q0 q1 q2 c0 c1 c2 c3 c4 c5 c6; obtain ⟨p0, p1, p2, p3, p4, p5⟩ := HS.out.s.cells; obtain ⟨q0, q1, q2⟩ := HS.out.c.three; obtain ⟨c0, c1, c2, c3, c4, c5, c6⟩ := HK1.out.sev7)
          | (go_at_call 18; (with_reducible refine (rcmp_v T1 HXT.out HS.out.ri HC1.out HMX.out.1 HMX.out.2 HRK.out.1 HRK.out.2).mono ?_); rintro e w1 ⟨rfl, hb⟩; replace HS := Lib.hid (HS.out.later hb); replace HK1 := Lib.hid (Blk.later HK1.out hb); replace HXT := Lib.hid (RV.Is.later HXT.out hb); replace HRN := Lib.hid (SRow.later HRN.out hb); clear hb; clear p0 p1 p2 p3 p4 p5 q0 q1 q2 c0 c1 c2 c3 c4 c5 c6; obtain ⟨p0, p1, p2, p3, p4, p5⟩ := HS.out.s.cells; obtain ⟨q0, q1, q2⟩ := HS.out.c.three; obtain ⟨c0, c1, c2, c3, c4, c5, c6⟩ := HK1.out.sev7; have G1 : Hid True := trivial)
          | (go_at_call 95; (with_reducible refine (in_t HRN.out).mono ?_); rintro e w3 ⟨rfl, rfl⟩))
        go_ret
        rw [RG.out, HR.out, Bool.and_false]
        exact ⟨rfl, HS.out.k⟩
      obtain ⟨T2, hT2, t2⟩ := cmp_leT y2
      have HC2 := Lib.hid hT2
      clear hT2
      cases y3 : Lib.containsS ins x.nm with
      | false =>
        have HR := Lib.hid (show okR h ins 0 (L.map CM.told) = false from HO2.out.trans (by rw [y3]; simp))
        clear y1 y2
        go_wp2_with (first
          | (have mk := G1; go_at_call 18; (with_reducible refine (rcmp_v T2 HXT.out HS.out.hi HC2.out HMX.out.1 HMX.out.2 HH.out.1 HH.out.2).mono ?_); rintro e w2 ⟨rfl, hb⟩; replace HS := Lib.hid (HS.out.later hb); replace HK1 := Lib.hid (Blk.later HK1.out hb); replace HXT := Lib.hid (RV.Is.later HXT.out hb); replace HRN := Lib.hid (SRow.later HRN.out hb); clear hb; clear p0 p1 p2 p3 p4 p5 q0 q1 q2 c0 c1 c2 c3 c4 c5 c6; obtain ⟨p0, p1, p2, p3, p4, p5⟩ := HS.out.s.cells; obtain ⟨q0, q1, q2⟩ := HS.out.c.three; obtain ⟨c0, c1, c2, c3, c4, c5, c6⟩ := HK1.out.sev7)
          | (go_at_call 18; (with_reducible refine (rcmp_v T1 HXT.out HS.out.ri HC1.out HMX.out.1 HMX.out.2 HRK.out.1 HRK.out.2).mono ?_); rintro e w1 ⟨rfl, hb⟩; replace HS := Lib.hid (HS.out.later hb); replace HK1 := Lib.hid (Blk.later HK1.out hb); replace HXT := Lib.hid (RV.Is.later HXT.out hb); replace HRN := Lib.hid (SRow.later HRN.out hb); clear hb; clear p0 p1 p2 p3 p4 p5 q0 q1 q2 c0 c1 c2 c3 c4 c5 c6; obtain ⟨p0, p1, p2, p3, p4, p5⟩ := HS.out.s.cells; obtain ⟨q0, q1, q2⟩ := HS.out.c.three; obtain ⟨c0, c1, c2, c3, c4, c5, c6⟩ := HK1.out.sev7; have G1 : Hid True := trivial)
          | (go_at_call 95; (with_reducible refine (in_t HRN.out).mono ?_); rintro e w3 ⟨rfl, rfl⟩))
        go_ret
        rw [RG.out, HR.out, Bool.and_false]
        exact ⟨rfl, HS.out.k⟩
      | true =>
        have HR := Lib.hid (show okR h ins 0 (L.map CM.told) = okR h ins x.p ((L.map CM.told).drop (k + 1)) from HO2.out.trans (by rw [y3, show decide (x.p ≤ h) = true from decide_eq_true (by grind), show decide (q ≤ x.p) = true from decide_eq_true (by grind)]; simp))
        clear y1 y2
        go_upto_region 8 with (first
          | (have mk := G1; go_at_call 18; (with_reducible refine (rcmp_v T2 HXT.out HS.out.hi HC2.out HMX.out.1 HMX.out.2 HH.out.1 HH.out.2).mono ?_); rintro e w2 ⟨rfl, hb⟩; replace HS := Lib.hid (HS.out.later hb); replace HK1 := Lib.hid (Blk.later HK1.out hb); replace HXT := Lib.hid (RV.Is.later HXT.out hb); replace HRN := Lib.hid (SRow.later HRN.out hb); clear hb; clear p0 p1 p2 p3 p4 p5 q0 q1 q2 c0 c1 c2 c3 c4 c5 c6; obtain ⟨p0, p1, p2, p3, p4, p5⟩ := HS.out.s.cells; obtain ⟨q0, q1, q2⟩ := HS.out.c.three; obtain ⟨c0, c1, c2, c3, c4, c5, c6⟩ := HK1.out.sev7)
          | (go_at_call 18; (with_reducible refine (rcmp_v T1 HXT.out HS.out.ri HC1.out HMX.out.1 HMX.out.2 HRK.out.1 HRK.out.2).mono ?_); rintro e w1 ⟨rfl, hb⟩; replace HS := Lib.hid (HS.out.later hb); replace HK1 := Lib.hid (Blk.later HK1.out hb); replace HXT := Lib.hid (RV.Is.later HXT.out hb); replace HRN := Lib.hid (SRow.later HRN.out hb); clear hb; clear p0 p1 p2 p3 p4 p5 q0 q1 q2 c0 c1 c2 c3 c4 c5 c6; obtain ⟨p0, p1, p2, p3, p4, p5⟩ := HS.out.s.cells; obtain ⟨q0, q1, q2⟩ := HS.out.c.three; obtain ⟨c0, c1, c2, c3, c4, c5, c6⟩ := HK1.out.sev7; have G1 : Hid True := trivial)
          | (go_at_call 95; (with_reducible refine (in_t HRN.out).mono ?_); rintro e w3 ⟨rfl, rfl⟩))
        have qf := Blk.free HS.out.c
        have qf0 := qf 0
        have qf1 := qf 1
        have qf2 := qf 2
        go_wp2_with fail
        have HQ : Hid (RtSt w (((w3.setCell ⟨g, 0, none⟩ (.bool x.t.s)).setCell ⟨g, 1, none⟩ (.slice x.t.a x.t.n x.t.c)).setCell ⟨g, 2, none⟩ (.slice x.t.b x.t.m x.t.d)) v h g x.t x.p) := Lib.hid (HS.out.put HXT.out ⟨Nat.le_trans HMX.out.1 (by decide), Nat.le_trans HMX.out.2 (by decide)⟩)
        go_roundw
        case rel => exact ⟨k + 1, by omega, by go_num, x.t, x.p, HQ, HR, HMX⟩
        case measure => simp [intOf]; omega
    · obtain rfl : k = v.n := by omega
      obtain ⟨p0, p1, p2, p3, p4, p5⟩ := HS.out.s.cells
      have HR := Lib.hid (show okR h ins 0 (L.map CM.told) = true from by
        rw [HO.out, List.drop_of_length_le (by rw [List.length_map, HN.out]; omega)]; rfl)
      have RC := Lib.hid (show rgtM ⟨h, v.cas, v.bits, L.map CM.told⟩ ins = rgtC ⟨h, v.cas, v.bits, L.map CM.told⟩ by rw [RG.out, HR.out, Bool.and_true])
      clear HO RG HR
      by_cases z0 : h < 0
      · have HR := Lib.hid (show rgtC ⟨h, v.cas, v.bits, L.map CM.told⟩ = false by unfold rgtC; rw [decide_eq_false (show ¬ 0 ≤ h by grind)]; rfl)
        have HT := Lib.hid (show sgn h.num = -1 by rcases sgnR_cases h with ⟨_, e⟩ | ⟨e, _⟩ | ⟨e, _⟩; exact e; grind; grind)
        obtain ⟨T0, hT0⟩ : ∃ T0 : Int, T0 = -1 := ⟨_, rfl⟩
        have t0 : T0 < 0 := by omega
        rw [← hT0] at HT
        clear z0 hT0
        go_wp2_with (go_at_call 17; (with_reducible refine (rsign_v T0 HS.out.hi HT.out (Nat.le_trans HH.out.1 (by decide)) (Nat.le_trans HH.out.2 (by decide))).mono ?_); rintro e w1 ⟨rfl, hb⟩; have HB2 := Lib.hid (HS.out.k.trans (hb.mono HS.out.k.size)); have HK1 := Lib.hid (SBlk.later HS.out.s hb); clear hb p0 p1 p2 p3 p4 p5; obtain ⟨p0, p1, p2, p3, p4, p5⟩ := HK1.out.cells)
        go_ret
        rw [RC.out, HR.out]
        exact ⟨rfl, HB2.out⟩
      obtain ⟨T0, hT0, t0⟩ := sgn_geT z0
      have HT := Lib.hid hT0
      have HZ0 := Lib.hid z0
      clear hT0 z0
      by_cases z1 : v.cas < 0
      · have HR := Lib.hid (show rgtC ⟨h, v.cas, v.bits, L.map CM.told⟩ = false by unfold rgtC; rw [show decide (0 ≤ (⟨h, v.cas, v.bits, L.map CM.told⟩ : ScT).cas) = false from decide_eq_false (by show ¬ 0 ≤ v.cas; omega)]; simp)
        go_wp2_with (go_at_call 17; (with_reducible refine (rsign_v T0 HS.out.hi HT.out (Nat.le_trans HH.out.1 (by decide)) (Nat.le_trans HH.out.2 (by decide))).mono ?_); rintro e w1 ⟨rfl, hb⟩; have HB2 := Lib.hid (HS.out.k.trans (hb.mono HS.out.k.size)); have HK1 := Lib.hid (SBlk.later HS.out.s hb); clear hb p0 p1 p2 p3 p4 p5; obtain ⟨p0, p1, p2, p3, p4, p5⟩ := HK1.out.cells)
        go_ret
        rw [RC.out, HR.out]
        exact ⟨rfl, HB2.out⟩
      by_cases z2 : 999999 < v.cas
      · have HR := Lib.hid (show rgtC ⟨h, v.cas, v.bits, L.map CM.told⟩ = false by unfold rgtC; rw [show decide ((⟨h, v.cas, v.bits, L.map CM.told⟩ : ScT).cas ≤ 999999) = false from decide_eq_false (by show ¬ v.cas ≤ 999999; omega)]; simp)
        go_wp2_with (go_at_call 17; (with_reducible refine (rsign_v T0 HS.out.hi HT.out (Nat.le_trans HH.out.1 (by decide)) (Nat.le_trans HH.out.2 (by decide))).mono ?_); rintro e w1 ⟨rfl, hb⟩; have HB2 := Lib.hid (HS.out.k.trans (hb.mono HS.out.k.size)); have HK1 := Lib.hid (SBlk.later HS.out.s hb); clear hb p0 p1 p2 p3 p4 p5; obtain ⟨p0, p1, p2, p3, p4, p5⟩ := HK1.out.cells)
        go_ret
        rw [RC.out, HR.out]
        exact ⟨rfl, HB2.out⟩
      by_cases z3 : v.bits < 1
      · have HR := Lib.hid (show rgtC ⟨h, v.cas, v.bits, L.map CM.told⟩ = false by unfold rgtC; rw [show decide (1 ≤ (⟨h, v.cas, v.bits, L.map CM.told⟩ : ScT).bits) = false from decide_eq_false (by show ¬ 1 ≤ v.bits; omega)]; simp)
        go_wp2_with (go_at_call 17; (with_reducible refine (rsign_v T0 HS.out.hi HT.out (Nat.le_trans HH.out.1 (by decide)) (Nat.le_trans HH.out.2 (by decide))).mono ?_); rintro e w1 ⟨rfl, hb⟩; have HB2 := Lib.hid (HS.out.k.trans (hb.mono HS.out.k.size)); have HK1 := Lib.hid (SBlk.later HS.out.s hb); clear hb p0 p1 p2 p3 p4 p5; obtain ⟨p0, p1, p2, p3, p4, p5⟩ := HK1.out.cells)
        go_ret
        rw [RC.out, HR.out]
        exact ⟨rfl, HB2.out⟩
      by_cases z4 : 900 < v.bits
      · have HR := Lib.hid (show rgtC ⟨h, v.cas, v.bits, L.map CM.told⟩ = false by unfold rgtC; rw [show decide ((⟨h, v.cas, v.bits, L.map CM.told⟩ : ScT).bits ≤ 900) = false from decide_eq_false (by show ¬ v.bits ≤ 900; omega)]; simp)
        have d4 : decide (v.bits ≤ 900) = false := decide_eq_false (by omega)
        go_wp2_with (go_at_call 17; (with_reducible refine (rsign_v T0 HS.out.hi HT.out (Nat.le_trans HH.out.1 (by decide)) (Nat.le_trans HH.out.2 (by decide))).mono ?_); rintro e w1 ⟨rfl, hb⟩; have HB2 := Lib.hid (HS.out.k.trans (hb.mono HS.out.k.size)); have HK1 := Lib.hid (SBlk.later HS.out.s hb); clear hb p0 p1 p2 p3 p4 p5; obtain ⟨p0, p1, p2, p3, p4, p5⟩ := HK1.out.cells)
        go_ret
        rw [RC.out, HR.out]
        exact ⟨rfl, HB2.out⟩
      have HR := Lib.hid (show rgtC ⟨h, v.cas, v.bits, L.map CM.told⟩ = true by have z0 := HZ0.out; unfold rgtC; simp only [decide_eq_true (show 0 ≤ h by grind), decide_eq_true (show 0 ≤ v.cas by omega), decide_eq_true (show v.cas ≤ 999999 by omega), decide_eq_true (show 1 ≤ v.bits by omega), decide_eq_true (show v.bits ≤ 900 by omega), Bool.true_and])
      go_wp2_with (go_at_call 17; (with_reducible refine (rsign_v T0 HS.out.hi HT.out (Nat.le_trans HH.out.1 (by decide)) (Nat.le_trans HH.out.2 (by decide))).mono ?_); rintro e w1 ⟨rfl, hb⟩; have HB2 := Lib.hid (HS.out.k.trans (hb.mono HS.out.k.size)); have HK1 := Lib.hid (SBlk.later HS.out.s hb); clear hb p0 p1 p2 p3 p4 p5; obtain ⟨p0, p1, p2, p3, p4, p5⟩ := HK1.out.cells)
      go_ret
      rw [RC.out, HR.out]
      exact ⟨rfl, HB2.out⟩
set_option maxHeartbeats 8000000 in
theorem rright_t (v : SV) (h : Rat) (L : List CM) (a : Option Addr) (n c : Nat) (ins : List ByteArray) (w : World) (hv : v.Is h L w) (hr : SRow w a n c ins) (h1 : v.h.n ≤ 34 ∧ v.h.m ≤ 34) (h2 : ∀ x ∈ L, x.t.n ≤ 34 ∧ x.t.m ≤ 34) :
    Calls Tryz.prog 16 #[.agg #[.bool v.h.s, .slice v.h.a v.h.n v.h.c, .slice v.h.b v.h.m v.h.d, .int .i64 v.cas, .int .i64 v.bits, .slice v.a v.n v.c], .slice a n c] w (fun e w' => e = .returned (.bool (rgtM ⟨h, v.cas, v.bits, L.map CM.told⟩ ins)) ∧ Below w.heap.size w w') := by
  have hb1 := below_one w (.cells #[.bool v.h.s, .slice v.h.a v.h.n v.h.c, .slice v.h.b v.h.m v.h.d, .int .i64 v.cas, .int .i64 v.bits, .slice v.a v.n v.c] 30)
  have HB1 := Lib.hid hb1
  have HK0 := Lib.hid (show SBlk (w.alloc (.cells #[.bool v.h.s, .slice v.h.a v.h.n v.h.c, .slice v.h.b v.h.m v.h.d, .int .i64 v.cas, .int .i64 v.bits, .slice v.a v.n v.c] 30)) w.heap.size v from Blk.new _ _ _)
  have HC := Lib.hid (rright56_t v h L a n c ins _ (hv.later hb1) (hr.later hb1) h1 h2)
  obtain ⟨b, hb⟩ : ∃ b, rgtM ⟨h, v.cas, v.bits, L.map CM.told⟩ ins = b := ⟨_, rfl⟩
  rw [hb] at HC ⊢
  obtain ⟨p0, p1, p2, p3, p4, p5⟩ := HK0.out.cells
  clear hv hr h1 h2 hb1 hb
  go_enter Tryz.func16, Tryz.ntmps16
  go_wp2_with (go_at_call 56; (with_reducible refine HC.out.mono ?_); rintro e w1 ⟨rfl, hb⟩; have HB2 := Lib.hid (bthen HB1.out hb); clear hb)
  go_ret
  exact ⟨rfl, HB2.out⟩

end Go.Proofs.YtkcgikoploohkaaGreatDoor
