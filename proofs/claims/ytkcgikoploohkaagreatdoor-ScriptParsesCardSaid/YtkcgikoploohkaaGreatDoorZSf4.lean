import Derived.Test.YtkcgikoploohkaaGreatDoorZSf2ToSf3
import Derived.Deep.DeepCutAuto
import Derived.Laws.EntriesVeiled
import Derived.Deep.RegionHeld3
namespace Go.Proofs.YtkcgikoploohkaaGreatDoor
set_option linter.unusedVariables false
set_option linter.unusedSimpArgs false
set_option maxRecDepth 100000
open Go.RowKit Go.Shelf Nums
set_option maxHeartbeats 8000000 in
theorem same_yes (v u : SV) (h : Rat) (L M : List CM) (w : World) (hv : v.Is h L w) (hu : u.Is h M w) (e1 : v.cas = u.cas) (e2 : v.bits = u.bits) (e3 : L.map CM.told = M.map CM.told) (l1 : v.h.n≤34∧v.h.m≤34) (l2 : u.h.n≤34∧u.h.m≤34) (l3 : ∀ x∈L,x.t.n≤34∧x.t.m≤34∧x.v.n≤34∧x.v.m≤34) (l4 : ∀ x∈M,x.t.n≤34∧x.t.m≤34∧x.v.n≤34∧x.v.m≤34) :
    Calls Tryz.prog 10 #[.agg #[.bool v.h.s,.slice v.h.a v.h.n v.h.c,.slice v.h.b v.h.m v.h.d,.int .i64 v.cas,.int .i64 v.bits,.slice v.a v.n v.c],.agg #[.bool u.h.s,.slice u.h.a u.h.n u.h.c,.slice u.h.b u.h.m u.h.d,.int .i64 u.cas,.int .i64 u.bits,.slice u.a u.n u.c]] w (fun e w' => e = .returned (.bool true)∧Below w.heap.size w w') := by
  have e4 : v.n = u.n := by rw [←hv.c.1,←hu.c.1,←List.length_map (f := CM.told),e3,List.length_map]
  obtain ⟨uh,uc1,uc2,ua,un,uc⟩ := u
  have e5 : v.cas = uc1 := e1
  have e6 : v.bits = uc2 := e2
  have e7 : v.n = un := e4
  subst e5 e6 e7
  have hub : SV.Is ⟨uh,v.cas,v.bits,ua,v.n,uc⟩ h M w := hu
  have huh : uh.Is uh.n uh.m h w := hu.h
  have huc : CRow w ua v.n uc M := hu.c
  have l2' : uh.n≤34∧uh.m≤34 := l2
  have HB := Lib.hid (below_two w (.cells #[.bool v.h.s,.slice v.h.a v.h.n v.h.c,.slice v.h.b v.h.m v.h.d,.int .i64 v.cas,.int .i64 v.bits,.slice v.a v.n v.c] 30) (.cells #[.bool uh.s,.slice uh.a uh.n uh.c,.slice uh.b uh.m uh.d,.int .i64 v.cas,.int .i64 v.bits,.slice ua v.n uc] 30))
  obtain ⟨W2,hW2⟩ : ∃ W2,W2 = (w.alloc (.cells #[.bool v.h.s,.slice v.h.a v.h.n v.h.c,.slice v.h.b v.h.m v.h.d,.int .i64 v.cas,.int .i64 v.bits,.slice v.a v.n v.c] 30)).alloc (.cells #[.bool uh.s,.slice uh.a uh.n uh.c,.slice uh.b uh.m uh.d,.int .i64 v.cas,.int .i64 v.bits,.slice ua v.n uc] 30) := ⟨_,rfl⟩
  have HS1 := Lib.hid (show SBlk W2 w.heap.size v by rw [hW2];exact Blk.later (Blk.new _ _ _) (below_one _ _))
  have HS2 := Lib.hid (show SBlk W2 (w.heap.size + 1) ⟨uh,v.cas,v.bits,ua,v.n,uc⟩ by rw [hW2];exact Blk.mk (by simp))
  rw [←hW2] at HB
  have HVH := Lib.hid (hv.h.later HB.out)
  have HUH := Lib.hid (huh.later HB.out)
  have HVC := Lib.hid hv.c
  have HUC := Lib.hid huc
  have HL1 := Lib.hid l1
  have HL2 := Lib.hid l2'
  have HL3 := Lib.hid l3
  have HL4 := Lib.hid l4
  have HE := Lib.hid e3
  have HN1 := Lib.hid hv.c.1
  have HN2 := Lib.hid huc.1
  have hnb : v.n≤maxLen := Nat.le_trans hv.c.2.1 hv.c.2.2.1
  unfold maxLen at hnb
  have hnc : v.n≤v.c := hv.c.2.1
  have hnu : v.n≤uc := huc.2.1
  have hvm : v.c≤9223372036854775807 := by have := hv.c.2.2.1;unfold maxLen at this;omega
  have hum : uc≤9223372036854775807 := by have := huc.2.2.1;unfold maxLen at this;omega
  have HW2 := Lib.hid hW2
  clear hu hub huh huc l2 l2' l1 l3 l4 e1 e2 e3 e4 hv hW2
  obtain ⟨p0,p1,p2,p3,p4,p5⟩ := HS1.out.cells
  obtain ⟨s0,s1,s2,s3,s4,s5⟩ := HS2.out.cells
  go_enter Tryz.func10,Tryz.ntmps10
  go_upto_region 1 with fail
  rw [←HW2.out];clear HW2
  go_upto_region 4 with (go_at_call 18;(with_reducible refine (rcmp_v 0 HVH.out HUH.out (cmpR_eq rfl) HL1.out.1 HL1.out.2 HL2.out.1 HL2.out.2).mono ?_);rintro e w3 ⟨rfl,hb⟩;replace HS1 := Lib.hid (SBlk.later HS1.out hb);replace HS2 := Lib.hid (SBlk.later HS2.out hb);replace HB := Lib.hid (bthen HB.out hb);clear hb p0 p1 p2 p3 p4 p5 s0 s1 s2 s3 s4 s5;obtain ⟨p0,p1,p2,p3,p4,p5⟩ := HS1.out.cells;obtain ⟨s0,s1,s2,s3,s4,s5⟩ := HS2.out.cells)
  go_loopw [5] (fun t wr => ∃ k : Nat,k≤v.n∧t = .int .i64 k∧Hid (SBlk wr w.heap.size v)∧Hid (SBlk wr (w.heap.size + 1) ⟨uh,v.cas,v.bits,ua,v.n,uc⟩)∧Hid (Below w.heap.size w wr)) (fun t _ => v.n - (intOf t).toNat)
  case atStart => exact ⟨0,Nat.zero_le _,rfl,HS1,HS2,HB⟩
  case round =>
    obtain ⟨k,hk,rfl,HT1,HT2,HTB⟩ := hrel
    clear HS1 HS2 HB p0 p1 p2 p3 p4 p5 s0 s1 s2 s3 s4 s5 HVH HUH
    obtain ⟨p0,p1,p2,p3,p4,p5⟩ := HT1.out.cells
    obtain ⟨s0,s1,s2,s3,s4,s5⟩ := HT2.out.cells
    by_cases hlt : k < v.n
    · obtain ⟨x,hx⟩ : ∃ x,L[k]? = some x := ⟨_,List.getElem?_eq_getElem (by rw [HN1.out];exact hlt)⟩
      obtain ⟨y,hy⟩ : ∃ y,M[k]? = some y := ⟨_,List.getElem?_eq_getElem (by rw [HN2.out];exact hlt)⟩
      have hxy : x.told = y.told := by
        have f1 : (L.map CM.told)[k]? = some x.told := by rw [List.getElem?_map,hx];rfl
        have f2 : (M.map CM.told)[k]? = some y.told := by rw [List.getElem?_map,hy];rfl
        rw [HE.out,f2] at f1
        exact (Option.some.inj f1).symm
      have q1 : x.p = y.p := congrArg Prod.fst hxy
      have q2 : x.nm = y.nm := congrArg (fun z => z.2.1) hxy
      have q3 : x.q = y.q := congrArg (fun z => z.2.2) hxy
      obtain ⟨b,off,ha,hbB,hat⟩ := (HVC.out.later HTB.out).at_ hx
      obtain ⟨b',off',ha',hbB',hat'⟩ := (HUC.out.later HTB.out).at_ hy
      have MX := Lib.hid (HL3.out x (List.mem_of_getElem? hx))
      have MY := Lib.hid (HL4.out y (List.mem_of_getElem? hy))
      obtain ⟨c0,c1,c2,c3,c4,c5,c6,hx1,hx2⟩ := hat
      obtain ⟨d0,d1,d2,d3,d4,d5,d6,hy1,hy2⟩ := hat'
      rw [show off + k * 7 + 5 = off + k * 7 + 4 + 1 from rfl] at c5
      rw [show off + k * 7 + 6 = off + k * 7 + 4 + 2 from rfl] at c6
      rw [show off' + k * 7 + 5 = off' + k * 7 + 4 + 1 from rfl] at d5
      rw [show off' + k * 7 + 6 = off' + k * 7 + 4 + 2 from rfl] at d6
      subst ha'
      have HX1 := Lib.hid hx1
      have HX2 := Lib.hid hx2
      have HY1 := Lib.hid hy1
      have HY2 := Lib.hid hy2
      have HQ1 := Lib.hid q1
      have HQ2 := Lib.hid q2
      have HQ3 := Lib.hid q3
      clear hx hy hxy q1 q2 q3 hx1 hx2 hy1 hy2
      have l1 : w.heap.size < wr.heap.size := Blk.lt HT1.out
      have l2 : w.heap.size + 1 < wr.heap.size := Blk.lt HT2.out
      go_upto_region 6 with fail
      go_region
      · obtain ⟨W5,hW5⟩ : ∃ W5,W5 = ((wr.alloc (.cells #[.bool x.t.s,.slice x.t.a x.t.n x.t.c,.slice x.t.b x.t.m x.t.d,.string x.nm,.bool x.v.s,.slice x.v.a x.v.n x.v.c,.slice x.v.b x.v.m x.v.d] 43)).alloc (.cells #[.bool y.t.s,.slice y.t.a y.t.n y.t.c,.slice y.t.b y.t.m y.t.d,.string y.nm,.bool y.v.s,.slice y.v.a y.v.n y.v.c,.slice y.v.b y.v.m y.v.d] 43)).drew := ⟨_,rfl⟩
        rw [←hW5]
        have b5 : Below wr.heap.size wr W5 := by rw [hW5];exact (below_two _ _ _).drew
        have HKX := Lib.hid (show Blk W5 wr.heap.size 43 #[.bool x.t.s,.slice x.t.a x.t.n x.t.c,.slice x.t.b x.t.m x.t.d,.string x.nm,.bool x.v.s,.slice x.v.a x.v.n x.v.c,.slice x.v.b x.v.m x.v.d] by rw [hW5];exact Blk.drew (Blk.later (Blk.new _ _ _) (below_one _ _)))
        have HKY := Lib.hid (show Blk W5 (wr.heap.size + 1) 43 #[.bool y.t.s,.slice y.t.a y.t.n y.t.c,.slice y.t.b y.t.m y.t.d,.string y.nm,.bool y.v.s,.slice y.v.a y.v.n y.v.c,.slice y.v.b y.v.m y.v.d] by rw [hW5];exact Blk.drew (Blk.mk (by simp)))
        replace HT1 := Lib.hid (SBlk.later HT1.out b5)
        replace HT2 := Lib.hid (SBlk.later HT2.out b5)
        replace HX1 := Lib.hid (RV.Is.later HX1.out b5)
        replace HX2 := Lib.hid (RV.Is.later HX2.out b5)
        replace HY1 := Lib.hid (RV.Is.later HY1.out b5)
        replace HY2 := Lib.hid (RV.Is.later HY2.out b5)
        replace HTB := Lib.hid (bthen HTB.out b5)
        clear hW5 b5 p0 p1 p2 p3 p4 p5 s0 s1 s2 s3 s4 s5 ha l1 l2 hbB hbB'
        clear c0 c1 c2 c3 c4 c5 c6 d0 d1 d2 d3 d4 d5 d6;obtain ⟨c0,c1,c2,c3,c4,c5,c6⟩ := HKX.out.sev7;obtain ⟨d0,d1,d2,d3,d4,d5,d6⟩ := HKY.out.sev7
        have h2 := HQ2.out
        go_wp2_with (first
          | (have mk := G1;go_at_call 18;(with_reducible refine (rcmp_v 0 HX2.out HY2.out (cmpR_eq HQ3.out) MX.out.2.2.1 MX.out.2.2.2 MY.out.2.2.1 MY.out.2.2.2).mono ?_);rintro e w5 ⟨rfl,hb⟩;replace HKX := Lib.hid (Blk.later HKX.out hb);replace HKY := Lib.hid (Blk.later HKY.out hb);replace HT1 := Lib.hid (SBlk.later HT1.out hb);replace HT2 := Lib.hid (SBlk.later HT2.out hb);replace HX2 := Lib.hid (RV.Is.later HX2.out hb);replace HY2 := Lib.hid (RV.Is.later HY2.out hb);replace HTB := Lib.hid (bthen HTB.out hb);clear hb;clear c0 c1 c2 c3 c4 c5 c6 d0 d1 d2 d3 d4 d5 d6;obtain ⟨c0,c1,c2,c3,c4,c5,c6⟩ := HKX.out.sev7;obtain ⟨d0,d1,d2,d3,d4,d5,d6⟩ := HKY.out.sev7)
          | (go_at_call 18;(with_reducible refine (rcmp_v 0 HX1.out HY1.out (cmpR_eq HQ1.out) MX.out.1 MX.out.2.1 MY.out.1 MY.out.2.1).mono ?_);rintro e w4 ⟨rfl,hb⟩;replace HKX := Lib.hid (Blk.later HKX.out hb);replace HKY := Lib.hid (Blk.later HKY.out hb);replace HT1 := Lib.hid (SBlk.later HT1.out hb);replace HT2 := Lib.hid (SBlk.later HT2.out hb);replace HX2 := Lib.hid (RV.Is.later HX2.out hb);replace HY2 := Lib.hid (RV.Is.later HY2.out hb);replace HTB := Lib.hid (bthen HTB.out hb);clear hb;clear c0 c1 c2 c3 c4 c5 c6 d0 d1 d2 d3 d4 d5 d6;obtain ⟨c0,c1,c2,c3,c4,c5,c6⟩ := HKX.out.sev7;obtain ⟨d0,d1,d2,d3,d4,d5,d6⟩ := HKY.out.sev7;have G1 : Hid True := trivial))
        go_roundw
        case rel => exact ⟨k + 1,by omega,by go_num,HT1,HT2,HTB⟩
        case measure => simp [intOf];omega
      · obtain ⟨W5,hW5⟩ : ∃ W5,W5 = ((wr.alloc (.cells #[.bool y.t.s,.slice y.t.a y.t.n y.t.c,.slice y.t.b y.t.m y.t.d,.string y.nm,.bool y.v.s,.slice y.v.a y.v.n y.v.c,.slice y.v.b y.v.m y.v.d] 43)).alloc (.cells #[.bool x.t.s,.slice x.t.a x.t.n x.t.c,.slice x.t.b x.t.m x.t.d,.string x.nm,.bool x.v.s,.slice x.v.a x.v.n x.v.c,.slice x.v.b x.v.m x.v.d] 43)).drew := ⟨_,rfl⟩
        rw [←hW5]
        have b5 : Below wr.heap.size wr W5 := by rw [hW5];exact (below_two _ _ _).drew
        have HKX := Lib.hid (show Blk W5 (wr.heap.size + 1) 43 #[.bool x.t.s,.slice x.t.a x.t.n x.t.c,.slice x.t.b x.t.m x.t.d,.string x.nm,.bool x.v.s,.slice x.v.a x.v.n x.v.c,.slice x.v.b x.v.m x.v.d] by rw [hW5];exact Blk.drew (Blk.mk (by simp)))
        have HKY := Lib.hid (show Blk W5 wr.heap.size 43 #[.bool y.t.s,.slice y.t.a y.t.n y.t.c,.slice y.t.b y.t.m y.t.d,.string y.nm,.bool y.v.s,.slice y.v.a y.v.n y.v.c,.slice y.v.b y.v.m y.v.d] by rw [hW5];exact Blk.drew (Blk.later (Blk.new _ _ _) (below_one _ _)))
        replace HT1 := Lib.hid (SBlk.later HT1.out b5)
        replace HT2 := Lib.hid (SBlk.later HT2.out b5)
        replace HX1 := Lib.hid (RV.Is.later HX1.out b5)
        replace HX2 := Lib.hid (RV.Is.later HX2.out b5)
        replace HY1 := Lib.hid (RV.Is.later HY1.out b5)
        replace HY2 := Lib.hid (RV.Is.later HY2.out b5)
        replace HTB := Lib.hid (bthen HTB.out b5)
        clear hW5 b5 p0 p1 p2 p3 p4 p5 s0 s1 s2 s3 s4 s5 ha l1 l2 hbB hbB'
        clear c0 c1 c2 c3 c4 c5 c6 d0 d1 d2 d3 d4 d5 d6;obtain ⟨c0,c1,c2,c3,c4,c5,c6⟩ := HKX.out.sev7;obtain ⟨d0,d1,d2,d3,d4,d5,d6⟩ := HKY.out.sev7
        have h2 := HQ2.out
        go_wp2_with (first
          | (have mk := G1;go_at_call 18;(with_reducible refine (rcmp_v 0 HX2.out HY2.out (cmpR_eq HQ3.out) MX.out.2.2.1 MX.out.2.2.2 MY.out.2.2.1 MY.out.2.2.2).mono ?_);rintro e w5 ⟨rfl,hb⟩;replace HKX := Lib.hid (Blk.later HKX.out hb);replace HKY := Lib.hid (Blk.later HKY.out hb);replace HT1 := Lib.hid (SBlk.later HT1.out hb);replace HT2 := Lib.hid (SBlk.later HT2.out hb);replace HX2 := Lib.hid (RV.Is.later HX2.out hb);replace HY2 := Lib.hid (RV.Is.later HY2.out hb);replace HTB := Lib.hid (bthen HTB.out hb);clear hb;clear c0 c1 c2 c3 c4 c5 c6 d0 d1 d2 d3 d4 d5 d6;obtain ⟨c0,c1,c2,c3,c4,c5,c6⟩ := HKX.out.sev7;obtain ⟨d0,d1,d2,d3,d4,d5,d6⟩ := HKY.out.sev7)
          | (go_at_call 18;(with_reducible refine (rcmp_v 0 HX1.out HY1.out (cmpR_eq HQ1.out) MX.out.1 MX.out.2.1 MY.out.1 MY.out.2.1).mono ?_);rintro e w4 ⟨rfl,hb⟩;replace HKX := Lib.hid (Blk.later HKX.out hb);replace HKY := Lib.hid (Blk.later HKY.out hb);replace HT1 := Lib.hid (SBlk.later HT1.out hb);replace HT2 := Lib.hid (SBlk.later HT2.out hb);replace HX2 := Lib.hid (RV.Is.later HX2.out hb);replace HY2 := Lib.hid (RV.Is.later HY2.out hb);replace HTB := Lib.hid (bthen HTB.out hb);clear hb;clear c0 c1 c2 c3 c4 c5 c6 d0 d1 d2 d3 d4 d5 d6;obtain ⟨c0,c1,c2,c3,c4,c5,c6⟩ := HKX.out.sev7;obtain ⟨d0,d1,d2,d3,d4,d5,d6⟩ := HKY.out.sev7;have G1 : Hid True := trivial))
        go_roundw
        case rel => exact ⟨k + 1,by omega,by go_num,HT1,HT2,HTB⟩
        case measure => simp [intOf];omega
    · obtain rfl : k = v.n := by omega
      go_wp2
      go_ret
      exact ⟨rfl,HTB.out⟩
end Go.Proofs.YtkcgikoploohkaaGreatDoor
