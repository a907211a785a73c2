import Derived.Test.YtkcgikoploohkaaGreatDoorZSe3
import Derived.Deep.DeepCutAuto
import Derived.Laws.EntriesVeiled
namespace Go.Proofs.YtkcgikoploohkaaGreatDoor
set_option linter.unusedVariables false
set_option linter.unusedSimpArgs false
set_option maxRecDepth 100000
open Go.RowKit Go.Shelf Nums
def okR (h : Rat) (ins : List ByteArray) : Rat→List (Rat × ByteArray × Rat)→Bool
  | _,[] => true
  | a,x :: L => (decide (a≤x.1) && decide (x.1≤h) && Lib.containsS ins x.2.1) && okR h ins x.1 L
def rgtM (S : ScT) (ins : List ByteArray) : Bool := decide (0≤S.h) && decide (0≤S.cas) && decide (S.cas≤999999) && decide (1≤S.bits) && decide (S.bits≤900) && okR S.h ins 0 S.ch
theorem cont_t {a : Option Addr} {n c : Nat} {ins : List ByteArray} {w : World} {x : ByteArray} (h : SRow w a n c ins) : Calls Tryz.prog 55 #[.slice a n c,.string x] w fun e w' => e = .returned (.bool (Lib.containsS ins x))∧w' = w := by
  obtain ⟨h1,h2,h3,b,off,h4,h5⟩ := h
  unfold maxLen at h3
  rcases Nat.eq_zero_or_pos n with h0 | h0
  · subst h0
    obtain rfl := List.eq_nil_of_length_eq_zero h1
    exact Tryz.slices_Contains_string_empty a c x w
  · obtain rfl := h4.resolve_right (by omega)
    refine (Tryz.slices_Contains_string b off n c ins x w (by omega) (by omega) (fun j hj => ?_)).mono ?_
    · have hx : ins[j]? = some (ins[j]) := List.getElem?_eq_getElem hj
      rw [(h5 j _ hx).2,List.getD_eq_getElem?_getD,hx];rfl
    · rintro e w' ⟨rfl,rfl⟩
      refine ⟨?_,rfl⟩
      rw [List.take_of_length_le (by omega)]
theorem okR_next {h : Rat} {ins : List ByteArray} {L : List CM} {k : Nat} {x : CM} (hx : L[k]? = some x) (q : Rat) : okR h ins q ((L.map CM.told).drop k) = ((decide (q≤x.p) && decide (x.p≤h) && Lib.containsS ins x.nm) && okR h ins x.p ((L.map CM.told).drop (k + 1))) := by
  have hl : k < (L.map CM.told).length := by rw [List.length_map];exact (List.getElem?_eq_some_iff.1 hx).1
  have e : (L.map CM.told)[k] = x.told := by
    have := (List.getElem?_eq_getElem hl).symm.trans (show (L.map CM.told)[k]? = some x.told by rw [List.getElem?_map,hx];rfl)
    exact Option.some.inj this
  rw [List.drop_eq_getElem_cons hl,e]
  rfl
theorem Blk.three {w : World} {g T : Nat} {a b c : Value} (h : Blk w g T #[a,b,c]) : w.cell? ⟨g,0,none⟩ = some a∧w.cell? ⟨g,1,none⟩ = some b∧w.cell? ⟨g,2,none⟩ = some c := ⟨h.cell 0 rfl,h.cell 1 rfl,h.cell 2 rfl⟩
structure RtSt (w0 w : World) (v : SV) (h : Rat) (g : Nat) (r : RV) (q : Rat) : Prop where
  s : SBlk w w0.heap.size v
  c : Blk w g 27 #[.bool r.s,.slice r.a r.n r.c,.slice r.b r.m r.d]
  k : Below w0.heap.size w0 w
  hi : v.h.Is v.h.n v.h.m h w
  ri : r.Is r.n r.m q w
  rk : r.n≤45
  rj : r.m≤45
  gg : w0.heap.size < g
theorem RtSt.later {w0 w w' : World} {v : SV} {h : Rat} {g : Nat} {r : RV} {q : Rat} (hs : RtSt w0 w v h g r q) (hb : Below w.heap.size w w') : RtSt w0 w' v h g r q := ⟨hs.s.later hb,Blk.later hs.c hb,hs.k.trans (hb.mono hs.k.size),hs.hi.later hb,hs.ri.later hb,hs.rk,hs.rj,hs.gg⟩
theorem RtSt.put {w0 w : World} {v : SV} {h : Rat} {g : Nat} {r t : RV} {q p : Rat} (hs : RtSt w0 w v h g r q) (ht : t.Is t.n t.m p w) (hl : t.n≤45∧t.m≤45) : RtSt w0 (((w.setCell ⟨g,0,none⟩ (.bool t.s)).setCell ⟨g,1,none⟩ (.slice t.a t.n t.c)).setCell ⟨g,2,none⟩ (.slice t.b t.m t.d)) v h g t p := by
  have k : ∀ (i : Nat) (u : World) (x : Value),Only [g] u (u.setCell ⟨g,i,none⟩ x) := fun i u x => Only.set (List.mem_singleton.2 rfl) i u x
  have hgg := hs.gg
  have ho := ((k 0 w (.bool t.s)).trans (k 1 _ (.slice t.a t.n t.c))).trans (k 2 _ (.slice t.b t.m t.d))
  refine ⟨Blk.only hs.s ho (by simp;omega), ?_,hs.k.trans (ho.below hs.k.size (fun j hj => by rw [List.mem_singleton] at hj;omega)),hs.hi.put3 hs.c _ _ _,ht.put3 hs.c _ _ _,hl.1,hl.2,hgg⟩
  exact ((hs.c.set 0 _).set 1 _).set 2 _
theorem cmp_geT {p q : Rat} (h : ¬ p < q) : ∃ T,cmpR p q = T∧¬ T < 0 := by
  rcases rat_tri p q with e | e | e
  · exact absurd e h
  · exact ⟨0,cmpR_eq e,by decide⟩
  · exact ⟨1,cmpR_gt e,by decide⟩
theorem cmp_leT {p q : Rat} (h : ¬ q < p) : ∃ T,cmpR p q = T∧¬ 0 < T := by
  rcases rat_tri p q with e | e | e
  · exact ⟨-1,cmpR_lt e,by decide⟩
  · exact ⟨0,cmpR_eq e,by decide⟩
  · exact absurd e h
theorem sgn_geT {p : Rat} (h : ¬ p < 0) : ∃ T,sgn p.num = T∧¬ T < 0 := by
  rcases sgnR_cases p with ⟨e,_⟩ | ⟨_,e⟩ | ⟨_,e⟩
  · exact absurd e h
  · exact ⟨0,e,by decide⟩
  · exact ⟨1,e,by decide⟩
set_option maxHeartbeats 8000000 in
theorem right_t (v : SV) (h : Rat) (L : List CM) (a : Option Addr) (n c : Nat) (ins : List ByteArray) (w : World) (hv : v.Is h L w) (hr : SRow w a n c ins) (h1 : v.h.n≤45∧v.h.m≤45) (h2 : ∀ x∈L,x.t.n≤45∧x.t.m≤45) :
    Calls Tryz.prog 15 #[.agg #[.bool v.h.s,.slice v.h.a v.h.n v.h.c,.slice v.h.b v.h.m v.h.d,.int .i64 v.cas,.int .i64 v.bits,.slice v.a v.n v.c],.slice a n c] w (fun e w' => e = .returned (.bool (rgtM ⟨h,v.cas,v.bits,L.map CM.told⟩ ins))∧Below w.heap.size w w') := by
  have HB1 := Lib.hid (below_one w (.cells #[.bool v.h.s,.slice v.h.a v.h.n v.h.c,.slice v.h.b v.h.m v.h.d,.int .i64 v.cas,.int .i64 v.bits,.slice v.a v.n v.c] 30))
  have HK0 := Lib.hid (show SBlk (w.alloc (.cells #[.bool v.h.s,.slice v.h.a v.h.n v.h.c,.slice v.h.b v.h.m v.h.d,.int .i64 v.cas,.int .i64 v.bits,.slice v.a v.n v.c] 30)) w.heap.size v from Blk.new _ _ _)
  have HV := Lib.hid hv
  have HRN := Lib.hid hr
  have HH := Lib.hid h1
  have HX2 := Lib.hid h2
  have HN := Lib.hid (show L.length = v.n from hv.c.1)
  have hnb : v.n≤maxLen := Nat.le_trans hv.c.2.1 hv.c.2.2.1
  unfold maxLen at hnb
  clear hv hr h1 h2
  obtain ⟨p0,p1,p2,p3,p4,p5⟩ := HK0.out.cells
  by_cases z0 : h < 0
  · have HR := Lib.hid (show rgtM ⟨h,v.cas,v.bits,L.map CM.told⟩ ins = false by unfold rgtM;rw [decide_eq_false (show ¬ 0≤h by grind)];rfl)
    have HT := Lib.hid (show sgn h.num = -1 by rcases sgnR_cases h with ⟨_,e⟩ | ⟨e,_⟩ | ⟨e,_⟩;exact e;grind;grind)
    clear z0
    go_enter Tryz.func15,Tryz.ntmps15
    go_wp2_with (go_at_call 52;(with_reducible refine (sign_v (-1) (HV.out.h.later HB1.out) HT.out (Nat.le_trans HH.out.1 (by decide)) (Nat.le_trans HH.out.2 (by decide))).mono ?_);rintro e w1 ⟨rfl,hb⟩;have HB2 := Lib.hid (bthen HB1.out hb);clear hb)
    go_ret
    rw [HR.out]
    exact ⟨rfl,HB2.out⟩
  obtain ⟨T0,hT0,t0⟩ := sgn_geT z0
  have HT := Lib.hid hT0
  clear hT0
  by_cases z1 : v.cas < 0
  · have HR := Lib.hid (show rgtM ⟨h,v.cas,v.bits,L.map CM.told⟩ ins = false by unfold rgtM;rw [show decide (0≤(⟨h,v.cas,v.bits,L.map CM.told⟩ : ScT).cas) = false from decide_eq_false (by show ¬ 0≤v.cas;omega)];simp)
    go_enter Tryz.func15,Tryz.ntmps15
    go_wp2_with (go_at_call 52;(with_reducible refine (sign_v T0 (HV.out.h.later HB1.out) HT.out (Nat.le_trans HH.out.1 (by decide)) (Nat.le_trans HH.out.2 (by decide))).mono ?_);rintro e w1 ⟨rfl,hb⟩;have HB2 := Lib.hid (bthen HB1.out hb);have HK1 := Lib.hid (HK0.out.later hb);clear hb p0 p1 p2 p3 p4 p5;obtain ⟨p0,p1,p2,p3,p4,p5⟩ := HK1.out.cells)
    go_ret
    rw [HR.out]
    exact ⟨rfl,HB2.out⟩
  by_cases z2 : 999999 < v.cas
  · have HR := Lib.hid (show rgtM ⟨h,v.cas,v.bits,L.map CM.told⟩ ins = false by unfold rgtM;rw [show decide ((⟨h,v.cas,v.bits,L.map CM.told⟩ : ScT).cas≤999999) = false from decide_eq_false (by show ¬ v.cas≤999999;omega)];simp)
    go_enter Tryz.func15,Tryz.ntmps15
    go_wp2_with (go_at_call 52;(with_reducible refine (sign_v T0 (HV.out.h.later HB1.out) HT.out (Nat.le_trans HH.out.1 (by decide)) (Nat.le_trans HH.out.2 (by decide))).mono ?_);rintro e w1 ⟨rfl,hb⟩;have HB2 := Lib.hid (bthen HB1.out hb);have HK1 := Lib.hid (HK0.out.later hb);clear hb p0 p1 p2 p3 p4 p5;obtain ⟨p0,p1,p2,p3,p4,p5⟩ := HK1.out.cells)
    go_ret
    rw [HR.out]
    exact ⟨rfl,HB2.out⟩
  by_cases z3 : v.bits < 1
  · have HR := Lib.hid (show rgtM ⟨h,v.cas,v.bits,L.map CM.told⟩ ins = false by unfold rgtM;rw [show decide (1≤(⟨h,v.cas,v.bits,L.map CM.told⟩ : ScT).bits) = false from decide_eq_false (by show ¬ 1≤v.bits;omega)];simp)
    go_enter Tryz.func15,Tryz.ntmps15
    go_wp2_with (go_at_call 52;(with_reducible refine (sign_v T0 (HV.out.h.later HB1.out) HT.out (Nat.le_trans HH.out.1 (by decide)) (Nat.le_trans HH.out.2 (by decide))).mono ?_);rintro e w1 ⟨rfl,hb⟩;have HB2 := Lib.hid (bthen HB1.out hb);have HK1 := Lib.hid (HK0.out.later hb);clear hb p0 p1 p2 p3 p4 p5;obtain ⟨p0,p1,p2,p3,p4,p5⟩ := HK1.out.cells)
    go_ret
    rw [HR.out]
    exact ⟨rfl,HB2.out⟩
  by_cases z4 : 900 < v.bits
  · have HR := Lib.hid (show rgtM ⟨h,v.cas,v.bits,L.map CM.told⟩ ins = false by unfold rgtM;rw [show decide ((⟨h,v.cas,v.bits,L.map CM.told⟩ : ScT).bits≤900) = false from decide_eq_false (by show ¬ v.bits≤900;omega)];simp)
    go_enter Tryz.func15,Tryz.ntmps15
    go_wp2_with (go_at_call 52;(with_reducible refine (sign_v T0 (HV.out.h.later HB1.out) HT.out (Nat.le_trans HH.out.1 (by decide)) (Nat.le_trans HH.out.2 (by decide))).mono ?_);rintro e w1 ⟨rfl,hb⟩;have HB2 := Lib.hid (bthen HB1.out hb);have HK1 := Lib.hid (HK0.out.later hb);clear hb p0 p1 p2 p3 p4 p5;obtain ⟨p0,p1,p2,p3,p4,p5⟩ := HK1.out.cells)
    go_ret
    rw [HR.out]
    exact ⟨rfl,HB2.out⟩
  have HR := Lib.hid (show rgtM ⟨h,v.cas,v.bits,L.map CM.told⟩ ins = okR h ins 0 (L.map CM.told) by unfold rgtM;simp only [decide_eq_true (show 0≤h by grind),decide_eq_true (show 0≤v.cas by omega),decide_eq_true (show v.cas≤999999 by omega),decide_eq_true (show 1≤v.bits by omega),decide_eq_true (show v.bits≤900 by omega),Bool.true_and])
  rw [HR.out]
  have HZ0 := Lib.hid z0
  clear HR z0
  go_enter Tryz.func15,Tryz.ntmps15
  go_upto_region 3 with (go_at_call 52;(with_reducible refine (sign_v T0 (HV.out.h.later HB1.out) HT.out (Nat.le_trans HH.out.1 (by decide)) (Nat.le_trans HH.out.2 (by decide))).mono ?_);rintro e w1 ⟨rfl,hb⟩;have HB2 := Lib.hid (bthen HB1.out hb);have HK1 := Lib.hid (HK0.out.later hb);clear hb p0 p1 p2 p3 p4 p5;obtain ⟨p0,p1,p2,p3,p4,p5⟩ := HK1.out.cells)
  go_upto_region 4 with (go_at_call 53;(with_reducible refine (of_v 0 (by decide) (by decide)).mono ?_);rintro e w2 ⟨r0,rfl,hr0,hb⟩;have HQ0 := Lib.hid hr0;have HB3 := Lib.hid hb;clear hb hr0)
  obtain ⟨W3,hW3⟩ : ∃ W3,W3 = w2.alloc (.cells #[.bool r0.s,.slice r0.a r0.n r0.c,.slice r0.b r0.m r0.d] 27) := ⟨_,rfl⟩
  rw [←hW3]
  have HS0 : Hid (RtSt w W3 v h w2.heap.size r0 0) := by
    have b3 : Below w2.heap.size w2 W3 := by rw [hW3];exact below_one _ _
    have hz : w.heap.size < w2.heap.size := by have := HK1.out.lt;have := HB3.out.size;omega
    have e0 : ((0 : Int) : Rat) = 0 := rfl
    have hq := HQ0.out
    rw [e0] at hq
    have hl : r0.n≤2∧r0.m≤1 := ⟨hq.choose_spec.choose_spec.2.2.2.1,hq.choose_spec.choose_spec.2.2.2.2⟩
    exact Lib.hid ⟨(HK1.out.later HB3.out).later b3,by rw [hW3];exact Blk.new _ _ _,bthen (bthen HB2.out HB3.out) b3,((HV.out.h.later HB2.out).later HB3.out).later b3,(hq.self.later b3),by omega,by omega,hz⟩
  obtain ⟨g,hg⟩ : ∃ g,w2.heap.size = g := ⟨_,rfl⟩
  rw [hg] at HS0 ⊢
  clear hW3 HK1 HQ0 HB3 HB2 hg p0 p1 p2 p3 p4 p5 HK0 HT
  obtain ⟨p0,p1,p2,p3,p4,p5⟩ := HS0.out.s.cells
  have hcv : v.n≤v.c := HV.out.c.2.1
  have hcm : v.c≤9223372036854775807 := by have := HV.out.c.2.2.1;unfold maxLen at this;omega
  go_upto_region 5 with fail
  go_loopw [36] (fun t wr => ∃ k : Nat,k≤v.n∧t = .int .i64 k∧∃ (r : RV) (q : Rat),Hid (RtSt w wr v h g r q)∧Hid (okR h ins 0 (L.map CM.told) = okR h ins q ((L.map CM.told).drop k))) (fun t _ => v.n - (intOf t).toNat)
  case atStart => exact ⟨0,Nat.zero_le _,rfl,r0,0,HS0,Lib.hid rfl⟩
  case round =>
    obtain ⟨k,hk,rfl,r,q,HS,HO⟩ := hrel
    clear HS0 p0 p1 p2 p3 p4 p5
    by_cases hlt : k < v.n
    · obtain ⟨x,hx⟩ : ∃ x,L[k]? = some x := ⟨_,List.getElem?_eq_getElem (by rw [HN.out];exact hlt)⟩
      obtain ⟨b,off,ha,hbB0,hat0⟩ := HV.out.c.at_ hx
      have hat := hat0.later hbB0 HS.out.k
      have HO2 := Lib.hid (HO.out.trans (okR_next hx q))
      have hmx := HX2.out x (List.mem_of_getElem? hx)
      have HMX := Lib.hid hmx
      obtain ⟨p0,p1,p2,p3,p4,p5⟩ := HS.out.s.cells
      obtain ⟨c0,c1,c2,c3,c4,c5,c6,hxt,-⟩ := hat
      rw [show off + k * 7 + 5 = off + k * 7 + 4 + 1 from rfl] at c5
      rw [show off + k * 7 + 6 = off + k * 7 + 4 + 2 from rfl] at c6
      obtain ⟨W1,hW1⟩ : ∃ W1,W1 = wr.alloc (.cells #[.bool x.t.s,.slice x.t.a x.t.n x.t.c,.slice x.t.b x.t.m x.t.d,.string x.nm,.bool x.v.s,.slice x.v.a x.v.n x.v.c,.slice x.v.b x.v.m x.v.d] 43) := ⟨_,rfl⟩
      have hb1 : Below wr.heap.size wr W1 := by rw [hW1];exact below_one _ _
      have HK1 := Lib.hid (show Blk W1 wr.heap.size 43 #[.bool x.t.s,.slice x.t.a x.t.n x.t.c,.slice x.t.b x.t.m x.t.d,.string x.nm,.bool x.v.s,.slice x.v.a x.v.n x.v.c,.slice x.v.b x.v.m x.v.d] by rw [hW1];exact Blk.new _ _ _)
      have HXT := Lib.hid (RV.Is.later hxt hb1)
      replace HS := Lib.hid (HS.out.later hb1)
      replace HRN := Lib.hid (HRN.out.later (HS.out.k))
      have HW1 := Lib.hid hW1
      clear hW1 hb1 hx hmx hat0 hxt hbB0 HO
      go_upto_region 7 with fail
      rw [←HW1.out];clear HW1 c0 c1 c2 c3 c4 c5 c6 p0 p1 p2 p3 p4 p5
      obtain ⟨p0,p1,p2,p3,p4,p5⟩ := HS.out.s.cells
      obtain ⟨q0,q1,q2⟩ := HS.out.c.three
      obtain ⟨c0,c1,c2,c3,c4,c5,c6⟩ := HK1.out.sev7
      have HA := Lib.hid ha
      clear ha
      try rw [←HA.out]
      by_cases y1 : x.p < q
      · have HC1 := Lib.hid (cmpR_lt y1)
        have HR := Lib.hid (show okR h ins 0 (L.map CM.told) = false from HO2.out.trans (by rw [show decide (q≤x.p) = false from decide_eq_false (by grind)];simp))
        obtain ⟨T1,hT1⟩ : ∃ T1 : Int,T1 = -1 := ⟨_,rfl⟩
        have t1 : T1 < 0 := by omega
        rw [←hT1] at HC1
        clear y1 hT1
        go_wp2_with (first
          | (have mk := G1;go_at_call 54;(with_reducible refine (cmp_v T2 HXT.out HS.out.hi HC2.out HMX.out.1 HMX.out.2 HH.out.1 HH.out.2).mono ?_);rintro e w2 ⟨rfl,hb⟩;replace HS := Lib.hid (HS.out.later hb);replace HK1 := Lib.hid (Blk.later HK1.out hb);replace HXT := Lib.hid (RV.Is.later HXT.out hb);replace HRN := Lib.hid (SRow.later HRN.out hb);clear hb;clear p0 p1 p2 p3 p4 p5 q0 q1 q2 c0 c1 c2 c3 c4 c5 c6;obtain ⟨p0,p1,p2,p3,p4,p5⟩ := HS.out.s.cells;obtain ⟨q0,q1,q2⟩ := HS.out.c.three;obtain ⟨c0,c1,c2,c3,c4,c5,c6⟩ := HK1.out.sev7)
          | (go_at_call 54;(with_reducible refine (cmp_v T1 HXT.out HS.out.ri HC1.out HMX.out.1 HMX.out.2 HS.out.rk HS.out.rj).mono ?_);rintro e w1 ⟨rfl,hb⟩;replace HS := Lib.hid (HS.out.later hb);replace HK1 := Lib.hid (Blk.later HK1.out hb);replace HXT := Lib.hid (RV.Is.later HXT.out hb);replace HRN := Lib.hid (SRow.later HRN.out hb);clear hb;clear p0 p1 p2 p3 p4 p5 q0 q1 q2 c0 c1 c2 c3 c4 c5 c6;obtain ⟨p0,p1,p2,p3,p4,p5⟩ := HS.out.s.cells;obtain ⟨q0,q1,q2⟩ := HS.out.c.three;obtain ⟨c0,c1,c2,c3,c4,c5,c6⟩ := HK1.out.sev7;have G1 : Hid True := trivial)
          | (go_at_call 55;(with_reducible refine (cont_t HRN.out).mono ?_);rintro e w3 ⟨rfl,rfl⟩))
        go_ret
        rw [HR.out]
        exact ⟨rfl,HS.out.k⟩
      obtain ⟨T1,hT1,t1⟩ := cmp_geT y1
      have HC1 := Lib.hid hT1
      clear hT1
      by_cases y2 : h < x.p
      · have HC2 := Lib.hid (cmpR_gt y2)
        have HR := Lib.hid (show okR h ins 0 (L.map CM.told) = false from HO2.out.trans (by rw [show decide (x.p≤h) = false from decide_eq_false (by grind)];simp))
        obtain ⟨T2,hT2⟩ : ∃ T2 : Int,T2 = 1 := ⟨_,rfl⟩
        have t2 : 0 < T2 := by omega
        rw [←hT2] at HC2
        clear y1 y2 hT2
        go_wp2_with (first
          | (have mk := G1;go_at_call 54;(with_reducible refine (cmp_v T2 HXT.out HS.out.hi HC2.out HMX.out.1 HMX.out.2 HH.out.1 HH.out.2).mono ?_);rintro e w2 ⟨rfl,hb⟩;replace HS := Lib.hid (HS.out.later hb);replace HK1 := Lib.hid (Blk.later HK1.out hb);replace HXT := Lib.hid (RV.Is.later HXT.out hb);replace HRN := Lib.hid (SRow.later HRN.out hb);clear hb;clear p0 p1 p2 p3 p4 p5 q0 q1 q2 c0 c1 c2 c3 c4 c5 c6;obtain ⟨p0,p1,p2,p3,p4,p5⟩ := HS.out.s.cells;obtain ⟨q0,q1,q2⟩ := HS.out.c.three;obtain ⟨c0,c1,c2,c3,c4,c5,c6⟩ := HK1.out.sev7)
          | (go_at_call 54;(with_reducible refine (cmp_v T1 HXT.out HS.out.ri HC1.out HMX.out.1 HMX.out.2 HS.out.rk HS.out.rj).mono ?_);rintro e w1 ⟨rfl,hb⟩;replace HS := Lib.hid (HS.out.later hb);replace HK1 := Lib.hid (Blk.later HK1.out hb);replace HXT := Lib.hid (RV.Is.later HXT.out hb);replace HRN := Lib.hid (SRow.later HRN.out hb);clear hb;clear p0 p1 p2 p3 p4 p5 q0 q1 q2 c0 c1 c2 c3 c4 c5 c6;obtain ⟨p0,p1,p2,p3,p4,p5⟩ := HS.out.s.cells;obtain ⟨q0,q1,q2⟩ := HS.out.c.three;obtain ⟨c0,c1,c2,c3,c4,c5,c6⟩ := HK1.out.sev7;have G1 : Hid True := trivial)
          | (go_at_call 55;(with_reducible refine (cont_t HRN.out).mono ?_);rintro e w3 ⟨rfl,rfl⟩))
        go_ret
        rw [HR.out]
        exact ⟨rfl,HS.out.k⟩
      obtain ⟨T2,hT2,t2⟩ := cmp_leT y2
      have HC2 := Lib.hid hT2
      clear hT2
      cases y3 : Lib.containsS ins x.nm with
      | false =>
        have HR := Lib.hid (show okR h ins 0 (L.map CM.told) = false from HO2.out.trans (by rw [y3];simp))
        clear y1 y2
        go_wp2_with (first
          | (have mk := G1;go_at_call 54;(with_reducible refine (cmp_v T2 HXT.out HS.out.hi HC2.out HMX.out.1 HMX.out.2 HH.out.1 HH.out.2).mono ?_);rintro e w2 ⟨rfl,hb⟩;replace HS := Lib.hid (HS.out.later hb);replace HK1 := Lib.hid (Blk.later HK1.out hb);replace HXT := Lib.hid (RV.Is.later HXT.out hb);replace HRN := Lib.hid (SRow.later HRN.out hb);clear hb;clear p0 p1 p2 p3 p4 p5 q0 q1 q2 c0 c1 c2 c3 c4 c5 c6;obtain ⟨p0,p1,p2,p3,p4,p5⟩ := HS.out.s.cells;obtain ⟨q0,q1,q2⟩ := HS.out.c.three;obtain ⟨c0,c1,c2,c3,c4,c5,c6⟩ := HK1.out.sev7)
          | (go_at_call 54;(with_reducible refine (cmp_v T1 HXT.out HS.out.ri HC1.out HMX.out.1 HMX.out.2 HS.out.rk HS.out.rj).mono ?_);rintro e w1 ⟨rfl,hb⟩;replace HS := Lib.hid (HS.out.later hb);replace HK1 := Lib.hid (Blk.later HK1.out hb);replace HXT := Lib.hid (RV.Is.later HXT.out hb);replace HRN := Lib.hid (SRow.later HRN.out hb);clear hb;clear p0 p1 p2 p3 p4 p5 q0 q1 q2 c0 c1 c2 c3 c4 c5 c6;obtain ⟨p0,p1,p2,p3,p4,p5⟩ := HS.out.s.cells;obtain ⟨q0,q1,q2⟩ := HS.out.c.three;obtain ⟨c0,c1,c2,c3,c4,c5,c6⟩ := HK1.out.sev7;have G1 : Hid True := trivial)
          | (go_at_call 55;(with_reducible refine (cont_t HRN.out).mono ?_);rintro e w3 ⟨rfl,rfl⟩))
        go_ret
        rw [HR.out]
        exact ⟨rfl,HS.out.k⟩
      | true =>
        have HR := Lib.hid (show okR h ins 0 (L.map CM.told) = okR h ins x.p ((L.map CM.told).drop (k + 1)) from HO2.out.trans (by rw [y3,show decide (x.p≤h) = true from decide_eq_true (by grind),show decide (q≤x.p) = true from decide_eq_true (by grind)];simp))
        clear y1 y2
        go_upto_region 9 with (first
          | (have mk := G1;go_at_call 54;(with_reducible refine (cmp_v T2 HXT.out HS.out.hi HC2.out HMX.out.1 HMX.out.2 HH.out.1 HH.out.2).mono ?_);rintro e w2 ⟨rfl,hb⟩;replace HS := Lib.hid (HS.out.later hb);replace HK1 := Lib.hid (Blk.later HK1.out hb);replace HXT := Lib.hid (RV.Is.later HXT.out hb);replace HRN := Lib.hid (SRow.later HRN.out hb);clear hb;clear p0 p1 p2 p3 p4 p5 q0 q1 q2 c0 c1 c2 c3 c4 c5 c6;obtain ⟨p0,p1,p2,p3,p4,p5⟩ := HS.out.s.cells;obtain ⟨q0,q1,q2⟩ := HS.out.c.three;obtain ⟨c0,c1,c2,c3,c4,c5,c6⟩ := HK1.out.sev7)
          | (go_at_call 54;(with_reducible refine (cmp_v T1 HXT.out HS.out.ri HC1.out HMX.out.1 HMX.out.2 HS.out.rk HS.out.rj).mono ?_);rintro e w1 ⟨rfl,hb⟩;replace HS := Lib.hid (HS.out.later hb);replace HK1 := Lib.hid (Blk.later HK1.out hb);replace HXT := Lib.hid (RV.Is.later HXT.out hb);replace HRN := Lib.hid (SRow.later HRN.out hb);clear hb;clear p0 p1 p2 p3 p4 p5 q0 q1 q2 c0 c1 c2 c3 c4 c5 c6;obtain ⟨p0,p1,p2,p3,p4,p5⟩ := HS.out.s.cells;obtain ⟨q0,q1,q2⟩ := HS.out.c.three;obtain ⟨c0,c1,c2,c3,c4,c5,c6⟩ := HK1.out.sev7;have G1 : Hid True := trivial)
          | (go_at_call 55;(with_reducible refine (cont_t HRN.out).mono ?_);rintro e w3 ⟨rfl,rfl⟩))
        have qf := Blk.free HS.out.c
        have qf0 := qf 0
        have qf1 := qf 1
        have qf2 := qf 2
        go_wp2_with fail
        have HQ : Hid (RtSt w (((w3.setCell ⟨g,0,none⟩ (.bool x.t.s)).setCell ⟨g,1,none⟩ (.slice x.t.a x.t.n x.t.c)).setCell ⟨g,2,none⟩ (.slice x.t.b x.t.m x.t.d)) v h g x.t x.p) := Lib.hid (HS.out.put HXT.out HMX.out)
        go_roundw
        case rel => exact ⟨k + 1,by omega,by go_num,x.t,x.p,HQ,HR⟩
        case measure => simp [intOf];omega
    · obtain rfl : k = v.n := by omega
      go_wp2
      go_ret
      refine ⟨?_,HS.out.k⟩
      rw [HO.out,List.drop_of_length_le (by rw [List.length_map,HN.out];omega)]
      rfl
end Go.Proofs.YtkcgikoploohkaaGreatDoor
