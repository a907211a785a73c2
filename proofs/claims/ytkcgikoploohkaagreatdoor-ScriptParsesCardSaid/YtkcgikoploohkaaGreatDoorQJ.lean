import Derived.Test.YtkcgikoploohkaaGreatDoorQI
import Derived.Test.YtkcgikoploohkaaGreatDoorQM
import Derived.Deep.DeepCutAuto
import Derived.Deep.RegionHeld3
namespace Go.Proofs.YtkcgikoploohkaaGreatDoor
set_option linter.unusedVariables false
set_option linter.unusedSimpArgs false
set_option maxRecDepth 100000
open Go.RowKit Nums
set_option maxHeartbeats 8000000 in
theorem raddR_small (q : Rat) {s t : Bool} {a b a' b' : Option Addr} {n c m d n' c' m' d' : Nat} {xs ys us vs : List Nat} {w : World} (h0 : Row w a n c xs) (h1 : Row w b m d ys) (h2 : Row w a' n' c' us) (h3 : Row w b' m' d' vs) (X Y : Int) (hc0 : ∀ W,Row W a n c xs→Row W b m d ys→Calls Tryz.prog 58 #[.agg #[.bool s,.slice a n c,.slice b m d]] W (QuickYes X Y W)) (U V : Int) (hc1 : ∀ W,Row W a' n' c' us→Row W b' m' d' vs→Calls Tryz.prog 58 #[.agg #[.bool t,.slice a' n' c',.slice b' m' d']] W (QuickYes U V W)) (E1 E2 E F : Int) (hE1 : X * V = E1) (hE2 : U * Y = E2) (hE : E1 + E2 = E) (hF : Y * V = F) (e0 : -2305843009213693952 < E1) (e1 : E1 < 2305843009213693952) (e2 : -2305843009213693952 < E2) (e3 : E2 < 2305843009213693952) (f0 : 0 < F) (f1 : F < 4611686018427387904) (hq : mkRat E F.natAbs = q) :
    Calls Tryz.prog 101 #[.agg #[.bool s,.slice a n c,.slice b m d],.agg #[.bool t,.slice a' n' c',.slice b' m' d']] w (RatK 2 2 q w) := by
  have HB := Lib.hid (below_three w (.cells #[.bool s,.slice a n c,.slice b m d] 27) (.cells #[.bool t,.slice a' n' c',.slice b' m' d'] 27) (.cells #[.bool false,.slice none 0 0,.slice none 0 0] 27))
  have X0 : Hid (Tri (((w.alloc (.cells #[.bool s,.slice a n c,.slice b m d] 27)).alloc (.cells #[.bool t,.slice a' n' c',.slice b' m' d'] 27)).alloc (.cells #[.bool false,.slice none 0 0,.slice none 0 0] 27)) (w.heap.size) (.bool s) (.slice a n c) (.slice b m d)) := (((tri_new _ (.bool s) (.slice a n c) (.slice b m d)).alloc _).alloc _)
  have X1 : Hid (Tri (((w.alloc (.cells #[.bool s,.slice a n c,.slice b m d] 27)).alloc (.cells #[.bool t,.slice a' n' c',.slice b' m' d'] 27)).alloc (.cells #[.bool false,.slice none 0 0,.slice none 0 0] 27)) (w.heap.size + 1) (.bool t) (.slice a' n' c') (.slice b' m' d')) := ((tri_newE (by simp)).alloc _)
  have Z : Hid (Tri (((w.alloc (.cells #[.bool s,.slice a n c,.slice b m d] 27)).alloc (.cells #[.bool t,.slice a' n' c',.slice b' m' d'] 27)).alloc (.cells #[.bool false,.slice none 0 0,.slice none 0 0] 27)) (w.heap.size + 2) (.bool false) (.slice none 0 0) (.slice none 0 0)) := (tri_newE (by simp;try omega))
  have R0 := Lib.hid (h0.later HB.out);clear h0
  have R1 := Lib.hid (h1.later HB.out);clear h1
  have R2 := Lib.hid (h2.later HB.out);clear h2
  have R3 := Lib.hid (h3.later HB.out);clear h3
  have b0 : -4611686018427387904 < E := by omega
  have b1 : E < 4611686018427387904 := by omega
  have W1 := Lib.hid (show wrap64 (wrap64 (X * V) + wrap64 (U * Y)) = E by rw [hE1,hE2];unfold wrap64;omega)
  have W2 := Lib.hid (show wrap64 (Y * V) = F by rw [hF];unfold wrap64;omega)
  have W3 := Lib.hid (show wrap64 (X * V + U * Y) = E by rw [hE1,hE2];unfold wrap64;omega)
  have C0 := Lib.hid hc0;clear hc0
  have C1 := Lib.hid hc1;clear hc1
  have HQ := Lib.hid hq;clear hq
  clear hE1 hE2 hE hF e0 e1 e2 e3
  go_enter Tryz.func101,Tryz.ntmps101
  go_wp2_with fail
  refine (C0.out _ R0.out R1.out).mono ?_
  rintro e w1 ⟨rfl,hb⟩
  clear R0
  clear R1
  replace R2 := Lib.hid (R2.out.later hb)
  replace R3 := Lib.hid (R3.out.later hb)
  replace X0 := Lib.hid (X0.out.later hb)
  replace X1 := Lib.hid (X1.out.later hb)
  replace Z := Lib.hid (Z.out.later hb)
  replace HB := Lib.hid (bthen HB.out hb)
  clear hb
  obtain ⟨kX00,kX01,kX02,-,-,-,-⟩ := X0.out
  obtain ⟨kX10,kX11,kX12,-,-,-,-⟩ := X1.out
  obtain ⟨kZ0,kZ1,kZ2,-,-,-,-⟩ := Z.out
  go_wp2_with fail
  refine (C1.out _ R2.out R3.out).mono ?_
  rintro e w2 ⟨rfl,hb⟩
  clear R2
  clear R3
  replace X0 := Lib.hid (X0.out.later hb)
  replace X1 := Lib.hid (X1.out.later hb)
  replace Z := Lib.hid (Z.out.later hb)
  replace HB := Lib.hid (bthen HB.out hb)
  clear hb
  clear kX00 kX01 kX02 kX10 kX11 kX12 kZ0 kZ1 kZ2
  obtain ⟨kX00,kX01,kX02,-,-,-,-⟩ := X0.out
  obtain ⟨kX10,kX11,kX12,-,-,-,-⟩ := X1.out
  obtain ⟨kZ0,kZ1,kZ2,kZ3,kZ4,kZ5,kZ6⟩ := Z.out
  go_wp2_with fail
  first | rw [W1.out,W2.out] | rw [W3.out,W2.out]
  refine (toldR q E F _ b0 b1 f0 f1 HQ.out).mono ?_
  rintro e w3 ⟨ar,nr,cr,br,mr,dr,rfl,h2,h3,hr,hr2,hb⟩
  replace X0 := Lib.hid (X0.out.later hb)
  replace X1 := Lib.hid (X1.out.later hb)
  replace Z := Lib.hid (Z.out.later hb)
  replace HB := Lib.hid (bthen HB.out hb)
  clear hb
  clear kX00 kX01 kX02 kX10 kX11 kX12 kZ0 kZ1 kZ2 kZ3 kZ4 kZ5 kZ6
  have RA := Lib.hid hr;clear hr
  have RB := Lib.hid hr2;clear hr2
  obtain ⟨kX00,kX01,kX02,-,-,-,-⟩ := X0.out
  obtain ⟨kX10,kX11,kX12,-,-,-,-⟩ := X1.out
  obtain ⟨kZ0,kZ1,kZ2,kZ3,kZ4,kZ5,kZ6⟩ := Z.out
  all_goals
    go_wp2
    exact bodyPost_ret (v := .agg #[.bool (decide (q.num < 0)),.slice ar nr cr,.slice br mr dr]) (by simp [results,Tryz.results101,go_sem, *]) rfl
      ⟨ar,nr,cr,br,mr,dr,rfl,h2,h3,RA.out.put3 Z.out _ _ _,RB.out.put3 Z.out _ _ _,below_put3 HB.out (by omega) _ _ _⟩
set_option maxHeartbeats 16000000 in
theorem raddR_nn (k1 j1 k2 j2 K J : Nat) (q p1 p2 : Rat) {s t : Bool} {a b a' b' : Option Addr} {n c m d n' c' m' d' : Nat} {xs ys us vs : List Nat} {w : World} (h0 : Row w a n c xs) (h1 : Row w b m d ys) (h2 : Row w a' n' c' us) (h3 : Row w b' m' d' vs) (hp : mkRat (sv s (val xs)) (val ys) = p1) (hq : mkRat (sv t (val us)) (val vs) = p2) (hc0 : ∀ W,Row W a n c xs→Row W b m d ys→Calls Tryz.prog 58 #[.agg #[.bool s,.slice a n c,.slice b m d]] W (QuickNo W)) (hc1 : ∀ W,Row W a' n' c' us→Row W b' m' d' vs→Calls Tryz.prog 58 #[.agg #[.bool t,.slice a' n' c',.slice b' m' d']] W (QuickNo W)) (hn : n≤k1) (hm : m≤j1) (hn' : n'≤k2) (hm' : m'≤j2) (h1a : 2≤k1) (h1b : 2≤j1) (h2a : 2≤k2) (h2b : 2≤j2) (h1k : k1≤34) (h1j : j1≤34) (h2k : k2≤34) (h2j : j2≤34) (hK : k1 + j2 + 1≤K) (hK2 : k2 + j1 + 1≤K) (hJ : j1 + j2≤J) (hK9 : K≤70) (hJ9 : J≤70) (hr : p1 + p2 = q) :
    Calls Tryz.prog 101 #[.agg #[.bool s,.slice a n c,.slice b m d],.agg #[.bool t,.slice a' n' c',.slice b' m' d']] w (RatK K J q w) := by
  have HB := Lib.hid (below_three w (.cells #[.bool s,.slice a n c,.slice b m d] 27) (.cells #[.bool t,.slice a' n' c',.slice b' m' d'] 27) (.cells #[.bool false,.slice none 0 0,.slice none 0 0] 27))
  have X0 : Hid (Tri (((w.alloc (.cells #[.bool s,.slice a n c,.slice b m d] 27)).alloc (.cells #[.bool t,.slice a' n' c',.slice b' m' d'] 27)).alloc (.cells #[.bool false,.slice none 0 0,.slice none 0 0] 27)) (w.heap.size) (.bool s) (.slice a n c) (.slice b m d)) := (((tri_new _ (.bool s) (.slice a n c) (.slice b m d)).alloc _).alloc _)
  have X1 : Hid (Tri (((w.alloc (.cells #[.bool s,.slice a n c,.slice b m d] 27)).alloc (.cells #[.bool t,.slice a' n' c',.slice b' m' d'] 27)).alloc (.cells #[.bool false,.slice none 0 0,.slice none 0 0] 27)) (w.heap.size + 1) (.bool t) (.slice a' n' c') (.slice b' m' d')) := ((tri_newE (by simp)).alloc _)
  have Z : Hid (Tri (((w.alloc (.cells #[.bool s,.slice a n c,.slice b m d] 27)).alloc (.cells #[.bool t,.slice a' n' c',.slice b' m' d'] 27)).alloc (.cells #[.bool false,.slice none 0 0,.slice none 0 0] 27)) (w.heap.size + 2) (.bool false) (.slice none 0 0) (.slice none 0 0)) := (tri_newE (by simp;try omega))
  have R0 := Lib.hid (h0.later HB.out);clear h0
  have R1 := Lib.hid (h1.later HB.out);clear h1
  have R2 := Lib.hid (h2.later HB.out);clear h2
  have R3 := Lib.hid (h3.later HB.out);clear h3
  have C0 := Lib.hid hc0;clear hc0
  have C1 := Lib.hid hc1;clear hc1
  have HQ0 := Lib.hid hp;clear hp
  have HQ1 := Lib.hid hq;clear hq
  go_enter Tryz.func101,Tryz.ntmps101
  go_wp2_with fail
  refine (C0.out _ R0.out R1.out).mono ?_
  rintro e w1 ⟨rfl,hb⟩
  replace R0 := Lib.hid (R0.out.later hb)
  replace R1 := Lib.hid (R1.out.later hb)
  replace R2 := Lib.hid (R2.out.later hb)
  replace R3 := Lib.hid (R3.out.later hb)
  replace X0 := Lib.hid (X0.out.later hb)
  replace X1 := Lib.hid (X1.out.later hb)
  replace Z := Lib.hid (Z.out.later hb)
  replace HB := Lib.hid (bthen HB.out hb)
  clear hb
  obtain ⟨kX00,kX01,kX02,-,-,-,-⟩ := X0.out
  obtain ⟨kX10,kX11,kX12,-,-,-,-⟩ := X1.out
  obtain ⟨kZ0,kZ1,kZ2,-,-,-,-⟩ := Z.out
  go_wp2_with fail
  refine (C1.out _ R2.out R3.out).mono ?_
  rintro e w2 ⟨rfl,hb⟩
  replace R0 := Lib.hid (R0.out.later hb)
  replace R1 := Lib.hid (R1.out.later hb)
  replace R2 := Lib.hid (R2.out.later hb)
  replace R3 := Lib.hid (R3.out.later hb)
  replace X0 := Lib.hid (X0.out.later hb)
  replace X1 := Lib.hid (X1.out.later hb)
  replace Z := Lib.hid (Z.out.later hb)
  replace HB := Lib.hid (bthen HB.out hb)
  clear hb
  clear kX00 kX01 kX02 kX10 kX11 kX12 kZ0 kZ1 kZ2
  obtain ⟨kX00,kX01,kX02,kX03,kX04,kX05,kX06⟩ := X0.out
  obtain ⟨kX10,kX11,kX12,-,-,-,-⟩ := X1.out
  obtain ⟨kZ0,kZ1,kZ2,-,-,-,-⟩ := Z.out
  go_wp2_with fail
  refine (rnormR k1 j1 p1 R0.out R1.out HQ0.out hn hm (by omega) (by omega) (by omega) (by omega)).mono ?_
  rintro e w3 ⟨a1,n1,c1,b1,m1,d1,rfl,hn1,hm1,hr,hr2,hb⟩
  clear R0
  clear R1
  replace R2 := Lib.hid (R2.out.later hb)
  replace R3 := Lib.hid (R3.out.later hb)
  replace X0 := Lib.hid (X0.out.later hb)
  replace X1 := Lib.hid (X1.out.later hb)
  replace Z := Lib.hid (Z.out.later hb)
  replace HB := Lib.hid (bthen HB.out hb)
  clear hb
  clear kX00 kX01 kX02 kX03 kX04 kX05 kX06 kX10 kX11 kX12 kZ0 kZ1 kZ2
  have RN1 := Lib.hid hr;clear hr
  have RD1 := Lib.hid hr2;clear hr2
  obtain ⟨kX00,kX01,kX02,kX03,kX04,kX05,kX06⟩ := X0.out
  obtain ⟨kX10,kX11,kX12,kX13,kX14,kX15,kX16⟩ := X1.out
  obtain ⟨kZ0,kZ1,kZ2,-,-,-,-⟩ := Z.out
  have X0' := Lib.hid X0.out
  replace R2 := Lib.hid (R2.out.put3 X0'.out (.bool (decide (p1.num < 0))) (.slice a1 n1 c1) (.slice b1 m1 d1))
  replace R3 := Lib.hid (R3.out.put3 X0'.out (.bool (decide (p1.num < 0))) (.slice a1 n1 c1) (.slice b1 m1 d1))
  replace RN1 := Lib.hid (RN1.out.put3 X0'.out (.bool (decide (p1.num < 0))) (.slice a1 n1 c1) (.slice b1 m1 d1))
  replace RD1 := Lib.hid (RD1.out.put3 X0'.out (.bool (decide (p1.num < 0))) (.slice a1 n1 c1) (.slice b1 m1 d1))
  replace X0 := Lib.hid (X0.out.put (.bool (decide (p1.num < 0))) (.slice a1 n1 c1) (.slice b1 m1 d1))
  replace X1 := Lib.hid (X1.out.far (g' := w.heap.size) (by omega) (.bool (decide (p1.num < 0))) (.slice a1 n1 c1) (.slice b1 m1 d1))
  replace Z := Lib.hid (Z.out.far (g' := w.heap.size) (by omega) (.bool (decide (p1.num < 0))) (.slice a1 n1 c1) (.slice b1 m1 d1))
  replace HB := Lib.hid (below_put3 (g := w.heap.size) HB.out (by omega) (.bool (decide (p1.num < 0))) (.slice a1 n1 c1) (.slice b1 m1 d1))
  clear X0'
  go_wp2_with fail
  refine (rnormR k2 j2 p2 R2.out R3.out HQ1.out hn' hm' (by omega) (by omega) (by omega) (by omega)).mono ?_
  rintro e w4 ⟨a2,n2,c2,b2,m2,d2,rfl,hn2,hm2,hr,hr2,hb⟩
  clear R2
  clear R3
  replace RN1 := Lib.hid (RN1.out.later hb)
  replace RD1 := Lib.hid (RD1.out.later hb)
  replace X0 := Lib.hid (X0.out.later hb)
  replace X1 := Lib.hid (X1.out.later hb)
  replace Z := Lib.hid (Z.out.later hb)
  replace HB := Lib.hid (bthen HB.out hb)
  clear hb
  clear kX00 kX01 kX02 kX03 kX04 kX05 kX06 kX10 kX11 kX12 kX13 kX14 kX15 kX16 kZ0 kZ1 kZ2
  have RN2 := Lib.hid hr;clear hr
  have RD2 := Lib.hid hr2;clear hr2
  obtain ⟨kX00,kX01,kX02,-,-,-,-⟩ := X0.out
  obtain ⟨kX10,kX11,kX12,kX13,kX14,kX15,kX16⟩ := X1.out
  obtain ⟨kZ0,kZ1,kZ2,-,-,-,-⟩ := Z.out
  have X0' := Lib.hid X1.out
  replace RN1 := Lib.hid (RN1.out.put3 X0'.out (.bool (decide (p2.num < 0))) (.slice a2 n2 c2) (.slice b2 m2 d2))
  replace RD1 := Lib.hid (RD1.out.put3 X0'.out (.bool (decide (p2.num < 0))) (.slice a2 n2 c2) (.slice b2 m2 d2))
  replace RN2 := Lib.hid (RN2.out.put3 X0'.out (.bool (decide (p2.num < 0))) (.slice a2 n2 c2) (.slice b2 m2 d2))
  replace RD2 := Lib.hid (RD2.out.put3 X0'.out (.bool (decide (p2.num < 0))) (.slice a2 n2 c2) (.slice b2 m2 d2))
  replace X0 := Lib.hid (X0.out.far (g' := w.heap.size + 1) (by omega) (.bool (decide (p2.num < 0))) (.slice a2 n2 c2) (.slice b2 m2 d2))
  replace X1 := Lib.hid (X1.out.put (.bool (decide (p2.num < 0))) (.slice a2 n2 c2) (.slice b2 m2 d2))
  replace Z := Lib.hid (Z.out.far (g' := w.heap.size + 1) (by omega) (.bool (decide (p2.num < 0))) (.slice a2 n2 c2) (.slice b2 m2 d2))
  replace HB := Lib.hid (below_put3 (g := w.heap.size + 1) HB.out (by omega) (.bool (decide (p2.num < 0))) (.slice a2 n2 c2) (.slice b2 m2 d2))
  clear X0'
  have e1 : (limbs p1.num.natAbs).length≤k1 := by have := RN1.out.1;omega
  have e2 : (limbs p2.num.natAbs).length≤k2 := by have := RN2.out.1;omega
  have e3 : (limbs p1.den).length≤j1 := by have := RD1.out.1;omega
  have e4 : (limbs p2.den).length≤j2 := by have := RD2.out.1;omega
  obtain ⟨P,hP⟩ : ∃ P,p1.num * (p2.den : Int) = P := ⟨_,rfl⟩
  obtain ⟨Q,hQ⟩ : ∃ Q,p2.num * (p1.den : Int) = Q := ⟨_,rfl⟩
  obtain ⟨S,hS⟩ : ∃ S,P + Q = S := ⟨_,rfl⟩
  obtain ⟨D,hD⟩ : ∃ D,p1.den * p2.den = D := ⟨_,rfl⟩
  have hM : mkRat S D = q := by rw [←hS,←hP,←hQ,←hD,←Rat.mkRat_add_mkRat _ _ p1.den_nz p2.den_nz,Rat.mkRat_self,Rat.mkRat_self,hr]
  have LP := Lib.hid (lenZ_le (lenZ_mul e1 (show (limbs ((p2.den : Int)).natAbs).length≤j2 by rw [Int.natAbs_natCast];exact e4) hP) (show k1 + j2≤K - 1 by omega))
  have LQ := Lib.hid (lenZ_le (lenZ_mul e2 (show (limbs ((p1.den : Int)).natAbs).length≤j1 by rw [Int.natAbs_natCast];exact e3) hQ) (show k2 + j1≤K - 1 by omega))
  have LS := Lib.hid (lenZ_le (lenZ_add LP.out LQ.out hS) (show K - 1 + 1≤K by omega))
  have LD := Lib.hid (show (limbs D).length≤J by rw [←hD];exact Nat.le_trans (len_mul e3 e4) hJ)
  have V1 := Lib.hid (show sv false (val (limbs p1.den)) = (p1.den : Int) by rw [val_limbs];rfl)
  have V2 := Lib.hid (show sv false (val (limbs p2.den)) = (p2.den : Int) by rw [val_limbs];rfl)
  clear hr e1 e2 e3 e4
  have HP := Lib.hid hP;clear hP
  have HQ := Lib.hid hQ;clear hQ
  have HS := Lib.hid hS;clear hS
  have HD := Lib.hid hD;clear hD
  have HM := Lib.hid hM;clear hM
  go_wp2_with fail
  clear kX00 kX01 kX02 kX10 kX11 kX12 kX13 kX14 kX15 kX16 kZ0 kZ1 kZ2
  obtain ⟨W,hW⟩ : ∃ W,((((w4.setCell ⟨w.heap.size + 1,0,none⟩ (.bool (decide (p2.num < 0)))).setCell ⟨w.heap.size + 1,1,none⟩ (.slice a2 n2 c2)).setCell ⟨w.heap.size + 1,2,none⟩ (.slice b2 m2 d2))) = W := ⟨_,rfl⟩
  rw [hW] at RN1 RN2 RD1 RD2 X0 X1 Z HB ⊢
  have lW : w.heap.size + 2 < W.heap.size := Z.out.2.2.2.2.2.2
  clear hW
  obtain ⟨kX00,kX01,kX02,-,-,-,-⟩ := X0.out
  obtain ⟨kX10,kX11,kX12,-,-,-,-⟩ := X1.out
  go_upto_region 7 with fail
  go_cut [11] (fun s11 wx => ∃ (g : Nat) (an : Option Addr) (nn cn : Nat),s11 = .pointer (some ⟨g,0,none⟩)∧Hid (w.heap.size + 2 < g∧nn≤K∧Box wx g (.bool (decide (S < 0))) (.slice an nn cn)∧Row wx an nn cn (limbs S.natAbs)∧Tri wx w.heap.size (.bool (decide (p1.num < 0))) (.slice a1 n1 c1) (.slice b1 m1 d1)∧Tri wx (w.heap.size + 1) (.bool (decide (p2.num < 0))) (.slice a2 n2 c2) (.slice b2 m2 d2)∧Tri wx (w.heap.size + 2) (.bool false) (.slice none 0 0) (.slice none 0 0)∧Row wx b1 m1 d1 (limbs p1.den)∧Row wx b2 m2 d2 (limbs p2.den)∧Below w.heap.size w wx))
  case first =>
    go_region_held3 (fun w' => w'.cell? ⟨w.heap.size,0,none⟩ = some (.bool (decide (p1.num < 0)))∧w'.cell? ⟨w.heap.size,1,none⟩ = some (.slice a1 n1 c1)∧w'.cell? ⟨w.heap.size,2,none⟩ = some (.slice b1 m1 d1)∧w'.cell? ⟨w.heap.size + 1,0,none⟩ = some (.bool (decide (p2.num < 0)))∧w'.cell? ⟨w.heap.size + 1,1,none⟩ = some (.slice a2 n2 c2)∧w'.cell? ⟨w.heap.size + 1,2,none⟩ = some (.slice b2 m2 d2))
      (first | (refine ⟨?_, ?_, ?_, ?_, ?_, ?_⟩ <;> with_reducible assumption) | ((refine tri_cells2 ?_ ?_ <;> repeat' (first | with_reducible exact X0.out | with_reducible exact X1.out | with_reducible exact Z.out | with_reducible refine Tri.far2 ?_ ?_ _ _ | with_reducible refine Tri.alloc ?_ _ | with_reducible refine Tri.drew ?_ | omega | (simp;done)));done) | (go_keep;done))
      (first
          | (have mk := G4;clear mk
             go_at_call 138
             refine (raddI K S (RP.out.later (by first | exact Below.refl _ _ | exact (Below.refl _ _).drew | exact below_one _ _ | exact (below_one _ _).drew | exact below_two _ _ _ | exact (below_two _ _ _).drew)) (RQ.out.later (by first | exact Below.refl _ _ | exact (Below.refl _ _).drew | exact below_one _ _ | exact (below_one _ _).drew | exact below_two _ _ _ | exact (below_two _ _ _).drew)) (sv_limbs _) (sv_limbs _) (by omega) (by omega) HS.out LS.out (by omega)).mono ?_
             rintro e v5 ⟨an,nn,cn,rfl,hnn,hr,hb⟩
             have hbb : Below v4.heap.size v4 v5 := bthen (by first | exact Below.refl _ _ | exact (Below.refl _ _).drew | exact below_one _ _ | exact (below_one _ _).drew | exact below_two _ _ _ | exact (below_two _ _ _).drew) hb
             replace RN1 := Lib.hid (RN1.out.later hbb)
             replace RN2 := Lib.hid (RN2.out.later hbb)
             replace RD1 := Lib.hid (RD1.out.later hbb)
             replace RD2 := Lib.hid (RD2.out.later hbb)
             replace X0 := Lib.hid (X0.out.later hbb)
             replace X1 := Lib.hid (X1.out.later hbb)
             replace Z := Lib.hid (Z.out.later hbb)
             replace RP := Lib.hid (RP.out.later hbb)
             replace RQ := Lib.hid (RQ.out.later hbb)
             replace HB := Lib.hid (bthen HB.out hbb)
             (first | (replace Y0 := Lib.hid (Y0.out.later hbb);clear kY00 kY01 kY02 kY03 kY04;obtain ⟨kY00,kY01,kY02,kY03,kY04⟩ := Y0.out) | (have Y0 : Hid (Box v5 v4.heap.size (.bool false) (.slice none 0 0)) := (box_new v4 (.bool false) (.slice none 0 0)).later hb;obtain ⟨kY00,kY01,kY02,kY03,kY04⟩ := Y0.out) | skip)
             have l5 : v4.heap.size≤v5.heap.size := hbb.size
             have RS := Lib.hid hr;clear hr
             clear hb hbb
             clear kX00 kX01 kX02 kX10 kX11 kX12
             obtain ⟨kX00,kX01,kX02,-,-,-,-⟩ := X0.out
             obtain ⟨kX10,kX11,kX12,-,-,-,-⟩ := X1.out
             have G5 : Hid True := trivial)
          | (have mk := G3;clear mk
             go_at_call 139
             refine (rmulI (K - 1) Q (RN2.out.later (by first | exact Below.refl _ _ | exact (Below.refl _ _).drew | exact below_one _ _ | exact (below_one _ _).drew | exact below_two _ _ _ | exact (below_two _ _ _).drew)) (RD1.out.later (by first | exact Below.refl _ _ | exact (Below.refl _ _).drew | exact below_one _ _ | exact (below_one _ _).drew | exact below_two _ _ _ | exact (below_two _ _ _).drew)) (sv_limbs _) V1.out (by omega) (by omega) HQ.out LQ.out (by omega)).mono ?_
             rintro e v4 ⟨aq,nq,cq,rfl,hnq,hr,hb⟩
             have hbb : Below v3.heap.size v3 v4 := bthen (by first | exact Below.refl _ _ | exact (Below.refl _ _).drew | exact below_one _ _ | exact (below_one _ _).drew | exact below_two _ _ _ | exact (below_two _ _ _).drew) hb
             replace RN1 := Lib.hid (RN1.out.later hbb)
             replace RN2 := Lib.hid (RN2.out.later hbb)
             replace RD1 := Lib.hid (RD1.out.later hbb)
             replace RD2 := Lib.hid (RD2.out.later hbb)
             replace X0 := Lib.hid (X0.out.later hbb)
             replace X1 := Lib.hid (X1.out.later hbb)
             replace Z := Lib.hid (Z.out.later hbb)
             replace RP := Lib.hid (RP.out.later hbb)
             replace HB := Lib.hid (bthen HB.out hbb)
             (first | (replace Y0 := Lib.hid (Y0.out.later hbb);clear kY00 kY01 kY02 kY03 kY04;obtain ⟨kY00,kY01,kY02,kY03,kY04⟩ := Y0.out) | (have Y0 : Hid (Box v4 v3.heap.size (.bool false) (.slice none 0 0)) := (box_new v3 (.bool false) (.slice none 0 0)).later hb;obtain ⟨kY00,kY01,kY02,kY03,kY04⟩ := Y0.out) | skip)
             have l4 : v3.heap.size≤v4.heap.size := hbb.size
             have RQ := Lib.hid hr;clear hr
             clear hb hbb
             clear kX00 kX01 kX02 kX10 kX11 kX12
             obtain ⟨kX00,kX01,kX02,-,-,-,-⟩ := X0.out
             obtain ⟨kX10,kX11,kX12,-,-,-,-⟩ := X1.out
             have G4 : Hid True := trivial)
          | (have mk := G2;clear mk
             go_at_call 140
             refine (rden_any _ _ _ _ _ _ _ _).mono ?_
             rintro e v3 ⟨rfl,hb⟩
             have hbb : Below v2.heap.size v2 v3 := bthen (by first | exact Below.refl _ _ | exact (Below.refl _ _).drew | exact below_one _ _ | exact (below_one _ _).drew | exact below_two _ _ _ | exact (below_two _ _ _).drew) hb
             replace RN1 := Lib.hid (RN1.out.later hbb)
             replace RN2 := Lib.hid (RN2.out.later hbb)
             replace RD1 := Lib.hid (RD1.out.later hbb)
             replace RD2 := Lib.hid (RD2.out.later hbb)
             replace X0 := Lib.hid (X0.out.later hbb)
             replace X1 := Lib.hid (X1.out.later hbb)
             replace Z := Lib.hid (Z.out.later hbb)
             replace RP := Lib.hid (RP.out.later hbb)
             replace HB := Lib.hid (bthen HB.out hbb)
             (first | (replace Y0 := Lib.hid (Y0.out.later hbb);clear kY00 kY01 kY02 kY03 kY04;obtain ⟨kY00,kY01,kY02,kY03,kY04⟩ := Y0.out) | (have Y0 : Hid (Box v3 v2.heap.size (.bool false) (.slice none 0 0)) := (box_new v2 (.bool false) (.slice none 0 0)).later hb;obtain ⟨kY00,kY01,kY02,kY03,kY04⟩ := Y0.out) | skip)
             have l3 : v2.heap.size≤v3.heap.size := hbb.size
             clear hb hbb
             clear kX00 kX01 kX02 kX10 kX11 kX12
             obtain ⟨kX00,kX01,kX02,-,-,-,-⟩ := X0.out
             obtain ⟨kX10,kX11,kX12,-,-,-,-⟩ := X1.out
             have G3 : Hid True := trivial)
          | (have mk := G1;clear mk
             go_at_call 139
             refine (rmulI (K - 1) P (RN1.out.later (by first | exact Below.refl _ _ | exact (Below.refl _ _).drew | exact below_one _ _ | exact (below_one _ _).drew | exact below_two _ _ _ | exact (below_two _ _ _).drew)) (RD2.out.later (by first | exact Below.refl _ _ | exact (Below.refl _ _).drew | exact below_one _ _ | exact (below_one _ _).drew | exact below_two _ _ _ | exact (below_two _ _ _).drew)) (sv_limbs _) V2.out (by omega) (by omega) HP.out LP.out (by omega)).mono ?_
             rintro e v2 ⟨ap,np,cp,rfl,hnp,hr,hb⟩
             have hbb : Below v1.heap.size v1 v2 := bthen (by first | exact Below.refl _ _ | exact (Below.refl _ _).drew | exact below_one _ _ | exact (below_one _ _).drew | exact below_two _ _ _ | exact (below_two _ _ _).drew) hb
             replace RN1 := Lib.hid (RN1.out.later hbb)
             replace RN2 := Lib.hid (RN2.out.later hbb)
             replace RD1 := Lib.hid (RD1.out.later hbb)
             replace RD2 := Lib.hid (RD2.out.later hbb)
             replace X0 := Lib.hid (X0.out.later hbb)
             replace X1 := Lib.hid (X1.out.later hbb)
             replace Z := Lib.hid (Z.out.later hbb)
             replace HB := Lib.hid (bthen HB.out hbb)
             (first | (replace Y0 := Lib.hid (Y0.out.later hbb);clear kY00 kY01 kY02 kY03 kY04;obtain ⟨kY00,kY01,kY02,kY03,kY04⟩ := Y0.out) | (have Y0 : Hid (Box v2 v1.heap.size (.bool false) (.slice none 0 0)) := (box_new v1 (.bool false) (.slice none 0 0)).later hb;obtain ⟨kY00,kY01,kY02,kY03,kY04⟩ := Y0.out) | skip)
             have l2 : v1.heap.size≤v2.heap.size := hbb.size
             have RP := Lib.hid hr;clear hr
             clear hb hbb
             clear kX00 kX01 kX02 kX10 kX11 kX12
             obtain ⟨kX00,kX01,kX02,-,-,-,-⟩ := X0.out
             obtain ⟨kX10,kX11,kX12,-,-,-,-⟩ := X1.out
             have G2 : Hid True := trivial)
          | (skip
             go_at_call 140
             refine (rden_any _ _ _ _ _ _ _ _).mono ?_
             rintro e v1 ⟨rfl,hb⟩
             have hbb : Below W.heap.size W v1 := bthen (by first | exact Below.refl _ _ | exact (Below.refl _ _).drew | exact below_one _ _ | exact (below_one _ _).drew | exact below_two _ _ _ | exact (below_two _ _ _).drew) hb
             replace RN1 := Lib.hid (RN1.out.later hbb)
             replace RN2 := Lib.hid (RN2.out.later hbb)
             replace RD1 := Lib.hid (RD1.out.later hbb)
             replace RD2 := Lib.hid (RD2.out.later hbb)
             replace X0 := Lib.hid (X0.out.later hbb)
             replace X1 := Lib.hid (X1.out.later hbb)
             replace Z := Lib.hid (Z.out.later hbb)
             replace HB := Lib.hid (bthen HB.out hbb)
             (first | (replace Y0 := Lib.hid (Y0.out.later hbb);clear kY00 kY01 kY02 kY03 kY04;obtain ⟨kY00,kY01,kY02,kY03,kY04⟩ := Y0.out) | (have Y0 : Hid (Box v1 W.heap.size (.bool false) (.slice none 0 0)) := (box_new W (.bool false) (.slice none 0 0)).drew.later hb;obtain ⟨kY00,kY01,kY02,kY03,kY04⟩ := Y0.out) | skip)
             have l1 : W.heap.size≤v1.heap.size := hbb.size
             clear hb hbb
             clear kX00 kX01 kX02 kX10 kX11 kX12
             obtain ⟨kX00,kX01,kX02,-,-,-,-⟩ := X0.out
             obtain ⟨kX10,kX11,kX12,-,-,-,-⟩ := X1.out
             have G1 : Hid True := trivial))
    all_goals
      go_wp2_with fail
      go_meet
      refine ⟨_,an,nn,cn,rfl, ?_, ?_, ?_, ?_, ?_, ?_, ?_, ?_, ?_, ?_⟩
      · repeat' (first | omega | (simp;done) | (simp;omega))
      · repeat' (first | with_reducible exact hnn)
      · repeat' (first | with_reducible exact Y0.out | with_reducible refine box_newE ?_ | with_reducible refine Box.put (u := .bool false) (v := .slice none 0 0) ?_ _ _ | with_reducible refine Box.far ?_ ?_ _ _ | with_reducible refine Box.alloc ?_ _ | omega | (simp;done))
      · repeat' (first | with_reducible exact RS.out | with_reducible refine Row.alloc ?_ _ | with_reducible refine Row.putB (s := false) (b := none) (m := 0) (d := 0) ?_ ?_ _ _ | with_reducible exact Y0.out | with_reducible refine box_newE ?_ | with_reducible refine Box.put (u := .bool false) (v := .slice none 0 0) ?_ _ _ | with_reducible refine Box.far ?_ ?_ _ _ | with_reducible refine Box.alloc ?_ _ | omega | (simp;done))
      · repeat' (first | with_reducible exact X0.out | with_reducible exact X1.out | with_reducible exact Z.out | with_reducible refine Tri.far2 ?_ ?_ _ _ | with_reducible refine Tri.alloc ?_ _ | with_reducible refine Tri.drew ?_ | omega | (simp;done))
      · repeat' (first | with_reducible exact X0.out | with_reducible exact X1.out | with_reducible exact Z.out | with_reducible refine Tri.far2 ?_ ?_ _ _ | with_reducible refine Tri.alloc ?_ _ | with_reducible refine Tri.drew ?_ | omega | (simp;done))
      · repeat' (first | with_reducible exact X0.out | with_reducible exact X1.out | with_reducible exact Z.out | with_reducible refine Tri.far2 ?_ ?_ _ _ | with_reducible refine Tri.alloc ?_ _ | with_reducible refine Tri.drew ?_ | omega | (simp;done))
      · repeat' (first | with_reducible exact RD1.out | with_reducible refine Row.alloc ?_ _ | with_reducible refine Row.putB (s := false) (b := none) (m := 0) (d := 0) ?_ ?_ _ _ | with_reducible exact Y0.out | with_reducible refine box_newE ?_ | with_reducible refine Box.put (u := .bool false) (v := .slice none 0 0) ?_ _ _ | with_reducible refine Box.far ?_ ?_ _ _ | with_reducible refine Box.alloc ?_ _ | omega | (simp;done))
      · repeat' (first | with_reducible exact RD2.out | with_reducible refine Row.alloc ?_ _ | with_reducible refine Row.putB (s := false) (b := none) (m := 0) (d := 0) ?_ ?_ _ _ | with_reducible exact Y0.out | with_reducible refine box_newE ?_ | with_reducible refine Box.put (u := .bool false) (v := .slice none 0 0) ?_ _ _ | with_reducible refine Box.far ?_ ?_ _ _ | with_reducible refine Box.alloc ?_ _ | omega | (simp;done))
      · repeat' (first | with_reducible exact HB.out | with_reducible refine Below.alloc ?_ ?_ _ | with_reducible refine below_put ?_ ?_ _ _ | omega | (simp;omega))
  case rest =>
    obtain ⟨g,an,nn,cn,rfl,hm⟩ := hcut
    obtain ⟨lg,hnn,y,rs,x0,x1,z,r1,r2,hb⟩ := hm.out
    clear hm RN1 RN2 RD1 RD2 X0 X1 Z HB kX00 kX01 kX02 kX10 kX11 kX12
    have Y0 := Lib.hid y
    have RS := Lib.hid rs
    have X0 := Lib.hid x0
    have X1 := Lib.hid x1
    have Z := Lib.hid z
    have RD1 := Lib.hid r1
    have RD2 := Lib.hid r2
    have HB := Lib.hid hb
    clear y rs x0 x1 z r1 r2 hb
    go_wp2_with fail
    replace RS := Lib.hid RS.out.drew
    replace RD1 := Lib.hid RD1.out.drew
    replace RD2 := Lib.hid RD2.out.drew
    replace Y0 := Lib.hid Y0.out.drew
    replace X0 := Lib.hid X0.out.drew
    replace X1 := Lib.hid X1.out.drew
    replace Z := Lib.hid Z.out.drew
    replace HB := Lib.hid HB.out.drew
    obtain ⟨kY00,kY01,-,-,-⟩ := Y0.out
    obtain ⟨kX00,kX01,kX02,-,-,-,-⟩ := X0.out
    obtain ⟨kX10,kX11,kX12,-,-,-,-⟩ := X1.out
    obtain ⟨kZ0,kZ1,kZ2,kZ3,kZ4,kZ5,kZ6⟩ := Z.out
    go_region_held3 (fun w' => w'.cell? ⟨w.heap.size,0,none⟩ = some (.bool (decide (p1.num < 0)))∧w'.cell? ⟨w.heap.size,1,none⟩ = some (.slice a1 n1 c1)∧w'.cell? ⟨w.heap.size,2,none⟩ = some (.slice b1 m1 d1)∧w'.cell? ⟨w.heap.size + 1,0,none⟩ = some (.bool (decide (p2.num < 0)))∧w'.cell? ⟨w.heap.size + 1,1,none⟩ = some (.slice a2 n2 c2)∧w'.cell? ⟨w.heap.size + 1,2,none⟩ = some (.slice b2 m2 d2)∧w'.cell? ⟨g,0,none⟩ = some (.bool (decide (S < 0)))∧w'.cell? ⟨g,1,none⟩ = some (.slice an nn cn))
      (first | (refine ⟨?_, ?_, ?_, ?_, ?_, ?_, ?_, ?_⟩ <;> with_reducible assumption) | (go_keep;done) | (refine ⟨?_, ?_, ?_, ?_, ?_, ?_, ?_, ?_⟩ <;> (repeat rw [cell_other (by first | (simp;done) | (simp;omega))]) <;> with_reducible assumption))
      (first
        | (have mk := G1;clear mk
           go_at_call 57
           refine (rnormR K J q RS.out RD.out (by rw [sv_limbs,val_limbs];exact HM.out) hnn hnd hK9 (by omega) (by omega) hJ9).mono ?_
           rintro e v2 ⟨ar,nr,cr,br,mr,dr,rfl,h2,h3,hr,hr2,hb⟩
           replace RS := Lib.hid (RS.out.later hb)
           replace RD := Lib.hid (RD.out.later hb)
           replace Y0 := Lib.hid (Y0.out.later hb)
           replace X0 := Lib.hid (X0.out.later hb)
           replace X1 := Lib.hid (X1.out.later hb)
           replace Z := Lib.hid (Z.out.later hb)
           replace HB := Lib.hid (bthen HB.out hb);clear hb
           clear kY00 kY01 kX00 kX01 kX02 kX10 kX11 kX12 kZ0 kZ1 kZ2 kZ3 kZ4 kZ5 kZ6
           obtain ⟨kY00,kY01,-,-,-⟩ := Y0.out
           obtain ⟨kX00,kX01,kX02,-,-,-,-⟩ := X0.out
           obtain ⟨kX10,kX11,kX12,-,-,-,-⟩ := X1.out
           obtain ⟨kZ0,kZ1,kZ2,kZ3,kZ4,kZ5,kZ6⟩ := Z.out
           have RA := Lib.hid hr;clear hr
           have RB := Lib.hid hr2;clear hr2
           have G2 : Hid True := trivial)
        | (skip
           go_at_call 72
           refine (rmulN J D RD1.out RD2.out (val_limbs _) (val_limbs _) (by omega) (by omega) HD.out LD.out).mono ?_
           rintro e v1 ⟨ad,nd,cd,rfl,hnd,hr,hb⟩
           clear RD1
           clear RD2
           replace RS := Lib.hid (RS.out.later hb)
           replace Y0 := Lib.hid (Y0.out.later hb)
           replace X0 := Lib.hid (X0.out.later hb)
           replace X1 := Lib.hid (X1.out.later hb)
           replace Z := Lib.hid (Z.out.later hb)
           replace HB := Lib.hid (bthen HB.out hb);clear hb
           clear kY00 kY01 kX00 kX01 kX02 kX10 kX11 kX12 kZ0 kZ1 kZ2 kZ3 kZ4 kZ5 kZ6
           obtain ⟨kY00,kY01,-,-,-⟩ := Y0.out
           obtain ⟨kX00,kX01,kX02,-,-,-,-⟩ := X0.out
           obtain ⟨kX10,kX11,kX12,-,-,-,-⟩ := X1.out
           obtain ⟨kZ0,kZ1,kZ2,kZ3,kZ4,kZ5,kZ6⟩ := Z.out
           have RD := Lib.hid hr;clear hr
           have G1 : Hid True := trivial))
    all_goals
      go_wp2
      exact bodyPost_ret (v := .agg #[.bool (decide (q.num < 0)),.slice ar nr cr,.slice br mr dr]) (by simp [results,Tryz.results101,go_sem, *]) rfl
        ⟨ar,nr,cr,br,mr,dr,rfl,h2,h3,RA.out.put3 Z.out _ _ _,RB.out.put3 Z.out _ _ _,below_put3 HB.out (by omega) _ _ _⟩
set_option maxHeartbeats 16000000 in
theorem raddR_ny (k1 j1 k2 j2 K J : Nat) (q p1 p2 : Rat) {s t : Bool} {a b a' b' : Option Addr} {n c m d n' c' m' d' : Nat} {xs ys us vs : List Nat} {w : World} (h0 : Row w a n c xs) (h1 : Row w b m d ys) (h2 : Row w a' n' c' us) (h3 : Row w b' m' d' vs) (hp : mkRat (sv s (val xs)) (val ys) = p1) (hq : mkRat (sv t (val us)) (val vs) = p2) (hc0 : ∀ W,Row W a n c xs→Row W b m d ys→Calls Tryz.prog 58 #[.agg #[.bool s,.slice a n c,.slice b m d]] W (QuickNo W)) (U V : Int) (hc1 : ∀ W,Row W a' n' c' us→Row W b' m' d' vs→Calls Tryz.prog 58 #[.agg #[.bool t,.slice a' n' c',.slice b' m' d']] W (QuickYes U V W)) (hn : n≤k1) (hm : m≤j1) (hn' : n'≤k2) (hm' : m'≤j2) (h1a : 2≤k1) (h1b : 2≤j1) (h2a : 2≤k2) (h2b : 2≤j2) (h1k : k1≤34) (h1j : j1≤34) (h2k : k2≤34) (h2j : j2≤34) (hK : k1 + j2 + 1≤K) (hK2 : k2 + j1 + 1≤K) (hJ : j1 + j2≤J) (hK9 : K≤70) (hJ9 : J≤70) (hr : p1 + p2 = q) :
    Calls Tryz.prog 101 #[.agg #[.bool s,.slice a n c,.slice b m d],.agg #[.bool t,.slice a' n' c',.slice b' m' d']] w (RatK K J q w) := by
  have HB := Lib.hid (below_three w (.cells #[.bool s,.slice a n c,.slice b m d] 27) (.cells #[.bool t,.slice a' n' c',.slice b' m' d'] 27) (.cells #[.bool false,.slice none 0 0,.slice none 0 0] 27))
  have X0 : Hid (Tri (((w.alloc (.cells #[.bool s,.slice a n c,.slice b m d] 27)).alloc (.cells #[.bool t,.slice a' n' c',.slice b' m' d'] 27)).alloc (.cells #[.bool false,.slice none 0 0,.slice none 0 0] 27)) (w.heap.size) (.bool s) (.slice a n c) (.slice b m d)) := (((tri_new _ (.bool s) (.slice a n c) (.slice b m d)).alloc _).alloc _)
  have X1 : Hid (Tri (((w.alloc (.cells #[.bool s,.slice a n c,.slice b m d] 27)).alloc (.cells #[.bool t,.slice a' n' c',.slice b' m' d'] 27)).alloc (.cells #[.bool false,.slice none 0 0,.slice none 0 0] 27)) (w.heap.size + 1) (.bool t) (.slice a' n' c') (.slice b' m' d')) := ((tri_newE (by simp)).alloc _)
  have Z : Hid (Tri (((w.alloc (.cells #[.bool s,.slice a n c,.slice b m d] 27)).alloc (.cells #[.bool t,.slice a' n' c',.slice b' m' d'] 27)).alloc (.cells #[.bool false,.slice none 0 0,.slice none 0 0] 27)) (w.heap.size + 2) (.bool false) (.slice none 0 0) (.slice none 0 0)) := (tri_newE (by simp;try omega))
  have R0 := Lib.hid (h0.later HB.out);clear h0
  have R1 := Lib.hid (h1.later HB.out);clear h1
  have R2 := Lib.hid (h2.later HB.out);clear h2
  have R3 := Lib.hid (h3.later HB.out);clear h3
  have C0 := Lib.hid hc0;clear hc0
  have C1 := Lib.hid hc1;clear hc1
  have HQ0 := Lib.hid hp;clear hp
  have HQ1 := Lib.hid hq;clear hq
  go_enter Tryz.func101,Tryz.ntmps101
  go_wp2_with fail
  refine (C0.out _ R0.out R1.out).mono ?_
  rintro e w1 ⟨rfl,hb⟩
  replace R0 := Lib.hid (R0.out.later hb)
  replace R1 := Lib.hid (R1.out.later hb)
  replace R2 := Lib.hid (R2.out.later hb)
  replace R3 := Lib.hid (R3.out.later hb)
  replace X0 := Lib.hid (X0.out.later hb)
  replace X1 := Lib.hid (X1.out.later hb)
  replace Z := Lib.hid (Z.out.later hb)
  replace HB := Lib.hid (bthen HB.out hb)
  clear hb
  obtain ⟨kX00,kX01,kX02,-,-,-,-⟩ := X0.out
  obtain ⟨kX10,kX11,kX12,-,-,-,-⟩ := X1.out
  obtain ⟨kZ0,kZ1,kZ2,-,-,-,-⟩ := Z.out
  go_wp2_with fail
  refine (C1.out _ R2.out R3.out).mono ?_
  rintro e w2 ⟨rfl,hb⟩
  replace R0 := Lib.hid (R0.out.later hb)
  replace R1 := Lib.hid (R1.out.later hb)
  replace R2 := Lib.hid (R2.out.later hb)
  replace R3 := Lib.hid (R3.out.later hb)
  replace X0 := Lib.hid (X0.out.later hb)
  replace X1 := Lib.hid (X1.out.later hb)
  replace Z := Lib.hid (Z.out.later hb)
  replace HB := Lib.hid (bthen HB.out hb)
  clear hb
  clear kX00 kX01 kX02 kX10 kX11 kX12 kZ0 kZ1 kZ2
  obtain ⟨kX00,kX01,kX02,kX03,kX04,kX05,kX06⟩ := X0.out
  obtain ⟨kX10,kX11,kX12,-,-,-,-⟩ := X1.out
  obtain ⟨kZ0,kZ1,kZ2,-,-,-,-⟩ := Z.out
  go_wp2_with fail
  refine (rnormR k1 j1 p1 R0.out R1.out HQ0.out hn hm (by omega) (by omega) (by omega) (by omega)).mono ?_
  rintro e w3 ⟨a1,n1,c1,b1,m1,d1,rfl,hn1,hm1,hr,hr2,hb⟩
  clear R0
  clear R1
  replace R2 := Lib.hid (R2.out.later hb)
  replace R3 := Lib.hid (R3.out.later hb)
  replace X0 := Lib.hid (X0.out.later hb)
  replace X1 := Lib.hid (X1.out.later hb)
  replace Z := Lib.hid (Z.out.later hb)
  replace HB := Lib.hid (bthen HB.out hb)
  clear hb
  clear kX00 kX01 kX02 kX03 kX04 kX05 kX06 kX10 kX11 kX12 kZ0 kZ1 kZ2
  have RN1 := Lib.hid hr;clear hr
  have RD1 := Lib.hid hr2;clear hr2
  obtain ⟨kX00,kX01,kX02,kX03,kX04,kX05,kX06⟩ := X0.out
  obtain ⟨kX10,kX11,kX12,kX13,kX14,kX15,kX16⟩ := X1.out
  obtain ⟨kZ0,kZ1,kZ2,-,-,-,-⟩ := Z.out
  have X0' := Lib.hid X0.out
  replace R2 := Lib.hid (R2.out.put3 X0'.out (.bool (decide (p1.num < 0))) (.slice a1 n1 c1) (.slice b1 m1 d1))
  replace R3 := Lib.hid (R3.out.put3 X0'.out (.bool (decide (p1.num < 0))) (.slice a1 n1 c1) (.slice b1 m1 d1))
  replace RN1 := Lib.hid (RN1.out.put3 X0'.out (.bool (decide (p1.num < 0))) (.slice a1 n1 c1) (.slice b1 m1 d1))
  replace RD1 := Lib.hid (RD1.out.put3 X0'.out (.bool (decide (p1.num < 0))) (.slice a1 n1 c1) (.slice b1 m1 d1))
  replace X0 := Lib.hid (X0.out.put (.bool (decide (p1.num < 0))) (.slice a1 n1 c1) (.slice b1 m1 d1))
  replace X1 := Lib.hid (X1.out.far (g' := w.heap.size) (by omega) (.bool (decide (p1.num < 0))) (.slice a1 n1 c1) (.slice b1 m1 d1))
  replace Z := Lib.hid (Z.out.far (g' := w.heap.size) (by omega) (.bool (decide (p1.num < 0))) (.slice a1 n1 c1) (.slice b1 m1 d1))
  replace HB := Lib.hid (below_put3 (g := w.heap.size) HB.out (by omega) (.bool (decide (p1.num < 0))) (.slice a1 n1 c1) (.slice b1 m1 d1))
  clear X0'
  go_wp2_with fail
  refine (rnormR k2 j2 p2 R2.out R3.out HQ1.out hn' hm' (by omega) (by omega) (by omega) (by omega)).mono ?_
  rintro e w4 ⟨a2,n2,c2,b2,m2,d2,rfl,hn2,hm2,hr,hr2,hb⟩
  clear R2
  clear R3
  replace RN1 := Lib.hid (RN1.out.later hb)
  replace RD1 := Lib.hid (RD1.out.later hb)
  replace X0 := Lib.hid (X0.out.later hb)
  replace X1 := Lib.hid (X1.out.later hb)
  replace Z := Lib.hid (Z.out.later hb)
  replace HB := Lib.hid (bthen HB.out hb)
  clear hb
  clear kX00 kX01 kX02 kX03 kX04 kX05 kX06 kX10 kX11 kX12 kX13 kX14 kX15 kX16 kZ0 kZ1 kZ2
  have RN2 := Lib.hid hr;clear hr
  have RD2 := Lib.hid hr2;clear hr2
  obtain ⟨kX00,kX01,kX02,-,-,-,-⟩ := X0.out
  obtain ⟨kX10,kX11,kX12,kX13,kX14,kX15,kX16⟩ := X1.out
  obtain ⟨kZ0,kZ1,kZ2,-,-,-,-⟩ := Z.out
  have X0' := Lib.hid X1.out
  replace RN1 := Lib.hid (RN1.out.put3 X0'.out (.bool (decide (p2.num < 0))) (.slice a2 n2 c2) (.slice b2 m2 d2))
  replace RD1 := Lib.hid (RD1.out.put3 X0'.out (.bool (decide (p2.num < 0))) (.slice a2 n2 c2) (.slice b2 m2 d2))
  replace RN2 := Lib.hid (RN2.out.put3 X0'.out (.bool (decide (p2.num < 0))) (.slice a2 n2 c2) (.slice b2 m2 d2))
  replace RD2 := Lib.hid (RD2.out.put3 X0'.out (.bool (decide (p2.num < 0))) (.slice a2 n2 c2) (.slice b2 m2 d2))
  replace X0 := Lib.hid (X0.out.far (g' := w.heap.size + 1) (by omega) (.bool (decide (p2.num < 0))) (.slice a2 n2 c2) (.slice b2 m2 d2))
  replace X1 := Lib.hid (X1.out.put (.bool (decide (p2.num < 0))) (.slice a2 n2 c2) (.slice b2 m2 d2))
  replace Z := Lib.hid (Z.out.far (g' := w.heap.size + 1) (by omega) (.bool (decide (p2.num < 0))) (.slice a2 n2 c2) (.slice b2 m2 d2))
  replace HB := Lib.hid (below_put3 (g := w.heap.size + 1) HB.out (by omega) (.bool (decide (p2.num < 0))) (.slice a2 n2 c2) (.slice b2 m2 d2))
  clear X0'
  have e1 : (limbs p1.num.natAbs).length≤k1 := by have := RN1.out.1;omega
  have e2 : (limbs p2.num.natAbs).length≤k2 := by have := RN2.out.1;omega
  have e3 : (limbs p1.den).length≤j1 := by have := RD1.out.1;omega
  have e4 : (limbs p2.den).length≤j2 := by have := RD2.out.1;omega
  obtain ⟨P,hP⟩ : ∃ P,p1.num * (p2.den : Int) = P := ⟨_,rfl⟩
  obtain ⟨Q,hQ⟩ : ∃ Q,p2.num * (p1.den : Int) = Q := ⟨_,rfl⟩
  obtain ⟨S,hS⟩ : ∃ S,P + Q = S := ⟨_,rfl⟩
  obtain ⟨D,hD⟩ : ∃ D,p1.den * p2.den = D := ⟨_,rfl⟩
  have hM : mkRat S D = q := by rw [←hS,←hP,←hQ,←hD,←Rat.mkRat_add_mkRat _ _ p1.den_nz p2.den_nz,Rat.mkRat_self,Rat.mkRat_self,hr]
  have LP := Lib.hid (lenZ_le (lenZ_mul e1 (show (limbs ((p2.den : Int)).natAbs).length≤j2 by rw [Int.natAbs_natCast];exact e4) hP) (show k1 + j2≤K - 1 by omega))
  have LQ := Lib.hid (lenZ_le (lenZ_mul e2 (show (limbs ((p1.den : Int)).natAbs).length≤j1 by rw [Int.natAbs_natCast];exact e3) hQ) (show k2 + j1≤K - 1 by omega))
  have LS := Lib.hid (lenZ_le (lenZ_add LP.out LQ.out hS) (show K - 1 + 1≤K by omega))
  have LD := Lib.hid (show (limbs D).length≤J by rw [←hD];exact Nat.le_trans (len_mul e3 e4) hJ)
  have V1 := Lib.hid (show sv false (val (limbs p1.den)) = (p1.den : Int) by rw [val_limbs];rfl)
  have V2 := Lib.hid (show sv false (val (limbs p2.den)) = (p2.den : Int) by rw [val_limbs];rfl)
  clear hr e1 e2 e3 e4
  have HP := Lib.hid hP;clear hP
  have HQ := Lib.hid hQ;clear hQ
  have HS := Lib.hid hS;clear hS
  have HD := Lib.hid hD;clear hD
  have HM := Lib.hid hM;clear hM
  go_wp2_with fail
  clear kX00 kX01 kX02 kX10 kX11 kX12 kX13 kX14 kX15 kX16 kZ0 kZ1 kZ2
  obtain ⟨W,hW⟩ : ∃ W,((((w4.setCell ⟨w.heap.size + 1,0,none⟩ (.bool (decide (p2.num < 0)))).setCell ⟨w.heap.size + 1,1,none⟩ (.slice a2 n2 c2)).setCell ⟨w.heap.size + 1,2,none⟩ (.slice b2 m2 d2))) = W := ⟨_,rfl⟩
  rw [hW] at RN1 RN2 RD1 RD2 X0 X1 Z HB ⊢
  have lW : w.heap.size + 2 < W.heap.size := Z.out.2.2.2.2.2.2
  clear hW
  obtain ⟨kX00,kX01,kX02,-,-,-,-⟩ := X0.out
  obtain ⟨kX10,kX11,kX12,-,-,-,-⟩ := X1.out
  go_upto_region 7 with fail
  go_cut [11] (fun s11 wx => ∃ (g : Nat) (an : Option Addr) (nn cn : Nat),s11 = .pointer (some ⟨g,0,none⟩)∧Hid (w.heap.size + 2 < g∧nn≤K∧Box wx g (.bool (decide (S < 0))) (.slice an nn cn)∧Row wx an nn cn (limbs S.natAbs)∧Tri wx w.heap.size (.bool (decide (p1.num < 0))) (.slice a1 n1 c1) (.slice b1 m1 d1)∧Tri wx (w.heap.size + 1) (.bool (decide (p2.num < 0))) (.slice a2 n2 c2) (.slice b2 m2 d2)∧Tri wx (w.heap.size + 2) (.bool false) (.slice none 0 0) (.slice none 0 0)∧Row wx b1 m1 d1 (limbs p1.den)∧Row wx b2 m2 d2 (limbs p2.den)∧Below w.heap.size w wx))
  case first =>
    go_region_held3 (fun w' => w'.cell? ⟨w.heap.size,0,none⟩ = some (.bool (decide (p1.num < 0)))∧w'.cell? ⟨w.heap.size,1,none⟩ = some (.slice a1 n1 c1)∧w'.cell? ⟨w.heap.size,2,none⟩ = some (.slice b1 m1 d1)∧w'.cell? ⟨w.heap.size + 1,0,none⟩ = some (.bool (decide (p2.num < 0)))∧w'.cell? ⟨w.heap.size + 1,1,none⟩ = some (.slice a2 n2 c2)∧w'.cell? ⟨w.heap.size + 1,2,none⟩ = some (.slice b2 m2 d2))
      (first | (refine ⟨?_, ?_, ?_, ?_, ?_, ?_⟩ <;> with_reducible assumption) | ((refine tri_cells2 ?_ ?_ <;> repeat' (first | with_reducible exact X0.out | with_reducible exact X1.out | with_reducible exact Z.out | with_reducible refine Tri.far2 ?_ ?_ _ _ | with_reducible refine Tri.alloc ?_ _ | with_reducible refine Tri.drew ?_ | omega | (simp;done)));done) | (go_keep;done))
      (first
          | (have mk := G4;clear mk
             go_at_call 138
             refine (raddI K S (RP.out.later (by first | exact Below.refl _ _ | exact (Below.refl _ _).drew | exact below_one _ _ | exact (below_one _ _).drew | exact below_two _ _ _ | exact (below_two _ _ _).drew)) (RQ.out.later (by first | exact Below.refl _ _ | exact (Below.refl _ _).drew | exact below_one _ _ | exact (below_one _ _).drew | exact below_two _ _ _ | exact (below_two _ _ _).drew)) (sv_limbs _) (sv_limbs _) (by omega) (by omega) HS.out LS.out (by omega)).mono ?_
             rintro e v5 ⟨an,nn,cn,rfl,hnn,hr,hb⟩
             have hbb : Below v4.heap.size v4 v5 := bthen (by first | exact Below.refl _ _ | exact (Below.refl _ _).drew | exact below_one _ _ | exact (below_one _ _).drew | exact below_two _ _ _ | exact (below_two _ _ _).drew) hb
             replace RN1 := Lib.hid (RN1.out.later hbb)
             replace RN2 := Lib.hid (RN2.out.later hbb)
             replace RD1 := Lib.hid (RD1.out.later hbb)
             replace RD2 := Lib.hid (RD2.out.later hbb)
             replace X0 := Lib.hid (X0.out.later hbb)
             replace X1 := Lib.hid (X1.out.later hbb)
             replace Z := Lib.hid (Z.out.later hbb)
             replace RP := Lib.hid (RP.out.later hbb)
             replace RQ := Lib.hid (RQ.out.later hbb)
             replace HB := Lib.hid (bthen HB.out hbb)
             (first | (replace Y0 := Lib.hid (Y0.out.later hbb);clear kY00 kY01 kY02 kY03 kY04;obtain ⟨kY00,kY01,kY02,kY03,kY04⟩ := Y0.out) | (have Y0 : Hid (Box v5 v4.heap.size (.bool false) (.slice none 0 0)) := (box_new v4 (.bool false) (.slice none 0 0)).later hb;obtain ⟨kY00,kY01,kY02,kY03,kY04⟩ := Y0.out) | skip)
             have l5 : v4.heap.size≤v5.heap.size := hbb.size
             have RS := Lib.hid hr;clear hr
             clear hb hbb
             clear kX00 kX01 kX02 kX10 kX11 kX12
             obtain ⟨kX00,kX01,kX02,-,-,-,-⟩ := X0.out
             obtain ⟨kX10,kX11,kX12,-,-,-,-⟩ := X1.out
             have G5 : Hid True := trivial)
          | (have mk := G3;clear mk
             go_at_call 139
             refine (rmulI (K - 1) Q (RN2.out.later (by first | exact Below.refl _ _ | exact (Below.refl _ _).drew | exact below_one _ _ | exact (below_one _ _).drew | exact below_two _ _ _ | exact (below_two _ _ _).drew)) (RD1.out.later (by first | exact Below.refl _ _ | exact (Below.refl _ _).drew | exact below_one _ _ | exact (below_one _ _).drew | exact below_two _ _ _ | exact (below_two _ _ _).drew)) (sv_limbs _) V1.out (by omega) (by omega) HQ.out LQ.out (by omega)).mono ?_
             rintro e v4 ⟨aq,nq,cq,rfl,hnq,hr,hb⟩
             have hbb : Below v3.heap.size v3 v4 := bthen (by first | exact Below.refl _ _ | exact (Below.refl _ _).drew | exact below_one _ _ | exact (below_one _ _).drew | exact below_two _ _ _ | exact (below_two _ _ _).drew) hb
             replace RN1 := Lib.hid (RN1.out.later hbb)
             replace RN2 := Lib.hid (RN2.out.later hbb)
             replace RD1 := Lib.hid (RD1.out.later hbb)
             replace RD2 := Lib.hid (RD2.out.later hbb)
             replace X0 := Lib.hid (X0.out.later hbb)
             replace X1 := Lib.hid (X1.out.later hbb)
             replace Z := Lib.hid (Z.out.later hbb)
             replace RP := Lib.hid (RP.out.later hbb)
             replace HB := Lib.hid (bthen HB.out hbb)
             (first | (replace Y0 := Lib.hid (Y0.out.later hbb);clear kY00 kY01 kY02 kY03 kY04;obtain ⟨kY00,kY01,kY02,kY03,kY04⟩ := Y0.out) | (have Y0 : Hid (Box v4 v3.heap.size (.bool false) (.slice none 0 0)) := (box_new v3 (.bool false) (.slice none 0 0)).later hb;obtain ⟨kY00,kY01,kY02,kY03,kY04⟩ := Y0.out) | skip)
             have l4 : v3.heap.size≤v4.heap.size := hbb.size
             have RQ := Lib.hid hr;clear hr
             clear hb hbb
             clear kX00 kX01 kX02 kX10 kX11 kX12
             obtain ⟨kX00,kX01,kX02,-,-,-,-⟩ := X0.out
             obtain ⟨kX10,kX11,kX12,-,-,-,-⟩ := X1.out
             have G4 : Hid True := trivial)
          | (have mk := G2;clear mk
             go_at_call 140
             refine (rden_any _ _ _ _ _ _ _ _).mono ?_
             rintro e v3 ⟨rfl,hb⟩
             have hbb : Below v2.heap.size v2 v3 := bthen (by first | exact Below.refl _ _ | exact (Below.refl _ _).drew | exact below_one _ _ | exact (below_one _ _).drew | exact below_two _ _ _ | exact (below_two _ _ _).drew) hb
             replace RN1 := Lib.hid (RN1.out.later hbb)
             replace RN2 := Lib.hid (RN2.out.later hbb)
             replace RD1 := Lib.hid (RD1.out.later hbb)
             replace RD2 := Lib.hid (RD2.out.later hbb)
             replace X0 := Lib.hid (X0.out.later hbb)
             replace X1 := Lib.hid (X1.out.later hbb)
             replace Z := Lib.hid (Z.out.later hbb)
             replace RP := Lib.hid (RP.out.later hbb)
             replace HB := Lib.hid (bthen HB.out hbb)
             (first | (replace Y0 := Lib.hid (Y0.out.later hbb);clear kY00 kY01 kY02 kY03 kY04;obtain ⟨kY00,kY01,kY02,kY03,kY04⟩ := Y0.out) | (have Y0 : Hid (Box v3 v2.heap.size (.bool false) (.slice none 0 0)) := (box_new v2 (.bool false) (.slice none 0 0)).later hb;obtain ⟨kY00,kY01,kY02,kY03,kY04⟩ := Y0.out) | skip)
             have l3 : v2.heap.size≤v3.heap.size := hbb.size
             clear hb hbb
             clear kX00 kX01 kX02 kX10 kX11 kX12
             obtain ⟨kX00,kX01,kX02,-,-,-,-⟩ := X0.out
             obtain ⟨kX10,kX11,kX12,-,-,-,-⟩ := X1.out
             have G3 : Hid True := trivial)
          | (have mk := G1;clear mk
             go_at_call 139
             refine (rmulI (K - 1) P (RN1.out.later (by first | exact Below.refl _ _ | exact (Below.refl _ _).drew | exact below_one _ _ | exact (below_one _ _).drew | exact below_two _ _ _ | exact (below_two _ _ _).drew)) (RD2.out.later (by first | exact Below.refl _ _ | exact (Below.refl _ _).drew | exact below_one _ _ | exact (below_one _ _).drew | exact below_two _ _ _ | exact (below_two _ _ _).drew)) (sv_limbs _) V2.out (by omega) (by omega) HP.out LP.out (by omega)).mono ?_
             rintro e v2 ⟨ap,np,cp,rfl,hnp,hr,hb⟩
             have hbb : Below v1.heap.size v1 v2 := bthen (by first | exact Below.refl _ _ | exact (Below.refl _ _).drew | exact below_one _ _ | exact (below_one _ _).drew | exact below_two _ _ _ | exact (below_two _ _ _).drew) hb
             replace RN1 := Lib.hid (RN1.out.later hbb)
             replace RN2 := Lib.hid (RN2.out.later hbb)
             replace RD1 := Lib.hid (RD1.out.later hbb)
             replace RD2 := Lib.hid (RD2.out.later hbb)
             replace X0 := Lib.hid (X0.out.later hbb)
             replace X1 := Lib.hid (X1.out.later hbb)
             replace Z := Lib.hid (Z.out.later hbb)
             replace HB := Lib.hid (bthen HB.out hbb)
             (first | (replace Y0 := Lib.hid (Y0.out.later hbb);clear kY00 kY01 kY02 kY03 kY04;obtain ⟨kY00,kY01,kY02,kY03,kY04⟩ := Y0.out) | (have Y0 : Hid (Box v2 v1.heap.size (.bool false) (.slice none 0 0)) := (box_new v1 (.bool false) (.slice none 0 0)).later hb;obtain ⟨kY00,kY01,kY02,kY03,kY04⟩ := Y0.out) | skip)
             have l2 : v1.heap.size≤v2.heap.size := hbb.size
             have RP := Lib.hid hr;clear hr
             clear hb hbb
             clear kX00 kX01 kX02 kX10 kX11 kX12
             obtain ⟨kX00,kX01,kX02,-,-,-,-⟩ := X0.out
             obtain ⟨kX10,kX11,kX12,-,-,-,-⟩ := X1.out
             have G2 : Hid True := trivial)
          | (skip
             go_at_call 140
             refine (rden_any _ _ _ _ _ _ _ _).mono ?_
             rintro e v1 ⟨rfl,hb⟩
             have hbb : Below W.heap.size W v1 := bthen (by first | exact Below.refl _ _ | exact (Below.refl _ _).drew | exact below_one _ _ | exact (below_one _ _).drew | exact below_two _ _ _ | exact (below_two _ _ _).drew) hb
             replace RN1 := Lib.hid (RN1.out.later hbb)
             replace RN2 := Lib.hid (RN2.out.later hbb)
             replace RD1 := Lib.hid (RD1.out.later hbb)
             replace RD2 := Lib.hid (RD2.out.later hbb)
             replace X0 := Lib.hid (X0.out.later hbb)
             replace X1 := Lib.hid (X1.out.later hbb)
             replace Z := Lib.hid (Z.out.later hbb)
             replace HB := Lib.hid (bthen HB.out hbb)
             (first | (replace Y0 := Lib.hid (Y0.out.later hbb);clear kY00 kY01 kY02 kY03 kY04;obtain ⟨kY00,kY01,kY02,kY03,kY04⟩ := Y0.out) | (have Y0 : Hid (Box v1 W.heap.size (.bool false) (.slice none 0 0)) := (box_new W (.bool false) (.slice none 0 0)).drew.later hb;obtain ⟨kY00,kY01,kY02,kY03,kY04⟩ := Y0.out) | skip)
             have l1 : W.heap.size≤v1.heap.size := hbb.size
             clear hb hbb
             clear kX00 kX01 kX02 kX10 kX11 kX12
             obtain ⟨kX00,kX01,kX02,-,-,-,-⟩ := X0.out
             obtain ⟨kX10,kX11,kX12,-,-,-,-⟩ := X1.out
             have G1 : Hid True := trivial))
    all_goals
      go_wp2_with fail
      go_meet
      refine ⟨_,an,nn,cn,rfl, ?_, ?_, ?_, ?_, ?_, ?_, ?_, ?_, ?_, ?_⟩
      · repeat' (first | omega | (simp;done) | (simp;omega))
      · repeat' (first | with_reducible exact hnn)
      · repeat' (first | with_reducible exact Y0.out | with_reducible refine box_newE ?_ | with_reducible refine Box.put (u := .bool false) (v := .slice none 0 0) ?_ _ _ | with_reducible refine Box.far ?_ ?_ _ _ | with_reducible refine Box.alloc ?_ _ | omega | (simp;done))
      · repeat' (first | with_reducible exact RS.out | with_reducible refine Row.alloc ?_ _ | with_reducible refine Row.putB (s := false) (b := none) (m := 0) (d := 0) ?_ ?_ _ _ | with_reducible exact Y0.out | with_reducible refine box_newE ?_ | with_reducible refine Box.put (u := .bool false) (v := .slice none 0 0) ?_ _ _ | with_reducible refine Box.far ?_ ?_ _ _ | with_reducible refine Box.alloc ?_ _ | omega | (simp;done))
      · repeat' (first | with_reducible exact X0.out | with_reducible exact X1.out | with_reducible exact Z.out | with_reducible refine Tri.far2 ?_ ?_ _ _ | with_reducible refine Tri.alloc ?_ _ | with_reducible refine Tri.drew ?_ | omega | (simp;done))
      · repeat' (first | with_reducible exact X0.out | with_reducible exact X1.out | with_reducible exact Z.out | with_reducible refine Tri.far2 ?_ ?_ _ _ | with_reducible refine Tri.alloc ?_ _ | with_reducible refine Tri.drew ?_ | omega | (simp;done))
      · repeat' (first | with_reducible exact X0.out | with_reducible exact X1.out | with_reducible exact Z.out | with_reducible refine Tri.far2 ?_ ?_ _ _ | with_reducible refine Tri.alloc ?_ _ | with_reducible refine Tri.drew ?_ | omega | (simp;done))
      · repeat' (first | with_reducible exact RD1.out | with_reducible refine Row.alloc ?_ _ | with_reducible refine Row.putB (s := false) (b := none) (m := 0) (d := 0) ?_ ?_ _ _ | with_reducible exact Y0.out | with_reducible refine box_newE ?_ | with_reducible refine Box.put (u := .bool false) (v := .slice none 0 0) ?_ _ _ | with_reducible refine Box.far ?_ ?_ _ _ | with_reducible refine Box.alloc ?_ _ | omega | (simp;done))
      · repeat' (first | with_reducible exact RD2.out | with_reducible refine Row.alloc ?_ _ | with_reducible refine Row.putB (s := false) (b := none) (m := 0) (d := 0) ?_ ?_ _ _ | with_reducible exact Y0.out | with_reducible refine box_newE ?_ | with_reducible refine Box.put (u := .bool false) (v := .slice none 0 0) ?_ _ _ | with_reducible refine Box.far ?_ ?_ _ _ | with_reducible refine Box.alloc ?_ _ | omega | (simp;done))
      · repeat' (first | with_reducible exact HB.out | with_reducible refine Below.alloc ?_ ?_ _ | with_reducible refine below_put ?_ ?_ _ _ | omega | (simp;omega))
  case rest =>
    obtain ⟨g,an,nn,cn,rfl,hm⟩ := hcut
    obtain ⟨lg,hnn,y,rs,x0,x1,z,r1,r2,hb⟩ := hm.out
    clear hm RN1 RN2 RD1 RD2 X0 X1 Z HB kX00 kX01 kX02 kX10 kX11 kX12
    have Y0 := Lib.hid y
    have RS := Lib.hid rs
    have X0 := Lib.hid x0
    have X1 := Lib.hid x1
    have Z := Lib.hid z
    have RD1 := Lib.hid r1
    have RD2 := Lib.hid r2
    have HB := Lib.hid hb
    clear y rs x0 x1 z r1 r2 hb
    go_wp2_with fail
    replace RS := Lib.hid RS.out.drew
    replace RD1 := Lib.hid RD1.out.drew
    replace RD2 := Lib.hid RD2.out.drew
    replace Y0 := Lib.hid Y0.out.drew
    replace X0 := Lib.hid X0.out.drew
    replace X1 := Lib.hid X1.out.drew
    replace Z := Lib.hid Z.out.drew
    replace HB := Lib.hid HB.out.drew
    obtain ⟨kY00,kY01,-,-,-⟩ := Y0.out
    obtain ⟨kX00,kX01,kX02,-,-,-,-⟩ := X0.out
    obtain ⟨kX10,kX11,kX12,-,-,-,-⟩ := X1.out
    obtain ⟨kZ0,kZ1,kZ2,kZ3,kZ4,kZ5,kZ6⟩ := Z.out
    go_region_held3 (fun w' => w'.cell? ⟨w.heap.size,0,none⟩ = some (.bool (decide (p1.num < 0)))∧w'.cell? ⟨w.heap.size,1,none⟩ = some (.slice a1 n1 c1)∧w'.cell? ⟨w.heap.size,2,none⟩ = some (.slice b1 m1 d1)∧w'.cell? ⟨w.heap.size + 1,0,none⟩ = some (.bool (decide (p2.num < 0)))∧w'.cell? ⟨w.heap.size + 1,1,none⟩ = some (.slice a2 n2 c2)∧w'.cell? ⟨w.heap.size + 1,2,none⟩ = some (.slice b2 m2 d2)∧w'.cell? ⟨g,0,none⟩ = some (.bool (decide (S < 0)))∧w'.cell? ⟨g,1,none⟩ = some (.slice an nn cn))
      (first | (refine ⟨?_, ?_, ?_, ?_, ?_, ?_, ?_, ?_⟩ <;> with_reducible assumption) | (go_keep;done) | (refine ⟨?_, ?_, ?_, ?_, ?_, ?_, ?_, ?_⟩ <;> (repeat rw [cell_other (by first | (simp;done) | (simp;omega))]) <;> with_reducible assumption))
      (first
        | (have mk := G1;clear mk
           go_at_call 57
           refine (rnormR K J q RS.out RD.out (by rw [sv_limbs,val_limbs];exact HM.out) hnn hnd hK9 (by omega) (by omega) hJ9).mono ?_
           rintro e v2 ⟨ar,nr,cr,br,mr,dr,rfl,h2,h3,hr,hr2,hb⟩
           replace RS := Lib.hid (RS.out.later hb)
           replace RD := Lib.hid (RD.out.later hb)
           replace Y0 := Lib.hid (Y0.out.later hb)
           replace X0 := Lib.hid (X0.out.later hb)
           replace X1 := Lib.hid (X1.out.later hb)
           replace Z := Lib.hid (Z.out.later hb)
           replace HB := Lib.hid (bthen HB.out hb);clear hb
           clear kY00 kY01 kX00 kX01 kX02 kX10 kX11 kX12 kZ0 kZ1 kZ2 kZ3 kZ4 kZ5 kZ6
           obtain ⟨kY00,kY01,-,-,-⟩ := Y0.out
           obtain ⟨kX00,kX01,kX02,-,-,-,-⟩ := X0.out
           obtain ⟨kX10,kX11,kX12,-,-,-,-⟩ := X1.out
           obtain ⟨kZ0,kZ1,kZ2,kZ3,kZ4,kZ5,kZ6⟩ := Z.out
           have RA := Lib.hid hr;clear hr
           have RB := Lib.hid hr2;clear hr2
           have G2 : Hid True := trivial)
        | (skip
           go_at_call 72
           refine (rmulN J D RD1.out RD2.out (val_limbs _) (val_limbs _) (by omega) (by omega) HD.out LD.out).mono ?_
           rintro e v1 ⟨ad,nd,cd,rfl,hnd,hr,hb⟩
           clear RD1
           clear RD2
           replace RS := Lib.hid (RS.out.later hb)
           replace Y0 := Lib.hid (Y0.out.later hb)
           replace X0 := Lib.hid (X0.out.later hb)
           replace X1 := Lib.hid (X1.out.later hb)
           replace Z := Lib.hid (Z.out.later hb)
           replace HB := Lib.hid (bthen HB.out hb);clear hb
           clear kY00 kY01 kX00 kX01 kX02 kX10 kX11 kX12 kZ0 kZ1 kZ2 kZ3 kZ4 kZ5 kZ6
           obtain ⟨kY00,kY01,-,-,-⟩ := Y0.out
           obtain ⟨kX00,kX01,kX02,-,-,-,-⟩ := X0.out
           obtain ⟨kX10,kX11,kX12,-,-,-,-⟩ := X1.out
           obtain ⟨kZ0,kZ1,kZ2,kZ3,kZ4,kZ5,kZ6⟩ := Z.out
           have RD := Lib.hid hr;clear hr
           have G1 : Hid True := trivial))
    all_goals
      go_wp2
      exact bodyPost_ret (v := .agg #[.bool (decide (q.num < 0)),.slice ar nr cr,.slice br mr dr]) (by simp [results,Tryz.results101,go_sem, *]) rfl
        ⟨ar,nr,cr,br,mr,dr,rfl,h2,h3,RA.out.put3 Z.out _ _ _,RB.out.put3 Z.out _ _ _,below_put3 HB.out (by omega) _ _ _⟩
set_option maxHeartbeats 16000000 in
theorem raddR_yn (k1 j1 k2 j2 K J : Nat) (q p1 p2 : Rat) {s t : Bool} {a b a' b' : Option Addr} {n c m d n' c' m' d' : Nat} {xs ys us vs : List Nat} {w : World} (h0 : Row w a n c xs) (h1 : Row w b m d ys) (h2 : Row w a' n' c' us) (h3 : Row w b' m' d' vs) (hp : mkRat (sv s (val xs)) (val ys) = p1) (hq : mkRat (sv t (val us)) (val vs) = p2) (X Y : Int) (hc0 : ∀ W,Row W a n c xs→Row W b m d ys→Calls Tryz.prog 58 #[.agg #[.bool s,.slice a n c,.slice b m d]] W (QuickYes X Y W)) (hc1 : ∀ W,Row W a' n' c' us→Row W b' m' d' vs→Calls Tryz.prog 58 #[.agg #[.bool t,.slice a' n' c',.slice b' m' d']] W (QuickNo W)) (hn : n≤k1) (hm : m≤j1) (hn' : n'≤k2) (hm' : m'≤j2) (h1a : 2≤k1) (h1b : 2≤j1) (h2a : 2≤k2) (h2b : 2≤j2) (h1k : k1≤34) (h1j : j1≤34) (h2k : k2≤34) (h2j : j2≤34) (hK : k1 + j2 + 1≤K) (hK2 : k2 + j1 + 1≤K) (hJ : j1 + j2≤J) (hK9 : K≤70) (hJ9 : J≤70) (hr : p1 + p2 = q) :
    Calls Tryz.prog 101 #[.agg #[.bool s,.slice a n c,.slice b m d],.agg #[.bool t,.slice a' n' c',.slice b' m' d']] w (RatK K J q w) := by
  have HB := Lib.hid (below_three w (.cells #[.bool s,.slice a n c,.slice b m d] 27) (.cells #[.bool t,.slice a' n' c',.slice b' m' d'] 27) (.cells #[.bool false,.slice none 0 0,.slice none 0 0] 27))
  have X0 : Hid (Tri (((w.alloc (.cells #[.bool s,.slice a n c,.slice b m d] 27)).alloc (.cells #[.bool t,.slice a' n' c',.slice b' m' d'] 27)).alloc (.cells #[.bool false,.slice none 0 0,.slice none 0 0] 27)) (w.heap.size) (.bool s) (.slice a n c) (.slice b m d)) := (((tri_new _ (.bool s) (.slice a n c) (.slice b m d)).alloc _).alloc _)
  have X1 : Hid (Tri (((w.alloc (.cells #[.bool s,.slice a n c,.slice b m d] 27)).alloc (.cells #[.bool t,.slice a' n' c',.slice b' m' d'] 27)).alloc (.cells #[.bool false,.slice none 0 0,.slice none 0 0] 27)) (w.heap.size + 1) (.bool t) (.slice a' n' c') (.slice b' m' d')) := ((tri_newE (by simp)).alloc _)
  have Z : Hid (Tri (((w.alloc (.cells #[.bool s,.slice a n c,.slice b m d] 27)).alloc (.cells #[.bool t,.slice a' n' c',.slice b' m' d'] 27)).alloc (.cells #[.bool false,.slice none 0 0,.slice none 0 0] 27)) (w.heap.size + 2) (.bool false) (.slice none 0 0) (.slice none 0 0)) := (tri_newE (by simp;try omega))
  have R0 := Lib.hid (h0.later HB.out);clear h0
  have R1 := Lib.hid (h1.later HB.out);clear h1
  have R2 := Lib.hid (h2.later HB.out);clear h2
  have R3 := Lib.hid (h3.later HB.out);clear h3
  have C0 := Lib.hid hc0;clear hc0
  have C1 := Lib.hid hc1;clear hc1
  have HQ0 := Lib.hid hp;clear hp
  have HQ1 := Lib.hid hq;clear hq
  go_enter Tryz.func101,Tryz.ntmps101
  go_wp2_with fail
  refine (C0.out _ R0.out R1.out).mono ?_
  rintro e w1 ⟨rfl,hb⟩
  replace R0 := Lib.hid (R0.out.later hb)
  replace R1 := Lib.hid (R1.out.later hb)
  replace R2 := Lib.hid (R2.out.later hb)
  replace R3 := Lib.hid (R3.out.later hb)
  replace X0 := Lib.hid (X0.out.later hb)
  replace X1 := Lib.hid (X1.out.later hb)
  replace Z := Lib.hid (Z.out.later hb)
  replace HB := Lib.hid (bthen HB.out hb)
  clear hb
  obtain ⟨kX00,kX01,kX02,-,-,-,-⟩ := X0.out
  obtain ⟨kX10,kX11,kX12,-,-,-,-⟩ := X1.out
  obtain ⟨kZ0,kZ1,kZ2,-,-,-,-⟩ := Z.out
  go_wp2_with fail
  refine (C1.out _ R2.out R3.out).mono ?_
  rintro e w2 ⟨rfl,hb⟩
  replace R0 := Lib.hid (R0.out.later hb)
  replace R1 := Lib.hid (R1.out.later hb)
  replace R2 := Lib.hid (R2.out.later hb)
  replace R3 := Lib.hid (R3.out.later hb)
  replace X0 := Lib.hid (X0.out.later hb)
  replace X1 := Lib.hid (X1.out.later hb)
  replace Z := Lib.hid (Z.out.later hb)
  replace HB := Lib.hid (bthen HB.out hb)
  clear hb
  clear kX00 kX01 kX02 kX10 kX11 kX12 kZ0 kZ1 kZ2
  obtain ⟨kX00,kX01,kX02,kX03,kX04,kX05,kX06⟩ := X0.out
  obtain ⟨kX10,kX11,kX12,-,-,-,-⟩ := X1.out
  obtain ⟨kZ0,kZ1,kZ2,-,-,-,-⟩ := Z.out
  go_wp2_with fail
  refine (rnormR k1 j1 p1 R0.out R1.out HQ0.out hn hm (by omega) (by omega) (by omega) (by omega)).mono ?_
  rintro e w3 ⟨a1,n1,c1,b1,m1,d1,rfl,hn1,hm1,hr,hr2,hb⟩
  clear R0
  clear R1
  replace R2 := Lib.hid (R2.out.later hb)
  replace R3 := Lib.hid (R3.out.later hb)
  replace X0 := Lib.hid (X0.out.later hb)
  replace X1 := Lib.hid (X1.out.later hb)
  replace Z := Lib.hid (Z.out.later hb)
  replace HB := Lib.hid (bthen HB.out hb)
  clear hb
  clear kX00 kX01 kX02 kX03 kX04 kX05 kX06 kX10 kX11 kX12 kZ0 kZ1 kZ2
  have RN1 := Lib.hid hr;clear hr
  have RD1 := Lib.hid hr2;clear hr2
  obtain ⟨kX00,kX01,kX02,kX03,kX04,kX05,kX06⟩ := X0.out
  obtain ⟨kX10,kX11,kX12,kX13,kX14,kX15,kX16⟩ := X1.out
  obtain ⟨kZ0,kZ1,kZ2,-,-,-,-⟩ := Z.out
  have X0' := Lib.hid X0.out
  replace R2 := Lib.hid (R2.out.put3 X0'.out (.bool (decide (p1.num < 0))) (.slice a1 n1 c1) (.slice b1 m1 d1))
  replace R3 := Lib.hid (R3.out.put3 X0'.out (.bool (decide (p1.num < 0))) (.slice a1 n1 c1) (.slice b1 m1 d1))
  replace RN1 := Lib.hid (RN1.out.put3 X0'.out (.bool (decide (p1.num < 0))) (.slice a1 n1 c1) (.slice b1 m1 d1))
  replace RD1 := Lib.hid (RD1.out.put3 X0'.out (.bool (decide (p1.num < 0))) (.slice a1 n1 c1) (.slice b1 m1 d1))
  replace X0 := Lib.hid (X0.out.put (.bool (decide (p1.num < 0))) (.slice a1 n1 c1) (.slice b1 m1 d1))
  replace X1 := Lib.hid (X1.out.far (g' := w.heap.size) (by omega) (.bool (decide (p1.num < 0))) (.slice a1 n1 c1) (.slice b1 m1 d1))
  replace Z := Lib.hid (Z.out.far (g' := w.heap.size) (by omega) (.bool (decide (p1.num < 0))) (.slice a1 n1 c1) (.slice b1 m1 d1))
  replace HB := Lib.hid (below_put3 (g := w.heap.size) HB.out (by omega) (.bool (decide (p1.num < 0))) (.slice a1 n1 c1) (.slice b1 m1 d1))
  clear X0'
  go_wp2_with fail
  refine (rnormR k2 j2 p2 R2.out R3.out HQ1.out hn' hm' (by omega) (by omega) (by omega) (by omega)).mono ?_
  rintro e w4 ⟨a2,n2,c2,b2,m2,d2,rfl,hn2,hm2,hr,hr2,hb⟩
  clear R2
  clear R3
  replace RN1 := Lib.hid (RN1.out.later hb)
  replace RD1 := Lib.hid (RD1.out.later hb)
  replace X0 := Lib.hid (X0.out.later hb)
  replace X1 := Lib.hid (X1.out.later hb)
  replace Z := Lib.hid (Z.out.later hb)
  replace HB := Lib.hid (bthen HB.out hb)
  clear hb
  clear kX00 kX01 kX02 kX03 kX04 kX05 kX06 kX10 kX11 kX12 kX13 kX14 kX15 kX16 kZ0 kZ1 kZ2
  have RN2 := Lib.hid hr;clear hr
  have RD2 := Lib.hid hr2;clear hr2
  obtain ⟨kX00,kX01,kX02,-,-,-,-⟩ := X0.out
  obtain ⟨kX10,kX11,kX12,kX13,kX14,kX15,kX16⟩ := X1.out
  obtain ⟨kZ0,kZ1,kZ2,-,-,-,-⟩ := Z.out
  have X0' := Lib.hid X1.out
  replace RN1 := Lib.hid (RN1.out.put3 X0'.out (.bool (decide (p2.num < 0))) (.slice a2 n2 c2) (.slice b2 m2 d2))
  replace RD1 := Lib.hid (RD1.out.put3 X0'.out (.bool (decide (p2.num < 0))) (.slice a2 n2 c2) (.slice b2 m2 d2))
  replace RN2 := Lib.hid (RN2.out.put3 X0'.out (.bool (decide (p2.num < 0))) (.slice a2 n2 c2) (.slice b2 m2 d2))
  replace RD2 := Lib.hid (RD2.out.put3 X0'.out (.bool (decide (p2.num < 0))) (.slice a2 n2 c2) (.slice b2 m2 d2))
  replace X0 := Lib.hid (X0.out.far (g' := w.heap.size + 1) (by omega) (.bool (decide (p2.num < 0))) (.slice a2 n2 c2) (.slice b2 m2 d2))
  replace X1 := Lib.hid (X1.out.put (.bool (decide (p2.num < 0))) (.slice a2 n2 c2) (.slice b2 m2 d2))
  replace Z := Lib.hid (Z.out.far (g' := w.heap.size + 1) (by omega) (.bool (decide (p2.num < 0))) (.slice a2 n2 c2) (.slice b2 m2 d2))
  replace HB := Lib.hid (below_put3 (g := w.heap.size + 1) HB.out (by omega) (.bool (decide (p2.num < 0))) (.slice a2 n2 c2) (.slice b2 m2 d2))
  clear X0'
  have e1 : (limbs p1.num.natAbs).length≤k1 := by have := RN1.out.1;omega
  have e2 : (limbs p2.num.natAbs).length≤k2 := by have := RN2.out.1;omega
  have e3 : (limbs p1.den).length≤j1 := by have := RD1.out.1;omega
  have e4 : (limbs p2.den).length≤j2 := by have := RD2.out.1;omega
  obtain ⟨P,hP⟩ : ∃ P,p1.num * (p2.den : Int) = P := ⟨_,rfl⟩
  obtain ⟨Q,hQ⟩ : ∃ Q,p2.num * (p1.den : Int) = Q := ⟨_,rfl⟩
  obtain ⟨S,hS⟩ : ∃ S,P + Q = S := ⟨_,rfl⟩
  obtain ⟨D,hD⟩ : ∃ D,p1.den * p2.den = D := ⟨_,rfl⟩
  have hM : mkRat S D = q := by rw [←hS,←hP,←hQ,←hD,←Rat.mkRat_add_mkRat _ _ p1.den_nz p2.den_nz,Rat.mkRat_self,Rat.mkRat_self,hr]
  have LP := Lib.hid (lenZ_le (lenZ_mul e1 (show (limbs ((p2.den : Int)).natAbs).length≤j2 by rw [Int.natAbs_natCast];exact e4) hP) (show k1 + j2≤K - 1 by omega))
  have LQ := Lib.hid (lenZ_le (lenZ_mul e2 (show (limbs ((p1.den : Int)).natAbs).length≤j1 by rw [Int.natAbs_natCast];exact e3) hQ) (show k2 + j1≤K - 1 by omega))
  have LS := Lib.hid (lenZ_le (lenZ_add LP.out LQ.out hS) (show K - 1 + 1≤K by omega))
  have LD := Lib.hid (show (limbs D).length≤J by rw [←hD];exact Nat.le_trans (len_mul e3 e4) hJ)
  have V1 := Lib.hid (show sv false (val (limbs p1.den)) = (p1.den : Int) by rw [val_limbs];rfl)
  have V2 := Lib.hid (show sv false (val (limbs p2.den)) = (p2.den : Int) by rw [val_limbs];rfl)
  clear hr e1 e2 e3 e4
  have HP := Lib.hid hP;clear hP
  have HQ := Lib.hid hQ;clear hQ
  have HS := Lib.hid hS;clear hS
  have HD := Lib.hid hD;clear hD
  have HM := Lib.hid hM;clear hM
  go_wp2_with fail
  clear kX00 kX01 kX02 kX10 kX11 kX12 kX13 kX14 kX15 kX16 kZ0 kZ1 kZ2
  obtain ⟨W,hW⟩ : ∃ W,((((w4.setCell ⟨w.heap.size + 1,0,none⟩ (.bool (decide (p2.num < 0)))).setCell ⟨w.heap.size + 1,1,none⟩ (.slice a2 n2 c2)).setCell ⟨w.heap.size + 1,2,none⟩ (.slice b2 m2 d2))) = W := ⟨_,rfl⟩
  rw [hW] at RN1 RN2 RD1 RD2 X0 X1 Z HB ⊢
  have lW : w.heap.size + 2 < W.heap.size := Z.out.2.2.2.2.2.2
  clear hW
  obtain ⟨kX00,kX01,kX02,-,-,-,-⟩ := X0.out
  obtain ⟨kX10,kX11,kX12,-,-,-,-⟩ := X1.out
  go_upto_region 7 with fail
  go_cut [11] (fun s11 wx => ∃ (g : Nat) (an : Option Addr) (nn cn : Nat),s11 = .pointer (some ⟨g,0,none⟩)∧Hid (w.heap.size + 2 < g∧nn≤K∧Box wx g (.bool (decide (S < 0))) (.slice an nn cn)∧Row wx an nn cn (limbs S.natAbs)∧Tri wx w.heap.size (.bool (decide (p1.num < 0))) (.slice a1 n1 c1) (.slice b1 m1 d1)∧Tri wx (w.heap.size + 1) (.bool (decide (p2.num < 0))) (.slice a2 n2 c2) (.slice b2 m2 d2)∧Tri wx (w.heap.size + 2) (.bool false) (.slice none 0 0) (.slice none 0 0)∧Row wx b1 m1 d1 (limbs p1.den)∧Row wx b2 m2 d2 (limbs p2.den)∧Below w.heap.size w wx))
  case first =>
    go_region_held3 (fun w' => w'.cell? ⟨w.heap.size,0,none⟩ = some (.bool (decide (p1.num < 0)))∧w'.cell? ⟨w.heap.size,1,none⟩ = some (.slice a1 n1 c1)∧w'.cell? ⟨w.heap.size,2,none⟩ = some (.slice b1 m1 d1)∧w'.cell? ⟨w.heap.size + 1,0,none⟩ = some (.bool (decide (p2.num < 0)))∧w'.cell? ⟨w.heap.size + 1,1,none⟩ = some (.slice a2 n2 c2)∧w'.cell? ⟨w.heap.size + 1,2,none⟩ = some (.slice b2 m2 d2))
      (first | (refine ⟨?_, ?_, ?_, ?_, ?_, ?_⟩ <;> with_reducible assumption) | ((refine tri_cells2 ?_ ?_ <;> repeat' (first | with_reducible exact X0.out | with_reducible exact X1.out | with_reducible exact Z.out | with_reducible refine Tri.far2 ?_ ?_ _ _ | with_reducible refine Tri.alloc ?_ _ | with_reducible refine Tri.drew ?_ | omega | (simp;done)));done) | (go_keep;done))
      (first
          | (have mk := G4;clear mk
             go_at_call 138
             refine (raddI K S (RP.out.later (by first | exact Below.refl _ _ | exact (Below.refl _ _).drew | exact below_one _ _ | exact (below_one _ _).drew | exact below_two _ _ _ | exact (below_two _ _ _).drew)) (RQ.out.later (by first | exact Below.refl _ _ | exact (Below.refl _ _).drew | exact below_one _ _ | exact (below_one _ _).drew | exact below_two _ _ _ | exact (below_two _ _ _).drew)) (sv_limbs _) (sv_limbs _) (by omega) (by omega) HS.out LS.out (by omega)).mono ?_
             rintro e v5 ⟨an,nn,cn,rfl,hnn,hr,hb⟩
             have hbb : Below v4.heap.size v4 v5 := bthen (by first | exact Below.refl _ _ | exact (Below.refl _ _).drew | exact below_one _ _ | exact (below_one _ _).drew | exact below_two _ _ _ | exact (below_two _ _ _).drew) hb
             replace RN1 := Lib.hid (RN1.out.later hbb)
             replace RN2 := Lib.hid (RN2.out.later hbb)
             replace RD1 := Lib.hid (RD1.out.later hbb)
             replace RD2 := Lib.hid (RD2.out.later hbb)
             replace X0 := Lib.hid (X0.out.later hbb)
             replace X1 := Lib.hid (X1.out.later hbb)
             replace Z := Lib.hid (Z.out.later hbb)
             replace RP := Lib.hid (RP.out.later hbb)
             replace RQ := Lib.hid (RQ.out.later hbb)
             replace HB := Lib.hid (bthen HB.out hbb)
             (first | (replace Y0 := Lib.hid (Y0.out.later hbb);clear kY00 kY01 kY02 kY03 kY04;obtain ⟨kY00,kY01,kY02,kY03,kY04⟩ := Y0.out) | (have Y0 : Hid (Box v5 v4.heap.size (.bool false) (.slice none 0 0)) := (box_new v4 (.bool false) (.slice none 0 0)).later hb;obtain ⟨kY00,kY01,kY02,kY03,kY04⟩ := Y0.out) | skip)
             have l5 : v4.heap.size≤v5.heap.size := hbb.size
             have RS := Lib.hid hr;clear hr
             clear hb hbb
             clear kX00 kX01 kX02 kX10 kX11 kX12
             obtain ⟨kX00,kX01,kX02,-,-,-,-⟩ := X0.out
             obtain ⟨kX10,kX11,kX12,-,-,-,-⟩ := X1.out
             have G5 : Hid True := trivial)
          | (have mk := G3;clear mk
             go_at_call 139
             refine (rmulI (K - 1) Q (RN2.out.later (by first | exact Below.refl _ _ | exact (Below.refl _ _).drew | exact below_one _ _ | exact (below_one _ _).drew | exact below_two _ _ _ | exact (below_two _ _ _).drew)) (RD1.out.later (by first | exact Below.refl _ _ | exact (Below.refl _ _).drew | exact below_one _ _ | exact (below_one _ _).drew | exact below_two _ _ _ | exact (below_two _ _ _).drew)) (sv_limbs _) V1.out (by omega) (by omega) HQ.out LQ.out (by omega)).mono ?_
             rintro e v4 ⟨aq,nq,cq,rfl,hnq,hr,hb⟩
             have hbb : Below v3.heap.size v3 v4 := bthen (by first | exact Below.refl _ _ | exact (Below.refl _ _).drew | exact below_one _ _ | exact (below_one _ _).drew | exact below_two _ _ _ | exact (below_two _ _ _).drew) hb
             replace RN1 := Lib.hid (RN1.out.later hbb)
             replace RN2 := Lib.hid (RN2.out.later hbb)
             replace RD1 := Lib.hid (RD1.out.later hbb)
             replace RD2 := Lib.hid (RD2.out.later hbb)
             replace X0 := Lib.hid (X0.out.later hbb)
             replace X1 := Lib.hid (X1.out.later hbb)
             replace Z := Lib.hid (Z.out.later hbb)
             replace RP := Lib.hid (RP.out.later hbb)
             replace HB := Lib.hid (bthen HB.out hbb)
             (first | (replace Y0 := Lib.hid (Y0.out.later hbb);clear kY00 kY01 kY02 kY03 kY04;obtain ⟨kY00,kY01,kY02,kY03,kY04⟩ := Y0.out) | (have Y0 : Hid (Box v4 v3.heap.size (.bool false) (.slice none 0 0)) := (box_new v3 (.bool false) (.slice none 0 0)).later hb;obtain ⟨kY00,kY01,kY02,kY03,kY04⟩ := Y0.out) | skip)
             have l4 : v3.heap.size≤v4.heap.size := hbb.size
             have RQ := Lib.hid hr;clear hr
             clear hb hbb
             clear kX00 kX01 kX02 kX10 kX11 kX12
             obtain ⟨kX00,kX01,kX02,-,-,-,-⟩ := X0.out
             obtain ⟨kX10,kX11,kX12,-,-,-,-⟩ := X1.out
             have G4 : Hid True := trivial)
          | (have mk := G2;clear mk
             go_at_call 140
             refine (rden_any _ _ _ _ _ _ _ _).mono ?_
             rintro e v3 ⟨rfl,hb⟩
             have hbb : Below v2.heap.size v2 v3 := bthen (by first | exact Below.refl _ _ | exact (Below.refl _ _).drew | exact below_one _ _ | exact (below_one _ _).drew | exact below_two _ _ _ | exact (below_two _ _ _).drew) hb
             replace RN1 := Lib.hid (RN1.out.later hbb)
             replace RN2 := Lib.hid (RN2.out.later hbb)
             replace RD1 := Lib.hid (RD1.out.later hbb)
             replace RD2 := Lib.hid (RD2.out.later hbb)
             replace X0 := Lib.hid (X0.out.later hbb)
             replace X1 := Lib.hid (X1.out.later hbb)
             replace Z := Lib.hid (Z.out.later hbb)
             replace RP := Lib.hid (RP.out.later hbb)
             replace HB := Lib.hid (bthen HB.out hbb)
             (first | (replace Y0 := Lib.hid (Y0.out.later hbb);clear kY00 kY01 kY02 kY03 kY04;obtain ⟨kY00,kY01,kY02,kY03,kY04⟩ := Y0.out) | (have Y0 : Hid (Box v3 v2.heap.size (.bool false) (.slice none 0 0)) := (box_new v2 (.bool false) (.slice none 0 0)).later hb;obtain ⟨kY00,kY01,kY02,kY03,kY04⟩ := Y0.out) | skip)
             have l3 : v2.heap.size≤v3.heap.size := hbb.size
             clear hb hbb
             clear kX00 kX01 kX02 kX10 kX11 kX12
             obtain ⟨kX00,kX01,kX02,-,-,-,-⟩ := X0.out
             obtain ⟨kX10,kX11,kX12,-,-,-,-⟩ := X1.out
             have G3 : Hid True := trivial)
          | (have mk := G1;clear mk
             go_at_call 139
             refine (rmulI (K - 1) P (RN1.out.later (by first | exact Below.refl _ _ | exact (Below.refl _ _).drew | exact below_one _ _ | exact (below_one _ _).drew | exact below_two _ _ _ | exact (below_two _ _ _).drew)) (RD2.out.later (by first | exact Below.refl _ _ | exact (Below.refl _ _).drew | exact below_one _ _ | exact (below_one _ _).drew | exact below_two _ _ _ | exact (below_two _ _ _).drew)) (sv_limbs _) V2.out (by omega) (by omega) HP.out LP.out (by omega)).mono ?_
             rintro e v2 ⟨ap,np,cp,rfl,hnp,hr,hb⟩
             have hbb : Below v1.heap.size v1 v2 := bthen (by first | exact Below.refl _ _ | exact (Below.refl _ _).drew | exact below_one _ _ | exact (below_one _ _).drew | exact below_two _ _ _ | exact (below_two _ _ _).drew) hb
             replace RN1 := Lib.hid (RN1.out.later hbb)
             replace RN2 := Lib.hid (RN2.out.later hbb)
             replace RD1 := Lib.hid (RD1.out.later hbb)
             replace RD2 := Lib.hid (RD2.out.later hbb)
             replace X0 := Lib.hid (X0.out.later hbb)
             replace X1 := Lib.hid (X1.out.later hbb)
             replace Z := Lib.hid (Z.out.later hbb)
             replace HB := Lib.hid (bthen HB.out hbb)
             (first | (replace Y0 := Lib.hid (Y0.out.later hbb);clear kY00 kY01 kY02 kY03 kY04;obtain ⟨kY00,kY01,kY02,kY03,kY04⟩ := Y0.out) | (have Y0 : Hid (Box v2 v1.heap.size (.bool false) (.slice none 0 0)) := (box_new v1 (.bool false) (.slice none 0 0)).later hb;obtain ⟨kY00,kY01,kY02,kY03,kY04⟩ := Y0.out) | skip)
             have l2 : v1.heap.size≤v2.heap.size := hbb.size
             have RP := Lib.hid hr;clear hr
             clear hb hbb
             clear kX00 kX01 kX02 kX10 kX11 kX12
             obtain ⟨kX00,kX01,kX02,-,-,-,-⟩ := X0.out
             obtain ⟨kX10,kX11,kX12,-,-,-,-⟩ := X1.out
             have G2 : Hid True := trivial)
          | (skip
             go_at_call 140
             refine (rden_any _ _ _ _ _ _ _ _).mono ?_
             rintro e v1 ⟨rfl,hb⟩
             have hbb : Below W.heap.size W v1 := bthen (by first | exact Below.refl _ _ | exact (Below.refl _ _).drew | exact below_one _ _ | exact (below_one _ _).drew | exact below_two _ _ _ | exact (below_two _ _ _).drew) hb
             replace RN1 := Lib.hid (RN1.out.later hbb)
             replace RN2 := Lib.hid (RN2.out.later hbb)
             replace RD1 := Lib.hid (RD1.out.later hbb)
             replace RD2 := Lib.hid (RD2.out.later hbb)
             replace X0 := Lib.hid (X0.out.later hbb)
             replace X1 := Lib.hid (X1.out.later hbb)
             replace Z := Lib.hid (Z.out.later hbb)
             replace HB := Lib.hid (bthen HB.out hbb)
             (first | (replace Y0 := Lib.hid (Y0.out.later hbb);clear kY00 kY01 kY02 kY03 kY04;obtain ⟨kY00,kY01,kY02,kY03,kY04⟩ := Y0.out) | (have Y0 : Hid (Box v1 W.heap.size (.bool false) (.slice none 0 0)) := (box_new W (.bool false) (.slice none 0 0)).drew.later hb;obtain ⟨kY00,kY01,kY02,kY03,kY04⟩ := Y0.out) | skip)
             have l1 : W.heap.size≤v1.heap.size := hbb.size
             clear hb hbb
             clear kX00 kX01 kX02 kX10 kX11 kX12
             obtain ⟨kX00,kX01,kX02,-,-,-,-⟩ := X0.out
             obtain ⟨kX10,kX11,kX12,-,-,-,-⟩ := X1.out
             have G1 : Hid True := trivial))
    all_goals
      go_wp2_with fail
      go_meet
      refine ⟨_,an,nn,cn,rfl, ?_, ?_, ?_, ?_, ?_, ?_, ?_, ?_, ?_, ?_⟩
      · repeat' (first | omega | (simp;done) | (simp;omega))
      · repeat' (first | with_reducible exact hnn)
      · repeat' (first | with_reducible exact Y0.out | with_reducible refine box_newE ?_ | with_reducible refine Box.put (u := .bool false) (v := .slice none 0 0) ?_ _ _ | with_reducible refine Box.far ?_ ?_ _ _ | with_reducible refine Box.alloc ?_ _ | omega | (simp;done))
      · repeat' (first | with_reducible exact RS.out | with_reducible refine Row.alloc ?_ _ | with_reducible refine Row.putB (s := false) (b := none) (m := 0) (d := 0) ?_ ?_ _ _ | with_reducible exact Y0.out | with_reducible refine box_newE ?_ | with_reducible refine Box.put (u := .bool false) (v := .slice none 0 0) ?_ _ _ | with_reducible refine Box.far ?_ ?_ _ _ | with_reducible refine Box.alloc ?_ _ | omega | (simp;done))
      · repeat' (first | with_reducible exact X0.out | with_reducible exact X1.out | with_reducible exact Z.out | with_reducible refine Tri.far2 ?_ ?_ _ _ | with_reducible refine Tri.alloc ?_ _ | with_reducible refine Tri.drew ?_ | omega | (simp;done))
      · repeat' (first | with_reducible exact X0.out | with_reducible exact X1.out | with_reducible exact Z.out | with_reducible refine Tri.far2 ?_ ?_ _ _ | with_reducible refine Tri.alloc ?_ _ | with_reducible refine Tri.drew ?_ | omega | (simp;done))
      · repeat' (first | with_reducible exact X0.out | with_reducible exact X1.out | with_reducible exact Z.out | with_reducible refine Tri.far2 ?_ ?_ _ _ | with_reducible refine Tri.alloc ?_ _ | with_reducible refine Tri.drew ?_ | omega | (simp;done))
      · repeat' (first | with_reducible exact RD1.out | with_reducible refine Row.alloc ?_ _ | with_reducible refine Row.putB (s := false) (b := none) (m := 0) (d := 0) ?_ ?_ _ _ | with_reducible exact Y0.out | with_reducible refine box_newE ?_ | with_reducible refine Box.put (u := .bool false) (v := .slice none 0 0) ?_ _ _ | with_reducible refine Box.far ?_ ?_ _ _ | with_reducible refine Box.alloc ?_ _ | omega | (simp;done))
      · repeat' (first | with_reducible exact RD2.out | with_reducible refine Row.alloc ?_ _ | with_reducible refine Row.putB (s := false) (b := none) (m := 0) (d := 0) ?_ ?_ _ _ | with_reducible exact Y0.out | with_reducible refine box_newE ?_ | with_reducible refine Box.put (u := .bool false) (v := .slice none 0 0) ?_ _ _ | with_reducible refine Box.far ?_ ?_ _ _ | with_reducible refine Box.alloc ?_ _ | omega | (simp;done))
      · repeat' (first | with_reducible exact HB.out | with_reducible refine Below.alloc ?_ ?_ _ | with_reducible refine below_put ?_ ?_ _ _ | omega | (simp;omega))
  case rest =>
    obtain ⟨g,an,nn,cn,rfl,hm⟩ := hcut
    obtain ⟨lg,hnn,y,rs,x0,x1,z,r1,r2,hb⟩ := hm.out
    clear hm RN1 RN2 RD1 RD2 X0 X1 Z HB kX00 kX01 kX02 kX10 kX11 kX12
    have Y0 := Lib.hid y
    have RS := Lib.hid rs
    have X0 := Lib.hid x0
    have X1 := Lib.hid x1
    have Z := Lib.hid z
    have RD1 := Lib.hid r1
    have RD2 := Lib.hid r2
    have HB := Lib.hid hb
    clear y rs x0 x1 z r1 r2 hb
    go_wp2_with fail
    replace RS := Lib.hid RS.out.drew
    replace RD1 := Lib.hid RD1.out.drew
    replace RD2 := Lib.hid RD2.out.drew
    replace Y0 := Lib.hid Y0.out.drew
    replace X0 := Lib.hid X0.out.drew
    replace X1 := Lib.hid X1.out.drew
    replace Z := Lib.hid Z.out.drew
    replace HB := Lib.hid HB.out.drew
    obtain ⟨kY00,kY01,-,-,-⟩ := Y0.out
    obtain ⟨kX00,kX01,kX02,-,-,-,-⟩ := X0.out
    obtain ⟨kX10,kX11,kX12,-,-,-,-⟩ := X1.out
    obtain ⟨kZ0,kZ1,kZ2,kZ3,kZ4,kZ5,kZ6⟩ := Z.out
    go_region_held3 (fun w' => w'.cell? ⟨w.heap.size,0,none⟩ = some (.bool (decide (p1.num < 0)))∧w'.cell? ⟨w.heap.size,1,none⟩ = some (.slice a1 n1 c1)∧w'.cell? ⟨w.heap.size,2,none⟩ = some (.slice b1 m1 d1)∧w'.cell? ⟨w.heap.size + 1,0,none⟩ = some (.bool (decide (p2.num < 0)))∧w'.cell? ⟨w.heap.size + 1,1,none⟩ = some (.slice a2 n2 c2)∧w'.cell? ⟨w.heap.size + 1,2,none⟩ = some (.slice b2 m2 d2)∧w'.cell? ⟨g,0,none⟩ = some (.bool (decide (S < 0)))∧w'.cell? ⟨g,1,none⟩ = some (.slice an nn cn))
      (first | (refine ⟨?_, ?_, ?_, ?_, ?_, ?_, ?_, ?_⟩ <;> with_reducible assumption) | (go_keep;done) | (refine ⟨?_, ?_, ?_, ?_, ?_, ?_, ?_, ?_⟩ <;> (repeat rw [cell_other (by first | (simp;done) | (simp;omega))]) <;> with_reducible assumption))
      (first
        | (have mk := G1;clear mk
           go_at_call 57
           refine (rnormR K J q RS.out RD.out (by rw [sv_limbs,val_limbs];exact HM.out) hnn hnd hK9 (by omega) (by omega) hJ9).mono ?_
           rintro e v2 ⟨ar,nr,cr,br,mr,dr,rfl,h2,h3,hr,hr2,hb⟩
           replace RS := Lib.hid (RS.out.later hb)
           replace RD := Lib.hid (RD.out.later hb)
           replace Y0 := Lib.hid (Y0.out.later hb)
           replace X0 := Lib.hid (X0.out.later hb)
           replace X1 := Lib.hid (X1.out.later hb)
           replace Z := Lib.hid (Z.out.later hb)
           replace HB := Lib.hid (bthen HB.out hb);clear hb
           clear kY00 kY01 kX00 kX01 kX02 kX10 kX11 kX12 kZ0 kZ1 kZ2 kZ3 kZ4 kZ5 kZ6
           obtain ⟨kY00,kY01,-,-,-⟩ := Y0.out
           obtain ⟨kX00,kX01,kX02,-,-,-,-⟩ := X0.out
           obtain ⟨kX10,kX11,kX12,-,-,-,-⟩ := X1.out
           obtain ⟨kZ0,kZ1,kZ2,kZ3,kZ4,kZ5,kZ6⟩ := Z.out
           have RA := Lib.hid hr;clear hr
           have RB := Lib.hid hr2;clear hr2
           have G2 : Hid True := trivial)
        | (skip
           go_at_call 72
           refine (rmulN J D RD1.out RD2.out (val_limbs _) (val_limbs _) (by omega) (by omega) HD.out LD.out).mono ?_
           rintro e v1 ⟨ad,nd,cd,rfl,hnd,hr,hb⟩
           clear RD1
           clear RD2
           replace RS := Lib.hid (RS.out.later hb)
           replace Y0 := Lib.hid (Y0.out.later hb)
           replace X0 := Lib.hid (X0.out.later hb)
           replace X1 := Lib.hid (X1.out.later hb)
           replace Z := Lib.hid (Z.out.later hb)
           replace HB := Lib.hid (bthen HB.out hb);clear hb
           clear kY00 kY01 kX00 kX01 kX02 kX10 kX11 kX12 kZ0 kZ1 kZ2 kZ3 kZ4 kZ5 kZ6
           obtain ⟨kY00,kY01,-,-,-⟩ := Y0.out
           obtain ⟨kX00,kX01,kX02,-,-,-,-⟩ := X0.out
           obtain ⟨kX10,kX11,kX12,-,-,-,-⟩ := X1.out
           obtain ⟨kZ0,kZ1,kZ2,kZ3,kZ4,kZ5,kZ6⟩ := Z.out
           have RD := Lib.hid hr;clear hr
           have G1 : Hid True := trivial))
    all_goals
      go_wp2
      exact bodyPost_ret (v := .agg #[.bool (decide (q.num < 0)),.slice ar nr cr,.slice br mr dr]) (by simp [results,Tryz.results101,go_sem, *]) rfl
        ⟨ar,nr,cr,br,mr,dr,rfl,h2,h3,RA.out.put3 Z.out _ _ _,RB.out.put3 Z.out _ _ _,below_put3 HB.out (by omega) _ _ _⟩
theorem raddR (k1 j1 k2 j2 K J : Nat) (q p1 p2 : Rat) {s t : Bool} {a b a' b' : Option Addr} {n c m d n' c' m' d' : Nat} {xs ys us vs : List Nat} {w : World} (h0 : Row w a n c xs) (h1 : Row w b m d ys) (h2 : Row w a' n' c' us) (h3 : Row w b' m' d' vs) (hp : mkRat (sv s (val xs)) (val ys) = p1) (hq : mkRat (sv t (val us)) (val vs) = p2) (hn : n≤k1) (hm : m≤j1) (hn' : n'≤k2) (hm' : m'≤j2) (h1a : 2≤k1) (h1b : 2≤j1) (h2a : 2≤k2) (h2b : 2≤j2) (h1k : k1≤34) (h1j : j1≤34) (h2k : k2≤34) (h2j : j2≤34) (hK : k1 + j2 + 1≤K) (hK2 : k2 + j1 + 1≤K) (hJ : j1 + j2≤J) (hK9 : K≤70) (hJ9 : J≤70) (hr : p1 + p2 = q) :
    Calls Tryz.prog 101 #[.agg #[.bool s,.slice a n c,.slice b m d],.agg #[.bool t,.slice a' n' c',.slice b' m' d']] w (RatK K J q w) := by
  by_cases c1 : n≤1∧m = 1∧0 < val ys∧val ys < 1073741824∧val xs < 1073741824
  · by_cases c2 : n'≤1∧m' = 1∧0 < val vs∧val vs < 1073741824∧val us < 1073741824
    · obtain ⟨x0,x1,y0,y1,y2⟩ := quick_bounds (s := s) c1
      obtain ⟨u0,u1,v0,v1,v2⟩ := quick_bounds (s := t) c2
      obtain ⟨X,hX⟩ : ∃ X,sv s (val xs) = X := ⟨_,rfl⟩
      obtain ⟨Y,hY⟩ : ∃ Y : Int,(val ys : Int) = Y := ⟨_,rfl⟩
      obtain ⟨U,hU⟩ : ∃ U,sv t (val us) = U := ⟨_,rfl⟩
      obtain ⟨V,hV⟩ : ∃ V : Int,(val vs : Int) = V := ⟨_,rfl⟩
      have q1 : ∀ W,Row W a n c xs→Row W b m d ys→Calls Tryz.prog 58 #[.agg #[.bool s,.slice a n c,.slice b m d]] W (QuickYes X Y W) := fun W r0 r1 => by rw [←hX,←hY];exact quickY c1 W r0 r1
      have q2 : ∀ W,Row W a' n' c' us→Row W b' m' d' vs→Calls Tryz.prog 58 #[.agg #[.bool t,.slice a' n' c',.slice b' m' d']] W (QuickYes U V W) := fun W r0 r1 => by rw [←hU,←hV];exact quickY c2 W r0 r1
      rw [hX] at x0 x1 hp
      rw [hU] at u0 u1 hq
      rw [hY] at y0 y1 y2
      rw [hV] at v0 v1 v2
      have hy : val ys = Y.natAbs := by omega
      have hv : val vs = V.natAbs := by omega
      rw [hy] at hp
      rw [hv] at hq
      have m1 := mul_lt_bound (by omega) x0 x1 v0 v1
      have m2 := mul_lt_bound (by omega) u0 u1 y0 y1
      have m3 := mul_lt_bound (by omega) y0 y1 v0 v1
      have m4 := Int.mul_pos y2 v2
      have hs : mkRat (X * V + U * Y) (Y * V).natAbs = q := by
        have ey : ((Y.natAbs : Nat) : Int) = Y := by omega
        have ev : ((V.natAbs : Nat) : Int) = V := by omega
        rw [Int.natAbs_mul]
        conv => lhs;rw [←ev,←ey]
        simp only [Int.natAbs_natCast]
        rw [←Rat.mkRat_add_mkRat _ _ (by omega) (by omega),hp,hq,hr]
      exact (raddR_small q h0 h1 h2 h3 X Y q1 U V q2 (X * V) (U * Y) (X * V + U * Y) (Y * V) rfl rfl rfl rfl (by omega) (by omega) (by omega) (by omega) m4 (by omega) hs).mono (ratK_more (by omega) (by omega))
    · exact raddR_yn k1 j1 k2 j2 K J q p1 p2 h0 h1 h2 h3 hp hq _ _ (quickY c1) (quickN c2) hn hm hn' hm' h1a h1b h2a h2b h1k h1j h2k h2j hK hK2 hJ hK9 hJ9 hr
  · by_cases c2 : n'≤1∧m' = 1∧0 < val vs∧val vs < 1073741824∧val us < 1073741824
    · exact raddR_ny k1 j1 k2 j2 K J q p1 p2 h0 h1 h2 h3 hp hq (quickN c1) _ _ (quickY c2) hn hm hn' hm' h1a h1b h2a h2b h1k h1j h2k h2j hK hK2 hJ hK9 hJ9 hr
    · exact raddR_nn k1 j1 k2 j2 K J q p1 p2 h0 h1 h2 h3 hp hq (quickN c1) (quickN c2) hn hm hn' hm' h1a h1b h2a h2b h1k h1j h2k h2j hK hK2 hJ hK9 hJ9 hr
end Go.Proofs.YtkcgikoploohkaaGreatDoor
