import Derived.Test.YtkcgikoploohkaaGreatDoorQJ
import Derived.Test.YtkcgikoploohkaaGreatDoorQM
import Derived.Deep.RegionHeld3
namespace Go.Proofs.YtkcgikoploohkaaGreatDoor
set_option linter.unusedVariables false
set_option linter.unusedSimpArgs false
set_option maxRecDepth 100000
open Go.RowKit Nums
theorem cmpR_zero (r : Rat) : cmpR r 0 = sgn r.num := by
  unfold cmpR cmpZ
  rw [show (0 : Rat).num = 0 from rfl,show (0 : Rat).den = 1 from rfl,Int.zero_mul]
  rcases sgn_cases r.num with ⟨h,e⟩ | ⟨h,e⟩ | ⟨h,e⟩
  · rw [e,if_pos (by omega)]
  · rw [e,if_neg (by omega),if_neg (by omega)]
  · rw [e,if_neg (by omega),if_pos (by omega)]
theorem sgn_subR (p q : Rat) : sgn (p - q).num = cmpR p q := by
  rw [←cmpR_zero,←cmpR_add p q (-q),←Rat.sub_eq_add_neg,Rat.add_neg_cancel]
theorem cmpZ_T {X Y T : Int} (h : cmpZ X Y = T) : (X < Y∧T = -1)∨(X = Y∧T = 0)∨(Y < X∧T = 1) := by
  unfold cmpZ at h;split at h <;> (try split at h) <;> omega
set_option maxHeartbeats 4000000 in
theorem rsubR (k1 j1 k2 j2 K J : Nat) (q p1 p2 : Rat) {s t : Bool} {a b a' b' : Option Addr} {n c m d n' c' m' d' : Nat} {xs ys us vs : List Nat} {w : World} (h0 : Row w a n c xs) (h1 : Row w b m d ys) (h2 : Row w a' n' c' us) (h3 : Row w b' m' d' vs) (hp : mkRat (sv s (val xs)) (val ys) = p1) (hq : mkRat (sv t (val us)) (val vs) = p2) (hn : n≤k1) (hm : m≤j1) (hn' : n'≤k2) (hm' : m'≤j2) (h1a : 2≤k1) (h1b : 2≤j1) (h2a : 2≤k2) (h2b : 2≤j2) (h1k : k1≤34) (h1j : j1≤34) (h2k : k2≤34) (h2j : j2≤34) (hK : k1 + j2 + 1≤K) (hK2 : k2 + j1 + 1≤K) (hJ : j1 + j2≤J) (hK9 : K≤70) (hJ9 : J≤70) (hr : p1 - p2 = q) :
    Calls Tryz.prog 59 #[.agg #[.bool s,.slice a n c,.slice b m d],.agg #[.bool t,.slice a' n' c',.slice b' m' d']] w (RatK K J q w) := by
  obtain ⟨p3,h3'⟩ : ∃ p3,-p2 = p3 := ⟨_,rfl⟩
  have hR : p1 + p3 = q := by rw [←h3',←Rat.sub_eq_add_neg];exact hr
  have HN := Lib.hid h3';clear h3' hr
  have HB := Lib.hid (below_three w (.cells #[.bool s,.slice a n c,.slice b m d] 27) (.cells #[.bool t,.slice a' n' c',.slice b' m' d'] 27) (.cells #[.bool false,.slice none 0 0,.slice none 0 0] 27))
  have X0 : Hid (Tri (((w.alloc (.cells #[.bool s,.slice a n c,.slice b m d] 27)).alloc (.cells #[.bool t,.slice a' n' c',.slice b' m' d'] 27)).alloc (.cells #[.bool false,.slice none 0 0,.slice none 0 0] 27)) (w.heap.size) (.bool s) (.slice a n c) (.slice b m d)) := (((tri_new _ (.bool s) (.slice a n c) (.slice b m d)).alloc _).alloc _)
  have X1 : Hid (Tri (((w.alloc (.cells #[.bool s,.slice a n c,.slice b m d] 27)).alloc (.cells #[.bool t,.slice a' n' c',.slice b' m' d'] 27)).alloc (.cells #[.bool false,.slice none 0 0,.slice none 0 0] 27)) (w.heap.size + 1) (.bool t) (.slice a' n' c') (.slice b' m' d')) := ((tri_newE (by simp)).alloc _)
  have Z : Hid (Tri (((w.alloc (.cells #[.bool s,.slice a n c,.slice b m d] 27)).alloc (.cells #[.bool t,.slice a' n' c',.slice b' m' d'] 27)).alloc (.cells #[.bool false,.slice none 0 0,.slice none 0 0] 27)) (w.heap.size + 2) (.bool false) (.slice none 0 0) (.slice none 0 0)) := (tri_newE (by simp;try omega))
  have R0 := Lib.hid (h0.later HB.out);clear h0
  have R1 := Lib.hid (h1.later HB.out);clear h1
  have R2 := Lib.hid (h2.later HB.out);clear h2
  have R3 := Lib.hid (h3.later HB.out);clear h3
  have Hp := Lib.hid hp;clear hp
  have Hq := Lib.hid hq;clear hq
  have HR := Lib.hid hR;clear hR
  go_enter Tryz.func59,Tryz.ntmps59
  go_wp2_with fail
  replace R0 := Lib.hid R0.out.drew
  replace R1 := Lib.hid R1.out.drew
  replace R2 := Lib.hid R2.out.drew
  replace R3 := Lib.hid R3.out.drew
  replace X0 := Lib.hid X0.out.drew
  replace X1 := Lib.hid X1.out.drew
  replace Z := Lib.hid Z.out.drew
  replace HB := Lib.hid HB.out.drew
  obtain ⟨kX00,kX01,kX02,-,-,-,-⟩ := X0.out
  obtain ⟨kX10,kX11,kX12,-,-,-,-⟩ := X1.out
  obtain ⟨kZ0,kZ1,kZ2,kZ3,kZ4,kZ5,kZ6⟩ := Z.out
  go_region_held3 (fun w' => w'.cell? ⟨w.heap.size,0,none⟩ = some (.bool s)∧w'.cell? ⟨w.heap.size,1,none⟩ = some (.slice a n c)∧w'.cell? ⟨w.heap.size,2,none⟩ = some (.slice b m d)∧w'.cell? ⟨w.heap.size + 1,0,none⟩ = some (.bool t)∧w'.cell? ⟨w.heap.size + 1,1,none⟩ = some (.slice a' n' c')∧w'.cell? ⟨w.heap.size + 1,2,none⟩ = some (.slice b' m' d'))
    (first | (refine ⟨?_, ?_, ?_, ?_, ?_, ?_⟩ <;> with_reducible assumption) | (go_keep;done) | (refine ⟨?_, ?_, ?_, ?_, ?_, ?_⟩ <;> (repeat rw [cell_other (by first | (simp;done) | (simp;omega))]) <;> with_reducible assumption))
    (first
      | (have mk := G1;clear mk
         go_at_call 101
         refine (raddR k1 j1 k2 j2 K J q p1 p3 R0.out R1.out RN.out RD.out Hp.out (rat_limbs p3) hn hm hnn hmn h1a h1b h2a h2b h1k h1j h2k h2j hK hK2 hJ hK9 hJ9 HR.out).mono ?_
         rintro e v2 ⟨ar,nr,cr,br,mr,dr,rfl,h2,h3,hr,hr2,hb⟩
         replace R0 := Lib.hid (R0.out.later hb)
         replace R1 := Lib.hid (R1.out.later hb)
         replace RN := Lib.hid (RN.out.later hb)
         replace RD := Lib.hid (RD.out.later hb)
         replace X0 := Lib.hid (X0.out.later hb)
         replace X1 := Lib.hid (X1.out.later hb)
         replace Z := Lib.hid (Z.out.later hb)
         replace HB := Lib.hid (bthen HB.out hb);clear hb
         clear kX00 kX01 kX02 kX10 kX11 kX12 kZ0 kZ1 kZ2 kZ3 kZ4 kZ5 kZ6
         obtain ⟨kX00,kX01,kX02,-,-,-,-⟩ := X0.out
         obtain ⟨kX10,kX11,kX12,-,-,-,-⟩ := X1.out
         obtain ⟨kZ0,kZ1,kZ2,kZ3,kZ4,kZ5,kZ6⟩ := Z.out
         have RA := Lib.hid hr;clear hr
         have RB := Lib.hid hr2;clear hr2
         have G2 : Hid True := trivial)
      | (skip
         go_at_call 102
         refine (rnegR k2 j2 p2 p3 R2.out R3.out Hq.out HN.out hn' hm' (by omega) (by omega) (by omega) (by omega)).mono ?_
         rintro e v1 ⟨an,nn,cn,bn,mn,dn,rfl,hnn,hmn,hr,hr2,hb⟩
         clear R2
         clear R3
         replace R0 := Lib.hid (R0.out.later hb)
         replace R1 := Lib.hid (R1.out.later hb)
         replace X0 := Lib.hid (X0.out.later hb)
         replace X1 := Lib.hid (X1.out.later hb)
         replace Z := Lib.hid (Z.out.later hb)
         replace HB := Lib.hid (bthen HB.out hb);clear hb
         clear kX00 kX01 kX02 kX10 kX11 kX12 kZ0 kZ1 kZ2 kZ3 kZ4 kZ5 kZ6
         obtain ⟨kX00,kX01,kX02,-,-,-,-⟩ := X0.out
         obtain ⟨kX10,kX11,kX12,-,-,-,-⟩ := X1.out
         obtain ⟨kZ0,kZ1,kZ2,kZ3,kZ4,kZ5,kZ6⟩ := Z.out
         have RN := Lib.hid hr;clear hr
         have RD := Lib.hid hr2;clear hr2
         have G1 : Hid True := trivial))
  all_goals
    go_wp2
    exact bodyPost_ret (v := .agg #[.bool (decide (q.num < 0)),.slice ar nr cr,.slice br mr dr]) (by simp [results,Tryz.results59,go_sem, *]) rfl
      ⟨ar,nr,cr,br,mr,dr,rfl,h2,h3,RA.out.put3 Z.out _ _ _,RB.out.put3 Z.out _ _ _,below_put3 HB.out (by omega) _ _ _⟩
set_option maxHeartbeats 8000000 in
theorem rcmpR_small_l {s t : Bool} {a b a' b' : Option Addr} {n c m d n' c' m' d' : Nat} {xs ys us vs : List Nat} {w : World} (h0 : Row w a n c xs) (h1 : Row w b m d ys) (h2 : Row w a' n' c' us) (h3 : Row w b' m' d' vs) (X Y : Int) (hc0 : ∀ W,Row W a n c xs→Row W b m d ys→Calls Tryz.prog 58 #[.agg #[.bool s,.slice a n c,.slice b m d]] W (QuickYes X Y W)) (U V : Int) (hc1 : ∀ W,Row W a' n' c' us→Row W b' m' d' vs→Calls Tryz.prog 58 #[.agg #[.bool t,.slice a' n' c',.slice b' m' d']] W (QuickYes U V W)) (E1 E2 : Int) (hE1 : X * V = E1) (hE2 : U * Y = E2) (e0 : -2305843009213693952 < E1) (e1 : E1 < 2305843009213693952) (e2 : -2305843009213693952 < E2) (e3 : E2 < 2305843009213693952) (hc : E1 < E2) :
    Calls Tryz.prog 18 #[.agg #[.bool s,.slice a n c,.slice b m d],.agg #[.bool t,.slice a' n' c',.slice b' m' d']] w fun e w' => e = .returned (.int .i64 (-1))∧Below w.heap.size w w' := by
  have HB := Lib.hid (below_two w (.cells #[.bool s,.slice a n c,.slice b m d] 27) (.cells #[.bool t,.slice a' n' c',.slice b' m' d'] 27))
  have X0 : Hid (Tri ((w.alloc (.cells #[.bool s,.slice a n c,.slice b m d] 27)).alloc (.cells #[.bool t,.slice a' n' c',.slice b' m' d'] 27)) (w.heap.size) (.bool s) (.slice a n c) (.slice b m d)) := ((tri_new _ (.bool s) (.slice a n c) (.slice b m d)).alloc _)
  have X1 : Hid (Tri ((w.alloc (.cells #[.bool s,.slice a n c,.slice b m d] 27)).alloc (.cells #[.bool t,.slice a' n' c',.slice b' m' d'] 27)) (w.heap.size + 1) (.bool t) (.slice a' n' c') (.slice b' m' d')) := (tri_newE (by simp))
  have R0 := Lib.hid (h0.later HB.out);clear h0
  have R1 := Lib.hid (h1.later HB.out);clear h1
  have R2 := Lib.hid (h2.later HB.out);clear h2
  have R3 := Lib.hid (h3.later HB.out);clear h3
  have w1 : wrap64 (X * V) = E1 := by rw [hE1];unfold wrap64;omega
  have w2 : wrap64 (U * Y) = E2 := by rw [hE2];unfold wrap64;omega
  have t1 : decide (wrap64 (X * V) < wrap64 (U * Y)) = true := decide_eq_true (by omega)
  have C0 := Lib.hid hc0;clear hc0
  have C1 := Lib.hid hc1;clear hc1
  have TT1 := Lib.hid t1;clear t1
  clear hE1 hE2 e0 e1 e2 e3 hc w1 w2
  go_enter Tryz.func18,Tryz.ntmps18
  go_wp2_with fail
  refine (C0.out _ R0.out R1.out).mono ?_
  rintro e w1 ⟨rfl,hb⟩
  clear R0
  clear R1
  replace R2 := Lib.hid (R2.out.later hb)
  replace R3 := Lib.hid (R3.out.later hb)
  replace X0 := Lib.hid (X0.out.later hb)
  replace X1 := Lib.hid (X1.out.later hb)
  replace HB := Lib.hid (bthen HB.out hb)
  clear hb
  obtain ⟨kX00,kX01,kX02,-,-,-,-⟩ := X0.out
  obtain ⟨kX10,kX11,kX12,-,-,-,-⟩ := X1.out
  go_wp2_with fail
  refine (C1.out _ R2.out R3.out).mono ?_
  rintro e w2 ⟨rfl,hb⟩
  clear R2
  clear R3
  replace X0 := Lib.hid (X0.out.later hb)
  replace X1 := Lib.hid (X1.out.later hb)
  replace HB := Lib.hid (bthen HB.out hb)
  clear hb
  clear kX00 kX01 kX02 kX10 kX11 kX12
  obtain ⟨kX00,kX01,kX02,-,-,-,-⟩ := X0.out
  obtain ⟨kX10,kX11,kX12,-,-,-,-⟩ := X1.out
  have t1 := TT1.out
  rw [decide_eq_true_iff] at t1
  go_wp2
  try go_quiet (fail)
  try go_wp2
  try go_quiet (fail)
  try go_wp2
  exact bodyPost_ret (v := .int .i64 (-1)) (by simp [results,Tryz.results18,go_sem, *]) rfl ⟨rfl,HB.out⟩
set_option maxHeartbeats 8000000 in
theorem rcmpR_small_e {s t : Bool} {a b a' b' : Option Addr} {n c m d n' c' m' d' : Nat} {xs ys us vs : List Nat} {w : World} (h0 : Row w a n c xs) (h1 : Row w b m d ys) (h2 : Row w a' n' c' us) (h3 : Row w b' m' d' vs) (X Y : Int) (hc0 : ∀ W,Row W a n c xs→Row W b m d ys→Calls Tryz.prog 58 #[.agg #[.bool s,.slice a n c,.slice b m d]] W (QuickYes X Y W)) (U V : Int) (hc1 : ∀ W,Row W a' n' c' us→Row W b' m' d' vs→Calls Tryz.prog 58 #[.agg #[.bool t,.slice a' n' c',.slice b' m' d']] W (QuickYes U V W)) (E1 E2 : Int) (hE1 : X * V = E1) (hE2 : U * Y = E2) (e0 : -2305843009213693952 < E1) (e1 : E1 < 2305843009213693952) (e2 : -2305843009213693952 < E2) (e3 : E2 < 2305843009213693952) (hc : E1 = E2) :
    Calls Tryz.prog 18 #[.agg #[.bool s,.slice a n c,.slice b m d],.agg #[.bool t,.slice a' n' c',.slice b' m' d']] w fun e w' => e = .returned (.int .i64 0)∧Below w.heap.size w w' := by
  have HB := Lib.hid (below_two w (.cells #[.bool s,.slice a n c,.slice b m d] 27) (.cells #[.bool t,.slice a' n' c',.slice b' m' d'] 27))
  have X0 : Hid (Tri ((w.alloc (.cells #[.bool s,.slice a n c,.slice b m d] 27)).alloc (.cells #[.bool t,.slice a' n' c',.slice b' m' d'] 27)) (w.heap.size) (.bool s) (.slice a n c) (.slice b m d)) := ((tri_new _ (.bool s) (.slice a n c) (.slice b m d)).alloc _)
  have X1 : Hid (Tri ((w.alloc (.cells #[.bool s,.slice a n c,.slice b m d] 27)).alloc (.cells #[.bool t,.slice a' n' c',.slice b' m' d'] 27)) (w.heap.size + 1) (.bool t) (.slice a' n' c') (.slice b' m' d')) := (tri_newE (by simp))
  have R0 := Lib.hid (h0.later HB.out);clear h0
  have R1 := Lib.hid (h1.later HB.out);clear h1
  have R2 := Lib.hid (h2.later HB.out);clear h2
  have R3 := Lib.hid (h3.later HB.out);clear h3
  have w1 : wrap64 (X * V) = E1 := by rw [hE1];unfold wrap64;omega
  have w2 : wrap64 (U * Y) = E2 := by rw [hE2];unfold wrap64;omega
  have t1 : decide (wrap64 (X * V) < wrap64 (U * Y)) = false := decide_eq_false (by omega)
  have t2 : decide (wrap64 (U * Y) < wrap64 (X * V)) = false := decide_eq_false (by omega)
  have C0 := Lib.hid hc0;clear hc0
  have C1 := Lib.hid hc1;clear hc1
  have TT1 := Lib.hid t1;clear t1
  have TT2 := Lib.hid t2;clear t2
  clear hE1 hE2 e0 e1 e2 e3 hc w1 w2
  go_enter Tryz.func18,Tryz.ntmps18
  go_wp2_with fail
  refine (C0.out _ R0.out R1.out).mono ?_
  rintro e w1 ⟨rfl,hb⟩
  clear R0
  clear R1
  replace R2 := Lib.hid (R2.out.later hb)
  replace R3 := Lib.hid (R3.out.later hb)
  replace X0 := Lib.hid (X0.out.later hb)
  replace X1 := Lib.hid (X1.out.later hb)
  replace HB := Lib.hid (bthen HB.out hb)
  clear hb
  obtain ⟨kX00,kX01,kX02,-,-,-,-⟩ := X0.out
  obtain ⟨kX10,kX11,kX12,-,-,-,-⟩ := X1.out
  go_wp2_with fail
  refine (C1.out _ R2.out R3.out).mono ?_
  rintro e w2 ⟨rfl,hb⟩
  clear R2
  clear R3
  replace X0 := Lib.hid (X0.out.later hb)
  replace X1 := Lib.hid (X1.out.later hb)
  replace HB := Lib.hid (bthen HB.out hb)
  clear hb
  clear kX00 kX01 kX02 kX10 kX11 kX12
  obtain ⟨kX00,kX01,kX02,-,-,-,-⟩ := X0.out
  obtain ⟨kX10,kX11,kX12,-,-,-,-⟩ := X1.out
  have t1 := TT1.out
  have t2 := TT2.out
  go_wp2
  try go_quiet (fail)
  try go_wp2
  try go_quiet (fail)
  try go_wp2
  exact bodyPost_ret (v := .int .i64 0) (by simp [results,Tryz.results18,go_sem, *]) rfl ⟨rfl,HB.out⟩
set_option maxHeartbeats 8000000 in
theorem rcmpR_small_g {s t : Bool} {a b a' b' : Option Addr} {n c m d n' c' m' d' : Nat} {xs ys us vs : List Nat} {w : World} (h0 : Row w a n c xs) (h1 : Row w b m d ys) (h2 : Row w a' n' c' us) (h3 : Row w b' m' d' vs) (X Y : Int) (hc0 : ∀ W,Row W a n c xs→Row W b m d ys→Calls Tryz.prog 58 #[.agg #[.bool s,.slice a n c,.slice b m d]] W (QuickYes X Y W)) (U V : Int) (hc1 : ∀ W,Row W a' n' c' us→Row W b' m' d' vs→Calls Tryz.prog 58 #[.agg #[.bool t,.slice a' n' c',.slice b' m' d']] W (QuickYes U V W)) (E1 E2 : Int) (hE1 : X * V = E1) (hE2 : U * Y = E2) (e0 : -2305843009213693952 < E1) (e1 : E1 < 2305843009213693952) (e2 : -2305843009213693952 < E2) (e3 : E2 < 2305843009213693952) (hc : E1 > E2) :
    Calls Tryz.prog 18 #[.agg #[.bool s,.slice a n c,.slice b m d],.agg #[.bool t,.slice a' n' c',.slice b' m' d']] w fun e w' => e = .returned (.int .i64 1)∧Below w.heap.size w w' := by
  have HB := Lib.hid (below_two w (.cells #[.bool s,.slice a n c,.slice b m d] 27) (.cells #[.bool t,.slice a' n' c',.slice b' m' d'] 27))
  have X0 : Hid (Tri ((w.alloc (.cells #[.bool s,.slice a n c,.slice b m d] 27)).alloc (.cells #[.bool t,.slice a' n' c',.slice b' m' d'] 27)) (w.heap.size) (.bool s) (.slice a n c) (.slice b m d)) := ((tri_new _ (.bool s) (.slice a n c) (.slice b m d)).alloc _)
  have X1 : Hid (Tri ((w.alloc (.cells #[.bool s,.slice a n c,.slice b m d] 27)).alloc (.cells #[.bool t,.slice a' n' c',.slice b' m' d'] 27)) (w.heap.size + 1) (.bool t) (.slice a' n' c') (.slice b' m' d')) := (tri_newE (by simp))
  have R0 := Lib.hid (h0.later HB.out);clear h0
  have R1 := Lib.hid (h1.later HB.out);clear h1
  have R2 := Lib.hid (h2.later HB.out);clear h2
  have R3 := Lib.hid (h3.later HB.out);clear h3
  have w1 : wrap64 (X * V) = E1 := by rw [hE1];unfold wrap64;omega
  have w2 : wrap64 (U * Y) = E2 := by rw [hE2];unfold wrap64;omega
  have t1 : decide (wrap64 (X * V) < wrap64 (U * Y)) = false := decide_eq_false (by omega)
  have t2 : decide (wrap64 (U * Y) < wrap64 (X * V)) = true := decide_eq_true (by omega)
  have C0 := Lib.hid hc0;clear hc0
  have C1 := Lib.hid hc1;clear hc1
  have TT1 := Lib.hid t1;clear t1
  have TT2 := Lib.hid t2;clear t2
  clear hE1 hE2 e0 e1 e2 e3 hc w1 w2
  go_enter Tryz.func18,Tryz.ntmps18
  go_wp2_with fail
  refine (C0.out _ R0.out R1.out).mono ?_
  rintro e w1 ⟨rfl,hb⟩
  clear R0
  clear R1
  replace R2 := Lib.hid (R2.out.later hb)
  replace R3 := Lib.hid (R3.out.later hb)
  replace X0 := Lib.hid (X0.out.later hb)
  replace X1 := Lib.hid (X1.out.later hb)
  replace HB := Lib.hid (bthen HB.out hb)
  clear hb
  obtain ⟨kX00,kX01,kX02,-,-,-,-⟩ := X0.out
  obtain ⟨kX10,kX11,kX12,-,-,-,-⟩ := X1.out
  go_wp2_with fail
  refine (C1.out _ R2.out R3.out).mono ?_
  rintro e w2 ⟨rfl,hb⟩
  clear R2
  clear R3
  replace X0 := Lib.hid (X0.out.later hb)
  replace X1 := Lib.hid (X1.out.later hb)
  replace HB := Lib.hid (bthen HB.out hb)
  clear hb
  clear kX00 kX01 kX02 kX10 kX11 kX12
  obtain ⟨kX00,kX01,kX02,-,-,-,-⟩ := X0.out
  obtain ⟨kX10,kX11,kX12,-,-,-,-⟩ := X1.out
  have t1 := TT1.out
  have t2 := TT2.out
  rw [decide_eq_true_iff] at t2
  go_wp2
  try go_quiet (fail)
  try go_wp2
  try go_quiet (fail)
  try go_wp2
  exact bodyPost_ret (v := .int .i64 1) (by simp [results,Tryz.results18,go_sem, *]) rfl ⟨rfl,HB.out⟩
set_option maxHeartbeats 8000000 in
theorem rcmpR_nn (k1 j1 k2 j2 K J : Nat) (T : Int) (p1 p2 : Rat) {s t : Bool} {a b a' b' : Option Addr} {n c m d n' c' m' d' : Nat} {xs ys us vs : List Nat} {w : World} (h0 : Row w a n c xs) (h1 : Row w b m d ys) (h2 : Row w a' n' c' us) (h3 : Row w b' m' d' vs) (hp : mkRat (sv s (val xs)) (val ys) = p1) (hq : mkRat (sv t (val us)) (val vs) = p2) (hc0 : ∀ W,Row W a n c xs→Row W b m d ys→Calls Tryz.prog 58 #[.agg #[.bool s,.slice a n c,.slice b m d]] W (QuickNo W)) (hc1 : ∀ W,Row W a' n' c' us→Row W b' m' d' vs→Calls Tryz.prog 58 #[.agg #[.bool t,.slice a' n' c',.slice b' m' d']] W (QuickNo W)) (hn : n≤k1) (hm : m≤j1) (hn' : n'≤k2) (hm' : m'≤j2) (h1a : 2≤k1) (h1b : 2≤j1) (h2a : 2≤k2) (h2b : 2≤j2) (h1k : k1≤34) (h1j : j1≤34) (h2k : k2≤34) (h2j : j2≤34) (hK : k1 + j2 + 1≤K) (hK2 : k2 + j1 + 1≤K) (hJ : j1 + j2≤J) (hK9 : K≤70) (hJ9 : J≤70) (hr : cmpR p1 p2 = T) :
    Calls Tryz.prog 18 #[.agg #[.bool s,.slice a n c,.slice b m d],.agg #[.bool t,.slice a' n' c',.slice b' m' d']] w fun e w' => e = .returned (.int .i64 T)∧Below w.heap.size w w' := by
  obtain ⟨q,hQ⟩ : ∃ q,p1 - p2 = q := ⟨_,rfl⟩
  have HT := Lib.hid (show sgn q.num = T by rw [←hQ,sgn_subR];exact hr)
  have HQQ := Lib.hid hQ;clear hQ hr
  have HB := Lib.hid (below_two w (.cells #[.bool s,.slice a n c,.slice b m d] 27) (.cells #[.bool t,.slice a' n' c',.slice b' m' d'] 27))
  have X0 : Hid (Tri ((w.alloc (.cells #[.bool s,.slice a n c,.slice b m d] 27)).alloc (.cells #[.bool t,.slice a' n' c',.slice b' m' d'] 27)) (w.heap.size) (.bool s) (.slice a n c) (.slice b m d)) := ((tri_new _ (.bool s) (.slice a n c) (.slice b m d)).alloc _)
  have X1 : Hid (Tri ((w.alloc (.cells #[.bool s,.slice a n c,.slice b m d] 27)).alloc (.cells #[.bool t,.slice a' n' c',.slice b' m' d'] 27)) (w.heap.size + 1) (.bool t) (.slice a' n' c') (.slice b' m' d')) := (tri_newE (by simp))
  have R0 := Lib.hid (h0.later HB.out);clear h0
  have R1 := Lib.hid (h1.later HB.out);clear h1
  have R2 := Lib.hid (h2.later HB.out);clear h2
  have R3 := Lib.hid (h3.later HB.out);clear h3
  have C0 := Lib.hid hc0;clear hc0
  have C1 := Lib.hid hc1;clear hc1
  have HQ0 := Lib.hid hp;clear hp
  have HQ1 := Lib.hid hq;clear hq
  go_enter Tryz.func18,Tryz.ntmps18
  go_wp2_with fail
  refine (C0.out _ R0.out R1.out).mono ?_
  rintro e w1 ⟨rfl,hb⟩
  replace R0 := Lib.hid (R0.out.later hb)
  replace R1 := Lib.hid (R1.out.later hb)
  replace R2 := Lib.hid (R2.out.later hb)
  replace R3 := Lib.hid (R3.out.later hb)
  replace X0 := Lib.hid (X0.out.later hb)
  replace X1 := Lib.hid (X1.out.later hb)
  replace HB := Lib.hid (bthen HB.out hb)
  clear hb
  obtain ⟨kX00,kX01,kX02,-,-,-,-⟩ := X0.out
  obtain ⟨kX10,kX11,kX12,-,-,-,-⟩ := X1.out
  go_wp2_with fail
  refine (C1.out _ R2.out R3.out).mono ?_
  rintro e w2 ⟨rfl,hb⟩
  replace R0 := Lib.hid (R0.out.later hb)
  replace R1 := Lib.hid (R1.out.later hb)
  replace R2 := Lib.hid (R2.out.later hb)
  replace R3 := Lib.hid (R3.out.later hb)
  replace X0 := Lib.hid (X0.out.later hb)
  replace X1 := Lib.hid (X1.out.later hb)
  replace HB := Lib.hid (bthen HB.out hb)
  clear hb
  clear kX00 kX01 kX02 kX10 kX11 kX12
  obtain ⟨kX00,kX01,kX02,-,-,-,-⟩ := X0.out
  obtain ⟨kX10,kX11,kX12,-,-,-,-⟩ := X1.out
  go_wp2_with fail
  refine (rsubR k1 j1 k2 j2 K J q p1 p2 R0.out R1.out R2.out R3.out HQ0.out HQ1.out hn hm hn' hm' h1a h1b h2a h2b h1k h1j h2k h2j hK hK2 hJ hK9 hJ9 HQQ.out).mono ?_
  rintro e w3 ⟨ar,nr,cr,br,mr,dr,rfl,h2,h3,hr,hr2,hb⟩
  clear R0
  clear R1
  clear R2
  clear R3
  replace X0 := Lib.hid (X0.out.later hb)
  replace X1 := Lib.hid (X1.out.later hb)
  replace HB := Lib.hid (bthen HB.out hb)
  clear hb
  clear kX00 kX01 kX02 kX10 kX11 kX12
  have RA := Lib.hid hr;clear hr
  have RB := Lib.hid hr2;clear hr2
  obtain ⟨kX00,kX01,kX02,-,-,-,-⟩ := X0.out
  obtain ⟨kX10,kX11,kX12,-,-,-,-⟩ := X1.out
  go_wp2_with fail
  refine (rsignR K J T q RA.out RB.out (rat_limbs q) h2 h3 hK9 (by omega) (by omega) hJ9 HT.out).mono ?_
  rintro e w4 ⟨rfl,hb⟩
  replace RA := Lib.hid (RA.out.later hb)
  replace RB := Lib.hid (RB.out.later hb)
  replace X0 := Lib.hid (X0.out.later hb)
  replace X1 := Lib.hid (X1.out.later hb)
  replace HB := Lib.hid (bthen HB.out hb)
  clear hb
  clear kX00 kX01 kX02 kX10 kX11 kX12
  obtain ⟨kX00,kX01,kX02,-,-,-,-⟩ := X0.out
  obtain ⟨kX10,kX11,kX12,-,-,-,-⟩ := X1.out
  go_wp2
  exact bodyPost_ret (v := .int .i64 T) (by simp [results,Tryz.results18,go_sem, *]) rfl ⟨rfl,HB.out⟩
set_option maxHeartbeats 8000000 in
theorem rcmpR_ny (k1 j1 k2 j2 K J : Nat) (T : Int) (p1 p2 : Rat) {s t : Bool} {a b a' b' : Option Addr} {n c m d n' c' m' d' : Nat} {xs ys us vs : List Nat} {w : World} (h0 : Row w a n c xs) (h1 : Row w b m d ys) (h2 : Row w a' n' c' us) (h3 : Row w b' m' d' vs) (hp : mkRat (sv s (val xs)) (val ys) = p1) (hq : mkRat (sv t (val us)) (val vs) = p2) (hc0 : ∀ W,Row W a n c xs→Row W b m d ys→Calls Tryz.prog 58 #[.agg #[.bool s,.slice a n c,.slice b m d]] W (QuickNo W)) (U V : Int) (hc1 : ∀ W,Row W a' n' c' us→Row W b' m' d' vs→Calls Tryz.prog 58 #[.agg #[.bool t,.slice a' n' c',.slice b' m' d']] W (QuickYes U V W)) (hn : n≤k1) (hm : m≤j1) (hn' : n'≤k2) (hm' : m'≤j2) (h1a : 2≤k1) (h1b : 2≤j1) (h2a : 2≤k2) (h2b : 2≤j2) (h1k : k1≤34) (h1j : j1≤34) (h2k : k2≤34) (h2j : j2≤34) (hK : k1 + j2 + 1≤K) (hK2 : k2 + j1 + 1≤K) (hJ : j1 + j2≤J) (hK9 : K≤70) (hJ9 : J≤70) (hr : cmpR p1 p2 = T) :
    Calls Tryz.prog 18 #[.agg #[.bool s,.slice a n c,.slice b m d],.agg #[.bool t,.slice a' n' c',.slice b' m' d']] w fun e w' => e = .returned (.int .i64 T)∧Below w.heap.size w w' := by
  obtain ⟨q,hQ⟩ : ∃ q,p1 - p2 = q := ⟨_,rfl⟩
  have HT := Lib.hid (show sgn q.num = T by rw [←hQ,sgn_subR];exact hr)
  have HQQ := Lib.hid hQ;clear hQ hr
  have HB := Lib.hid (below_two w (.cells #[.bool s,.slice a n c,.slice b m d] 27) (.cells #[.bool t,.slice a' n' c',.slice b' m' d'] 27))
  have X0 : Hid (Tri ((w.alloc (.cells #[.bool s,.slice a n c,.slice b m d] 27)).alloc (.cells #[.bool t,.slice a' n' c',.slice b' m' d'] 27)) (w.heap.size) (.bool s) (.slice a n c) (.slice b m d)) := ((tri_new _ (.bool s) (.slice a n c) (.slice b m d)).alloc _)
  have X1 : Hid (Tri ((w.alloc (.cells #[.bool s,.slice a n c,.slice b m d] 27)).alloc (.cells #[.bool t,.slice a' n' c',.slice b' m' d'] 27)) (w.heap.size + 1) (.bool t) (.slice a' n' c') (.slice b' m' d')) := (tri_newE (by simp))
  have R0 := Lib.hid (h0.later HB.out);clear h0
  have R1 := Lib.hid (h1.later HB.out);clear h1
  have R2 := Lib.hid (h2.later HB.out);clear h2
  have R3 := Lib.hid (h3.later HB.out);clear h3
  have C0 := Lib.hid hc0;clear hc0
  have C1 := Lib.hid hc1;clear hc1
  have HQ0 := Lib.hid hp;clear hp
  have HQ1 := Lib.hid hq;clear hq
  go_enter Tryz.func18,Tryz.ntmps18
  go_wp2_with fail
  refine (C0.out _ R0.out R1.out).mono ?_
  rintro e w1 ⟨rfl,hb⟩
  replace R0 := Lib.hid (R0.out.later hb)
  replace R1 := Lib.hid (R1.out.later hb)
  replace R2 := Lib.hid (R2.out.later hb)
  replace R3 := Lib.hid (R3.out.later hb)
  replace X0 := Lib.hid (X0.out.later hb)
  replace X1 := Lib.hid (X1.out.later hb)
  replace HB := Lib.hid (bthen HB.out hb)
  clear hb
  obtain ⟨kX00,kX01,kX02,-,-,-,-⟩ := X0.out
  obtain ⟨kX10,kX11,kX12,-,-,-,-⟩ := X1.out
  go_wp2_with fail
  refine (C1.out _ R2.out R3.out).mono ?_
  rintro e w2 ⟨rfl,hb⟩
  replace R0 := Lib.hid (R0.out.later hb)
  replace R1 := Lib.hid (R1.out.later hb)
  replace R2 := Lib.hid (R2.out.later hb)
  replace R3 := Lib.hid (R3.out.later hb)
  replace X0 := Lib.hid (X0.out.later hb)
  replace X1 := Lib.hid (X1.out.later hb)
  replace HB := Lib.hid (bthen HB.out hb)
  clear hb
  clear kX00 kX01 kX02 kX10 kX11 kX12
  obtain ⟨kX00,kX01,kX02,-,-,-,-⟩ := X0.out
  obtain ⟨kX10,kX11,kX12,-,-,-,-⟩ := X1.out
  go_wp2_with fail
  refine (rsubR k1 j1 k2 j2 K J q p1 p2 R0.out R1.out R2.out R3.out HQ0.out HQ1.out hn hm hn' hm' h1a h1b h2a h2b h1k h1j h2k h2j hK hK2 hJ hK9 hJ9 HQQ.out).mono ?_
  rintro e w3 ⟨ar,nr,cr,br,mr,dr,rfl,h2,h3,hr,hr2,hb⟩
  clear R0
  clear R1
  clear R2
  clear R3
  replace X0 := Lib.hid (X0.out.later hb)
  replace X1 := Lib.hid (X1.out.later hb)
  replace HB := Lib.hid (bthen HB.out hb)
  clear hb
  clear kX00 kX01 kX02 kX10 kX11 kX12
  have RA := Lib.hid hr;clear hr
  have RB := Lib.hid hr2;clear hr2
  obtain ⟨kX00,kX01,kX02,-,-,-,-⟩ := X0.out
  obtain ⟨kX10,kX11,kX12,-,-,-,-⟩ := X1.out
  go_wp2_with fail
  refine (rsignR K J T q RA.out RB.out (rat_limbs q) h2 h3 hK9 (by omega) (by omega) hJ9 HT.out).mono ?_
  rintro e w4 ⟨rfl,hb⟩
  replace RA := Lib.hid (RA.out.later hb)
  replace RB := Lib.hid (RB.out.later hb)
  replace X0 := Lib.hid (X0.out.later hb)
  replace X1 := Lib.hid (X1.out.later hb)
  replace HB := Lib.hid (bthen HB.out hb)
  clear hb
  clear kX00 kX01 kX02 kX10 kX11 kX12
  obtain ⟨kX00,kX01,kX02,-,-,-,-⟩ := X0.out
  obtain ⟨kX10,kX11,kX12,-,-,-,-⟩ := X1.out
  go_wp2
  exact bodyPost_ret (v := .int .i64 T) (by simp [results,Tryz.results18,go_sem, *]) rfl ⟨rfl,HB.out⟩
set_option maxHeartbeats 8000000 in
theorem rcmpR_yn (k1 j1 k2 j2 K J : Nat) (T : Int) (p1 p2 : Rat) {s t : Bool} {a b a' b' : Option Addr} {n c m d n' c' m' d' : Nat} {xs ys us vs : List Nat} {w : World} (h0 : Row w a n c xs) (h1 : Row w b m d ys) (h2 : Row w a' n' c' us) (h3 : Row w b' m' d' vs) (hp : mkRat (sv s (val xs)) (val ys) = p1) (hq : mkRat (sv t (val us)) (val vs) = p2) (X Y : Int) (hc0 : ∀ W,Row W a n c xs→Row W b m d ys→Calls Tryz.prog 58 #[.agg #[.bool s,.slice a n c,.slice b m d]] W (QuickYes X Y W)) (hc1 : ∀ W,Row W a' n' c' us→Row W b' m' d' vs→Calls Tryz.prog 58 #[.agg #[.bool t,.slice a' n' c',.slice b' m' d']] W (QuickNo W)) (hn : n≤k1) (hm : m≤j1) (hn' : n'≤k2) (hm' : m'≤j2) (h1a : 2≤k1) (h1b : 2≤j1) (h2a : 2≤k2) (h2b : 2≤j2) (h1k : k1≤34) (h1j : j1≤34) (h2k : k2≤34) (h2j : j2≤34) (hK : k1 + j2 + 1≤K) (hK2 : k2 + j1 + 1≤K) (hJ : j1 + j2≤J) (hK9 : K≤70) (hJ9 : J≤70) (hr : cmpR p1 p2 = T) :
    Calls Tryz.prog 18 #[.agg #[.bool s,.slice a n c,.slice b m d],.agg #[.bool t,.slice a' n' c',.slice b' m' d']] w fun e w' => e = .returned (.int .i64 T)∧Below w.heap.size w w' := by
  obtain ⟨q,hQ⟩ : ∃ q,p1 - p2 = q := ⟨_,rfl⟩
  have HT := Lib.hid (show sgn q.num = T by rw [←hQ,sgn_subR];exact hr)
  have HQQ := Lib.hid hQ;clear hQ hr
  have HB := Lib.hid (below_two w (.cells #[.bool s,.slice a n c,.slice b m d] 27) (.cells #[.bool t,.slice a' n' c',.slice b' m' d'] 27))
  have X0 : Hid (Tri ((w.alloc (.cells #[.bool s,.slice a n c,.slice b m d] 27)).alloc (.cells #[.bool t,.slice a' n' c',.slice b' m' d'] 27)) (w.heap.size) (.bool s) (.slice a n c) (.slice b m d)) := ((tri_new _ (.bool s) (.slice a n c) (.slice b m d)).alloc _)
  have X1 : Hid (Tri ((w.alloc (.cells #[.bool s,.slice a n c,.slice b m d] 27)).alloc (.cells #[.bool t,.slice a' n' c',.slice b' m' d'] 27)) (w.heap.size + 1) (.bool t) (.slice a' n' c') (.slice b' m' d')) := (tri_newE (by simp))
  have R0 := Lib.hid (h0.later HB.out);clear h0
  have R1 := Lib.hid (h1.later HB.out);clear h1
  have R2 := Lib.hid (h2.later HB.out);clear h2
  have R3 := Lib.hid (h3.later HB.out);clear h3
  have C0 := Lib.hid hc0;clear hc0
  have C1 := Lib.hid hc1;clear hc1
  have HQ0 := Lib.hid hp;clear hp
  have HQ1 := Lib.hid hq;clear hq
  go_enter Tryz.func18,Tryz.ntmps18
  go_wp2_with fail
  refine (C0.out _ R0.out R1.out).mono ?_
  rintro e w1 ⟨rfl,hb⟩
  replace R0 := Lib.hid (R0.out.later hb)
  replace R1 := Lib.hid (R1.out.later hb)
  replace R2 := Lib.hid (R2.out.later hb)
  replace R3 := Lib.hid (R3.out.later hb)
  replace X0 := Lib.hid (X0.out.later hb)
  replace X1 := Lib.hid (X1.out.later hb)
  replace HB := Lib.hid (bthen HB.out hb)
  clear hb
  obtain ⟨kX00,kX01,kX02,-,-,-,-⟩ := X0.out
  obtain ⟨kX10,kX11,kX12,-,-,-,-⟩ := X1.out
  go_wp2_with fail
  refine (C1.out _ R2.out R3.out).mono ?_
  rintro e w2 ⟨rfl,hb⟩
  replace R0 := Lib.hid (R0.out.later hb)
  replace R1 := Lib.hid (R1.out.later hb)
  replace R2 := Lib.hid (R2.out.later hb)
  replace R3 := Lib.hid (R3.out.later hb)
  replace X0 := Lib.hid (X0.out.later hb)
  replace X1 := Lib.hid (X1.out.later hb)
  replace HB := Lib.hid (bthen HB.out hb)
  clear hb
  clear kX00 kX01 kX02 kX10 kX11 kX12
  obtain ⟨kX00,kX01,kX02,-,-,-,-⟩ := X0.out
  obtain ⟨kX10,kX11,kX12,-,-,-,-⟩ := X1.out
  go_wp2_with fail
  refine (rsubR k1 j1 k2 j2 K J q p1 p2 R0.out R1.out R2.out R3.out HQ0.out HQ1.out hn hm hn' hm' h1a h1b h2a h2b h1k h1j h2k h2j hK hK2 hJ hK9 hJ9 HQQ.out).mono ?_
  rintro e w3 ⟨ar,nr,cr,br,mr,dr,rfl,h2,h3,hr,hr2,hb⟩
  clear R0
  clear R1
  clear R2
  clear R3
  replace X0 := Lib.hid (X0.out.later hb)
  replace X1 := Lib.hid (X1.out.later hb)
  replace HB := Lib.hid (bthen HB.out hb)
  clear hb
  clear kX00 kX01 kX02 kX10 kX11 kX12
  have RA := Lib.hid hr;clear hr
  have RB := Lib.hid hr2;clear hr2
  obtain ⟨kX00,kX01,kX02,-,-,-,-⟩ := X0.out
  obtain ⟨kX10,kX11,kX12,-,-,-,-⟩ := X1.out
  go_wp2_with fail
  refine (rsignR K J T q RA.out RB.out (rat_limbs q) h2 h3 hK9 (by omega) (by omega) hJ9 HT.out).mono ?_
  rintro e w4 ⟨rfl,hb⟩
  replace RA := Lib.hid (RA.out.later hb)
  replace RB := Lib.hid (RB.out.later hb)
  replace X0 := Lib.hid (X0.out.later hb)
  replace X1 := Lib.hid (X1.out.later hb)
  replace HB := Lib.hid (bthen HB.out hb)
  clear hb
  clear kX00 kX01 kX02 kX10 kX11 kX12
  obtain ⟨kX00,kX01,kX02,-,-,-,-⟩ := X0.out
  obtain ⟨kX10,kX11,kX12,-,-,-,-⟩ := X1.out
  go_wp2
  exact bodyPost_ret (v := .int .i64 T) (by simp [results,Tryz.results18,go_sem, *]) rfl ⟨rfl,HB.out⟩
theorem rcmpR (k1 j1 k2 j2 K J : Nat) (T : Int) (p1 p2 : Rat) {s t : Bool} {a b a' b' : Option Addr} {n c m d n' c' m' d' : Nat} {xs ys us vs : List Nat} {w : World} (h0 : Row w a n c xs) (h1 : Row w b m d ys) (h2 : Row w a' n' c' us) (h3 : Row w b' m' d' vs) (hp : mkRat (sv s (val xs)) (val ys) = p1) (hq : mkRat (sv t (val us)) (val vs) = p2) (hn : n≤k1) (hm : m≤j1) (hn' : n'≤k2) (hm' : m'≤j2) (h1a : 2≤k1) (h1b : 2≤j1) (h2a : 2≤k2) (h2b : 2≤j2) (h1k : k1≤34) (h1j : j1≤34) (h2k : k2≤34) (h2j : j2≤34) (hK : k1 + j2 + 1≤K) (hK2 : k2 + j1 + 1≤K) (hJ : j1 + j2≤J) (hK9 : K≤70) (hJ9 : J≤70) (hr : cmpR p1 p2 = T) :
    Calls Tryz.prog 18 #[.agg #[.bool s,.slice a n c,.slice b m d],.agg #[.bool t,.slice a' n' c',.slice b' m' d']] w fun e w' => e = .returned (.int .i64 T)∧Below w.heap.size w w' := by
  by_cases c1 : n≤1∧m = 1∧0 < val ys∧val ys < 1073741824∧val xs < 1073741824
  · by_cases c2 : n'≤1∧m' = 1∧0 < val vs∧val vs < 1073741824∧val us < 1073741824
    · obtain ⟨x0,x1,y0,y1,y2⟩ := quick_bounds (s := s) c1
      obtain ⟨u0,u1,v0,v1,v2⟩ := quick_bounds (s := t) c2
      obtain ⟨X,hX⟩ : ∃ X,sv s (val xs) = X := ⟨_,rfl⟩
      obtain ⟨Y,hY⟩ : ∃ Y : Int,(val ys : Int) = Y := ⟨_,rfl⟩
      obtain ⟨U,hU⟩ : ∃ U,sv t (val us) = U := ⟨_,rfl⟩
      obtain ⟨V,hV⟩ : ∃ V : Int,(val vs : Int) = V := ⟨_,rfl⟩
      have q1 : ∀ W,Row W a n c xs→Row W b m d ys→Calls Tryz.prog 58 #[.agg #[.bool s,.slice a n c,.slice b m d]] W (QuickYes X Y W) := fun W r0 r1 => by rw [←hX,←hY];exact quickY c1 W r0 r1
      have q2 : ∀ W,Row W a' n' c' us→Row W b' m' d' vs→Calls Tryz.prog 58 #[.agg #[.bool t,.slice a' n' c',.slice b' m' d']] W (QuickYes U V W) := fun W r0 r1 => by rw [←hU,←hV];exact quickY c2 W r0 r1
      rw [hX] at x0 x1 hp
      rw [hU] at u0 u1 hq
      rw [hY] at y0 y1 y2
      rw [hV] at v0 v1 v2
      have hy : val ys = Y.natAbs := by omega
      have hv : val vs = V.natAbs := by omega
      rw [hy] at hp
      rw [hv] at hq
      have m1 := mul_lt_bound (by omega) x0 x1 v0 v1
      have m2 := mul_lt_bound (by omega) u0 u1 y0 y1
      have hs : cmpZ (X * V) (U * Y) = T := by
        have ey : ((Y.natAbs : Nat) : Int) = Y := by omega
        have ev : ((V.natAbs : Nat) : Int) = V := by omega
        have := cmp_raw (by omega) (by omega) hp hq
        rw [ey,ev] at this
        rw [this];exact hr
      rcases cmpZ_T hs with ⟨hc,rfl⟩ | ⟨hc,rfl⟩ | ⟨hc,rfl⟩
      · exact rcmpR_small_l h0 h1 h2 h3 X Y q1 U V q2 (X * V) (U * Y) rfl rfl (by omega) (by omega) (by omega) (by omega) hc
      · exact rcmpR_small_e h0 h1 h2 h3 X Y q1 U V q2 (X * V) (U * Y) rfl rfl (by omega) (by omega) (by omega) (by omega) hc
      · exact rcmpR_small_g h0 h1 h2 h3 X Y q1 U V q2 (X * V) (U * Y) rfl rfl (by omega) (by omega) (by omega) (by omega) hc
    · exact rcmpR_yn k1 j1 k2 j2 K J T p1 p2 h0 h1 h2 h3 hp hq _ _ (quickY c1) (quickN c2) hn hm hn' hm' h1a h1b h2a h2b h1k h1j h2k h2j hK hK2 hJ hK9 hJ9 hr
  · by_cases c2 : n'≤1∧m' = 1∧0 < val vs∧val vs < 1073741824∧val us < 1073741824
    · exact rcmpR_ny k1 j1 k2 j2 K J T p1 p2 h0 h1 h2 h3 hp hq (quickN c1) _ _ (quickY c2) hn hm hn' hm' h1a h1b h2a h2b h1k h1j h2k h2j hK hK2 hJ hK9 hJ9 hr
    · exact rcmpR_nn k1 j1 k2 j2 K J T p1 p2 h0 h1 h2 h3 hp hq (quickN c1) (quickN c2) hn hm hn' hm' h1a h1b h2a h2b h1k h1j h2k h2j hK hK2 hJ hK9 hJ9 hr
end Go.Proofs.YtkcgikoploohkaaGreatDoor
