/- What the answer's Div tells. -/
import Derived.Test.YtmoplgfmngohgaaGreatQJ
import Derived.Test.YtmoplgfmngohgaaGreatQL
import Derived.Deep.RegionHeld3
namespace Go.Proofs.YtmoplgfmngohgaaGreat
set_option linter.unusedVariables false
set_option linter.unusedSimpArgs false
set_option maxRecDepth 100000
open Go.RowKit Nums

theorem rdiv_pos {X Y U V : Int} {p q : Rat} (hY : 0 < Y) (hV : 0 < V) (hp : mkRat X Y.natAbs = p) (hq : mkRat U V.natAbs = q) (hU : 0 < U) : mkRat (X * V) (Y * U).natAbs = p / q := by
  have ey : ((Y.natAbs : Nat) : Int) = Y := by omega
  have ev : ((V.natAbs : Nat) : Int) = V := by omega
  have h := div_raw (by omega) (by omega) hp hq
  rw [ey, ev] at h
  have hpos := Int.mul_pos hU hY
  have m := make_div (X := X * V) (Y := U * Y) (by omega)
  rw [if_neg (by omega), h] at m
  rw [Int.mul_comm Y U]; exact m

theorem rdiv_neg {X Y U V : Int} {p q : Rat} (hY : 0 < Y) (hV : 0 < V) (hp : mkRat X Y.natAbs = p) (hq : mkRat U V.natAbs = q) (hU : U < 0) : mkRat (-X * V) (-Y * U).natAbs = p / q := by
  have ey : ((Y.natAbs : Nat) : Int) = Y := by omega
  have ev : ((V.natAbs : Nat) : Int) = V := by omega
  have h := div_raw (by omega) (by omega) hp hq
  rw [ey, ev] at h
  have hneg := Int.mul_neg_of_neg_of_pos hU hY
  have m := make_div (X := X * V) (Y := U * Y) (by omega)
  rw [if_pos (by omega), h] at m
  rw [Int.neg_mul, Int.neg_mul, Int.natAbs_neg, Int.mul_comm Y U]; exact m

set_option maxHeartbeats 8000000 in
theorem rdivR_small_p (q : Rat) {s t : Bool} {a b a' b' : Option Addr} {n c m d n' c' m' d' : Nat} {xs ys us vs : List Nat} {w : World} (h0 : Row w a n c xs) (h1 : Row w b m d ys) (h2 : Row w a' n' c' us) (h3 : Row w b' m' d' vs) (X Y : Int) (hc0 : ∀ W, Row W a n c xs → Row W b m d ys → Calls Tryz.prog 39 #[.agg #[.bool s, .slice a n c, .slice b m d]] W (QuickYes X Y W)) (U V : Int) (hc1 : ∀ W, Row W a' n' c' us → Row W b' m' d' vs → Calls Tryz.prog 39 #[.agg #[.bool t, .slice a' n' c', .slice b' m' d']] W (QuickYes U V W)) (E F : Int) (hE : X * V = E) (hF : Y * U = F) (hU : 0 < U) (x0 : -1073741824 < X) (x1 : X < 1073741824) (y0 : -1073741824 < Y) (y1 : Y < 1073741824) (e0 : -4611686018427387904 < E) (e1 : E < 4611686018427387904) (f0 : 0 < F) (f1 : F < 4611686018427387904) (hq : mkRat E F.natAbs = q) :
    Calls Tryz.prog 26 #[.agg #[.bool s, .slice a n c, .slice b m d], .agg #[.bool t, .slice a' n' c', .slice b' m' d']] w (RatOk 2 2 q w) := by
  have HB := Lib.hid (below_three w (.cells #[.bool s, .slice a n c, .slice b m d] 27) (.cells #[.bool t, .slice a' n' c', .slice b' m' d'] 27) (.cells #[.bool false, .slice none 0 0, .slice none 0 0] 27))
  have X0 : Hid (Tri (((w.alloc (.cells #[.bool s, .slice a n c, .slice b m d] 27)).alloc (.cells #[.bool t, .slice a' n' c', .slice b' m' d'] 27)).alloc (.cells #[.bool false, .slice none 0 0, .slice none 0 0] 27)) (w.heap.size) (.bool s) (.slice a n c) (.slice b m d)) := (((tri_new _ (.bool s) (.slice a n c) (.slice b m d)).alloc _).alloc _)
  have X1 : Hid (Tri (((w.alloc (.cells #[.bool s, .slice a n c, .slice b m d] 27)).alloc (.cells #[.bool t, .slice a' n' c', .slice b' m' d'] 27)).alloc (.cells #[.bool false, .slice none 0 0, .slice none 0 0] 27)) (w.heap.size + 1) (.bool t) (.slice a' n' c') (.slice b' m' d')) := ((tri_newE (by simp)).alloc _)
  have Z : Hid (Tri (((w.alloc (.cells #[.bool s, .slice a n c, .slice b m d] 27)).alloc (.cells #[.bool t, .slice a' n' c', .slice b' m' d'] 27)).alloc (.cells #[.bool false, .slice none 0 0, .slice none 0 0] 27)) (w.heap.size + 2) (.bool false) (.slice none 0 0) (.slice none 0 0)) := (tri_newE (by simp; try omega))
  have R0 := Lib.hid (h0.later HB.out); clear h0
  have R1 := Lib.hid (h1.later HB.out); clear h1
  have R2 := Lib.hid (h2.later HB.out); clear h2
  have R3 := Lib.hid (h3.later HB.out); clear h3
  have W1 := Lib.hid (show wrap64 (X * V) = E by rw [hE]; unfold wrap64; omega)
  have W2 := Lib.hid (show wrap64 (Y * U) = F by rw [hF]; unfold wrap64; omega)
  have W3 := W1
  have W4 := W2
  have HU := Lib.hid hU; clear hU
  have C0 := Lib.hid hc0; clear hc0
  have C1 := Lib.hid hc1; clear hc1
  have HQ := Lib.hid hq; clear hq
  have BE := Lib.hid (And.intro e0 (And.intro e1 (And.intro f0 f1)))
  clear hE hF e0 e1 f0 f1 x0 x1 y0 y1
  go_enter Tryz.func26, Tryz.ntmps26
  go_wp2_with fail
  refine (C0.out _ R0.out R1.out).mono ?_
  rintro e w1 ⟨rfl, hb⟩
  clear R0
  clear R1
  replace R2 := Lib.hid (R2.out.later hb)
  replace R3 := Lib.hid (R3.out.later hb)
  replace X0 := Lib.hid (X0.out.later hb)
  replace X1 := Lib.hid (X1.out.later hb)
  replace Z := Lib.hid (Z.out.later hb)
  replace HB := Lib.hid (bthen HB.out hb)
  clear hb
  obtain ⟨kX00, kX01, kX02, -, -, -, -⟩ := X0.out
  obtain ⟨kX10, kX11, kX12, -, -, -, -⟩ := X1.out
  obtain ⟨kZ0, kZ1, kZ2, -, -, -, -⟩ := Z.out
  go_wp2_with fail
  refine (C1.out _ R2.out R3.out).mono ?_
  rintro e w2 ⟨rfl, hb⟩
  clear R2
  clear R3
  replace X0 := Lib.hid (X0.out.later hb)
  replace X1 := Lib.hid (X1.out.later hb)
  replace Z := Lib.hid (Z.out.later hb)
  replace HB := Lib.hid (bthen HB.out hb)
  clear hb
  clear kX00 kX01 kX02 kX10 kX11 kX12 kZ0 kZ1 kZ2
  obtain ⟨kX00, kX01, kX02, -, -, -, -⟩ := X0.out
  obtain ⟨kX10, kX11, kX12, -, -, -, -⟩ := X1.out
  obtain ⟨kZ0, kZ1, kZ2, kZ3, kZ4, kZ5, kZ6⟩ := Z.out
  have tu := HU.out
  go_wp2_with fail
  try go_quiet (fail)
  try go_wp2_with fail
  try go_quiet (fail)
  try go_wp2_with fail
  first | rw [W1.out, W2.out] | rw [W3.out, W4.out]
  refine (toldR q E F _ BE.out.1 BE.out.2.1 BE.out.2.2.1 BE.out.2.2.2 HQ.out).mono ?_
  rintro e w3 ⟨ar, nr, cr, br, mr, dr, rfl, h2, h3, hr, hr2, hb⟩
  replace X0 := Lib.hid (X0.out.later hb)
  replace X1 := Lib.hid (X1.out.later hb)
  replace Z := Lib.hid (Z.out.later hb)
  replace HB := Lib.hid (bthen HB.out hb)
  clear hb
  clear kX00 kX01 kX02 kX10 kX11 kX12 kZ0 kZ1 kZ2 kZ3 kZ4 kZ5 kZ6
  have RA := Lib.hid hr; clear hr
  have RB := Lib.hid hr2; clear hr2
  obtain ⟨kX00, kX01, kX02, -, -, -, -⟩ := X0.out
  obtain ⟨kX10, kX11, kX12, -, -, -, -⟩ := X1.out
  obtain ⟨kZ0, kZ1, kZ2, kZ3, kZ4, kZ5, kZ6⟩ := Z.out
  go_wp2
  exact bodyPost_ret (v := .tuple #[.agg #[.bool (decide (q.num < 0)), .slice ar nr cr, .slice br mr dr], .int .i64 0]) (by simp [results, Tryz.results26, go_sem, *]) rfl
      ⟨ar, nr, cr, br, mr, dr, rfl, h2, h3, RA.out.put3 Z.out _ _ _, RB.out.put3 Z.out _ _ _, below_put3 HB.out (by omega) _ _ _⟩

set_option maxHeartbeats 8000000 in
theorem rdivR_small_n (q : Rat) {s t : Bool} {a b a' b' : Option Addr} {n c m d n' c' m' d' : Nat} {xs ys us vs : List Nat} {w : World} (h0 : Row w a n c xs) (h1 : Row w b m d ys) (h2 : Row w a' n' c' us) (h3 : Row w b' m' d' vs) (X Y : Int) (hc0 : ∀ W, Row W a n c xs → Row W b m d ys → Calls Tryz.prog 39 #[.agg #[.bool s, .slice a n c, .slice b m d]] W (QuickYes X Y W)) (U V : Int) (hc1 : ∀ W, Row W a' n' c' us → Row W b' m' d' vs → Calls Tryz.prog 39 #[.agg #[.bool t, .slice a' n' c', .slice b' m' d']] W (QuickYes U V W)) (E F : Int) (hE : -X * V = E) (hF : -Y * U = F) (hU : U < 0) (x0 : -1073741824 < X) (x1 : X < 1073741824) (y0 : -1073741824 < Y) (y1 : Y < 1073741824) (e0 : -4611686018427387904 < E) (e1 : E < 4611686018427387904) (f0 : 0 < F) (f1 : F < 4611686018427387904) (hq : mkRat E F.natAbs = q) :
    Calls Tryz.prog 26 #[.agg #[.bool s, .slice a n c, .slice b m d], .agg #[.bool t, .slice a' n' c', .slice b' m' d']] w (RatOk 2 2 q w) := by
  have HB := Lib.hid (below_three w (.cells #[.bool s, .slice a n c, .slice b m d] 27) (.cells #[.bool t, .slice a' n' c', .slice b' m' d'] 27) (.cells #[.bool false, .slice none 0 0, .slice none 0 0] 27))
  have X0 : Hid (Tri (((w.alloc (.cells #[.bool s, .slice a n c, .slice b m d] 27)).alloc (.cells #[.bool t, .slice a' n' c', .slice b' m' d'] 27)).alloc (.cells #[.bool false, .slice none 0 0, .slice none 0 0] 27)) (w.heap.size) (.bool s) (.slice a n c) (.slice b m d)) := (((tri_new _ (.bool s) (.slice a n c) (.slice b m d)).alloc _).alloc _)
  have X1 : Hid (Tri (((w.alloc (.cells #[.bool s, .slice a n c, .slice b m d] 27)).alloc (.cells #[.bool t, .slice a' n' c', .slice b' m' d'] 27)).alloc (.cells #[.bool false, .slice none 0 0, .slice none 0 0] 27)) (w.heap.size + 1) (.bool t) (.slice a' n' c') (.slice b' m' d')) := ((tri_newE (by simp)).alloc _)
  have Z : Hid (Tri (((w.alloc (.cells #[.bool s, .slice a n c, .slice b m d] 27)).alloc (.cells #[.bool t, .slice a' n' c', .slice b' m' d'] 27)).alloc (.cells #[.bool false, .slice none 0 0, .slice none 0 0] 27)) (w.heap.size + 2) (.bool false) (.slice none 0 0) (.slice none 0 0)) := (tri_newE (by simp; try omega))
  have R0 := Lib.hid (h0.later HB.out); clear h0
  have R1 := Lib.hid (h1.later HB.out); clear h1
  have R2 := Lib.hid (h2.later HB.out); clear h2
  have R3 := Lib.hid (h3.later HB.out); clear h3
  have n1 : wrap64 (-X) = -X := by unfold wrap64; omega
  have n2 : wrap64 (-Y) = -Y := by unfold wrap64; omega
  have W1 := Lib.hid (show wrap64 (wrap64 (-X) * V) = E by rw [n1, hE]; unfold wrap64; omega)
  have W2 := Lib.hid (show wrap64 (wrap64 (-Y) * U) = F by rw [n2, hF]; unfold wrap64; omega)
  have W3 := Lib.hid (show wrap64 (-X * V) = E by rw [hE]; unfold wrap64; omega)
  have W4 := Lib.hid (show wrap64 (-Y * U) = F by rw [hF]; unfold wrap64; omega)
  clear n1 n2
  have HU := Lib.hid hU; clear hU
  have C0 := Lib.hid hc0; clear hc0
  have C1 := Lib.hid hc1; clear hc1
  have HQ := Lib.hid hq; clear hq
  have BE := Lib.hid (And.intro e0 (And.intro e1 (And.intro f0 f1)))
  clear hE hF e0 e1 f0 f1 x0 x1 y0 y1
  go_enter Tryz.func26, Tryz.ntmps26
  go_wp2_with fail
  refine (C0.out _ R0.out R1.out).mono ?_
  rintro e w1 ⟨rfl, hb⟩
  clear R0
  clear R1
  replace R2 := Lib.hid (R2.out.later hb)
  replace R3 := Lib.hid (R3.out.later hb)
  replace X0 := Lib.hid (X0.out.later hb)
  replace X1 := Lib.hid (X1.out.later hb)
  replace Z := Lib.hid (Z.out.later hb)
  replace HB := Lib.hid (bthen HB.out hb)
  clear hb
  obtain ⟨kX00, kX01, kX02, -, -, -, -⟩ := X0.out
  obtain ⟨kX10, kX11, kX12, -, -, -, -⟩ := X1.out
  obtain ⟨kZ0, kZ1, kZ2, -, -, -, -⟩ := Z.out
  go_wp2_with fail
  refine (C1.out _ R2.out R3.out).mono ?_
  rintro e w2 ⟨rfl, hb⟩
  clear R2
  clear R3
  replace X0 := Lib.hid (X0.out.later hb)
  replace X1 := Lib.hid (X1.out.later hb)
  replace Z := Lib.hid (Z.out.later hb)
  replace HB := Lib.hid (bthen HB.out hb)
  clear hb
  clear kX00 kX01 kX02 kX10 kX11 kX12 kZ0 kZ1 kZ2
  obtain ⟨kX00, kX01, kX02, -, -, -, -⟩ := X0.out
  obtain ⟨kX10, kX11, kX12, -, -, -, -⟩ := X1.out
  obtain ⟨kZ0, kZ1, kZ2, kZ3, kZ4, kZ5, kZ6⟩ := Z.out
  have tu := HU.out
  have tv : decide (0 < U) = false := decide_eq_false (by omega)
  go_wp2_with fail
  try go_quiet (fail)
  try go_wp2_with fail
  try go_quiet (fail)
  try go_wp2_with fail
  first | rw [W1.out, W2.out] | rw [W3.out, W4.out]
  refine (toldR q E F _ BE.out.1 BE.out.2.1 BE.out.2.2.1 BE.out.2.2.2 HQ.out).mono ?_
  rintro e w3 ⟨ar, nr, cr, br, mr, dr, rfl, h2, h3, hr, hr2, hb⟩
  replace X0 := Lib.hid (X0.out.later hb)
  replace X1 := Lib.hid (X1.out.later hb)
  replace Z := Lib.hid (Z.out.later hb)
  replace HB := Lib.hid (bthen HB.out hb)
  clear hb
  clear kX00 kX01 kX02 kX10 kX11 kX12 kZ0 kZ1 kZ2 kZ3 kZ4 kZ5 kZ6
  have RA := Lib.hid hr; clear hr
  have RB := Lib.hid hr2; clear hr2
  obtain ⟨kX00, kX01, kX02, -, -, -, -⟩ := X0.out
  obtain ⟨kX10, kX11, kX12, -, -, -, -⟩ := X1.out
  obtain ⟨kZ0, kZ1, kZ2, kZ3, kZ4, kZ5, kZ6⟩ := Z.out
  go_wp2
  exact bodyPost_ret (v := .tuple #[.agg #[.bool (decide (q.num < 0)), .slice ar nr cr, .slice br mr dr], .int .i64 0]) (by simp [results, Tryz.results26, go_sem, *]) rfl
      ⟨ar, nr, cr, br, mr, dr, rfl, h2, h3, RA.out.put3 Z.out _ _ _, RB.out.put3 Z.out _ _ _, below_put3 HB.out (by omega) _ _ _⟩

set_option maxHeartbeats 16000000 in
theorem rdivR_nn (k1 j1 k2 j2 K J : Nat) (q p1 p2 : Rat) {s t : Bool} {a b a' b' : Option Addr} {n c m d n' c' m' d' : Nat} {xs ys us vs : List Nat} {w : World} (h0 : Row w a n c xs) (h1 : Row w b m d ys) (h2 : Row w a' n' c' us) (h3 : Row w b' m' d' vs) (hp : mkRat (sv s (val xs)) (val ys) = p1) (hq : mkRat (sv t (val us)) (val vs) = p2) (hc0 : ∀ W, Row W a n c xs → Row W b m d ys → Calls Tryz.prog 39 #[.agg #[.bool s, .slice a n c, .slice b m d]] W (QuickNo W)) (hc1 : ∀ W, Row W a' n' c' us → Row W b' m' d' vs → Calls Tryz.prog 39 #[.agg #[.bool t, .slice a' n' c', .slice b' m' d']] W (QuickNo W)) (hn : n ≤ k1) (hm : m ≤ j1) (hn' : n' ≤ k2) (hm' : m' ≤ j2) (h1a : 2 ≤ k1) (h1b : 2 ≤ j1) (h2a : 2 ≤ k2) (h2b : 2 ≤ j2) (h1k : k1 ≤ 20) (h1j : j1 ≤ 20) (h2k : k2 ≤ 20) (h2j : j2 ≤ 20) (hK : k1 + j2 ≤ K) (hJ : j1 + k2 ≤ J) (hK9 : K ≤ 60) (hJ9 : J ≤ 60) (hz : p2 ≠ 0) (hr : p1 / p2 = q) :
    Calls Tryz.prog 26 #[.agg #[.bool s, .slice a n c, .slice b m d], .agg #[.bool t, .slice a' n' c', .slice b' m' d']] w (RatOk K J q w) := by
  have HZ := Lib.hid hz; clear hz
  have HRR := Lib.hid hr; clear hr
  have HB := Lib.hid (below_three w (.cells #[.bool s, .slice a n c, .slice b m d] 27) (.cells #[.bool t, .slice a' n' c', .slice b' m' d'] 27) (.cells #[.bool false, .slice none 0 0, .slice none 0 0] 27))
  have X0 : Hid (Tri (((w.alloc (.cells #[.bool s, .slice a n c, .slice b m d] 27)).alloc (.cells #[.bool t, .slice a' n' c', .slice b' m' d'] 27)).alloc (.cells #[.bool false, .slice none 0 0, .slice none 0 0] 27)) (w.heap.size) (.bool s) (.slice a n c) (.slice b m d)) := (((tri_new _ (.bool s) (.slice a n c) (.slice b m d)).alloc _).alloc _)
  have X1 : Hid (Tri (((w.alloc (.cells #[.bool s, .slice a n c, .slice b m d] 27)).alloc (.cells #[.bool t, .slice a' n' c', .slice b' m' d'] 27)).alloc (.cells #[.bool false, .slice none 0 0, .slice none 0 0] 27)) (w.heap.size + 1) (.bool t) (.slice a' n' c') (.slice b' m' d')) := ((tri_newE (by simp)).alloc _)
  have Z : Hid (Tri (((w.alloc (.cells #[.bool s, .slice a n c, .slice b m d] 27)).alloc (.cells #[.bool t, .slice a' n' c', .slice b' m' d'] 27)).alloc (.cells #[.bool false, .slice none 0 0, .slice none 0 0] 27)) (w.heap.size + 2) (.bool false) (.slice none 0 0) (.slice none 0 0)) := (tri_newE (by simp; try omega))
  have R0 := Lib.hid (h0.later HB.out); clear h0
  have R1 := Lib.hid (h1.later HB.out); clear h1
  have R2 := Lib.hid (h2.later HB.out); clear h2
  have R3 := Lib.hid (h3.later HB.out); clear h3
  have C0 := Lib.hid hc0; clear hc0
  have C1 := Lib.hid hc1; clear hc1
  have HQ0 := Lib.hid hp; clear hp
  have HQ1 := Lib.hid hq; clear hq
  go_enter Tryz.func26, Tryz.ntmps26
  go_wp2_with fail
  refine (C0.out _ R0.out R1.out).mono ?_
  rintro e w1 ⟨rfl, hb⟩
  replace R0 := Lib.hid (R0.out.later hb)
  replace R1 := Lib.hid (R1.out.later hb)
  replace R2 := Lib.hid (R2.out.later hb)
  replace R3 := Lib.hid (R3.out.later hb)
  replace X0 := Lib.hid (X0.out.later hb)
  replace X1 := Lib.hid (X1.out.later hb)
  replace Z := Lib.hid (Z.out.later hb)
  replace HB := Lib.hid (bthen HB.out hb)
  clear hb
  obtain ⟨kX00, kX01, kX02, -, -, -, -⟩ := X0.out
  obtain ⟨kX10, kX11, kX12, -, -, -, -⟩ := X1.out
  obtain ⟨kZ0, kZ1, kZ2, -, -, -, -⟩ := Z.out
  go_wp2_with fail
  refine (C1.out _ R2.out R3.out).mono ?_
  rintro e w2 ⟨rfl, hb⟩
  replace R0 := Lib.hid (R0.out.later hb)
  replace R1 := Lib.hid (R1.out.later hb)
  replace R2 := Lib.hid (R2.out.later hb)
  replace R3 := Lib.hid (R3.out.later hb)
  replace X0 := Lib.hid (X0.out.later hb)
  replace X1 := Lib.hid (X1.out.later hb)
  replace Z := Lib.hid (Z.out.later hb)
  replace HB := Lib.hid (bthen HB.out hb)
  clear hb
  clear kX00 kX01 kX02 kX10 kX11 kX12 kZ0 kZ1 kZ2
  obtain ⟨kX00, kX01, kX02, kX03, kX04, kX05, kX06⟩ := X0.out
  obtain ⟨kX10, kX11, kX12, -, -, -, -⟩ := X1.out
  obtain ⟨kZ0, kZ1, kZ2, -, -, -, -⟩ := Z.out
  go_wp2_with fail
  refine (rnormR k1 j1 p1 R0.out R1.out HQ0.out hn hm (by omega) (by omega) (by omega) (by omega)).mono ?_
  rintro e w3 ⟨a1, n1, c1, b1, m1, d1, rfl, hn1, hm1, hr, hr2, hb⟩
  clear R0
  clear R1
  replace R2 := Lib.hid (R2.out.later hb)
  replace R3 := Lib.hid (R3.out.later hb)
  replace X0 := Lib.hid (X0.out.later hb)
  replace X1 := Lib.hid (X1.out.later hb)
  replace Z := Lib.hid (Z.out.later hb)
  replace HB := Lib.hid (bthen HB.out hb)
  clear hb
  clear kX00 kX01 kX02 kX03 kX04 kX05 kX06 kX10 kX11 kX12 kZ0 kZ1 kZ2
  have RN1 := Lib.hid hr; clear hr
  have RD1 := Lib.hid hr2; clear hr2
  obtain ⟨kX00, kX01, kX02, kX03, kX04, kX05, kX06⟩ := X0.out
  obtain ⟨kX10, kX11, kX12, kX13, kX14, kX15, kX16⟩ := X1.out
  obtain ⟨kZ0, kZ1, kZ2, -, -, -, -⟩ := Z.out
  have X0' := Lib.hid X0.out
  replace R2 := Lib.hid (R2.out.put3 X0'.out (.bool (decide (p1.num < 0))) (.slice a1 n1 c1) (.slice b1 m1 d1))
  replace R3 := Lib.hid (R3.out.put3 X0'.out (.bool (decide (p1.num < 0))) (.slice a1 n1 c1) (.slice b1 m1 d1))
  replace RN1 := Lib.hid (RN1.out.put3 X0'.out (.bool (decide (p1.num < 0))) (.slice a1 n1 c1) (.slice b1 m1 d1))
  replace RD1 := Lib.hid (RD1.out.put3 X0'.out (.bool (decide (p1.num < 0))) (.slice a1 n1 c1) (.slice b1 m1 d1))
  replace X0 := Lib.hid (X0.out.put (.bool (decide (p1.num < 0))) (.slice a1 n1 c1) (.slice b1 m1 d1))
  replace X1 := Lib.hid (X1.out.far (g' := w.heap.size) (by omega) (.bool (decide (p1.num < 0))) (.slice a1 n1 c1) (.slice b1 m1 d1))
  replace Z := Lib.hid (Z.out.far (g' := w.heap.size) (by omega) (.bool (decide (p1.num < 0))) (.slice a1 n1 c1) (.slice b1 m1 d1))
  replace HB := Lib.hid (below_put3 (g := w.heap.size) HB.out (by omega) (.bool (decide (p1.num < 0))) (.slice a1 n1 c1) (.slice b1 m1 d1))
  clear X0'
  go_wp2_with fail
  refine (rnormR k2 j2 p2 R2.out R3.out HQ1.out hn' hm' (by omega) (by omega) (by omega) (by omega)).mono ?_
  rintro e w4 ⟨a2, n2, c2, b2, m2, d2, rfl, hn2, hm2, hr, hr2, hb⟩
  clear R2
  clear R3
  replace RN1 := Lib.hid (RN1.out.later hb)
  replace RD1 := Lib.hid (RD1.out.later hb)
  replace X0 := Lib.hid (X0.out.later hb)
  replace X1 := Lib.hid (X1.out.later hb)
  replace Z := Lib.hid (Z.out.later hb)
  replace HB := Lib.hid (bthen HB.out hb)
  clear hb
  clear kX00 kX01 kX02 kX03 kX04 kX05 kX06 kX10 kX11 kX12 kX13 kX14 kX15 kX16 kZ0 kZ1 kZ2
  have RN2 := Lib.hid hr; clear hr
  have RD2 := Lib.hid hr2; clear hr2
  obtain ⟨kX00, kX01, kX02, -, -, -, -⟩ := X0.out
  obtain ⟨kX10, kX11, kX12, kX13, kX14, kX15, kX16⟩ := X1.out
  obtain ⟨kZ0, kZ1, kZ2, -, -, -, -⟩ := Z.out
  have X0' := Lib.hid X1.out
  replace RN1 := Lib.hid (RN1.out.put3 X0'.out (.bool (decide (p2.num < 0))) (.slice a2 n2 c2) (.slice b2 m2 d2))
  replace RD1 := Lib.hid (RD1.out.put3 X0'.out (.bool (decide (p2.num < 0))) (.slice a2 n2 c2) (.slice b2 m2 d2))
  replace RN2 := Lib.hid (RN2.out.put3 X0'.out (.bool (decide (p2.num < 0))) (.slice a2 n2 c2) (.slice b2 m2 d2))
  replace RD2 := Lib.hid (RD2.out.put3 X0'.out (.bool (decide (p2.num < 0))) (.slice a2 n2 c2) (.slice b2 m2 d2))
  replace X0 := Lib.hid (X0.out.far (g' := w.heap.size + 1) (by omega) (.bool (decide (p2.num < 0))) (.slice a2 n2 c2) (.slice b2 m2 d2))
  replace X1 := Lib.hid (X1.out.put (.bool (decide (p2.num < 0))) (.slice a2 n2 c2) (.slice b2 m2 d2))
  replace Z := Lib.hid (Z.out.far (g' := w.heap.size + 1) (by omega) (.bool (decide (p2.num < 0))) (.slice a2 n2 c2) (.slice b2 m2 d2))
  replace HB := Lib.hid (below_put3 (g := w.heap.size + 1) HB.out (by omega) (.bool (decide (p2.num < 0))) (.slice a2 n2 c2) (.slice b2 m2 d2))
  clear X0'
  have e1 : (limbs p1.num.natAbs).length ≤ k1 := by have := RN1.out.1; omega
  have e2 : (limbs p2.num.natAbs).length ≤ k2 := by have := RN2.out.1; omega
  have e3 : (limbs p1.den).length ≤ j1 := by have := RD1.out.1; omega
  have e4 : (limbs p2.den).length ≤ j2 := by have := RD2.out.1; omega
  obtain ⟨P, hP⟩ : ∃ P, p1.num * (p2.den : Int) = P := ⟨_, rfl⟩
  obtain ⟨Q, hQ⟩ : ∃ Q, p2.num * (p1.den : Int) = Q := ⟨_, rfl⟩
  have hQ' : (p1.den : Int) * p2.num = Q := by rw [Int.mul_comm]; exact hQ
  have LP := Lib.hid (lenZ_le (lenZ_mul e1 (show (limbs ((p2.den : Int)).natAbs).length ≤ j2 by rw [Int.natAbs_natCast]; exact e4) hP) hK)
  have LQ := Lib.hid (lenZ_le (lenZ_mul (show (limbs ((p1.den : Int)).natAbs).length ≤ j1 by rw [Int.natAbs_natCast]; exact e3) e2 hQ') hJ)
  have V1 := Lib.hid (show sv false (val (limbs p1.den)) = (p1.den : Int) by rw [val_limbs]; rfl)
  have V2 := Lib.hid (show sv false (val (limbs p2.den)) = (p2.den : Int) by rw [val_limbs]; rfl)
  have d1p : 0 < p1.den := p1.den_pos
  have d2p : 0 < p2.den := p2.den_pos
  clear e1 e2 e3 e4
  have HY := Lib.hid (show Q ≠ 0 by rw [← hQ]; intro h0; rcases Int.mul_eq_zero.1 h0 with h0 | h0; exact HZ.out ((num_zero d2p (Rat.mkRat_self p2)).1 h0); omega)
  have HD := Lib.hid (show (P : Rat) / (Q : Rat) = q by rw [← hP, ← hQ, div_raw d1p d2p (Rat.mkRat_self p1) (Rat.mkRat_self p2)]; exact HRR.out)
  clear d1p d2p hQ
  have HP := Lib.hid hP; clear hP
  have HQ2 := Lib.hid hQ'; clear hQ'
  go_wp2_with fail
  replace RN1 := Lib.hid RN1.out.drew
  replace RD1 := Lib.hid RD1.out.drew
  replace RN2 := Lib.hid RN2.out.drew
  replace RD2 := Lib.hid RD2.out.drew
  replace X0 := Lib.hid X0.out.drew
  replace X1 := Lib.hid X1.out.drew
  replace Z := Lib.hid Z.out.drew
  replace HB := Lib.hid HB.out.drew
  clear kX00 kX01 kX02 kX10 kX11 kX12 kX13 kX14 kX15 kX16 kZ0 kZ1 kZ2
  obtain ⟨kX00, kX01, kX02, -, -, -, -⟩ := X0.out
  obtain ⟨kX10, kX11, kX12, -, -, -, -⟩ := X1.out
  obtain ⟨kZ0, kZ1, kZ2, kZ3, kZ4, kZ5, kZ6⟩ := Z.out
  go_region_held3 (fun w' => w'.cell? ⟨w.heap.size, 0, none⟩ = some (.bool (decide (p1.num < 0))) ∧ w'.cell? ⟨w.heap.size, 1, none⟩ = some (.slice a1 n1 c1) ∧ w'.cell? ⟨w.heap.size, 2, none⟩ = some (.slice b1 m1 d1) ∧ w'.cell? ⟨w.heap.size + 1, 0, none⟩ = some (.bool (decide (p2.num < 0))) ∧ w'.cell? ⟨w.heap.size + 1, 1, none⟩ = some (.slice a2 n2 c2) ∧ w'.cell? ⟨w.heap.size + 1, 2, none⟩ = some (.slice b2 m2 d2))
    (first | (refine ⟨?_, ?_, ?_, ?_, ?_, ?_⟩ <;> with_reducible assumption) | (go_keep; done) | (refine ⟨?_, ?_, ?_, ?_, ?_, ?_⟩ <;> (repeat rw [cell_other (by first | (simp; done) | (simp; omega))]) <;> with_reducible assumption))
    (first
      | (have mk := G4; clear mk
         go_at_call 47
         refine (rmakeR K J q P Q RP.out RQ.out (sv_limbs _) (sv_limbs _) hnp hnq hK9 (by omega) (by omega) hJ9 HY.out HD.out).mono ?_
         rintro e v5 ⟨ar, nr, cr, br, mr, dr, rfl, h2, h3, hr, hr2, hb⟩
         replace RN1 := Lib.hid (RN1.out.later hb)
         replace RD1 := Lib.hid (RD1.out.later hb)
         replace RN2 := Lib.hid (RN2.out.later hb)
         replace RD2 := Lib.hid (RD2.out.later hb)
         replace RP := Lib.hid (RP.out.later hb)
         replace RQ := Lib.hid (RQ.out.later hb)
         replace X0 := Lib.hid (X0.out.later hb)
         replace X1 := Lib.hid (X1.out.later hb)
         replace Z := Lib.hid (Z.out.later hb)
         replace HB := Lib.hid (bthen HB.out hb); clear hb
         clear kX00 kX01 kX02 kX10 kX11 kX12 kZ0 kZ1 kZ2 kZ3 kZ4 kZ5 kZ6
         obtain ⟨kX00, kX01, kX02, -, -, -, -⟩ := X0.out
         obtain ⟨kX10, kX11, kX12, -, -, -, -⟩ := X1.out
         obtain ⟨kZ0, kZ1, kZ2, kZ3, kZ4, kZ5, kZ6⟩ := Z.out
         have RA := Lib.hid hr; clear hr
         have RB := Lib.hid hr2; clear hr2
         have G5 : Hid True := trivial)
      | (have mk := G3; clear mk
         go_at_call 48
         refine (rmulI J Q RD1.out RN2.out V1.out (sv_limbs _) (by omega) (by omega) HQ2.out LQ.out (by omega)).mono ?_
         rintro e v4 ⟨aq, nq, cq, rfl, hnq, hr, hb⟩
         replace RN1 := Lib.hid (RN1.out.later hb)
         replace RD1 := Lib.hid (RD1.out.later hb)
         replace RN2 := Lib.hid (RN2.out.later hb)
         replace RD2 := Lib.hid (RD2.out.later hb)
         replace RP := Lib.hid (RP.out.later hb)
         replace X0 := Lib.hid (X0.out.later hb)
         replace X1 := Lib.hid (X1.out.later hb)
         replace Z := Lib.hid (Z.out.later hb)
         replace HB := Lib.hid (bthen HB.out hb); clear hb
         clear kX00 kX01 kX02 kX10 kX11 kX12 kZ0 kZ1 kZ2 kZ3 kZ4 kZ5 kZ6
         obtain ⟨kX00, kX01, kX02, -, -, -, -⟩ := X0.out
         obtain ⟨kX10, kX11, kX12, -, -, -, -⟩ := X1.out
         obtain ⟨kZ0, kZ1, kZ2, kZ3, kZ4, kZ5, kZ6⟩ := Z.out
         have RQ := Lib.hid hr; clear hr
         have G4 : Hid True := trivial)
      | (have mk := G2; clear mk
         go_at_call 49
         refine (rden_any _ _ _ _ _ _ _ _).mono ?_
         rintro e v3 ⟨rfl, hb⟩
         replace RN1 := Lib.hid (RN1.out.later hb)
         replace RD1 := Lib.hid (RD1.out.later hb)
         replace RN2 := Lib.hid (RN2.out.later hb)
         replace RD2 := Lib.hid (RD2.out.later hb)
         replace RP := Lib.hid (RP.out.later hb)
         replace X0 := Lib.hid (X0.out.later hb)
         replace X1 := Lib.hid (X1.out.later hb)
         replace Z := Lib.hid (Z.out.later hb)
         replace HB := Lib.hid (bthen HB.out hb); clear hb
         clear kX00 kX01 kX02 kX10 kX11 kX12 kZ0 kZ1 kZ2 kZ3 kZ4 kZ5 kZ6
         obtain ⟨kX00, kX01, kX02, -, -, -, -⟩ := X0.out
         obtain ⟨kX10, kX11, kX12, -, -, -, -⟩ := X1.out
         obtain ⟨kZ0, kZ1, kZ2, kZ3, kZ4, kZ5, kZ6⟩ := Z.out
         have G3 : Hid True := trivial)
      | (have mk := G1; clear mk
         go_at_call 48
         refine (rmulI K P RN1.out RD2.out (sv_limbs _) V2.out (by omega) (by omega) HP.out LP.out (by omega)).mono ?_
         rintro e v2 ⟨ap, np, cp, rfl, hnp, hr, hb⟩
         replace RN1 := Lib.hid (RN1.out.later hb)
         replace RD1 := Lib.hid (RD1.out.later hb)
         replace RN2 := Lib.hid (RN2.out.later hb)
         replace RD2 := Lib.hid (RD2.out.later hb)
         replace X0 := Lib.hid (X0.out.later hb)
         replace X1 := Lib.hid (X1.out.later hb)
         replace Z := Lib.hid (Z.out.later hb)
         replace HB := Lib.hid (bthen HB.out hb); clear hb
         clear kX00 kX01 kX02 kX10 kX11 kX12 kZ0 kZ1 kZ2 kZ3 kZ4 kZ5 kZ6
         obtain ⟨kX00, kX01, kX02, -, -, -, -⟩ := X0.out
         obtain ⟨kX10, kX11, kX12, -, -, -, -⟩ := X1.out
         obtain ⟨kZ0, kZ1, kZ2, kZ3, kZ4, kZ5, kZ6⟩ := Z.out
         have RP := Lib.hid hr; clear hr
         have G2 : Hid True := trivial)
      | (skip
         go_at_call 49
         refine (rden_any _ _ _ _ _ _ _ _).mono ?_
         rintro e v1 ⟨rfl, hb⟩
         replace RN1 := Lib.hid (RN1.out.later hb)
         replace RD1 := Lib.hid (RD1.out.later hb)
         replace RN2 := Lib.hid (RN2.out.later hb)
         replace RD2 := Lib.hid (RD2.out.later hb)
         replace X0 := Lib.hid (X0.out.later hb)
         replace X1 := Lib.hid (X1.out.later hb)
         replace Z := Lib.hid (Z.out.later hb)
         replace HB := Lib.hid (bthen HB.out hb); clear hb
         clear kX00 kX01 kX02 kX10 kX11 kX12 kZ0 kZ1 kZ2 kZ3 kZ4 kZ5 kZ6
         obtain ⟨kX00, kX01, kX02, -, -, -, -⟩ := X0.out
         obtain ⟨kX10, kX11, kX12, -, -, -, -⟩ := X1.out
         obtain ⟨kZ0, kZ1, kZ2, kZ3, kZ4, kZ5, kZ6⟩ := Z.out
         have G1 : Hid True := trivial))
  all_goals
    go_wp2
    exact bodyPost_ret (v := .tuple #[.agg #[.bool (decide (q.num < 0)), .slice ar nr cr, .slice br mr dr], .int .i64 0]) (by simp [results, Tryz.results26, go_sem, *]) rfl
      ⟨ar, nr, cr, br, mr, dr, rfl, h2, h3, RA.out.put3 Z.out _ _ _, RB.out.put3 Z.out _ _ _, below_put3 HB.out (by omega) _ _ _⟩

set_option maxHeartbeats 16000000 in
theorem rdivR_nn0 (k1 j1 k2 j2 K J : Nat) (q p1 p2 : Rat) {s t : Bool} {a b a' b' : Option Addr} {n c m d n' c' m' d' : Nat} {xs ys us vs : List Nat} {w : World} (h0 : Row w a n c xs) (h1 : Row w b m d ys) (h2 : Row w a' n' c' us) (h3 : Row w b' m' d' vs) (hp : mkRat (sv s (val xs)) (val ys) = p1) (hq : mkRat (sv t (val us)) (val vs) = p2) (hc0 : ∀ W, Row W a n c xs → Row W b m d ys → Calls Tryz.prog 39 #[.agg #[.bool s, .slice a n c, .slice b m d]] W (QuickNo W)) (hc1 : ∀ W, Row W a' n' c' us → Row W b' m' d' vs → Calls Tryz.prog 39 #[.agg #[.bool t, .slice a' n' c', .slice b' m' d']] W (QuickNo W)) (hn : n ≤ k1) (hm : m ≤ j1) (hn' : n' ≤ k2) (hm' : m' ≤ j2) (h1a : 2 ≤ k1) (h1b : 2 ≤ j1) (h2a : 2 ≤ k2) (h2b : 2 ≤ j2) (h1k : k1 ≤ 20) (h1j : j1 ≤ 20) (h2k : k2 ≤ 20) (h2j : j2 ≤ 20) (hK : k1 + j2 ≤ K) (hJ : j1 + k2 ≤ J) (hK9 : K ≤ 60) (hJ9 : J ≤ 60) (hz : p2 = 0)  :
    Calls Tryz.prog 26 #[.agg #[.bool s, .slice a n c, .slice b m d], .agg #[.bool t, .slice a' n' c', .slice b' m' d']] w (RatErr 3 w) := by
  have HZ := Lib.hid hz; clear hz
  have HB := Lib.hid (below_three w (.cells #[.bool s, .slice a n c, .slice b m d] 27) (.cells #[.bool t, .slice a' n' c', .slice b' m' d'] 27) (.cells #[.bool false, .slice none 0 0, .slice none 0 0] 27))
  have X0 : Hid (Tri (((w.alloc (.cells #[.bool s, .slice a n c, .slice b m d] 27)).alloc (.cells #[.bool t, .slice a' n' c', .slice b' m' d'] 27)).alloc (.cells #[.bool false, .slice none 0 0, .slice none 0 0] 27)) (w.heap.size) (.bool s) (.slice a n c) (.slice b m d)) := (((tri_new _ (.bool s) (.slice a n c) (.slice b m d)).alloc _).alloc _)
  have X1 : Hid (Tri (((w.alloc (.cells #[.bool s, .slice a n c, .slice b m d] 27)).alloc (.cells #[.bool t, .slice a' n' c', .slice b' m' d'] 27)).alloc (.cells #[.bool false, .slice none 0 0, .slice none 0 0] 27)) (w.heap.size + 1) (.bool t) (.slice a' n' c') (.slice b' m' d')) := ((tri_newE (by simp)).alloc _)
  have Z : Hid (Tri (((w.alloc (.cells #[.bool s, .slice a n c, .slice b m d] 27)).alloc (.cells #[.bool t, .slice a' n' c', .slice b' m' d'] 27)).alloc (.cells #[.bool false, .slice none 0 0, .slice none 0 0] 27)) (w.heap.size + 2) (.bool false) (.slice none 0 0) (.slice none 0 0)) := (tri_newE (by simp; try omega))
  have R0 := Lib.hid (h0.later HB.out); clear h0
  have R1 := Lib.hid (h1.later HB.out); clear h1
  have R2 := Lib.hid (h2.later HB.out); clear h2
  have R3 := Lib.hid (h3.later HB.out); clear h3
  have C0 := Lib.hid hc0; clear hc0
  have C1 := Lib.hid hc1; clear hc1
  have HQ0 := Lib.hid hp; clear hp
  have HQ1 := Lib.hid hq; clear hq
  go_enter Tryz.func26, Tryz.ntmps26
  go_wp2_with fail
  refine (C0.out _ R0.out R1.out).mono ?_
  rintro e w1 ⟨rfl, hb⟩
  replace R0 := Lib.hid (R0.out.later hb)
  replace R1 := Lib.hid (R1.out.later hb)
  replace R2 := Lib.hid (R2.out.later hb)
  replace R3 := Lib.hid (R3.out.later hb)
  replace X0 := Lib.hid (X0.out.later hb)
  replace X1 := Lib.hid (X1.out.later hb)
  replace Z := Lib.hid (Z.out.later hb)
  replace HB := Lib.hid (bthen HB.out hb)
  clear hb
  obtain ⟨kX00, kX01, kX02, -, -, -, -⟩ := X0.out
  obtain ⟨kX10, kX11, kX12, -, -, -, -⟩ := X1.out
  obtain ⟨kZ0, kZ1, kZ2, -, -, -, -⟩ := Z.out
  go_wp2_with fail
  refine (C1.out _ R2.out R3.out).mono ?_
  rintro e w2 ⟨rfl, hb⟩
  replace R0 := Lib.hid (R0.out.later hb)
  replace R1 := Lib.hid (R1.out.later hb)
  replace R2 := Lib.hid (R2.out.later hb)
  replace R3 := Lib.hid (R3.out.later hb)
  replace X0 := Lib.hid (X0.out.later hb)
  replace X1 := Lib.hid (X1.out.later hb)
  replace Z := Lib.hid (Z.out.later hb)
  replace HB := Lib.hid (bthen HB.out hb)
  clear hb
  clear kX00 kX01 kX02 kX10 kX11 kX12 kZ0 kZ1 kZ2
  obtain ⟨kX00, kX01, kX02, kX03, kX04, kX05, kX06⟩ := X0.out
  obtain ⟨kX10, kX11, kX12, -, -, -, -⟩ := X1.out
  obtain ⟨kZ0, kZ1, kZ2, -, -, -, -⟩ := Z.out
  go_wp2_with fail
  refine (rnormR k1 j1 p1 R0.out R1.out HQ0.out hn hm (by omega) (by omega) (by omega) (by omega)).mono ?_
  rintro e w3 ⟨a1, n1, c1, b1, m1, d1, rfl, hn1, hm1, hr, hr2, hb⟩
  clear R0
  clear R1
  replace R2 := Lib.hid (R2.out.later hb)
  replace R3 := Lib.hid (R3.out.later hb)
  replace X0 := Lib.hid (X0.out.later hb)
  replace X1 := Lib.hid (X1.out.later hb)
  replace Z := Lib.hid (Z.out.later hb)
  replace HB := Lib.hid (bthen HB.out hb)
  clear hb
  clear kX00 kX01 kX02 kX03 kX04 kX05 kX06 kX10 kX11 kX12 kZ0 kZ1 kZ2
  have RN1 := Lib.hid hr; clear hr
  have RD1 := Lib.hid hr2; clear hr2
  obtain ⟨kX00, kX01, kX02, kX03, kX04, kX05, kX06⟩ := X0.out
  obtain ⟨kX10, kX11, kX12, kX13, kX14, kX15, kX16⟩ := X1.out
  obtain ⟨kZ0, kZ1, kZ2, -, -, -, -⟩ := Z.out
  have X0' := Lib.hid X0.out
  replace R2 := Lib.hid (R2.out.put3 X0'.out (.bool (decide (p1.num < 0))) (.slice a1 n1 c1) (.slice b1 m1 d1))
  replace R3 := Lib.hid (R3.out.put3 X0'.out (.bool (decide (p1.num < 0))) (.slice a1 n1 c1) (.slice b1 m1 d1))
  replace RN1 := Lib.hid (RN1.out.put3 X0'.out (.bool (decide (p1.num < 0))) (.slice a1 n1 c1) (.slice b1 m1 d1))
  replace RD1 := Lib.hid (RD1.out.put3 X0'.out (.bool (decide (p1.num < 0))) (.slice a1 n1 c1) (.slice b1 m1 d1))
  replace X0 := Lib.hid (X0.out.put (.bool (decide (p1.num < 0))) (.slice a1 n1 c1) (.slice b1 m1 d1))
  replace X1 := Lib.hid (X1.out.far (g' := w.heap.size) (by omega) (.bool (decide (p1.num < 0))) (.slice a1 n1 c1) (.slice b1 m1 d1))
  replace Z := Lib.hid (Z.out.far (g' := w.heap.size) (by omega) (.bool (decide (p1.num < 0))) (.slice a1 n1 c1) (.slice b1 m1 d1))
  replace HB := Lib.hid (below_put3 (g := w.heap.size) HB.out (by omega) (.bool (decide (p1.num < 0))) (.slice a1 n1 c1) (.slice b1 m1 d1))
  clear X0'
  go_wp2_with fail
  refine (rnormR k2 j2 p2 R2.out R3.out HQ1.out hn' hm' (by omega) (by omega) (by omega) (by omega)).mono ?_
  rintro e w4 ⟨a2, n2, c2, b2, m2, d2, rfl, hn2, hm2, hr, hr2, hb⟩
  clear R2
  clear R3
  replace RN1 := Lib.hid (RN1.out.later hb)
  replace RD1 := Lib.hid (RD1.out.later hb)
  replace X0 := Lib.hid (X0.out.later hb)
  replace X1 := Lib.hid (X1.out.later hb)
  replace Z := Lib.hid (Z.out.later hb)
  replace HB := Lib.hid (bthen HB.out hb)
  clear hb
  clear kX00 kX01 kX02 kX03 kX04 kX05 kX06 kX10 kX11 kX12 kX13 kX14 kX15 kX16 kZ0 kZ1 kZ2
  have RN2 := Lib.hid hr; clear hr
  have RD2 := Lib.hid hr2; clear hr2
  obtain ⟨kX00, kX01, kX02, -, -, -, -⟩ := X0.out
  obtain ⟨kX10, kX11, kX12, kX13, kX14, kX15, kX16⟩ := X1.out
  obtain ⟨kZ0, kZ1, kZ2, -, -, -, -⟩ := Z.out
  have X0' := Lib.hid X1.out
  replace RN1 := Lib.hid (RN1.out.put3 X0'.out (.bool (decide (p2.num < 0))) (.slice a2 n2 c2) (.slice b2 m2 d2))
  replace RD1 := Lib.hid (RD1.out.put3 X0'.out (.bool (decide (p2.num < 0))) (.slice a2 n2 c2) (.slice b2 m2 d2))
  replace RN2 := Lib.hid (RN2.out.put3 X0'.out (.bool (decide (p2.num < 0))) (.slice a2 n2 c2) (.slice b2 m2 d2))
  replace RD2 := Lib.hid (RD2.out.put3 X0'.out (.bool (decide (p2.num < 0))) (.slice a2 n2 c2) (.slice b2 m2 d2))
  replace X0 := Lib.hid (X0.out.far (g' := w.heap.size + 1) (by omega) (.bool (decide (p2.num < 0))) (.slice a2 n2 c2) (.slice b2 m2 d2))
  replace X1 := Lib.hid (X1.out.put (.bool (decide (p2.num < 0))) (.slice a2 n2 c2) (.slice b2 m2 d2))
  replace Z := Lib.hid (Z.out.far (g' := w.heap.size + 1) (by omega) (.bool (decide (p2.num < 0))) (.slice a2 n2 c2) (.slice b2 m2 d2))
  replace HB := Lib.hid (below_put3 (g := w.heap.size + 1) HB.out (by omega) (.bool (decide (p2.num < 0))) (.slice a2 n2 c2) (.slice b2 m2 d2))
  clear X0'
  have e1 : (limbs p1.num.natAbs).length ≤ k1 := by have := RN1.out.1; omega
  have e2 : (limbs p2.num.natAbs).length ≤ k2 := by have := RN2.out.1; omega
  have e3 : (limbs p1.den).length ≤ j1 := by have := RD1.out.1; omega
  have e4 : (limbs p2.den).length ≤ j2 := by have := RD2.out.1; omega
  obtain ⟨P, hP⟩ : ∃ P, p1.num * (p2.den : Int) = P := ⟨_, rfl⟩
  obtain ⟨Q, hQ⟩ : ∃ Q, p2.num * (p1.den : Int) = Q := ⟨_, rfl⟩
  have hQ' : (p1.den : Int) * p2.num = Q := by rw [Int.mul_comm]; exact hQ
  have LP := Lib.hid (lenZ_le (lenZ_mul e1 (show (limbs ((p2.den : Int)).natAbs).length ≤ j2 by rw [Int.natAbs_natCast]; exact e4) hP) hK)
  have LQ := Lib.hid (lenZ_le (lenZ_mul (show (limbs ((p1.den : Int)).natAbs).length ≤ j1 by rw [Int.natAbs_natCast]; exact e3) e2 hQ') hJ)
  have V1 := Lib.hid (show sv false (val (limbs p1.den)) = (p1.den : Int) by rw [val_limbs]; rfl)
  have V2 := Lib.hid (show sv false (val (limbs p2.den)) = (p2.den : Int) by rw [val_limbs]; rfl)
  have d1p : 0 < p1.den := p1.den_pos
  have d2p : 0 < p2.den := p2.den_pos
  clear e1 e2 e3 e4
  have HY := Lib.hid (show sgn Q = 0 by rw [← hQ, (num_zero d2p (Rat.mkRat_self p2)).2 HZ.out, Int.zero_mul]; rfl)
  clear d1p d2p hQ
  have HP := Lib.hid hP; clear hP
  have HQ2 := Lib.hid hQ'; clear hQ'
  go_wp2_with fail
  replace RN1 := Lib.hid RN1.out.drew
  replace RD1 := Lib.hid RD1.out.drew
  replace RN2 := Lib.hid RN2.out.drew
  replace RD2 := Lib.hid RD2.out.drew
  replace X0 := Lib.hid X0.out.drew
  replace X1 := Lib.hid X1.out.drew
  replace Z := Lib.hid Z.out.drew
  replace HB := Lib.hid HB.out.drew
  clear kX00 kX01 kX02 kX10 kX11 kX12 kX13 kX14 kX15 kX16 kZ0 kZ1 kZ2
  obtain ⟨kX00, kX01, kX02, -, -, -, -⟩ := X0.out
  obtain ⟨kX10, kX11, kX12, -, -, -, -⟩ := X1.out
  obtain ⟨kZ0, kZ1, kZ2, kZ3, kZ4, kZ5, kZ6⟩ := Z.out
  go_region_held3 (fun w' => w'.cell? ⟨w.heap.size, 0, none⟩ = some (.bool (decide (p1.num < 0))) ∧ w'.cell? ⟨w.heap.size, 1, none⟩ = some (.slice a1 n1 c1) ∧ w'.cell? ⟨w.heap.size, 2, none⟩ = some (.slice b1 m1 d1) ∧ w'.cell? ⟨w.heap.size + 1, 0, none⟩ = some (.bool (decide (p2.num < 0))) ∧ w'.cell? ⟨w.heap.size + 1, 1, none⟩ = some (.slice a2 n2 c2) ∧ w'.cell? ⟨w.heap.size + 1, 2, none⟩ = some (.slice b2 m2 d2))
    (first | (refine ⟨?_, ?_, ?_, ?_, ?_, ?_⟩ <;> with_reducible assumption) | (go_keep; done) | (refine ⟨?_, ?_, ?_, ?_, ?_, ?_⟩ <;> (repeat rw [cell_other (by first | (simp; done) | (simp; omega))]) <;> with_reducible assumption))
    (first
      | (have mk := G4; clear mk
         go_at_call 47
         refine (rmakeR_zero _ _ _ _ Q RQ.out (sv_limbs _) (by omega) HY.out).mono ?_
         rintro e v5 ⟨rfl, hb⟩
         replace RN1 := Lib.hid (RN1.out.later hb)
         replace RD1 := Lib.hid (RD1.out.later hb)
         replace RN2 := Lib.hid (RN2.out.later hb)
         replace RD2 := Lib.hid (RD2.out.later hb)
         replace RP := Lib.hid (RP.out.later hb)
         replace RQ := Lib.hid (RQ.out.later hb)
         replace X0 := Lib.hid (X0.out.later hb)
         replace X1 := Lib.hid (X1.out.later hb)
         replace Z := Lib.hid (Z.out.later hb)
         replace HB := Lib.hid (bthen HB.out hb); clear hb
         clear kX00 kX01 kX02 kX10 kX11 kX12 kZ0 kZ1 kZ2 kZ3 kZ4 kZ5 kZ6
         obtain ⟨kX00, kX01, kX02, -, -, -, -⟩ := X0.out
         obtain ⟨kX10, kX11, kX12, -, -, -, -⟩ := X1.out
         obtain ⟨kZ0, kZ1, kZ2, kZ3, kZ4, kZ5, kZ6⟩ := Z.out
         have G5 : Hid True := trivial)
      | (have mk := G3; clear mk
         go_at_call 48
         refine (rmulI J Q RD1.out RN2.out V1.out (sv_limbs _) (by omega) (by omega) HQ2.out LQ.out (by omega)).mono ?_
         rintro e v4 ⟨aq, nq, cq, rfl, hnq, hr, hb⟩
         replace RN1 := Lib.hid (RN1.out.later hb)
         replace RD1 := Lib.hid (RD1.out.later hb)
         replace RN2 := Lib.hid (RN2.out.later hb)
         replace RD2 := Lib.hid (RD2.out.later hb)
         replace RP := Lib.hid (RP.out.later hb)
         replace X0 := Lib.hid (X0.out.later hb)
         replace X1 := Lib.hid (X1.out.later hb)
         replace Z := Lib.hid (Z.out.later hb)
         replace HB := Lib.hid (bthen HB.out hb); clear hb
         clear kX00 kX01 kX02 kX10 kX11 kX12 kZ0 kZ1 kZ2 kZ3 kZ4 kZ5 kZ6
         obtain ⟨kX00, kX01, kX02, -, -, -, -⟩ := X0.out
         obtain ⟨kX10, kX11, kX12, -, -, -, -⟩ := X1.out
         obtain ⟨kZ0, kZ1, kZ2, kZ3, kZ4, kZ5, kZ6⟩ := Z.out
         have RQ := Lib.hid hr; clear hr
         have G4 : Hid True := trivial)
      | (have mk := G2; clear mk
         go_at_call 49
         refine (rden_any _ _ _ _ _ _ _ _).mono ?_
         rintro e v3 ⟨rfl, hb⟩
         replace RN1 := Lib.hid (RN1.out.later hb)
         replace RD1 := Lib.hid (RD1.out.later hb)
         replace RN2 := Lib.hid (RN2.out.later hb)
         replace RD2 := Lib.hid (RD2.out.later hb)
         replace RP := Lib.hid (RP.out.later hb)
         replace X0 := Lib.hid (X0.out.later hb)
         replace X1 := Lib.hid (X1.out.later hb)
         replace Z := Lib.hid (Z.out.later hb)
         replace HB := Lib.hid (bthen HB.out hb); clear hb
         clear kX00 kX01 kX02 kX10 kX11 kX12 kZ0 kZ1 kZ2 kZ3 kZ4 kZ5 kZ6
         obtain ⟨kX00, kX01, kX02, -, -, -, -⟩ := X0.out
         obtain ⟨kX10, kX11, kX12, -, -, -, -⟩ := X1.out
         obtain ⟨kZ0, kZ1, kZ2, kZ3, kZ4, kZ5, kZ6⟩ := Z.out
         have G3 : Hid True := trivial)
      | (have mk := G1; clear mk
         go_at_call 48
         refine (rmulI K P RN1.out RD2.out (sv_limbs _) V2.out (by omega) (by omega) HP.out LP.out (by omega)).mono ?_
         rintro e v2 ⟨ap, np, cp, rfl, hnp, hr, hb⟩
         replace RN1 := Lib.hid (RN1.out.later hb)
         replace RD1 := Lib.hid (RD1.out.later hb)
         replace RN2 := Lib.hid (RN2.out.later hb)
         replace RD2 := Lib.hid (RD2.out.later hb)
         replace X0 := Lib.hid (X0.out.later hb)
         replace X1 := Lib.hid (X1.out.later hb)
         replace Z := Lib.hid (Z.out.later hb)
         replace HB := Lib.hid (bthen HB.out hb); clear hb
         clear kX00 kX01 kX02 kX10 kX11 kX12 kZ0 kZ1 kZ2 kZ3 kZ4 kZ5 kZ6
         obtain ⟨kX00, kX01, kX02, -, -, -, -⟩ := X0.out
         obtain ⟨kX10, kX11, kX12, -, -, -, -⟩ := X1.out
         obtain ⟨kZ0, kZ1, kZ2, kZ3, kZ4, kZ5, kZ6⟩ := Z.out
         have RP := Lib.hid hr; clear hr
         have G2 : Hid True := trivial)
      | (skip
         go_at_call 49
         refine (rden_any _ _ _ _ _ _ _ _).mono ?_
         rintro e v1 ⟨rfl, hb⟩
         replace RN1 := Lib.hid (RN1.out.later hb)
         replace RD1 := Lib.hid (RD1.out.later hb)
         replace RN2 := Lib.hid (RN2.out.later hb)
         replace RD2 := Lib.hid (RD2.out.later hb)
         replace X0 := Lib.hid (X0.out.later hb)
         replace X1 := Lib.hid (X1.out.later hb)
         replace Z := Lib.hid (Z.out.later hb)
         replace HB := Lib.hid (bthen HB.out hb); clear hb
         clear kX00 kX01 kX02 kX10 kX11 kX12 kZ0 kZ1 kZ2 kZ3 kZ4 kZ5 kZ6
         obtain ⟨kX00, kX01, kX02, -, -, -, -⟩ := X0.out
         obtain ⟨kX10, kX11, kX12, -, -, -, -⟩ := X1.out
         obtain ⟨kZ0, kZ1, kZ2, kZ3, kZ4, kZ5, kZ6⟩ := Z.out
         have G1 : Hid True := trivial))
  all_goals
    go_wp2
    exact bodyPost_ret (v := .tuple #[.agg #[.bool false, .slice none 0 0, .slice none 0 0], .int .i64 3]) (by simp [results, Tryz.results26, go_sem, *]) rfl ⟨rfl, below_put3 HB.out (by omega) _ _ _⟩

set_option maxHeartbeats 16000000 in
theorem rdivR_ny (k1 j1 k2 j2 K J : Nat) (q p1 p2 : Rat) {s t : Bool} {a b a' b' : Option Addr} {n c m d n' c' m' d' : Nat} {xs ys us vs : List Nat} {w : World} (h0 : Row w a n c xs) (h1 : Row w b m d ys) (h2 : Row w a' n' c' us) (h3 : Row w b' m' d' vs) (hp : mkRat (sv s (val xs)) (val ys) = p1) (hq : mkRat (sv t (val us)) (val vs) = p2) (hc0 : ∀ W, Row W a n c xs → Row W b m d ys → Calls Tryz.prog 39 #[.agg #[.bool s, .slice a n c, .slice b m d]] W (QuickNo W)) (U V : Int) (hc1 : ∀ W, Row W a' n' c' us → Row W b' m' d' vs → Calls Tryz.prog 39 #[.agg #[.bool t, .slice a' n' c', .slice b' m' d']] W (QuickYes U V W)) (hn : n ≤ k1) (hm : m ≤ j1) (hn' : n' ≤ k2) (hm' : m' ≤ j2) (h1a : 2 ≤ k1) (h1b : 2 ≤ j1) (h2a : 2 ≤ k2) (h2b : 2 ≤ j2) (h1k : k1 ≤ 20) (h1j : j1 ≤ 20) (h2k : k2 ≤ 20) (h2j : j2 ≤ 20) (hK : k1 + j2 ≤ K) (hJ : j1 + k2 ≤ J) (hK9 : K ≤ 60) (hJ9 : J ≤ 60) (hz : p2 ≠ 0) (hr : p1 / p2 = q) :
    Calls Tryz.prog 26 #[.agg #[.bool s, .slice a n c, .slice b m d], .agg #[.bool t, .slice a' n' c', .slice b' m' d']] w (RatOk K J q w) := by
  have HZ := Lib.hid hz; clear hz
  have HRR := Lib.hid hr; clear hr
  have HB := Lib.hid (below_three w (.cells #[.bool s, .slice a n c, .slice b m d] 27) (.cells #[.bool t, .slice a' n' c', .slice b' m' d'] 27) (.cells #[.bool false, .slice none 0 0, .slice none 0 0] 27))
  have X0 : Hid (Tri (((w.alloc (.cells #[.bool s, .slice a n c, .slice b m d] 27)).alloc (.cells #[.bool t, .slice a' n' c', .slice b' m' d'] 27)).alloc (.cells #[.bool false, .slice none 0 0, .slice none 0 0] 27)) (w.heap.size) (.bool s) (.slice a n c) (.slice b m d)) := (((tri_new _ (.bool s) (.slice a n c) (.slice b m d)).alloc _).alloc _)
  have X1 : Hid (Tri (((w.alloc (.cells #[.bool s, .slice a n c, .slice b m d] 27)).alloc (.cells #[.bool t, .slice a' n' c', .slice b' m' d'] 27)).alloc (.cells #[.bool false, .slice none 0 0, .slice none 0 0] 27)) (w.heap.size + 1) (.bool t) (.slice a' n' c') (.slice b' m' d')) := ((tri_newE (by simp)).alloc _)
  have Z : Hid (Tri (((w.alloc (.cells #[.bool s, .slice a n c, .slice b m d] 27)).alloc (.cells #[.bool t, .slice a' n' c', .slice b' m' d'] 27)).alloc (.cells #[.bool false, .slice none 0 0, .slice none 0 0] 27)) (w.heap.size + 2) (.bool false) (.slice none 0 0) (.slice none 0 0)) := (tri_newE (by simp; try omega))
  have R0 := Lib.hid (h0.later HB.out); clear h0
  have R1 := Lib.hid (h1.later HB.out); clear h1
  have R2 := Lib.hid (h2.later HB.out); clear h2
  have R3 := Lib.hid (h3.later HB.out); clear h3
  have C0 := Lib.hid hc0; clear hc0
  have C1 := Lib.hid hc1; clear hc1
  have HQ0 := Lib.hid hp; clear hp
  have HQ1 := Lib.hid hq; clear hq
  go_enter Tryz.func26, Tryz.ntmps26
  go_wp2_with fail
  refine (C0.out _ R0.out R1.out).mono ?_
  rintro e w1 ⟨rfl, hb⟩
  replace R0 := Lib.hid (R0.out.later hb)
  replace R1 := Lib.hid (R1.out.later hb)
  replace R2 := Lib.hid (R2.out.later hb)
  replace R3 := Lib.hid (R3.out.later hb)
  replace X0 := Lib.hid (X0.out.later hb)
  replace X1 := Lib.hid (X1.out.later hb)
  replace Z := Lib.hid (Z.out.later hb)
  replace HB := Lib.hid (bthen HB.out hb)
  clear hb
  obtain ⟨kX00, kX01, kX02, -, -, -, -⟩ := X0.out
  obtain ⟨kX10, kX11, kX12, -, -, -, -⟩ := X1.out
  obtain ⟨kZ0, kZ1, kZ2, -, -, -, -⟩ := Z.out
  go_wp2_with fail
  refine (C1.out _ R2.out R3.out).mono ?_
  rintro e w2 ⟨rfl, hb⟩
  replace R0 := Lib.hid (R0.out.later hb)
  replace R1 := Lib.hid (R1.out.later hb)
  replace R2 := Lib.hid (R2.out.later hb)
  replace R3 := Lib.hid (R3.out.later hb)
  replace X0 := Lib.hid (X0.out.later hb)
  replace X1 := Lib.hid (X1.out.later hb)
  replace Z := Lib.hid (Z.out.later hb)
  replace HB := Lib.hid (bthen HB.out hb)
  clear hb
  clear kX00 kX01 kX02 kX10 kX11 kX12 kZ0 kZ1 kZ2
  obtain ⟨kX00, kX01, kX02, kX03, kX04, kX05, kX06⟩ := X0.out
  obtain ⟨kX10, kX11, kX12, -, -, -, -⟩ := X1.out
  obtain ⟨kZ0, kZ1, kZ2, -, -, -, -⟩ := Z.out
  go_wp2_with fail
  refine (rnormR k1 j1 p1 R0.out R1.out HQ0.out hn hm (by omega) (by omega) (by omega) (by omega)).mono ?_
  rintro e w3 ⟨a1, n1, c1, b1, m1, d1, rfl, hn1, hm1, hr, hr2, hb⟩
  clear R0
  clear R1
  replace R2 := Lib.hid (R2.out.later hb)
  replace R3 := Lib.hid (R3.out.later hb)
  replace X0 := Lib.hid (X0.out.later hb)
  replace X1 := Lib.hid (X1.out.later hb)
  replace Z := Lib.hid (Z.out.later hb)
  replace HB := Lib.hid (bthen HB.out hb)
  clear hb
  clear kX00 kX01 kX02 kX03 kX04 kX05 kX06 kX10 kX11 kX12 kZ0 kZ1 kZ2
  have RN1 := Lib.hid hr; clear hr
  have RD1 := Lib.hid hr2; clear hr2
  obtain ⟨kX00, kX01, kX02, kX03, kX04, kX05, kX06⟩ := X0.out
  obtain ⟨kX10, kX11, kX12, kX13, kX14, kX15, kX16⟩ := X1.out
  obtain ⟨kZ0, kZ1, kZ2, -, -, -, -⟩ := Z.out
  have X0' := Lib.hid X0.out
  replace R2 := Lib.hid (R2.out.put3 X0'.out (.bool (decide (p1.num < 0))) (.slice a1 n1 c1) (.slice b1 m1 d1))
  replace R3 := Lib.hid (R3.out.put3 X0'.out (.bool (decide (p1.num < 0))) (.slice a1 n1 c1) (.slice b1 m1 d1))
  replace RN1 := Lib.hid (RN1.out.put3 X0'.out (.bool (decide (p1.num < 0))) (.slice a1 n1 c1) (.slice b1 m1 d1))
  replace RD1 := Lib.hid (RD1.out.put3 X0'.out (.bool (decide (p1.num < 0))) (.slice a1 n1 c1) (.slice b1 m1 d1))
  replace X0 := Lib.hid (X0.out.put (.bool (decide (p1.num < 0))) (.slice a1 n1 c1) (.slice b1 m1 d1))
  replace X1 := Lib.hid (X1.out.far (g' := w.heap.size) (by omega) (.bool (decide (p1.num < 0))) (.slice a1 n1 c1) (.slice b1 m1 d1))
  replace Z := Lib.hid (Z.out.far (g' := w.heap.size) (by omega) (.bool (decide (p1.num < 0))) (.slice a1 n1 c1) (.slice b1 m1 d1))
  replace HB := Lib.hid (below_put3 (g := w.heap.size) HB.out (by omega) (.bool (decide (p1.num < 0))) (.slice a1 n1 c1) (.slice b1 m1 d1))
  clear X0'
  go_wp2_with fail
  refine (rnormR k2 j2 p2 R2.out R3.out HQ1.out hn' hm' (by omega) (by omega) (by omega) (by omega)).mono ?_
  rintro e w4 ⟨a2, n2, c2, b2, m2, d2, rfl, hn2, hm2, hr, hr2, hb⟩
  clear R2
  clear R3
  replace RN1 := Lib.hid (RN1.out.later hb)
  replace RD1 := Lib.hid (RD1.out.later hb)
  replace X0 := Lib.hid (X0.out.later hb)
  replace X1 := Lib.hid (X1.out.later hb)
  replace Z := Lib.hid (Z.out.later hb)
  replace HB := Lib.hid (bthen HB.out hb)
  clear hb
  clear kX00 kX01 kX02 kX03 kX04 kX05 kX06 kX10 kX11 kX12 kX13 kX14 kX15 kX16 kZ0 kZ1 kZ2
  have RN2 := Lib.hid hr; clear hr
  have RD2 := Lib.hid hr2; clear hr2
  obtain ⟨kX00, kX01, kX02, -, -, -, -⟩ := X0.out
  obtain ⟨kX10, kX11, kX12, kX13, kX14, kX15, kX16⟩ := X1.out
  obtain ⟨kZ0, kZ1, kZ2, -, -, -, -⟩ := Z.out
  have X0' := Lib.hid X1.out
  replace RN1 := Lib.hid (RN1.out.put3 X0'.out (.bool (decide (p2.num < 0))) (.slice a2 n2 c2) (.slice b2 m2 d2))
  replace RD1 := Lib.hid (RD1.out.put3 X0'.out (.bool (decide (p2.num < 0))) (.slice a2 n2 c2) (.slice b2 m2 d2))
  replace RN2 := Lib.hid (RN2.out.put3 X0'.out (.bool (decide (p2.num < 0))) (.slice a2 n2 c2) (.slice b2 m2 d2))
  replace RD2 := Lib.hid (RD2.out.put3 X0'.out (.bool (decide (p2.num < 0))) (.slice a2 n2 c2) (.slice b2 m2 d2))
  replace X0 := Lib.hid (X0.out.far (g' := w.heap.size + 1) (by omega) (.bool (decide (p2.num < 0))) (.slice a2 n2 c2) (.slice b2 m2 d2))
  replace X1 := Lib.hid (X1.out.put (.bool (decide (p2.num < 0))) (.slice a2 n2 c2) (.slice b2 m2 d2))
  replace Z := Lib.hid (Z.out.far (g' := w.heap.size + 1) (by omega) (.bool (decide (p2.num < 0))) (.slice a2 n2 c2) (.slice b2 m2 d2))
  replace HB := Lib.hid (below_put3 (g := w.heap.size + 1) HB.out (by omega) (.bool (decide (p2.num < 0))) (.slice a2 n2 c2) (.slice b2 m2 d2))
  clear X0'
  have e1 : (limbs p1.num.natAbs).length ≤ k1 := by have := RN1.out.1; omega
  have e2 : (limbs p2.num.natAbs).length ≤ k2 := by have := RN2.out.1; omega
  have e3 : (limbs p1.den).length ≤ j1 := by have := RD1.out.1; omega
  have e4 : (limbs p2.den).length ≤ j2 := by have := RD2.out.1; omega
  obtain ⟨P, hP⟩ : ∃ P, p1.num * (p2.den : Int) = P := ⟨_, rfl⟩
  obtain ⟨Q, hQ⟩ : ∃ Q, p2.num * (p1.den : Int) = Q := ⟨_, rfl⟩
  have hQ' : (p1.den : Int) * p2.num = Q := by rw [Int.mul_comm]; exact hQ
  have LP := Lib.hid (lenZ_le (lenZ_mul e1 (show (limbs ((p2.den : Int)).natAbs).length ≤ j2 by rw [Int.natAbs_natCast]; exact e4) hP) hK)
  have LQ := Lib.hid (lenZ_le (lenZ_mul (show (limbs ((p1.den : Int)).natAbs).length ≤ j1 by rw [Int.natAbs_natCast]; exact e3) e2 hQ') hJ)
  have V1 := Lib.hid (show sv false (val (limbs p1.den)) = (p1.den : Int) by rw [val_limbs]; rfl)
  have V2 := Lib.hid (show sv false (val (limbs p2.den)) = (p2.den : Int) by rw [val_limbs]; rfl)
  have d1p : 0 < p1.den := p1.den_pos
  have d2p : 0 < p2.den := p2.den_pos
  clear e1 e2 e3 e4
  have HY := Lib.hid (show Q ≠ 0 by rw [← hQ]; intro h0; rcases Int.mul_eq_zero.1 h0 with h0 | h0; exact HZ.out ((num_zero d2p (Rat.mkRat_self p2)).1 h0); omega)
  have HD := Lib.hid (show (P : Rat) / (Q : Rat) = q by rw [← hP, ← hQ, div_raw d1p d2p (Rat.mkRat_self p1) (Rat.mkRat_self p2)]; exact HRR.out)
  clear d1p d2p hQ
  have HP := Lib.hid hP; clear hP
  have HQ2 := Lib.hid hQ'; clear hQ'
  go_wp2_with fail
  replace RN1 := Lib.hid RN1.out.drew
  replace RD1 := Lib.hid RD1.out.drew
  replace RN2 := Lib.hid RN2.out.drew
  replace RD2 := Lib.hid RD2.out.drew
  replace X0 := Lib.hid X0.out.drew
  replace X1 := Lib.hid X1.out.drew
  replace Z := Lib.hid Z.out.drew
  replace HB := Lib.hid HB.out.drew
  clear kX00 kX01 kX02 kX10 kX11 kX12 kX13 kX14 kX15 kX16 kZ0 kZ1 kZ2
  obtain ⟨kX00, kX01, kX02, -, -, -, -⟩ := X0.out
  obtain ⟨kX10, kX11, kX12, -, -, -, -⟩ := X1.out
  obtain ⟨kZ0, kZ1, kZ2, kZ3, kZ4, kZ5, kZ6⟩ := Z.out
  go_region_held3 (fun w' => w'.cell? ⟨w.heap.size, 0, none⟩ = some (.bool (decide (p1.num < 0))) ∧ w'.cell? ⟨w.heap.size, 1, none⟩ = some (.slice a1 n1 c1) ∧ w'.cell? ⟨w.heap.size, 2, none⟩ = some (.slice b1 m1 d1) ∧ w'.cell? ⟨w.heap.size + 1, 0, none⟩ = some (.bool (decide (p2.num < 0))) ∧ w'.cell? ⟨w.heap.size + 1, 1, none⟩ = some (.slice a2 n2 c2) ∧ w'.cell? ⟨w.heap.size + 1, 2, none⟩ = some (.slice b2 m2 d2))
    (first | (refine ⟨?_, ?_, ?_, ?_, ?_, ?_⟩ <;> with_reducible assumption) | (go_keep; done) | (refine ⟨?_, ?_, ?_, ?_, ?_, ?_⟩ <;> (repeat rw [cell_other (by first | (simp; done) | (simp; omega))]) <;> with_reducible assumption))
    (first
      | (have mk := G4; clear mk
         go_at_call 47
         refine (rmakeR K J q P Q RP.out RQ.out (sv_limbs _) (sv_limbs _) hnp hnq hK9 (by omega) (by omega) hJ9 HY.out HD.out).mono ?_
         rintro e v5 ⟨ar, nr, cr, br, mr, dr, rfl, h2, h3, hr, hr2, hb⟩
         replace RN1 := Lib.hid (RN1.out.later hb)
         replace RD1 := Lib.hid (RD1.out.later hb)
         replace RN2 := Lib.hid (RN2.out.later hb)
         replace RD2 := Lib.hid (RD2.out.later hb)
         replace RP := Lib.hid (RP.out.later hb)
         replace RQ := Lib.hid (RQ.out.later hb)
         replace X0 := Lib.hid (X0.out.later hb)
         replace X1 := Lib.hid (X1.out.later hb)
         replace Z := Lib.hid (Z.out.later hb)
         replace HB := Lib.hid (bthen HB.out hb); clear hb
         clear kX00 kX01 kX02 kX10 kX11 kX12 kZ0 kZ1 kZ2 kZ3 kZ4 kZ5 kZ6
         obtain ⟨kX00, kX01, kX02, -, -, -, -⟩ := X0.out
         obtain ⟨kX10, kX11, kX12, -, -, -, -⟩ := X1.out
         obtain ⟨kZ0, kZ1, kZ2, kZ3, kZ4, kZ5, kZ6⟩ := Z.out
         have RA := Lib.hid hr; clear hr
         have RB := Lib.hid hr2; clear hr2
         have G5 : Hid True := trivial)
      | (have mk := G3; clear mk
         go_at_call 48
         refine (rmulI J Q RD1.out RN2.out V1.out (sv_limbs _) (by omega) (by omega) HQ2.out LQ.out (by omega)).mono ?_
         rintro e v4 ⟨aq, nq, cq, rfl, hnq, hr, hb⟩
         replace RN1 := Lib.hid (RN1.out.later hb)
         replace RD1 := Lib.hid (RD1.out.later hb)
         replace RN2 := Lib.hid (RN2.out.later hb)
         replace RD2 := Lib.hid (RD2.out.later hb)
         replace RP := Lib.hid (RP.out.later hb)
         replace X0 := Lib.hid (X0.out.later hb)
         replace X1 := Lib.hid (X1.out.later hb)
         replace Z := Lib.hid (Z.out.later hb)
         replace HB := Lib.hid (bthen HB.out hb); clear hb
         clear kX00 kX01 kX02 kX10 kX11 kX12 kZ0 kZ1 kZ2 kZ3 kZ4 kZ5 kZ6
         obtain ⟨kX00, kX01, kX02, -, -, -, -⟩ := X0.out
         obtain ⟨kX10, kX11, kX12, -, -, -, -⟩ := X1.out
         obtain ⟨kZ0, kZ1, kZ2, kZ3, kZ4, kZ5, kZ6⟩ := Z.out
         have RQ := Lib.hid hr; clear hr
         have G4 : Hid True := trivial)
      | (have mk := G2; clear mk
         go_at_call 49
         refine (rden_any _ _ _ _ _ _ _ _).mono ?_
         rintro e v3 ⟨rfl, hb⟩
         replace RN1 := Lib.hid (RN1.out.later hb)
         replace RD1 := Lib.hid (RD1.out.later hb)
         replace RN2 := Lib.hid (RN2.out.later hb)
         replace RD2 := Lib.hid (RD2.out.later hb)
         replace RP := Lib.hid (RP.out.later hb)
         replace X0 := Lib.hid (X0.out.later hb)
         replace X1 := Lib.hid (X1.out.later hb)
         replace Z := Lib.hid (Z.out.later hb)
         replace HB := Lib.hid (bthen HB.out hb); clear hb
         clear kX00 kX01 kX02 kX10 kX11 kX12 kZ0 kZ1 kZ2 kZ3 kZ4 kZ5 kZ6
         obtain ⟨kX00, kX01, kX02, -, -, -, -⟩ := X0.out
         obtain ⟨kX10, kX11, kX12, -, -, -, -⟩ := X1.out
         obtain ⟨kZ0, kZ1, kZ2, kZ3, kZ4, kZ5, kZ6⟩ := Z.out
         have G3 : Hid True := trivial)
      | (have mk := G1; clear mk
         go_at_call 48
         refine (rmulI K P RN1.out RD2.out (sv_limbs _) V2.out (by omega) (by omega) HP.out LP.out (by omega)).mono ?_
         rintro e v2 ⟨ap, np, cp, rfl, hnp, hr, hb⟩
         replace RN1 := Lib.hid (RN1.out.later hb)
         replace RD1 := Lib.hid (RD1.out.later hb)
         replace RN2 := Lib.hid (RN2.out.later hb)
         replace RD2 := Lib.hid (RD2.out.later hb)
         replace X0 := Lib.hid (X0.out.later hb)
         replace X1 := Lib.hid (X1.out.later hb)
         replace Z := Lib.hid (Z.out.later hb)
         replace HB := Lib.hid (bthen HB.out hb); clear hb
         clear kX00 kX01 kX02 kX10 kX11 kX12 kZ0 kZ1 kZ2 kZ3 kZ4 kZ5 kZ6
         obtain ⟨kX00, kX01, kX02, -, -, -, -⟩ := X0.out
         obtain ⟨kX10, kX11, kX12, -, -, -, -⟩ := X1.out
         obtain ⟨kZ0, kZ1, kZ2, kZ3, kZ4, kZ5, kZ6⟩ := Z.out
         have RP := Lib.hid hr; clear hr
         have G2 : Hid True := trivial)
      | (skip
         go_at_call 49
         refine (rden_any _ _ _ _ _ _ _ _).mono ?_
         rintro e v1 ⟨rfl, hb⟩
         replace RN1 := Lib.hid (RN1.out.later hb)
         replace RD1 := Lib.hid (RD1.out.later hb)
         replace RN2 := Lib.hid (RN2.out.later hb)
         replace RD2 := Lib.hid (RD2.out.later hb)
         replace X0 := Lib.hid (X0.out.later hb)
         replace X1 := Lib.hid (X1.out.later hb)
         replace Z := Lib.hid (Z.out.later hb)
         replace HB := Lib.hid (bthen HB.out hb); clear hb
         clear kX00 kX01 kX02 kX10 kX11 kX12 kZ0 kZ1 kZ2 kZ3 kZ4 kZ5 kZ6
         obtain ⟨kX00, kX01, kX02, -, -, -, -⟩ := X0.out
         obtain ⟨kX10, kX11, kX12, -, -, -, -⟩ := X1.out
         obtain ⟨kZ0, kZ1, kZ2, kZ3, kZ4, kZ5, kZ6⟩ := Z.out
         have G1 : Hid True := trivial))
  all_goals
    go_wp2
    exact bodyPost_ret (v := .tuple #[.agg #[.bool (decide (q.num < 0)), .slice ar nr cr, .slice br mr dr], .int .i64 0]) (by simp [results, Tryz.results26, go_sem, *]) rfl
      ⟨ar, nr, cr, br, mr, dr, rfl, h2, h3, RA.out.put3 Z.out _ _ _, RB.out.put3 Z.out _ _ _, below_put3 HB.out (by omega) _ _ _⟩

set_option maxHeartbeats 16000000 in
theorem rdivR_ny0 (k1 j1 k2 j2 K J : Nat) (q p1 p2 : Rat) {s t : Bool} {a b a' b' : Option Addr} {n c m d n' c' m' d' : Nat} {xs ys us vs : List Nat} {w : World} (h0 : Row w a n c xs) (h1 : Row w b m d ys) (h2 : Row w a' n' c' us) (h3 : Row w b' m' d' vs) (hp : mkRat (sv s (val xs)) (val ys) = p1) (hq : mkRat (sv t (val us)) (val vs) = p2) (hc0 : ∀ W, Row W a n c xs → Row W b m d ys → Calls Tryz.prog 39 #[.agg #[.bool s, .slice a n c, .slice b m d]] W (QuickNo W)) (U V : Int) (hc1 : ∀ W, Row W a' n' c' us → Row W b' m' d' vs → Calls Tryz.prog 39 #[.agg #[.bool t, .slice a' n' c', .slice b' m' d']] W (QuickYes U V W)) (hn : n ≤ k1) (hm : m ≤ j1) (hn' : n' ≤ k2) (hm' : m' ≤ j2) (h1a : 2 ≤ k1) (h1b : 2 ≤ j1) (h2a : 2 ≤ k2) (h2b : 2 ≤ j2) (h1k : k1 ≤ 20) (h1j : j1 ≤ 20) (h2k : k2 ≤ 20) (h2j : j2 ≤ 20) (hK : k1 + j2 ≤ K) (hJ : j1 + k2 ≤ J) (hK9 : K ≤ 60) (hJ9 : J ≤ 60) (hz : p2 = 0)  :
    Calls Tryz.prog 26 #[.agg #[.bool s, .slice a n c, .slice b m d], .agg #[.bool t, .slice a' n' c', .slice b' m' d']] w (RatErr 3 w) := by
  have HZ := Lib.hid hz; clear hz
  have HB := Lib.hid (below_three w (.cells #[.bool s, .slice a n c, .slice b m d] 27) (.cells #[.bool t, .slice a' n' c', .slice b' m' d'] 27) (.cells #[.bool false, .slice none 0 0, .slice none 0 0] 27))
  have X0 : Hid (Tri (((w.alloc (.cells #[.bool s, .slice a n c, .slice b m d] 27)).alloc (.cells #[.bool t, .slice a' n' c', .slice b' m' d'] 27)).alloc (.cells #[.bool false, .slice none 0 0, .slice none 0 0] 27)) (w.heap.size) (.bool s) (.slice a n c) (.slice b m d)) := (((tri_new _ (.bool s) (.slice a n c) (.slice b m d)).alloc _).alloc _)
  have X1 : Hid (Tri (((w.alloc (.cells #[.bool s, .slice a n c, .slice b m d] 27)).alloc (.cells #[.bool t, .slice a' n' c', .slice b' m' d'] 27)).alloc (.cells #[.bool false, .slice none 0 0, .slice none 0 0] 27)) (w.heap.size + 1) (.bool t) (.slice a' n' c') (.slice b' m' d')) := ((tri_newE (by simp)).alloc _)
  have Z : Hid (Tri (((w.alloc (.cells #[.bool s, .slice a n c, .slice b m d] 27)).alloc (.cells #[.bool t, .slice a' n' c', .slice b' m' d'] 27)).alloc (.cells #[.bool false, .slice none 0 0, .slice none 0 0] 27)) (w.heap.size + 2) (.bool false) (.slice none 0 0) (.slice none 0 0)) := (tri_newE (by simp; try omega))
  have R0 := Lib.hid (h0.later HB.out); clear h0
  have R1 := Lib.hid (h1.later HB.out); clear h1
  have R2 := Lib.hid (h2.later HB.out); clear h2
  have R3 := Lib.hid (h3.later HB.out); clear h3
  have C0 := Lib.hid hc0; clear hc0
  have C1 := Lib.hid hc1; clear hc1
  have HQ0 := Lib.hid hp; clear hp
  have HQ1 := Lib.hid hq; clear hq
  go_enter Tryz.func26, Tryz.ntmps26
  go_wp2_with fail
  refine (C0.out _ R0.out R1.out).mono ?_
  rintro e w1 ⟨rfl, hb⟩
  replace R0 := Lib.hid (R0.out.later hb)
  replace R1 := Lib.hid (R1.out.later hb)
  replace R2 := Lib.hid (R2.out.later hb)
  replace R3 := Lib.hid (R3.out.later hb)
  replace X0 := Lib.hid (X0.out.later hb)
  replace X1 := Lib.hid (X1.out.later hb)
  replace Z := Lib.hid (Z.out.later hb)
  replace HB := Lib.hid (bthen HB.out hb)
  clear hb
  obtain ⟨kX00, kX01, kX02, -, -, -, -⟩ := X0.out
  obtain ⟨kX10, kX11, kX12, -, -, -, -⟩ := X1.out
  obtain ⟨kZ0, kZ1, kZ2, -, -, -, -⟩ := Z.out
  go_wp2_with fail
  refine (C1.out _ R2.out R3.out).mono ?_
  rintro e w2 ⟨rfl, hb⟩
  replace R0 := Lib.hid (R0.out.later hb)
  replace R1 := Lib.hid (R1.out.later hb)
  replace R2 := Lib.hid (R2.out.later hb)
  replace R3 := Lib.hid (R3.out.later hb)
  replace X0 := Lib.hid (X0.out.later hb)
  replace X1 := Lib.hid (X1.out.later hb)
  replace Z := Lib.hid (Z.out.later hb)
  replace HB := Lib.hid (bthen HB.out hb)
  clear hb
  clear kX00 kX01 kX02 kX10 kX11 kX12 kZ0 kZ1 kZ2
  obtain ⟨kX00, kX01, kX02, kX03, kX04, kX05, kX06⟩ := X0.out
  obtain ⟨kX10, kX11, kX12, -, -, -, -⟩ := X1.out
  obtain ⟨kZ0, kZ1, kZ2, -, -, -, -⟩ := Z.out
  go_wp2_with fail
  refine (rnormR k1 j1 p1 R0.out R1.out HQ0.out hn hm (by omega) (by omega) (by omega) (by omega)).mono ?_
  rintro e w3 ⟨a1, n1, c1, b1, m1, d1, rfl, hn1, hm1, hr, hr2, hb⟩
  clear R0
  clear R1
  replace R2 := Lib.hid (R2.out.later hb)
  replace R3 := Lib.hid (R3.out.later hb)
  replace X0 := Lib.hid (X0.out.later hb)
  replace X1 := Lib.hid (X1.out.later hb)
  replace Z := Lib.hid (Z.out.later hb)
  replace HB := Lib.hid (bthen HB.out hb)
  clear hb
  clear kX00 kX01 kX02 kX03 kX04 kX05 kX06 kX10 kX11 kX12 kZ0 kZ1 kZ2
  have RN1 := Lib.hid hr; clear hr
  have RD1 := Lib.hid hr2; clear hr2
  obtain ⟨kX00, kX01, kX02, kX03, kX04, kX05, kX06⟩ := X0.out
  obtain ⟨kX10, kX11, kX12, kX13, kX14, kX15, kX16⟩ := X1.out
  obtain ⟨kZ0, kZ1, kZ2, -, -, -, -⟩ := Z.out
  have X0' := Lib.hid X0.out
  replace R2 := Lib.hid (R2.out.put3 X0'.out (.bool (decide (p1.num < 0))) (.slice a1 n1 c1) (.slice b1 m1 d1))
  replace R3 := Lib.hid (R3.out.put3 X0'.out (.bool (decide (p1.num < 0))) (.slice a1 n1 c1) (.slice b1 m1 d1))
  replace RN1 := Lib.hid (RN1.out.put3 X0'.out (.bool (decide (p1.num < 0))) (.slice a1 n1 c1) (.slice b1 m1 d1))
  replace RD1 := Lib.hid (RD1.out.put3 X0'.out (.bool (decide (p1.num < 0))) (.slice a1 n1 c1) (.slice b1 m1 d1))
  replace X0 := Lib.hid (X0.out.put (.bool (decide (p1.num < 0))) (.slice a1 n1 c1) (.slice b1 m1 d1))
  replace X1 := Lib.hid (X1.out.far (g' := w.heap.size) (by omega) (.bool (decide (p1.num < 0))) (.slice a1 n1 c1) (.slice b1 m1 d1))
  replace Z := Lib.hid (Z.out.far (g' := w.heap.size) (by omega) (.bool (decide (p1.num < 0))) (.slice a1 n1 c1) (.slice b1 m1 d1))
  replace HB := Lib.hid (below_put3 (g := w.heap.size) HB.out (by omega) (.bool (decide (p1.num < 0))) (.slice a1 n1 c1) (.slice b1 m1 d1))
  clear X0'
  go_wp2_with fail
  refine (rnormR k2 j2 p2 R2.out R3.out HQ1.out hn' hm' (by omega) (by omega) (by omega) (by omega)).mono ?_
  rintro e w4 ⟨a2, n2, c2, b2, m2, d2, rfl, hn2, hm2, hr, hr2, hb⟩
  clear R2
  clear R3
  replace RN1 := Lib.hid (RN1.out.later hb)
  replace RD1 := Lib.hid (RD1.out.later hb)
  replace X0 := Lib.hid (X0.out.later hb)
  replace X1 := Lib.hid (X1.out.later hb)
  replace Z := Lib.hid (Z.out.later hb)
  replace HB := Lib.hid (bthen HB.out hb)
  clear hb
  clear kX00 kX01 kX02 kX03 kX04 kX05 kX06 kX10 kX11 kX12 kX13 kX14 kX15 kX16 kZ0 kZ1 kZ2
  have RN2 := Lib.hid hr; clear hr
  have RD2 := Lib.hid hr2; clear hr2
  obtain ⟨kX00, kX01, kX02, -, -, -, -⟩ := X0.out
  obtain ⟨kX10, kX11, kX12, kX13, kX14, kX15, kX16⟩ := X1.out
  obtain ⟨kZ0, kZ1, kZ2, -, -, -, -⟩ := Z.out
  have X0' := Lib.hid X1.out
  replace RN1 := Lib.hid (RN1.out.put3 X0'.out (.bool (decide (p2.num < 0))) (.slice a2 n2 c2) (.slice b2 m2 d2))
  replace RD1 := Lib.hid (RD1.out.put3 X0'.out (.bool (decide (p2.num < 0))) (.slice a2 n2 c2) (.slice b2 m2 d2))
  replace RN2 := Lib.hid (RN2.out.put3 X0'.out (.bool (decide (p2.num < 0))) (.slice a2 n2 c2) (.slice b2 m2 d2))
  replace RD2 := Lib.hid (RD2.out.put3 X0'.out (.bool (decide (p2.num < 0))) (.slice a2 n2 c2) (.slice b2 m2 d2))
  replace X0 := Lib.hid (X0.out.far (g' := w.heap.size + 1) (by omega) (.bool (decide (p2.num < 0))) (.slice a2 n2 c2) (.slice b2 m2 d2))
  replace X1 := Lib.hid (X1.out.put (.bool (decide (p2.num < 0))) (.slice a2 n2 c2) (.slice b2 m2 d2))
  replace Z := Lib.hid (Z.out.far (g' := w.heap.size + 1) (by omega) (.bool (decide (p2.num < 0))) (.slice a2 n2 c2) (.slice b2 m2 d2))
  replace HB := Lib.hid (below_put3 (g := w.heap.size + 1) HB.out (by omega) (.bool (decide (p2.num < 0))) (.slice a2 n2 c2) (.slice b2 m2 d2))
  clear X0'
  have e1 : (limbs p1.num.natAbs).length ≤ k1 := by have := RN1.out.1; omega
  have e2 : (limbs p2.num.natAbs).length ≤ k2 := by have := RN2.out.1; omega
  have e3 : (limbs p1.den).length ≤ j1 := by have := RD1.out.1; omega
  have e4 : (limbs p2.den).length ≤ j2 := by have := RD2.out.1; omega
  obtain ⟨P, hP⟩ : ∃ P, p1.num * (p2.den : Int) = P := ⟨_, rfl⟩
  obtain ⟨Q, hQ⟩ : ∃ Q, p2.num * (p1.den : Int) = Q := ⟨_, rfl⟩
  have hQ' : (p1.den : Int) * p2.num = Q := by rw [Int.mul_comm]; exact hQ
  have LP := Lib.hid (lenZ_le (lenZ_mul e1 (show (limbs ((p2.den : Int)).natAbs).length ≤ j2 by rw [Int.natAbs_natCast]; exact e4) hP) hK)
  have LQ := Lib.hid (lenZ_le (lenZ_mul (show (limbs ((p1.den : Int)).natAbs).length ≤ j1 by rw [Int.natAbs_natCast]; exact e3) e2 hQ') hJ)
  have V1 := Lib.hid (show sv false (val (limbs p1.den)) = (p1.den : Int) by rw [val_limbs]; rfl)
  have V2 := Lib.hid (show sv false (val (limbs p2.den)) = (p2.den : Int) by rw [val_limbs]; rfl)
  have d1p : 0 < p1.den := p1.den_pos
  have d2p : 0 < p2.den := p2.den_pos
  clear e1 e2 e3 e4
  have HY := Lib.hid (show sgn Q = 0 by rw [← hQ, (num_zero d2p (Rat.mkRat_self p2)).2 HZ.out, Int.zero_mul]; rfl)
  clear d1p d2p hQ
  have HP := Lib.hid hP; clear hP
  have HQ2 := Lib.hid hQ'; clear hQ'
  go_wp2_with fail
  replace RN1 := Lib.hid RN1.out.drew
  replace RD1 := Lib.hid RD1.out.drew
  replace RN2 := Lib.hid RN2.out.drew
  replace RD2 := Lib.hid RD2.out.drew
  replace X0 := Lib.hid X0.out.drew
  replace X1 := Lib.hid X1.out.drew
  replace Z := Lib.hid Z.out.drew
  replace HB := Lib.hid HB.out.drew
  clear kX00 kX01 kX02 kX10 kX11 kX12 kX13 kX14 kX15 kX16 kZ0 kZ1 kZ2
  obtain ⟨kX00, kX01, kX02, -, -, -, -⟩ := X0.out
  obtain ⟨kX10, kX11, kX12, -, -, -, -⟩ := X1.out
  obtain ⟨kZ0, kZ1, kZ2, kZ3, kZ4, kZ5, kZ6⟩ := Z.out
  go_region_held3 (fun w' => w'.cell? ⟨w.heap.size, 0, none⟩ = some (.bool (decide (p1.num < 0))) ∧ w'.cell? ⟨w.heap.size, 1, none⟩ = some (.slice a1 n1 c1) ∧ w'.cell? ⟨w.heap.size, 2, none⟩ = some (.slice b1 m1 d1) ∧ w'.cell? ⟨w.heap.size + 1, 0, none⟩ = some (.bool (decide (p2.num < 0))) ∧ w'.cell? ⟨w.heap.size + 1, 1, none⟩ = some (.slice a2 n2 c2) ∧ w'.cell? ⟨w.heap.size + 1, 2, none⟩ = some (.slice b2 m2 d2))
    (first | (refine ⟨?_, ?_, ?_, ?_, ?_, ?_⟩ <;> with_reducible assumption) | (go_keep; done) | (refine ⟨?_, ?_, ?_, ?_, ?_, ?_⟩ <;> (repeat rw [cell_other (by first | (simp; done) | (simp; omega))]) <;> with_reducible assumption))
    (first
      | (have mk := G4; clear mk
         go_at_call 47
         refine (rmakeR_zero _ _ _ _ Q RQ.out (sv_limbs _) (by omega) HY.out).mono ?_
         rintro e v5 ⟨rfl, hb⟩
         replace RN1 := Lib.hid (RN1.out.later hb)
         replace RD1 := Lib.hid (RD1.out.later hb)
         replace RN2 := Lib.hid (RN2.out.later hb)
         replace RD2 := Lib.hid (RD2.out.later hb)
         replace RP := Lib.hid (RP.out.later hb)
         replace RQ := Lib.hid (RQ.out.later hb)
         replace X0 := Lib.hid (X0.out.later hb)
         replace X1 := Lib.hid (X1.out.later hb)
         replace Z := Lib.hid (Z.out.later hb)
         replace HB := Lib.hid (bthen HB.out hb); clear hb
         clear kX00 kX01 kX02 kX10 kX11 kX12 kZ0 kZ1 kZ2 kZ3 kZ4 kZ5 kZ6
         obtain ⟨kX00, kX01, kX02, -, -, -, -⟩ := X0.out
         obtain ⟨kX10, kX11, kX12, -, -, -, -⟩ := X1.out
         obtain ⟨kZ0, kZ1, kZ2, kZ3, kZ4, kZ5, kZ6⟩ := Z.out
         have G5 : Hid True := trivial)
      | (have mk := G3; clear mk
         go_at_call 48
         refine (rmulI J Q RD1.out RN2.out V1.out (sv_limbs _) (by omega) (by omega) HQ2.out LQ.out (by omega)).mono ?_
         rintro e v4 ⟨aq, nq, cq, rfl, hnq, hr, hb⟩
         replace RN1 := Lib.hid (RN1.out.later hb)
         replace RD1 := Lib.hid (RD1.out.later hb)
         replace RN2 := Lib.hid (RN2.out.later hb)
         replace RD2 := Lib.hid (RD2.out.later hb)
         replace RP := Lib.hid (RP.out.later hb)
         replace X0 := Lib.hid (X0.out.later hb)
         replace X1 := Lib.hid (X1.out.later hb)
         replace Z := Lib.hid (Z.out.later hb)
         replace HB := Lib.hid (bthen HB.out hb); clear hb
         clear kX00 kX01 kX02 kX10 kX11 kX12 kZ0 kZ1 kZ2 kZ3 kZ4 kZ5 kZ6
         obtain ⟨kX00, kX01, kX02, -, -, -, -⟩ := X0.out
         obtain ⟨kX10, kX11, kX12, -, -, -, -⟩ := X1.out
         obtain ⟨kZ0, kZ1, kZ2, kZ3, kZ4, kZ5, kZ6⟩ := Z.out
         have RQ := Lib.hid hr; clear hr
         have G4 : Hid True := trivial)
      | (have mk := G2; clear mk
         go_at_call 49
         refine (rden_any _ _ _ _ _ _ _ _).mono ?_
         rintro e v3 ⟨rfl, hb⟩
         replace RN1 := Lib.hid (RN1.out.later hb)
         replace RD1 := Lib.hid (RD1.out.later hb)
         replace RN2 := Lib.hid (RN2.out.later hb)
         replace RD2 := Lib.hid (RD2.out.later hb)
         replace RP := Lib.hid (RP.out.later hb)
         replace X0 := Lib.hid (X0.out.later hb)
         replace X1 := Lib.hid (X1.out.later hb)
         replace Z := Lib.hid (Z.out.later hb)
         replace HB := Lib.hid (bthen HB.out hb); clear hb
         clear kX00 kX01 kX02 kX10 kX11 kX12 kZ0 kZ1 kZ2 kZ3 kZ4 kZ5 kZ6
         obtain ⟨kX00, kX01, kX02, -, -, -, -⟩ := X0.out
         obtain ⟨kX10, kX11, kX12, -, -, -, -⟩ := X1.out
         obtain ⟨kZ0, kZ1, kZ2, kZ3, kZ4, kZ5, kZ6⟩ := Z.out
         have G3 : Hid True := trivial)
      | (have mk := G1; clear mk
         go_at_call 48
         refine (rmulI K P RN1.out RD2.out (sv_limbs _) V2.out (by omega) (by omega) HP.out LP.out (by omega)).mono ?_
         rintro e v2 ⟨ap, np, cp, rfl, hnp, hr, hb⟩
         replace RN1 := Lib.hid (RN1.out.later hb)
         replace RD1 := Lib.hid (RD1.out.later hb)
         replace RN2 := Lib.hid (RN2.out.later hb)
         replace RD2 := Lib.hid (RD2.out.later hb)
         replace X0 := Lib.hid (X0.out.later hb)
         replace X1 := Lib.hid (X1.out.later hb)
         replace Z := Lib.hid (Z.out.later hb)
         replace HB := Lib.hid (bthen HB.out hb); clear hb
         clear kX00 kX01 kX02 kX10 kX11 kX12 kZ0 kZ1 kZ2 kZ3 kZ4 kZ5 kZ6
         obtain ⟨kX00, kX01, kX02, -, -, -, -⟩ := X0.out
         obtain ⟨kX10, kX11, kX12, -, -, -, -⟩ := X1.out
         obtain ⟨kZ0, kZ1, kZ2, kZ3, kZ4, kZ5, kZ6⟩ := Z.out
         have RP := Lib.hid hr; clear hr
         have G2 : Hid True := trivial)
      | (skip
         go_at_call 49
         refine (rden_any _ _ _ _ _ _ _ _).mono ?_
         rintro e v1 ⟨rfl, hb⟩
         replace RN1 := Lib.hid (RN1.out.later hb)
         replace RD1 := Lib.hid (RD1.out.later hb)
         replace RN2 := Lib.hid (RN2.out.later hb)
         replace RD2 := Lib.hid (RD2.out.later hb)
         replace X0 := Lib.hid (X0.out.later hb)
         replace X1 := Lib.hid (X1.out.later hb)
         replace Z := Lib.hid (Z.out.later hb)
         replace HB := Lib.hid (bthen HB.out hb); clear hb
         clear kX00 kX01 kX02 kX10 kX11 kX12 kZ0 kZ1 kZ2 kZ3 kZ4 kZ5 kZ6
         obtain ⟨kX00, kX01, kX02, -, -, -, -⟩ := X0.out
         obtain ⟨kX10, kX11, kX12, -, -, -, -⟩ := X1.out
         obtain ⟨kZ0, kZ1, kZ2, kZ3, kZ4, kZ5, kZ6⟩ := Z.out
         have G1 : Hid True := trivial))
  all_goals
    go_wp2
    exact bodyPost_ret (v := .tuple #[.agg #[.bool false, .slice none 0 0, .slice none 0 0], .int .i64 3]) (by simp [results, Tryz.results26, go_sem, *]) rfl ⟨rfl, below_put3 HB.out (by omega) _ _ _⟩

set_option maxHeartbeats 16000000 in
theorem rdivR_yn (k1 j1 k2 j2 K J : Nat) (q p1 p2 : Rat) {s t : Bool} {a b a' b' : Option Addr} {n c m d n' c' m' d' : Nat} {xs ys us vs : List Nat} {w : World} (h0 : Row w a n c xs) (h1 : Row w b m d ys) (h2 : Row w a' n' c' us) (h3 : Row w b' m' d' vs) (hp : mkRat (sv s (val xs)) (val ys) = p1) (hq : mkRat (sv t (val us)) (val vs) = p2) (X Y : Int) (hc0 : ∀ W, Row W a n c xs → Row W b m d ys → Calls Tryz.prog 39 #[.agg #[.bool s, .slice a n c, .slice b m d]] W (QuickYes X Y W)) (hc1 : ∀ W, Row W a' n' c' us → Row W b' m' d' vs → Calls Tryz.prog 39 #[.agg #[.bool t, .slice a' n' c', .slice b' m' d']] W (QuickNo W)) (hn : n ≤ k1) (hm : m ≤ j1) (hn' : n' ≤ k2) (hm' : m' ≤ j2) (h1a : 2 ≤ k1) (h1b : 2 ≤ j1) (h2a : 2 ≤ k2) (h2b : 2 ≤ j2) (h1k : k1 ≤ 20) (h1j : j1 ≤ 20) (h2k : k2 ≤ 20) (h2j : j2 ≤ 20) (hK : k1 + j2 ≤ K) (hJ : j1 + k2 ≤ J) (hK9 : K ≤ 60) (hJ9 : J ≤ 60) (hz : p2 ≠ 0) (hr : p1 / p2 = q) :
    Calls Tryz.prog 26 #[.agg #[.bool s, .slice a n c, .slice b m d], .agg #[.bool t, .slice a' n' c', .slice b' m' d']] w (RatOk K J q w) := by
  have HZ := Lib.hid hz; clear hz
  have HRR := Lib.hid hr; clear hr
  have HB := Lib.hid (below_three w (.cells #[.bool s, .slice a n c, .slice b m d] 27) (.cells #[.bool t, .slice a' n' c', .slice b' m' d'] 27) (.cells #[.bool false, .slice none 0 0, .slice none 0 0] 27))
  have X0 : Hid (Tri (((w.alloc (.cells #[.bool s, .slice a n c, .slice b m d] 27)).alloc (.cells #[.bool t, .slice a' n' c', .slice b' m' d'] 27)).alloc (.cells #[.bool false, .slice none 0 0, .slice none 0 0] 27)) (w.heap.size) (.bool s) (.slice a n c) (.slice b m d)) := (((tri_new _ (.bool s) (.slice a n c) (.slice b m d)).alloc _).alloc _)
  have X1 : Hid (Tri (((w.alloc (.cells #[.bool s, .slice a n c, .slice b m d] 27)).alloc (.cells #[.bool t, .slice a' n' c', .slice b' m' d'] 27)).alloc (.cells #[.bool false, .slice none 0 0, .slice none 0 0] 27)) (w.heap.size + 1) (.bool t) (.slice a' n' c') (.slice b' m' d')) := ((tri_newE (by simp)).alloc _)
  have Z : Hid (Tri (((w.alloc (.cells #[.bool s, .slice a n c, .slice b m d] 27)).alloc (.cells #[.bool t, .slice a' n' c', .slice b' m' d'] 27)).alloc (.cells #[.bool false, .slice none 0 0, .slice none 0 0] 27)) (w.heap.size + 2) (.bool false) (.slice none 0 0) (.slice none 0 0)) := (tri_newE (by simp; try omega))
  have R0 := Lib.hid (h0.later HB.out); clear h0
  have R1 := Lib.hid (h1.later HB.out); clear h1
  have R2 := Lib.hid (h2.later HB.out); clear h2
  have R3 := Lib.hid (h3.later HB.out); clear h3
  have C0 := Lib.hid hc0; clear hc0
  have C1 := Lib.hid hc1; clear hc1
  have HQ0 := Lib.hid hp; clear hp
  have HQ1 := Lib.hid hq; clear hq
  go_enter Tryz.func26, Tryz.ntmps26
  go_wp2_with fail
  refine (C0.out _ R0.out R1.out).mono ?_
  rintro e w1 ⟨rfl, hb⟩
  replace R0 := Lib.hid (R0.out.later hb)
  replace R1 := Lib.hid (R1.out.later hb)
  replace R2 := Lib.hid (R2.out.later hb)
  replace R3 := Lib.hid (R3.out.later hb)
  replace X0 := Lib.hid (X0.out.later hb)
  replace X1 := Lib.hid (X1.out.later hb)
  replace Z := Lib.hid (Z.out.later hb)
  replace HB := Lib.hid (bthen HB.out hb)
  clear hb
  obtain ⟨kX00, kX01, kX02, -, -, -, -⟩ := X0.out
  obtain ⟨kX10, kX11, kX12, -, -, -, -⟩ := X1.out
  obtain ⟨kZ0, kZ1, kZ2, -, -, -, -⟩ := Z.out
  go_wp2_with fail
  refine (C1.out _ R2.out R3.out).mono ?_
  rintro e w2 ⟨rfl, hb⟩
  replace R0 := Lib.hid (R0.out.later hb)
  replace R1 := Lib.hid (R1.out.later hb)
  replace R2 := Lib.hid (R2.out.later hb)
  replace R3 := Lib.hid (R3.out.later hb)
  replace X0 := Lib.hid (X0.out.later hb)
  replace X1 := Lib.hid (X1.out.later hb)
  replace Z := Lib.hid (Z.out.later hb)
  replace HB := Lib.hid (bthen HB.out hb)
  clear hb
  clear kX00 kX01 kX02 kX10 kX11 kX12 kZ0 kZ1 kZ2
  obtain ⟨kX00, kX01, kX02, kX03, kX04, kX05, kX06⟩ := X0.out
  obtain ⟨kX10, kX11, kX12, -, -, -, -⟩ := X1.out
  obtain ⟨kZ0, kZ1, kZ2, -, -, -, -⟩ := Z.out
  go_wp2_with fail
  refine (rnormR k1 j1 p1 R0.out R1.out HQ0.out hn hm (by omega) (by omega) (by omega) (by omega)).mono ?_
  rintro e w3 ⟨a1, n1, c1, b1, m1, d1, rfl, hn1, hm1, hr, hr2, hb⟩
  clear R0
  clear R1
  replace R2 := Lib.hid (R2.out.later hb)
  replace R3 := Lib.hid (R3.out.later hb)
  replace X0 := Lib.hid (X0.out.later hb)
  replace X1 := Lib.hid (X1.out.later hb)
  replace Z := Lib.hid (Z.out.later hb)
  replace HB := Lib.hid (bthen HB.out hb)
  clear hb
  clear kX00 kX01 kX02 kX03 kX04 kX05 kX06 kX10 kX11 kX12 kZ0 kZ1 kZ2
  have RN1 := Lib.hid hr; clear hr
  have RD1 := Lib.hid hr2; clear hr2
  obtain ⟨kX00, kX01, kX02, kX03, kX04, kX05, kX06⟩ := X0.out
  obtain ⟨kX10, kX11, kX12, kX13, kX14, kX15, kX16⟩ := X1.out
  obtain ⟨kZ0, kZ1, kZ2, -, -, -, -⟩ := Z.out
  have X0' := Lib.hid X0.out
  replace R2 := Lib.hid (R2.out.put3 X0'.out (.bool (decide (p1.num < 0))) (.slice a1 n1 c1) (.slice b1 m1 d1))
  replace R3 := Lib.hid (R3.out.put3 X0'.out (.bool (decide (p1.num < 0))) (.slice a1 n1 c1) (.slice b1 m1 d1))
  replace RN1 := Lib.hid (RN1.out.put3 X0'.out (.bool (decide (p1.num < 0))) (.slice a1 n1 c1) (.slice b1 m1 d1))
  replace RD1 := Lib.hid (RD1.out.put3 X0'.out (.bool (decide (p1.num < 0))) (.slice a1 n1 c1) (.slice b1 m1 d1))
  replace X0 := Lib.hid (X0.out.put (.bool (decide (p1.num < 0))) (.slice a1 n1 c1) (.slice b1 m1 d1))
  replace X1 := Lib.hid (X1.out.far (g' := w.heap.size) (by omega) (.bool (decide (p1.num < 0))) (.slice a1 n1 c1) (.slice b1 m1 d1))
  replace Z := Lib.hid (Z.out.far (g' := w.heap.size) (by omega) (.bool (decide (p1.num < 0))) (.slice a1 n1 c1) (.slice b1 m1 d1))
  replace HB := Lib.hid (below_put3 (g := w.heap.size) HB.out (by omega) (.bool (decide (p1.num < 0))) (.slice a1 n1 c1) (.slice b1 m1 d1))
  clear X0'
  go_wp2_with fail
  refine (rnormR k2 j2 p2 R2.out R3.out HQ1.out hn' hm' (by omega) (by omega) (by omega) (by omega)).mono ?_
  rintro e w4 ⟨a2, n2, c2, b2, m2, d2, rfl, hn2, hm2, hr, hr2, hb⟩
  clear R2
  clear R3
  replace RN1 := Lib.hid (RN1.out.later hb)
  replace RD1 := Lib.hid (RD1.out.later hb)
  replace X0 := Lib.hid (X0.out.later hb)
  replace X1 := Lib.hid (X1.out.later hb)
  replace Z := Lib.hid (Z.out.later hb)
  replace HB := Lib.hid (bthen HB.out hb)
  clear hb
  clear kX00 kX01 kX02 kX03 kX04 kX05 kX06 kX10 kX11 kX12 kX13 kX14 kX15 kX16 kZ0 kZ1 kZ2
  have RN2 := Lib.hid hr; clear hr
  have RD2 := Lib.hid hr2; clear hr2
  obtain ⟨kX00, kX01, kX02, -, -, -, -⟩ := X0.out
  obtain ⟨kX10, kX11, kX12, kX13, kX14, kX15, kX16⟩ := X1.out
  obtain ⟨kZ0, kZ1, kZ2, -, -, -, -⟩ := Z.out
  have X0' := Lib.hid X1.out
  replace RN1 := Lib.hid (RN1.out.put3 X0'.out (.bool (decide (p2.num < 0))) (.slice a2 n2 c2) (.slice b2 m2 d2))
  replace RD1 := Lib.hid (RD1.out.put3 X0'.out (.bool (decide (p2.num < 0))) (.slice a2 n2 c2) (.slice b2 m2 d2))
  replace RN2 := Lib.hid (RN2.out.put3 X0'.out (.bool (decide (p2.num < 0))) (.slice a2 n2 c2) (.slice b2 m2 d2))
  replace RD2 := Lib.hid (RD2.out.put3 X0'.out (.bool (decide (p2.num < 0))) (.slice a2 n2 c2) (.slice b2 m2 d2))
  replace X0 := Lib.hid (X0.out.far (g' := w.heap.size + 1) (by omega) (.bool (decide (p2.num < 0))) (.slice a2 n2 c2) (.slice b2 m2 d2))
  replace X1 := Lib.hid (X1.out.put (.bool (decide (p2.num < 0))) (.slice a2 n2 c2) (.slice b2 m2 d2))
  replace Z := Lib.hid (Z.out.far (g' := w.heap.size + 1) (by omega) (.bool (decide (p2.num < 0))) (.slice a2 n2 c2) (.slice b2 m2 d2))
  replace HB := Lib.hid (below_put3 (g := w.heap.size + 1) HB.out (by omega) (.bool (decide (p2.num < 0))) (.slice a2 n2 c2) (.slice b2 m2 d2))
  clear X0'
  have e1 : (limbs p1.num.natAbs).length ≤ k1 := by have := RN1.out.1; omega
  have e2 : (limbs p2.num.natAbs).length ≤ k2 := by have := RN2.out.1; omega
  have e3 : (limbs p1.den).length ≤ j1 := by have := RD1.out.1; omega
  have e4 : (limbs p2.den).length ≤ j2 := by have := RD2.out.1; omega
  obtain ⟨P, hP⟩ : ∃ P, p1.num * (p2.den : Int) = P := ⟨_, rfl⟩
  obtain ⟨Q, hQ⟩ : ∃ Q, p2.num * (p1.den : Int) = Q := ⟨_, rfl⟩
  have hQ' : (p1.den : Int) * p2.num = Q := by rw [Int.mul_comm]; exact hQ
  have LP := Lib.hid (lenZ_le (lenZ_mul e1 (show (limbs ((p2.den : Int)).natAbs).length ≤ j2 by rw [Int.natAbs_natCast]; exact e4) hP) hK)
  have LQ := Lib.hid (lenZ_le (lenZ_mul (show (limbs ((p1.den : Int)).natAbs).length ≤ j1 by rw [Int.natAbs_natCast]; exact e3) e2 hQ') hJ)
  have V1 := Lib.hid (show sv false (val (limbs p1.den)) = (p1.den : Int) by rw [val_limbs]; rfl)
  have V2 := Lib.hid (show sv false (val (limbs p2.den)) = (p2.den : Int) by rw [val_limbs]; rfl)
  have d1p : 0 < p1.den := p1.den_pos
  have d2p : 0 < p2.den := p2.den_pos
  clear e1 e2 e3 e4
  have HY := Lib.hid (show Q ≠ 0 by rw [← hQ]; intro h0; rcases Int.mul_eq_zero.1 h0 with h0 | h0; exact HZ.out ((num_zero d2p (Rat.mkRat_self p2)).1 h0); omega)
  have HD := Lib.hid (show (P : Rat) / (Q : Rat) = q by rw [← hP, ← hQ, div_raw d1p d2p (Rat.mkRat_self p1) (Rat.mkRat_self p2)]; exact HRR.out)
  clear d1p d2p hQ
  have HP := Lib.hid hP; clear hP
  have HQ2 := Lib.hid hQ'; clear hQ'
  go_wp2_with fail
  replace RN1 := Lib.hid RN1.out.drew
  replace RD1 := Lib.hid RD1.out.drew
  replace RN2 := Lib.hid RN2.out.drew
  replace RD2 := Lib.hid RD2.out.drew
  replace X0 := Lib.hid X0.out.drew
  replace X1 := Lib.hid X1.out.drew
  replace Z := Lib.hid Z.out.drew
  replace HB := Lib.hid HB.out.drew
  clear kX00 kX01 kX02 kX10 kX11 kX12 kX13 kX14 kX15 kX16 kZ0 kZ1 kZ2
  obtain ⟨kX00, kX01, kX02, -, -, -, -⟩ := X0.out
  obtain ⟨kX10, kX11, kX12, -, -, -, -⟩ := X1.out
  obtain ⟨kZ0, kZ1, kZ2, kZ3, kZ4, kZ5, kZ6⟩ := Z.out
  go_region_held3 (fun w' => w'.cell? ⟨w.heap.size, 0, none⟩ = some (.bool (decide (p1.num < 0))) ∧ w'.cell? ⟨w.heap.size, 1, none⟩ = some (.slice a1 n1 c1) ∧ w'.cell? ⟨w.heap.size, 2, none⟩ = some (.slice b1 m1 d1) ∧ w'.cell? ⟨w.heap.size + 1, 0, none⟩ = some (.bool (decide (p2.num < 0))) ∧ w'.cell? ⟨w.heap.size + 1, 1, none⟩ = some (.slice a2 n2 c2) ∧ w'.cell? ⟨w.heap.size + 1, 2, none⟩ = some (.slice b2 m2 d2))
    (first | (refine ⟨?_, ?_, ?_, ?_, ?_, ?_⟩ <;> with_reducible assumption) | (go_keep; done) | (refine ⟨?_, ?_, ?_, ?_, ?_, ?_⟩ <;> (repeat rw [cell_other (by first | (simp; done) | (simp; omega))]) <;> with_reducible assumption))
    (first
      | (have mk := G4; clear mk
         go_at_call 47
         refine (rmakeR K J q P Q RP.out RQ.out (sv_limbs _) (sv_limbs _) hnp hnq hK9 (by omega) (by omega) hJ9 HY.out HD.out).mono ?_
         rintro e v5 ⟨ar, nr, cr, br, mr, dr, rfl, h2, h3, hr, hr2, hb⟩
         replace RN1 := Lib.hid (RN1.out.later hb)
         replace RD1 := Lib.hid (RD1.out.later hb)
         replace RN2 := Lib.hid (RN2.out.later hb)
         replace RD2 := Lib.hid (RD2.out.later hb)
         replace RP := Lib.hid (RP.out.later hb)
         replace RQ := Lib.hid (RQ.out.later hb)
         replace X0 := Lib.hid (X0.out.later hb)
         replace X1 := Lib.hid (X1.out.later hb)
         replace Z := Lib.hid (Z.out.later hb)
         replace HB := Lib.hid (bthen HB.out hb); clear hb
         clear kX00 kX01 kX02 kX10 kX11 kX12 kZ0 kZ1 kZ2 kZ3 kZ4 kZ5 kZ6
         obtain ⟨kX00, kX01, kX02, -, -, -, -⟩ := X0.out
         obtain ⟨kX10, kX11, kX12, -, -, -, -⟩ := X1.out
         obtain ⟨kZ0, kZ1, kZ2, kZ3, kZ4, kZ5, kZ6⟩ := Z.out
         have RA := Lib.hid hr; clear hr
         have RB := Lib.hid hr2; clear hr2
         have G5 : Hid True := trivial)
      | (have mk := G3; clear mk
         go_at_call 48
         refine (rmulI J Q RD1.out RN2.out V1.out (sv_limbs _) (by omega) (by omega) HQ2.out LQ.out (by omega)).mono ?_
         rintro e v4 ⟨aq, nq, cq, rfl, hnq, hr, hb⟩
         replace RN1 := Lib.hid (RN1.out.later hb)
         replace RD1 := Lib.hid (RD1.out.later hb)
         replace RN2 := Lib.hid (RN2.out.later hb)
         replace RD2 := Lib.hid (RD2.out.later hb)
         replace RP := Lib.hid (RP.out.later hb)
         replace X0 := Lib.hid (X0.out.later hb)
         replace X1 := Lib.hid (X1.out.later hb)
         replace Z := Lib.hid (Z.out.later hb)
         replace HB := Lib.hid (bthen HB.out hb); clear hb
         clear kX00 kX01 kX02 kX10 kX11 kX12 kZ0 kZ1 kZ2 kZ3 kZ4 kZ5 kZ6
         obtain ⟨kX00, kX01, kX02, -, -, -, -⟩ := X0.out
         obtain ⟨kX10, kX11, kX12, -, -, -, -⟩ := X1.out
         obtain ⟨kZ0, kZ1, kZ2, kZ3, kZ4, kZ5, kZ6⟩ := Z.out
         have RQ := Lib.hid hr; clear hr
         have G4 : Hid True := trivial)
      | (have mk := G2; clear mk
         go_at_call 49
         refine (rden_any _ _ _ _ _ _ _ _).mono ?_
         rintro e v3 ⟨rfl, hb⟩
         replace RN1 := Lib.hid (RN1.out.later hb)
         replace RD1 := Lib.hid (RD1.out.later hb)
         replace RN2 := Lib.hid (RN2.out.later hb)
         replace RD2 := Lib.hid (RD2.out.later hb)
         replace RP := Lib.hid (RP.out.later hb)
         replace X0 := Lib.hid (X0.out.later hb)
         replace X1 := Lib.hid (X1.out.later hb)
         replace Z := Lib.hid (Z.out.later hb)
         replace HB := Lib.hid (bthen HB.out hb); clear hb
         clear kX00 kX01 kX02 kX10 kX11 kX12 kZ0 kZ1 kZ2 kZ3 kZ4 kZ5 kZ6
         obtain ⟨kX00, kX01, kX02, -, -, -, -⟩ := X0.out
         obtain ⟨kX10, kX11, kX12, -, -, -, -⟩ := X1.out
         obtain ⟨kZ0, kZ1, kZ2, kZ3, kZ4, kZ5, kZ6⟩ := Z.out
         have G3 : Hid True := trivial)
      | (have mk := G1; clear mk
         go_at_call 48
         refine (rmulI K P RN1.out RD2.out (sv_limbs _) V2.out (by omega) (by omega) HP.out LP.out (by omega)).mono ?_
         rintro e v2 ⟨ap, np, cp, rfl, hnp, hr, hb⟩
         replace RN1 := Lib.hid (RN1.out.later hb)
         replace RD1 := Lib.hid (RD1.out.later hb)
         replace RN2 := Lib.hid (RN2.out.later hb)
         replace RD2 := Lib.hid (RD2.out.later hb)
         replace X0 := Lib.hid (X0.out.later hb)
         replace X1 := Lib.hid (X1.out.later hb)
         replace Z := Lib.hid (Z.out.later hb)
         replace HB := Lib.hid (bthen HB.out hb); clear hb
         clear kX00 kX01 kX02 kX10 kX11 kX12 kZ0 kZ1 kZ2 kZ3 kZ4 kZ5 kZ6
         obtain ⟨kX00, kX01, kX02, -, -, -, -⟩ := X0.out
         obtain ⟨kX10, kX11, kX12, -, -, -, -⟩ := X1.out
         obtain ⟨kZ0, kZ1, kZ2, kZ3, kZ4, kZ5, kZ6⟩ := Z.out
         have RP := Lib.hid hr; clear hr
         have G2 : Hid True := trivial)
      | (skip
         go_at_call 49
         refine (rden_any _ _ _ _ _ _ _ _).mono ?_
         rintro e v1 ⟨rfl, hb⟩
         replace RN1 := Lib.hid (RN1.out.later hb)
         replace RD1 := Lib.hid (RD1.out.later hb)
         replace RN2 := Lib.hid (RN2.out.later hb)
         replace RD2 := Lib.hid (RD2.out.later hb)
         replace X0 := Lib.hid (X0.out.later hb)
         replace X1 := Lib.hid (X1.out.later hb)
         replace Z := Lib.hid (Z.out.later hb)
         replace HB := Lib.hid (bthen HB.out hb); clear hb
         clear kX00 kX01 kX02 kX10 kX11 kX12 kZ0 kZ1 kZ2 kZ3 kZ4 kZ5 kZ6
         obtain ⟨kX00, kX01, kX02, -, -, -, -⟩ := X0.out
         obtain ⟨kX10, kX11, kX12, -, -, -, -⟩ := X1.out
         obtain ⟨kZ0, kZ1, kZ2, kZ3, kZ4, kZ5, kZ6⟩ := Z.out
         have G1 : Hid True := trivial))
  all_goals
    go_wp2
    exact bodyPost_ret (v := .tuple #[.agg #[.bool (decide (q.num < 0)), .slice ar nr cr, .slice br mr dr], .int .i64 0]) (by simp [results, Tryz.results26, go_sem, *]) rfl
      ⟨ar, nr, cr, br, mr, dr, rfl, h2, h3, RA.out.put3 Z.out _ _ _, RB.out.put3 Z.out _ _ _, below_put3 HB.out (by omega) _ _ _⟩

set_option maxHeartbeats 16000000 in
theorem rdivR_yn0 (k1 j1 k2 j2 K J : Nat) (q p1 p2 : Rat) {s t : Bool} {a b a' b' : Option Addr} {n c m d n' c' m' d' : Nat} {xs ys us vs : List Nat} {w : World} (h0 : Row w a n c xs) (h1 : Row w b m d ys) (h2 : Row w a' n' c' us) (h3 : Row w b' m' d' vs) (hp : mkRat (sv s (val xs)) (val ys) = p1) (hq : mkRat (sv t (val us)) (val vs) = p2) (X Y : Int) (hc0 : ∀ W, Row W a n c xs → Row W b m d ys → Calls Tryz.prog 39 #[.agg #[.bool s, .slice a n c, .slice b m d]] W (QuickYes X Y W)) (hc1 : ∀ W, Row W a' n' c' us → Row W b' m' d' vs → Calls Tryz.prog 39 #[.agg #[.bool t, .slice a' n' c', .slice b' m' d']] W (QuickNo W)) (hn : n ≤ k1) (hm : m ≤ j1) (hn' : n' ≤ k2) (hm' : m' ≤ j2) (h1a : 2 ≤ k1) (h1b : 2 ≤ j1) (h2a : 2 ≤ k2) (h2b : 2 ≤ j2) (h1k : k1 ≤ 20) (h1j : j1 ≤ 20) (h2k : k2 ≤ 20) (h2j : j2 ≤ 20) (hK : k1 + j2 ≤ K) (hJ : j1 + k2 ≤ J) (hK9 : K ≤ 60) (hJ9 : J ≤ 60) (hz : p2 = 0)  :
    Calls Tryz.prog 26 #[.agg #[.bool s, .slice a n c, .slice b m d], .agg #[.bool t, .slice a' n' c', .slice b' m' d']] w (RatErr 3 w) := by
  have HZ := Lib.hid hz; clear hz
  have HB := Lib.hid (below_three w (.cells #[.bool s, .slice a n c, .slice b m d] 27) (.cells #[.bool t, .slice a' n' c', .slice b' m' d'] 27) (.cells #[.bool false, .slice none 0 0, .slice none 0 0] 27))
  have X0 : Hid (Tri (((w.alloc (.cells #[.bool s, .slice a n c, .slice b m d] 27)).alloc (.cells #[.bool t, .slice a' n' c', .slice b' m' d'] 27)).alloc (.cells #[.bool false, .slice none 0 0, .slice none 0 0] 27)) (w.heap.size) (.bool s) (.slice a n c) (.slice b m d)) := (((tri_new _ (.bool s) (.slice a n c) (.slice b m d)).alloc _).alloc _)
  have X1 : Hid (Tri (((w.alloc (.cells #[.bool s, .slice a n c, .slice b m d] 27)).alloc (.cells #[.bool t, .slice a' n' c', .slice b' m' d'] 27)).alloc (.cells #[.bool false, .slice none 0 0, .slice none 0 0] 27)) (w.heap.size + 1) (.bool t) (.slice a' n' c') (.slice b' m' d')) := ((tri_newE (by simp)).alloc _)
  have Z : Hid (Tri (((w.alloc (.cells #[.bool s, .slice a n c, .slice b m d] 27)).alloc (.cells #[.bool t, .slice a' n' c', .slice b' m' d'] 27)).alloc (.cells #[.bool false, .slice none 0 0, .slice none 0 0] 27)) (w.heap.size + 2) (.bool false) (.slice none 0 0) (.slice none 0 0)) := (tri_newE (by simp; try omega))
  have R0 := Lib.hid (h0.later HB.out); clear h0
  have R1 := Lib.hid (h1.later HB.out); clear h1
  have R2 := Lib.hid (h2.later HB.out); clear h2
  have R3 := Lib.hid (h3.later HB.out); clear h3
  have C0 := Lib.hid hc0; clear hc0
  have C1 := Lib.hid hc1; clear hc1
  have HQ0 := Lib.hid hp; clear hp
  have HQ1 := Lib.hid hq; clear hq
  go_enter Tryz.func26, Tryz.ntmps26
  go_wp2_with fail
  refine (C0.out _ R0.out R1.out).mono ?_
  rintro e w1 ⟨rfl, hb⟩
  replace R0 := Lib.hid (R0.out.later hb)
  replace R1 := Lib.hid (R1.out.later hb)
  replace R2 := Lib.hid (R2.out.later hb)
  replace R3 := Lib.hid (R3.out.later hb)
  replace X0 := Lib.hid (X0.out.later hb)
  replace X1 := Lib.hid (X1.out.later hb)
  replace Z := Lib.hid (Z.out.later hb)
  replace HB := Lib.hid (bthen HB.out hb)
  clear hb
  obtain ⟨kX00, kX01, kX02, -, -, -, -⟩ := X0.out
  obtain ⟨kX10, kX11, kX12, -, -, -, -⟩ := X1.out
  obtain ⟨kZ0, kZ1, kZ2, -, -, -, -⟩ := Z.out
  go_wp2_with fail
  refine (C1.out _ R2.out R3.out).mono ?_
  rintro e w2 ⟨rfl, hb⟩
  replace R0 := Lib.hid (R0.out.later hb)
  replace R1 := Lib.hid (R1.out.later hb)
  replace R2 := Lib.hid (R2.out.later hb)
  replace R3 := Lib.hid (R3.out.later hb)
  replace X0 := Lib.hid (X0.out.later hb)
  replace X1 := Lib.hid (X1.out.later hb)
  replace Z := Lib.hid (Z.out.later hb)
  replace HB := Lib.hid (bthen HB.out hb)
  clear hb
  clear kX00 kX01 kX02 kX10 kX11 kX12 kZ0 kZ1 kZ2
  obtain ⟨kX00, kX01, kX02, kX03, kX04, kX05, kX06⟩ := X0.out
  obtain ⟨kX10, kX11, kX12, -, -, -, -⟩ := X1.out
  obtain ⟨kZ0, kZ1, kZ2, -, -, -, -⟩ := Z.out
  go_wp2_with fail
  refine (rnormR k1 j1 p1 R0.out R1.out HQ0.out hn hm (by omega) (by omega) (by omega) (by omega)).mono ?_
  rintro e w3 ⟨a1, n1, c1, b1, m1, d1, rfl, hn1, hm1, hr, hr2, hb⟩
  clear R0
  clear R1
  replace R2 := Lib.hid (R2.out.later hb)
  replace R3 := Lib.hid (R3.out.later hb)
  replace X0 := Lib.hid (X0.out.later hb)
  replace X1 := Lib.hid (X1.out.later hb)
  replace Z := Lib.hid (Z.out.later hb)
  replace HB := Lib.hid (bthen HB.out hb)
  clear hb
  clear kX00 kX01 kX02 kX03 kX04 kX05 kX06 kX10 kX11 kX12 kZ0 kZ1 kZ2
  have RN1 := Lib.hid hr; clear hr
  have RD1 := Lib.hid hr2; clear hr2
  obtain ⟨kX00, kX01, kX02, kX03, kX04, kX05, kX06⟩ := X0.out
  obtain ⟨kX10, kX11, kX12, kX13, kX14, kX15, kX16⟩ := X1.out
  obtain ⟨kZ0, kZ1, kZ2, -, -, -, -⟩ := Z.out
  have X0' := Lib.hid X0.out
  replace R2 := Lib.hid (R2.out.put3 X0'.out (.bool (decide (p1.num < 0))) (.slice a1 n1 c1) (.slice b1 m1 d1))
  replace R3 := Lib.hid (R3.out.put3 X0'.out (.bool (decide (p1.num < 0))) (.slice a1 n1 c1) (.slice b1 m1 d1))
  replace RN1 := Lib.hid (RN1.out.put3 X0'.out (.bool (decide (p1.num < 0))) (.slice a1 n1 c1) (.slice b1 m1 d1))
  replace RD1 := Lib.hid (RD1.out.put3 X0'.out (.bool (decide (p1.num < 0))) (.slice a1 n1 c1) (.slice b1 m1 d1))
  replace X0 := Lib.hid (X0.out.put (.bool (decide (p1.num < 0))) (.slice a1 n1 c1) (.slice b1 m1 d1))
  replace X1 := Lib.hid (X1.out.far (g' := w.heap.size) (by omega) (.bool (decide (p1.num < 0))) (.slice a1 n1 c1) (.slice b1 m1 d1))
  replace Z := Lib.hid (Z.out.far (g' := w.heap.size) (by omega) (.bool (decide (p1.num < 0))) (.slice a1 n1 c1) (.slice b1 m1 d1))
  replace HB := Lib.hid (below_put3 (g := w.heap.size) HB.out (by omega) (.bool (decide (p1.num < 0))) (.slice a1 n1 c1) (.slice b1 m1 d1))
  clear X0'
  go_wp2_with fail
  refine (rnormR k2 j2 p2 R2.out R3.out HQ1.out hn' hm' (by omega) (by omega) (by omega) (by omega)).mono ?_
  rintro e w4 ⟨a2, n2, c2, b2, m2, d2, rfl, hn2, hm2, hr, hr2, hb⟩
  clear R2
  clear R3
  replace RN1 := Lib.hid (RN1.out.later hb)
  replace RD1 := Lib.hid (RD1.out.later hb)
  replace X0 := Lib.hid (X0.out.later hb)
  replace X1 := Lib.hid (X1.out.later hb)
  replace Z := Lib.hid (Z.out.later hb)
  replace HB := Lib.hid (bthen HB.out hb)
  clear hb
  clear kX00 kX01 kX02 kX03 kX04 kX05 kX06 kX10 kX11 kX12 kX13 kX14 kX15 kX16 kZ0 kZ1 kZ2
  have RN2 := Lib.hid hr; clear hr
  have RD2 := Lib.hid hr2; clear hr2
  obtain ⟨kX00, kX01, kX02, -, -, -, -⟩ := X0.out
  obtain ⟨kX10, kX11, kX12, kX13, kX14, kX15, kX16⟩ := X1.out
  obtain ⟨kZ0, kZ1, kZ2, -, -, -, -⟩ := Z.out
  have X0' := Lib.hid X1.out
  replace RN1 := Lib.hid (RN1.out.put3 X0'.out (.bool (decide (p2.num < 0))) (.slice a2 n2 c2) (.slice b2 m2 d2))
  replace RD1 := Lib.hid (RD1.out.put3 X0'.out (.bool (decide (p2.num < 0))) (.slice a2 n2 c2) (.slice b2 m2 d2))
  replace RN2 := Lib.hid (RN2.out.put3 X0'.out (.bool (decide (p2.num < 0))) (.slice a2 n2 c2) (.slice b2 m2 d2))
  replace RD2 := Lib.hid (RD2.out.put3 X0'.out (.bool (decide (p2.num < 0))) (.slice a2 n2 c2) (.slice b2 m2 d2))
  replace X0 := Lib.hid (X0.out.far (g' := w.heap.size + 1) (by omega) (.bool (decide (p2.num < 0))) (.slice a2 n2 c2) (.slice b2 m2 d2))
  replace X1 := Lib.hid (X1.out.put (.bool (decide (p2.num < 0))) (.slice a2 n2 c2) (.slice b2 m2 d2))
  replace Z := Lib.hid (Z.out.far (g' := w.heap.size + 1) (by omega) (.bool (decide (p2.num < 0))) (.slice a2 n2 c2) (.slice b2 m2 d2))
  replace HB := Lib.hid (below_put3 (g := w.heap.size + 1) HB.out (by omega) (.bool (decide (p2.num < 0))) (.slice a2 n2 c2) (.slice b2 m2 d2))
  clear X0'
  have e1 : (limbs p1.num.natAbs).length ≤ k1 := by have := RN1.out.1; omega
  have e2 : (limbs p2.num.natAbs).length ≤ k2 := by have := RN2.out.1; omega
  have e3 : (limbs p1.den).length ≤ j1 := by have := RD1.out.1; omega
  have e4 : (limbs p2.den).length ≤ j2 := by have := RD2.out.1; omega
  obtain ⟨P, hP⟩ : ∃ P, p1.num * (p2.den : Int) = P := ⟨_, rfl⟩
  obtain ⟨Q, hQ⟩ : ∃ Q, p2.num * (p1.den : Int) = Q := ⟨_, rfl⟩
  have hQ' : (p1.den : Int) * p2.num = Q := by rw [Int.mul_comm]; exact hQ
  have LP := Lib.hid (lenZ_le (lenZ_mul e1 (show (limbs ((p2.den : Int)).natAbs).length ≤ j2 by rw [Int.natAbs_natCast]; exact e4) hP) hK)
  have LQ := Lib.hid (lenZ_le (lenZ_mul (show (limbs ((p1.den : Int)).natAbs).length ≤ j1 by rw [Int.natAbs_natCast]; exact e3) e2 hQ') hJ)
  have V1 := Lib.hid (show sv false (val (limbs p1.den)) = (p1.den : Int) by rw [val_limbs]; rfl)
  have V2 := Lib.hid (show sv false (val (limbs p2.den)) = (p2.den : Int) by rw [val_limbs]; rfl)
  have d1p : 0 < p1.den := p1.den_pos
  have d2p : 0 < p2.den := p2.den_pos
  clear e1 e2 e3 e4
  have HY := Lib.hid (show sgn Q = 0 by rw [← hQ, (num_zero d2p (Rat.mkRat_self p2)).2 HZ.out, Int.zero_mul]; rfl)
  clear d1p d2p hQ
  have HP := Lib.hid hP; clear hP
  have HQ2 := Lib.hid hQ'; clear hQ'
  go_wp2_with fail
  replace RN1 := Lib.hid RN1.out.drew
  replace RD1 := Lib.hid RD1.out.drew
  replace RN2 := Lib.hid RN2.out.drew
  replace RD2 := Lib.hid RD2.out.drew
  replace X0 := Lib.hid X0.out.drew
  replace X1 := Lib.hid X1.out.drew
  replace Z := Lib.hid Z.out.drew
  replace HB := Lib.hid HB.out.drew
  clear kX00 kX01 kX02 kX10 kX11 kX12 kX13 kX14 kX15 kX16 kZ0 kZ1 kZ2
  obtain ⟨kX00, kX01, kX02, -, -, -, -⟩ := X0.out
  obtain ⟨kX10, kX11, kX12, -, -, -, -⟩ := X1.out
  obtain ⟨kZ0, kZ1, kZ2, kZ3, kZ4, kZ5, kZ6⟩ := Z.out
  go_region_held3 (fun w' => w'.cell? ⟨w.heap.size, 0, none⟩ = some (.bool (decide (p1.num < 0))) ∧ w'.cell? ⟨w.heap.size, 1, none⟩ = some (.slice a1 n1 c1) ∧ w'.cell? ⟨w.heap.size, 2, none⟩ = some (.slice b1 m1 d1) ∧ w'.cell? ⟨w.heap.size + 1, 0, none⟩ = some (.bool (decide (p2.num < 0))) ∧ w'.cell? ⟨w.heap.size + 1, 1, none⟩ = some (.slice a2 n2 c2) ∧ w'.cell? ⟨w.heap.size + 1, 2, none⟩ = some (.slice b2 m2 d2))
    (first | (refine ⟨?_, ?_, ?_, ?_, ?_, ?_⟩ <;> with_reducible assumption) | (go_keep; done) | (refine ⟨?_, ?_, ?_, ?_, ?_, ?_⟩ <;> (repeat rw [cell_other (by first | (simp; done) | (simp; omega))]) <;> with_reducible assumption))
    (first
      | (have mk := G4; clear mk
         go_at_call 47
         refine (rmakeR_zero _ _ _ _ Q RQ.out (sv_limbs _) (by omega) HY.out).mono ?_
         rintro e v5 ⟨rfl, hb⟩
         replace RN1 := Lib.hid (RN1.out.later hb)
         replace RD1 := Lib.hid (RD1.out.later hb)
         replace RN2 := Lib.hid (RN2.out.later hb)
         replace RD2 := Lib.hid (RD2.out.later hb)
         replace RP := Lib.hid (RP.out.later hb)
         replace RQ := Lib.hid (RQ.out.later hb)
         replace X0 := Lib.hid (X0.out.later hb)
         replace X1 := Lib.hid (X1.out.later hb)
         replace Z := Lib.hid (Z.out.later hb)
         replace HB := Lib.hid (bthen HB.out hb); clear hb
         clear kX00 kX01 kX02 kX10 kX11 kX12 kZ0 kZ1 kZ2 kZ3 kZ4 kZ5 kZ6
         obtain ⟨kX00, kX01, kX02, -, -, -, -⟩ := X0.out
         obtain ⟨kX10, kX11, kX12, -, -, -, -⟩ := X1.out
         obtain ⟨kZ0, kZ1, kZ2, kZ3, kZ4, kZ5, kZ6⟩ := Z.out
         have G5 : Hid True := trivial)
      | (have mk := G3; clear mk
         go_at_call 48
         refine (rmulI J Q RD1.out RN2.out V1.out (sv_limbs _) (by omega) (by omega) HQ2.out LQ.out (by omega)).mono ?_
         rintro e v4 ⟨aq, nq, cq, rfl, hnq, hr, hb⟩
         replace RN1 := Lib.hid (RN1.out.later hb)
         replace RD1 := Lib.hid (RD1.out.later hb)
         replace RN2 := Lib.hid (RN2.out.later hb)
         replace RD2 := Lib.hid (RD2.out.later hb)
         replace RP := Lib.hid (RP.out.later hb)
         replace X0 := Lib.hid (X0.out.later hb)
         replace X1 := Lib.hid (X1.out.later hb)
         replace Z := Lib.hid (Z.out.later hb)
         replace HB := Lib.hid (bthen HB.out hb); clear hb
         clear kX00 kX01 kX02 kX10 kX11 kX12 kZ0 kZ1 kZ2 kZ3 kZ4 kZ5 kZ6
         obtain ⟨kX00, kX01, kX02, -, -, -, -⟩ := X0.out
         obtain ⟨kX10, kX11, kX12, -, -, -, -⟩ := X1.out
         obtain ⟨kZ0, kZ1, kZ2, kZ3, kZ4, kZ5, kZ6⟩ := Z.out
         have RQ := Lib.hid hr; clear hr
         have G4 : Hid True := trivial)
      | (have mk := G2; clear mk
         go_at_call 49
         refine (rden_any _ _ _ _ _ _ _ _).mono ?_
         rintro e v3 ⟨rfl, hb⟩
         replace RN1 := Lib.hid (RN1.out.later hb)
         replace RD1 := Lib.hid (RD1.out.later hb)
         replace RN2 := Lib.hid (RN2.out.later hb)
         replace RD2 := Lib.hid (RD2.out.later hb)
         replace RP := Lib.hid (RP.out.later hb)
         replace X0 := Lib.hid (X0.out.later hb)
         replace X1 := Lib.hid (X1.out.later hb)
         replace Z := Lib.hid (Z.out.later hb)
         replace HB := Lib.hid (bthen HB.out hb); clear hb
         clear kX00 kX01 kX02 kX10 kX11 kX12 kZ0 kZ1 kZ2 kZ3 kZ4 kZ5 kZ6
         obtain ⟨kX00, kX01, kX02, -, -, -, -⟩ := X0.out
         obtain ⟨kX10, kX11, kX12, -, -, -, -⟩ := X1.out
         obtain ⟨kZ0, kZ1, kZ2, kZ3, kZ4, kZ5, kZ6⟩ := Z.out
         have G3 : Hid True := trivial)
      | (have mk := G1; clear mk
         go_at_call 48
         refine (rmulI K P RN1.out RD2.out (sv_limbs _) V2.out (by omega) (by omega) HP.out LP.out (by omega)).mono ?_
         rintro e v2 ⟨ap, np, cp, rfl, hnp, hr, hb⟩
         replace RN1 := Lib.hid (RN1.out.later hb)
         replace RD1 := Lib.hid (RD1.out.later hb)
         replace RN2 := Lib.hid (RN2.out.later hb)
         replace RD2 := Lib.hid (RD2.out.later hb)
         replace X0 := Lib.hid (X0.out.later hb)
         replace X1 := Lib.hid (X1.out.later hb)
         replace Z := Lib.hid (Z.out.later hb)
         replace HB := Lib.hid (bthen HB.out hb); clear hb
         clear kX00 kX01 kX02 kX10 kX11 kX12 kZ0 kZ1 kZ2 kZ3 kZ4 kZ5 kZ6
         obtain ⟨kX00, kX01, kX02, -, -, -, -⟩ := X0.out
         obtain ⟨kX10, kX11, kX12, -, -, -, -⟩ := X1.out
         obtain ⟨kZ0, kZ1, kZ2, kZ3, kZ4, kZ5, kZ6⟩ := Z.out
         have RP := Lib.hid hr; clear hr
         have G2 : Hid True := trivial)
      | (skip
         go_at_call 49
         refine (rden_any _ _ _ _ _ _ _ _).mono ?_
         rintro e v1 ⟨rfl, hb⟩
         replace RN1 := Lib.hid (RN1.out.later hb)
         replace RD1 := Lib.hid (RD1.out.later hb)
         replace RN2 := Lib.hid (RN2.out.later hb)
         replace RD2 := Lib.hid (RD2.out.later hb)
         replace X0 := Lib.hid (X0.out.later hb)
         replace X1 := Lib.hid (X1.out.later hb)
         replace Z := Lib.hid (Z.out.later hb)
         replace HB := Lib.hid (bthen HB.out hb); clear hb
         clear kX00 kX01 kX02 kX10 kX11 kX12 kZ0 kZ1 kZ2 kZ3 kZ4 kZ5 kZ6
         obtain ⟨kX00, kX01, kX02, -, -, -, -⟩ := X0.out
         obtain ⟨kX10, kX11, kX12, -, -, -, -⟩ := X1.out
         obtain ⟨kZ0, kZ1, kZ2, kZ3, kZ4, kZ5, kZ6⟩ := Z.out
         have G1 : Hid True := trivial))
  all_goals
    go_wp2
    exact bodyPost_ret (v := .tuple #[.agg #[.bool false, .slice none 0 0, .slice none 0 0], .int .i64 3]) (by simp [results, Tryz.results26, go_sem, *]) rfl ⟨rfl, below_put3 HB.out (by omega) _ _ _⟩

set_option maxHeartbeats 16000000 in
theorem rdivR_yy0 (k1 j1 k2 j2 K J : Nat) (q p1 p2 : Rat) {s t : Bool} {a b a' b' : Option Addr} {n c m d n' c' m' d' : Nat} {xs ys us vs : List Nat} {w : World} (h0 : Row w a n c xs) (h1 : Row w b m d ys) (h2 : Row w a' n' c' us) (h3 : Row w b' m' d' vs) (hp : mkRat (sv s (val xs)) (val ys) = p1) (hq : mkRat (sv t (val us)) (val vs) = p2) (X Y : Int) (hc0 : ∀ W, Row W a n c xs → Row W b m d ys → Calls Tryz.prog 39 #[.agg #[.bool s, .slice a n c, .slice b m d]] W (QuickYes X Y W)) (V : Int) (hc1 : ∀ W, Row W a' n' c' us → Row W b' m' d' vs → Calls Tryz.prog 39 #[.agg #[.bool t, .slice a' n' c', .slice b' m' d']] W (QuickYes 0 V W)) (hn : n ≤ k1) (hm : m ≤ j1) (hn' : n' ≤ k2) (hm' : m' ≤ j2) (h1a : 2 ≤ k1) (h1b : 2 ≤ j1) (h2a : 2 ≤ k2) (h2b : 2 ≤ j2) (h1k : k1 ≤ 20) (h1j : j1 ≤ 20) (h2k : k2 ≤ 20) (h2j : j2 ≤ 20) (hK : k1 + j2 ≤ K) (hJ : j1 + k2 ≤ J) (hK9 : K ≤ 60) (hJ9 : J ≤ 60) (hz : p2 = 0)  :
    Calls Tryz.prog 26 #[.agg #[.bool s, .slice a n c, .slice b m d], .agg #[.bool t, .slice a' n' c', .slice b' m' d']] w (RatErr 3 w) := by
  have HZ := Lib.hid hz; clear hz
  have HB := Lib.hid (below_three w (.cells #[.bool s, .slice a n c, .slice b m d] 27) (.cells #[.bool t, .slice a' n' c', .slice b' m' d'] 27) (.cells #[.bool false, .slice none 0 0, .slice none 0 0] 27))
  have X0 : Hid (Tri (((w.alloc (.cells #[.bool s, .slice a n c, .slice b m d] 27)).alloc (.cells #[.bool t, .slice a' n' c', .slice b' m' d'] 27)).alloc (.cells #[.bool false, .slice none 0 0, .slice none 0 0] 27)) (w.heap.size) (.bool s) (.slice a n c) (.slice b m d)) := (((tri_new _ (.bool s) (.slice a n c) (.slice b m d)).alloc _).alloc _)
  have X1 : Hid (Tri (((w.alloc (.cells #[.bool s, .slice a n c, .slice b m d] 27)).alloc (.cells #[.bool t, .slice a' n' c', .slice b' m' d'] 27)).alloc (.cells #[.bool false, .slice none 0 0, .slice none 0 0] 27)) (w.heap.size + 1) (.bool t) (.slice a' n' c') (.slice b' m' d')) := ((tri_newE (by simp)).alloc _)
  have Z : Hid (Tri (((w.alloc (.cells #[.bool s, .slice a n c, .slice b m d] 27)).alloc (.cells #[.bool t, .slice a' n' c', .slice b' m' d'] 27)).alloc (.cells #[.bool false, .slice none 0 0, .slice none 0 0] 27)) (w.heap.size + 2) (.bool false) (.slice none 0 0) (.slice none 0 0)) := (tri_newE (by simp; try omega))
  have R0 := Lib.hid (h0.later HB.out); clear h0
  have R1 := Lib.hid (h1.later HB.out); clear h1
  have R2 := Lib.hid (h2.later HB.out); clear h2
  have R3 := Lib.hid (h3.later HB.out); clear h3
  have C0 := Lib.hid hc0; clear hc0
  have C1 := Lib.hid hc1; clear hc1
  have HQ0 := Lib.hid hp; clear hp
  have HQ1 := Lib.hid hq; clear hq
  go_enter Tryz.func26, Tryz.ntmps26
  go_wp2_with fail
  refine (C0.out _ R0.out R1.out).mono ?_
  rintro e w1 ⟨rfl, hb⟩
  replace R0 := Lib.hid (R0.out.later hb)
  replace R1 := Lib.hid (R1.out.later hb)
  replace R2 := Lib.hid (R2.out.later hb)
  replace R3 := Lib.hid (R3.out.later hb)
  replace X0 := Lib.hid (X0.out.later hb)
  replace X1 := Lib.hid (X1.out.later hb)
  replace Z := Lib.hid (Z.out.later hb)
  replace HB := Lib.hid (bthen HB.out hb)
  clear hb
  obtain ⟨kX00, kX01, kX02, -, -, -, -⟩ := X0.out
  obtain ⟨kX10, kX11, kX12, -, -, -, -⟩ := X1.out
  obtain ⟨kZ0, kZ1, kZ2, -, -, -, -⟩ := Z.out
  go_wp2_with fail
  refine (C1.out _ R2.out R3.out).mono ?_
  rintro e w2 ⟨rfl, hb⟩
  replace R0 := Lib.hid (R0.out.later hb)
  replace R1 := Lib.hid (R1.out.later hb)
  replace R2 := Lib.hid (R2.out.later hb)
  replace R3 := Lib.hid (R3.out.later hb)
  replace X0 := Lib.hid (X0.out.later hb)
  replace X1 := Lib.hid (X1.out.later hb)
  replace Z := Lib.hid (Z.out.later hb)
  replace HB := Lib.hid (bthen HB.out hb)
  clear hb
  clear kX00 kX01 kX02 kX10 kX11 kX12 kZ0 kZ1 kZ2
  obtain ⟨kX00, kX01, kX02, kX03, kX04, kX05, kX06⟩ := X0.out
  obtain ⟨kX10, kX11, kX12, -, -, -, -⟩ := X1.out
  obtain ⟨kZ0, kZ1, kZ2, -, -, -, -⟩ := Z.out
  go_wp2_with fail
  refine (rnormR k1 j1 p1 R0.out R1.out HQ0.out hn hm (by omega) (by omega) (by omega) (by omega)).mono ?_
  rintro e w3 ⟨a1, n1, c1, b1, m1, d1, rfl, hn1, hm1, hr, hr2, hb⟩
  clear R0
  clear R1
  replace R2 := Lib.hid (R2.out.later hb)
  replace R3 := Lib.hid (R3.out.later hb)
  replace X0 := Lib.hid (X0.out.later hb)
  replace X1 := Lib.hid (X1.out.later hb)
  replace Z := Lib.hid (Z.out.later hb)
  replace HB := Lib.hid (bthen HB.out hb)
  clear hb
  clear kX00 kX01 kX02 kX03 kX04 kX05 kX06 kX10 kX11 kX12 kZ0 kZ1 kZ2
  have RN1 := Lib.hid hr; clear hr
  have RD1 := Lib.hid hr2; clear hr2
  obtain ⟨kX00, kX01, kX02, kX03, kX04, kX05, kX06⟩ := X0.out
  obtain ⟨kX10, kX11, kX12, kX13, kX14, kX15, kX16⟩ := X1.out
  obtain ⟨kZ0, kZ1, kZ2, -, -, -, -⟩ := Z.out
  have X0' := Lib.hid X0.out
  replace R2 := Lib.hid (R2.out.put3 X0'.out (.bool (decide (p1.num < 0))) (.slice a1 n1 c1) (.slice b1 m1 d1))
  replace R3 := Lib.hid (R3.out.put3 X0'.out (.bool (decide (p1.num < 0))) (.slice a1 n1 c1) (.slice b1 m1 d1))
  replace RN1 := Lib.hid (RN1.out.put3 X0'.out (.bool (decide (p1.num < 0))) (.slice a1 n1 c1) (.slice b1 m1 d1))
  replace RD1 := Lib.hid (RD1.out.put3 X0'.out (.bool (decide (p1.num < 0))) (.slice a1 n1 c1) (.slice b1 m1 d1))
  replace X0 := Lib.hid (X0.out.put (.bool (decide (p1.num < 0))) (.slice a1 n1 c1) (.slice b1 m1 d1))
  replace X1 := Lib.hid (X1.out.far (g' := w.heap.size) (by omega) (.bool (decide (p1.num < 0))) (.slice a1 n1 c1) (.slice b1 m1 d1))
  replace Z := Lib.hid (Z.out.far (g' := w.heap.size) (by omega) (.bool (decide (p1.num < 0))) (.slice a1 n1 c1) (.slice b1 m1 d1))
  replace HB := Lib.hid (below_put3 (g := w.heap.size) HB.out (by omega) (.bool (decide (p1.num < 0))) (.slice a1 n1 c1) (.slice b1 m1 d1))
  clear X0'
  go_wp2_with fail
  refine (rnormR k2 j2 p2 R2.out R3.out HQ1.out hn' hm' (by omega) (by omega) (by omega) (by omega)).mono ?_
  rintro e w4 ⟨a2, n2, c2, b2, m2, d2, rfl, hn2, hm2, hr, hr2, hb⟩
  clear R2
  clear R3
  replace RN1 := Lib.hid (RN1.out.later hb)
  replace RD1 := Lib.hid (RD1.out.later hb)
  replace X0 := Lib.hid (X0.out.later hb)
  replace X1 := Lib.hid (X1.out.later hb)
  replace Z := Lib.hid (Z.out.later hb)
  replace HB := Lib.hid (bthen HB.out hb)
  clear hb
  clear kX00 kX01 kX02 kX03 kX04 kX05 kX06 kX10 kX11 kX12 kX13 kX14 kX15 kX16 kZ0 kZ1 kZ2
  have RN2 := Lib.hid hr; clear hr
  have RD2 := Lib.hid hr2; clear hr2
  obtain ⟨kX00, kX01, kX02, -, -, -, -⟩ := X0.out
  obtain ⟨kX10, kX11, kX12, kX13, kX14, kX15, kX16⟩ := X1.out
  obtain ⟨kZ0, kZ1, kZ2, -, -, -, -⟩ := Z.out
  have X0' := Lib.hid X1.out
  replace RN1 := Lib.hid (RN1.out.put3 X0'.out (.bool (decide (p2.num < 0))) (.slice a2 n2 c2) (.slice b2 m2 d2))
  replace RD1 := Lib.hid (RD1.out.put3 X0'.out (.bool (decide (p2.num < 0))) (.slice a2 n2 c2) (.slice b2 m2 d2))
  replace RN2 := Lib.hid (RN2.out.put3 X0'.out (.bool (decide (p2.num < 0))) (.slice a2 n2 c2) (.slice b2 m2 d2))
  replace RD2 := Lib.hid (RD2.out.put3 X0'.out (.bool (decide (p2.num < 0))) (.slice a2 n2 c2) (.slice b2 m2 d2))
  replace X0 := Lib.hid (X0.out.far (g' := w.heap.size + 1) (by omega) (.bool (decide (p2.num < 0))) (.slice a2 n2 c2) (.slice b2 m2 d2))
  replace X1 := Lib.hid (X1.out.put (.bool (decide (p2.num < 0))) (.slice a2 n2 c2) (.slice b2 m2 d2))
  replace Z := Lib.hid (Z.out.far (g' := w.heap.size + 1) (by omega) (.bool (decide (p2.num < 0))) (.slice a2 n2 c2) (.slice b2 m2 d2))
  replace HB := Lib.hid (below_put3 (g := w.heap.size + 1) HB.out (by omega) (.bool (decide (p2.num < 0))) (.slice a2 n2 c2) (.slice b2 m2 d2))
  clear X0'
  have e1 : (limbs p1.num.natAbs).length ≤ k1 := by have := RN1.out.1; omega
  have e2 : (limbs p2.num.natAbs).length ≤ k2 := by have := RN2.out.1; omega
  have e3 : (limbs p1.den).length ≤ j1 := by have := RD1.out.1; omega
  have e4 : (limbs p2.den).length ≤ j2 := by have := RD2.out.1; omega
  obtain ⟨P, hP⟩ : ∃ P, p1.num * (p2.den : Int) = P := ⟨_, rfl⟩
  obtain ⟨Q, hQ⟩ : ∃ Q, p2.num * (p1.den : Int) = Q := ⟨_, rfl⟩
  have hQ' : (p1.den : Int) * p2.num = Q := by rw [Int.mul_comm]; exact hQ
  have LP := Lib.hid (lenZ_le (lenZ_mul e1 (show (limbs ((p2.den : Int)).natAbs).length ≤ j2 by rw [Int.natAbs_natCast]; exact e4) hP) hK)
  have LQ := Lib.hid (lenZ_le (lenZ_mul (show (limbs ((p1.den : Int)).natAbs).length ≤ j1 by rw [Int.natAbs_natCast]; exact e3) e2 hQ') hJ)
  have V1 := Lib.hid (show sv false (val (limbs p1.den)) = (p1.den : Int) by rw [val_limbs]; rfl)
  have V2 := Lib.hid (show sv false (val (limbs p2.den)) = (p2.den : Int) by rw [val_limbs]; rfl)
  have d1p : 0 < p1.den := p1.den_pos
  have d2p : 0 < p2.den := p2.den_pos
  clear e1 e2 e3 e4
  have HY := Lib.hid (show sgn Q = 0 by rw [← hQ, (num_zero d2p (Rat.mkRat_self p2)).2 HZ.out, Int.zero_mul]; rfl)
  clear d1p d2p hQ
  have HP := Lib.hid hP; clear hP
  have HQ2 := Lib.hid hQ'; clear hQ'
  go_wp2_with fail
  replace RN1 := Lib.hid RN1.out.drew
  replace RD1 := Lib.hid RD1.out.drew
  replace RN2 := Lib.hid RN2.out.drew
  replace RD2 := Lib.hid RD2.out.drew
  replace X0 := Lib.hid X0.out.drew
  replace X1 := Lib.hid X1.out.drew
  replace Z := Lib.hid Z.out.drew
  replace HB := Lib.hid HB.out.drew
  clear kX00 kX01 kX02 kX10 kX11 kX12 kX13 kX14 kX15 kX16 kZ0 kZ1 kZ2
  obtain ⟨kX00, kX01, kX02, -, -, -, -⟩ := X0.out
  obtain ⟨kX10, kX11, kX12, -, -, -, -⟩ := X1.out
  obtain ⟨kZ0, kZ1, kZ2, kZ3, kZ4, kZ5, kZ6⟩ := Z.out
  go_region_held3 (fun w' => w'.cell? ⟨w.heap.size, 0, none⟩ = some (.bool (decide (p1.num < 0))) ∧ w'.cell? ⟨w.heap.size, 1, none⟩ = some (.slice a1 n1 c1) ∧ w'.cell? ⟨w.heap.size, 2, none⟩ = some (.slice b1 m1 d1) ∧ w'.cell? ⟨w.heap.size + 1, 0, none⟩ = some (.bool (decide (p2.num < 0))) ∧ w'.cell? ⟨w.heap.size + 1, 1, none⟩ = some (.slice a2 n2 c2) ∧ w'.cell? ⟨w.heap.size + 1, 2, none⟩ = some (.slice b2 m2 d2))
    (first | (refine ⟨?_, ?_, ?_, ?_, ?_, ?_⟩ <;> with_reducible assumption) | (go_keep; done) | (refine ⟨?_, ?_, ?_, ?_, ?_, ?_⟩ <;> (repeat rw [cell_other (by first | (simp; done) | (simp; omega))]) <;> with_reducible assumption))
    (first
      | (have mk := G4; clear mk
         go_at_call 47
         refine (rmakeR_zero _ _ _ _ Q RQ.out (sv_limbs _) (by omega) HY.out).mono ?_
         rintro e v5 ⟨rfl, hb⟩
         replace RN1 := Lib.hid (RN1.out.later hb)
         replace RD1 := Lib.hid (RD1.out.later hb)
         replace RN2 := Lib.hid (RN2.out.later hb)
         replace RD2 := Lib.hid (RD2.out.later hb)
         replace RP := Lib.hid (RP.out.later hb)
         replace RQ := Lib.hid (RQ.out.later hb)
         replace X0 := Lib.hid (X0.out.later hb)
         replace X1 := Lib.hid (X1.out.later hb)
         replace Z := Lib.hid (Z.out.later hb)
         replace HB := Lib.hid (bthen HB.out hb); clear hb
         clear kX00 kX01 kX02 kX10 kX11 kX12 kZ0 kZ1 kZ2 kZ3 kZ4 kZ5 kZ6
         obtain ⟨kX00, kX01, kX02, -, -, -, -⟩ := X0.out
         obtain ⟨kX10, kX11, kX12, -, -, -, -⟩ := X1.out
         obtain ⟨kZ0, kZ1, kZ2, kZ3, kZ4, kZ5, kZ6⟩ := Z.out
         have G5 : Hid True := trivial)
      | (have mk := G3; clear mk
         go_at_call 48
         refine (rmulI J Q RD1.out RN2.out V1.out (sv_limbs _) (by omega) (by omega) HQ2.out LQ.out (by omega)).mono ?_
         rintro e v4 ⟨aq, nq, cq, rfl, hnq, hr, hb⟩
         replace RN1 := Lib.hid (RN1.out.later hb)
         replace RD1 := Lib.hid (RD1.out.later hb)
         replace RN2 := Lib.hid (RN2.out.later hb)
         replace RD2 := Lib.hid (RD2.out.later hb)
         replace RP := Lib.hid (RP.out.later hb)
         replace X0 := Lib.hid (X0.out.later hb)
         replace X1 := Lib.hid (X1.out.later hb)
         replace Z := Lib.hid (Z.out.later hb)
         replace HB := Lib.hid (bthen HB.out hb); clear hb
         clear kX00 kX01 kX02 kX10 kX11 kX12 kZ0 kZ1 kZ2 kZ3 kZ4 kZ5 kZ6
         obtain ⟨kX00, kX01, kX02, -, -, -, -⟩ := X0.out
         obtain ⟨kX10, kX11, kX12, -, -, -, -⟩ := X1.out
         obtain ⟨kZ0, kZ1, kZ2, kZ3, kZ4, kZ5, kZ6⟩ := Z.out
         have RQ := Lib.hid hr; clear hr
         have G4 : Hid True := trivial)
      | (have mk := G2; clear mk
         go_at_call 49
         refine (rden_any _ _ _ _ _ _ _ _).mono ?_
         rintro e v3 ⟨rfl, hb⟩
         replace RN1 := Lib.hid (RN1.out.later hb)
         replace RD1 := Lib.hid (RD1.out.later hb)
         replace RN2 := Lib.hid (RN2.out.later hb)
         replace RD2 := Lib.hid (RD2.out.later hb)
         replace RP := Lib.hid (RP.out.later hb)
         replace X0 := Lib.hid (X0.out.later hb)
         replace X1 := Lib.hid (X1.out.later hb)
         replace Z := Lib.hid (Z.out.later hb)
         replace HB := Lib.hid (bthen HB.out hb); clear hb
         clear kX00 kX01 kX02 kX10 kX11 kX12 kZ0 kZ1 kZ2 kZ3 kZ4 kZ5 kZ6
         obtain ⟨kX00, kX01, kX02, -, -, -, -⟩ := X0.out
         obtain ⟨kX10, kX11, kX12, -, -, -, -⟩ := X1.out
         obtain ⟨kZ0, kZ1, kZ2, kZ3, kZ4, kZ5, kZ6⟩ := Z.out
         have G3 : Hid True := trivial)
      | (have mk := G1; clear mk
         go_at_call 48
         refine (rmulI K P RN1.out RD2.out (sv_limbs _) V2.out (by omega) (by omega) HP.out LP.out (by omega)).mono ?_
         rintro e v2 ⟨ap, np, cp, rfl, hnp, hr, hb⟩
         replace RN1 := Lib.hid (RN1.out.later hb)
         replace RD1 := Lib.hid (RD1.out.later hb)
         replace RN2 := Lib.hid (RN2.out.later hb)
         replace RD2 := Lib.hid (RD2.out.later hb)
         replace X0 := Lib.hid (X0.out.later hb)
         replace X1 := Lib.hid (X1.out.later hb)
         replace Z := Lib.hid (Z.out.later hb)
         replace HB := Lib.hid (bthen HB.out hb); clear hb
         clear kX00 kX01 kX02 kX10 kX11 kX12 kZ0 kZ1 kZ2 kZ3 kZ4 kZ5 kZ6
         obtain ⟨kX00, kX01, kX02, -, -, -, -⟩ := X0.out
         obtain ⟨kX10, kX11, kX12, -, -, -, -⟩ := X1.out
         obtain ⟨kZ0, kZ1, kZ2, kZ3, kZ4, kZ5, kZ6⟩ := Z.out
         have RP := Lib.hid hr; clear hr
         have G2 : Hid True := trivial)
      | (skip
         go_at_call 49
         refine (rden_any _ _ _ _ _ _ _ _).mono ?_
         rintro e v1 ⟨rfl, hb⟩
         replace RN1 := Lib.hid (RN1.out.later hb)
         replace RD1 := Lib.hid (RD1.out.later hb)
         replace RN2 := Lib.hid (RN2.out.later hb)
         replace RD2 := Lib.hid (RD2.out.later hb)
         replace X0 := Lib.hid (X0.out.later hb)
         replace X1 := Lib.hid (X1.out.later hb)
         replace Z := Lib.hid (Z.out.later hb)
         replace HB := Lib.hid (bthen HB.out hb); clear hb
         clear kX00 kX01 kX02 kX10 kX11 kX12 kZ0 kZ1 kZ2 kZ3 kZ4 kZ5 kZ6
         obtain ⟨kX00, kX01, kX02, -, -, -, -⟩ := X0.out
         obtain ⟨kX10, kX11, kX12, -, -, -, -⟩ := X1.out
         obtain ⟨kZ0, kZ1, kZ2, kZ3, kZ4, kZ5, kZ6⟩ := Z.out
         have G1 : Hid True := trivial))
  all_goals
    go_wp2
    exact bodyPost_ret (v := .tuple #[.agg #[.bool false, .slice none 0 0, .slice none 0 0], .int .i64 3]) (by simp [results, Tryz.results26, go_sem, *]) rfl ⟨rfl, below_put3 HB.out (by omega) _ _ _⟩

end Go.Proofs.YtmoplgfmngohgaaGreat
/- What the answer's Div tells, whole. -/
namespace Go.Proofs.YtmoplgfmngohgaaGreat
set_option linter.unusedVariables false
set_option linter.unusedSimpArgs false
set_option maxRecDepth 100000
open Go.RowKit Nums

theorem ratOk_more {k j K J : Nat} {q : Rat} {w : World} (hk : k ≤ K) (hj : j ≤ J) : ∀ e w', RatOk k j q w e w' → RatOk K J q w e w' := by
  rintro e w' ⟨a, n, c, b, m, d, h1, h2, h3, h4⟩
  exact ⟨a, n, c, b, m, d, h1, by omega, by omega, h4⟩

theorem rdivR (k1 j1 k2 j2 K J : Nat) (q p1 p2 : Rat) {s t : Bool} {a b a' b' : Option Addr} {n c m d n' c' m' d' : Nat} {xs ys us vs : List Nat} {w : World} (h0 : Row w a n c xs) (h1 : Row w b m d ys) (h2 : Row w a' n' c' us) (h3 : Row w b' m' d' vs) (hp : mkRat (sv s (val xs)) (val ys) = p1) (hq : mkRat (sv t (val us)) (val vs) = p2) (hn : n ≤ k1) (hm : m ≤ j1) (hn' : n' ≤ k2) (hm' : m' ≤ j2) (h1a : 2 ≤ k1) (h1b : 2 ≤ j1) (h2a : 2 ≤ k2) (h2b : 2 ≤ j2) (h1k : k1 ≤ 20) (h1j : j1 ≤ 20) (h2k : k2 ≤ 20) (h2j : j2 ≤ 20) (hK : k1 + j2 ≤ K) (hJ : j1 + k2 ≤ J) (hK9 : K ≤ 60) (hJ9 : J ≤ 60) (hz : p2 ≠ 0) (hr : p1 / p2 = q) :
    Calls Tryz.prog 26 #[.agg #[.bool s, .slice a n c, .slice b m d], .agg #[.bool t, .slice a' n' c', .slice b' m' d']] w (RatOk K J q w) := by
  by_cases c1 : n ≤ 1 ∧ m = 1 ∧ 0 < val ys ∧ val ys < 1073741824 ∧ val xs < 1073741824
  · by_cases c2 : n' ≤ 1 ∧ m' = 1 ∧ 0 < val vs ∧ val vs < 1073741824 ∧ val us < 1073741824
    · obtain ⟨x0, x1, y0, y1, y2⟩ := quick_bounds (s := s) c1
      obtain ⟨u0, u1, v0, v1, v2⟩ := quick_bounds (s := t) c2
      obtain ⟨X, hX⟩ : ∃ X, sv s (val xs) = X := ⟨_, rfl⟩
      obtain ⟨Y, hY⟩ : ∃ Y : Int, (val ys : Int) = Y := ⟨_, rfl⟩
      obtain ⟨U, hU⟩ : ∃ U, sv t (val us) = U := ⟨_, rfl⟩
      obtain ⟨V, hV⟩ : ∃ V : Int, (val vs : Int) = V := ⟨_, rfl⟩
      have q1 : ∀ W, Row W a n c xs → Row W b m d ys → Calls Tryz.prog 39 #[.agg #[.bool s, .slice a n c, .slice b m d]] W (QuickYes X Y W) := fun W r0 r1 => by rw [← hX, ← hY]; exact quickY c1 W r0 r1
      have q2 : ∀ W, Row W a' n' c' us → Row W b' m' d' vs → Calls Tryz.prog 39 #[.agg #[.bool t, .slice a' n' c', .slice b' m' d']] W (QuickYes U V W) := fun W r0 r1 => by rw [← hU, ← hV]; exact quickY c2 W r0 r1
      rw [hX] at x0 x1 hp
      rw [hU] at u0 u1 hq
      rw [hY] at y0 y1 y2
      rw [hV] at v0 v1 v2
      have hy : val ys = Y.natAbs := by omega
      have hv : val vs = V.natAbs := by omega
      rw [hy] at hp
      rw [hv] at hq
      have m1 := mul_lt_bound (by omega) x0 x1 v0 v1
      have m2 := mul_lt_bound (by omega) y0 y1 u0 u1
      rcases Int.lt_trichotomy U 0 with hU | hU | hU
      · have m3 : 0 < -Y * U := by rw [Int.neg_mul]; have := Int.mul_neg_of_neg_of_pos hU y2; rw [Int.mul_comm] at this; omega
        have m4 : -X * V = -(X * V) := Int.neg_mul _ _
        have m5 : -Y * U = -(Y * U) := Int.neg_mul _ _
        exact (rdivR_small_n q h0 h1 h2 h3 X Y q1 U V q2 (-X * V) (-Y * U) rfl rfl hU x0 x1 y0 y1 (by omega) (by omega) m3 (by omega) (by rw [rdiv_neg y2 v2 hp hq hU, hr])).mono (ratOk_more (by omega) (by omega))
      · exact absurd ((num_zero (by omega) hq).1 hU) hz
      · have m3 := Int.mul_pos y2 hU
        exact (rdivR_small_p q h0 h1 h2 h3 X Y q1 U V q2 (X * V) (Y * U) rfl rfl hU x0 x1 y0 y1 (by omega) (by omega) m3 (by omega) (by rw [rdiv_pos y2 v2 hp hq hU, hr])).mono (ratOk_more (by omega) (by omega))
    · exact rdivR_yn k1 j1 k2 j2 K J q p1 p2 h0 h1 h2 h3 hp hq _ _ (quickY c1) (quickN c2) hn hm hn' hm' h1a h1b h2a h2b h1k h1j h2k h2j hK hJ hK9 hJ9 hz hr
  · by_cases c2 : n' ≤ 1 ∧ m' = 1 ∧ 0 < val vs ∧ val vs < 1073741824 ∧ val us < 1073741824
    · exact rdivR_ny k1 j1 k2 j2 K J q p1 p2 h0 h1 h2 h3 hp hq (quickN c1) _ _ (quickY c2) hn hm hn' hm' h1a h1b h2a h2b h1k h1j h2k h2j hK hJ hK9 hJ9 hz hr
    · exact rdivR_nn k1 j1 k2 j2 K J q p1 p2 h0 h1 h2 h3 hp hq (quickN c1) (quickN c2) hn hm hn' hm' h1a h1b h2a h2b h1k h1j h2k h2j hK hJ hK9 hJ9 hz hr

theorem rdivR_zero (k1 j1 k2 j2 K J : Nat) (p1 p2 : Rat) {s t : Bool} {a b a' b' : Option Addr} {n c m d n' c' m' d' : Nat} {xs ys us vs : List Nat} {w : World} (h0 : Row w a n c xs) (h1 : Row w b m d ys) (h2 : Row w a' n' c' us) (h3 : Row w b' m' d' vs) (hp : mkRat (sv s (val xs)) (val ys) = p1) (hq : mkRat (sv t (val us)) (val vs) = p2) (hn : n ≤ k1) (hm : m ≤ j1) (hn' : n' ≤ k2) (hm' : m' ≤ j2) (h1a : 2 ≤ k1) (h1b : 2 ≤ j1) (h2a : 2 ≤ k2) (h2b : 2 ≤ j2) (h1k : k1 ≤ 20) (h1j : j1 ≤ 20) (h2k : k2 ≤ 20) (h2j : j2 ≤ 20) (hK : k1 + j2 ≤ K) (hJ : j1 + k2 ≤ J) (hK9 : K ≤ 60) (hJ9 : J ≤ 60) (hz : p2 = 0) :
    Calls Tryz.prog 26 #[.agg #[.bool s, .slice a n c, .slice b m d], .agg #[.bool t, .slice a' n' c', .slice b' m' d']] w (RatErr 3 w) := by
  by_cases c1 : n ≤ 1 ∧ m = 1 ∧ 0 < val ys ∧ val ys < 1073741824 ∧ val xs < 1073741824
  · by_cases c2 : n' ≤ 1 ∧ m' = 1 ∧ 0 < val vs ∧ val vs < 1073741824 ∧ val us < 1073741824
    · have hU : sv t (val us) = 0 := (num_zero c2.2.2.1 hq).2 hz
      exact rdivR_yy0 k1 j1 k2 j2 K J 0 p1 p2 h0 h1 h2 h3 hp hq _ _ (quickY c1) _ (fun W r0 r1 => by have := quickY (s := t) c2 W r0 r1; rwa [hU] at this) hn hm hn' hm' h1a h1b h2a h2b h1k h1j h2k h2j hK hJ hK9 hJ9 hz
    · exact rdivR_yn0 k1 j1 k2 j2 K J 0 p1 p2 h0 h1 h2 h3 hp hq _ _ (quickY c1) (quickN c2) hn hm hn' hm' h1a h1b h2a h2b h1k h1j h2k h2j hK hJ hK9 hJ9 hz
  · by_cases c2 : n' ≤ 1 ∧ m' = 1 ∧ 0 < val vs ∧ val vs < 1073741824 ∧ val us < 1073741824
    · exact rdivR_ny0 k1 j1 k2 j2 K J 0 p1 p2 h0 h1 h2 h3 hp hq (quickN c1) _ _ (quickY c2) hn hm hn' hm' h1a h1b h2a h2b h1k h1j h2k h2j hK hJ hK9 hJ9 hz
    · exact rdivR_nn0 k1 j1 k2 j2 K J 0 p1 p2 h0 h1 h2 h3 hp hq (quickN c1) (quickN c2) hn hm hn' hm' h1a h1b h2a h2b h1k h1j h2k h2j hK hJ hK9 hJ9 hz

end Go.Proofs.YtmoplgfmngohgaaGreat
