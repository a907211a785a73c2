/- What the answer's Mul tells. -/
import Derived.Test.YtmoplgfmngohgaaGreatQH
import Derived.Test.YtmoplgfmngohgaaGreatQD
import Derived.Deep.RegionHeld3
namespace Go.Proofs.YtmoplgfmngohgaaGreat
set_option linter.unusedVariables false
set_option linter.unusedSimpArgs false
set_option maxRecDepth 100000
open Go.RowKit Nums

theorem mkRat_pow {X D : Int} {q : Rat} {x : Int} {d : Nat} (h : mkRat x d = q) (hx : x = X) (hd : d = D.natAbs) : mkRat X D.natAbs = q := by rw [← hx, ← hd]; exact h

theorem mul_lt_bound {X Y B : Int} (hB : 0 < B) (x0 : -B < X) (x1 : X < B) (y0 : -B < Y) (y1 : Y < B) : -(B * B) < X * Y ∧ X * Y < B * B := by
  have hx : X.natAbs < B.natAbs := by omega
  have hy : Y.natAbs < B.natAbs := by omega
  have h1 : (X * Y).natAbs < B.natAbs * B.natAbs := by
    rw [Int.natAbs_mul]; exact Nat.mul_lt_mul'' hx hy
  have h2 : B * B = ((B.natAbs * B.natAbs : Nat) : Int) := by
    rw [Int.natCast_mul]; have : (B.natAbs : Int) = B := by omega
    rw [this]
  rw [h2]; omega

theorem quickN {s : Bool} {a b : Option Addr} {n c m d : Nat} {xs ys : List Nat} (hP : ¬(n ≤ 1 ∧ m = 1 ∧ 0 < val ys ∧ val ys < 1073741824 ∧ val xs < 1073741824)) (w : World) (h0 : Row w a n c xs) (h1 : Row w b m d ys) :
    Calls Tryz.prog 39 #[.agg #[.bool s, .slice a n c, .slice b m d]] w (QuickNo w) := by
  by_cases hn : 1 < n
  · exact quick_no1 s a b n c m d w hn
  · by_cases hm : m = 1
    · subst hm
      obtain ⟨y, g, off, rfl, hy, rfl, hg, hc⟩ := row_at_one h1
      have ev : val [y] = y := by simp [val]
      rw [ev] at hP
      by_cases hy0 : y = 0
      · exact quick_no3 s a n c d g off (y : Int) w (by omega) hg hc (by omega)
      · by_cases hyb : 1073741824 ≤ y
        · exact quick_no4 s a n c d g off (y : Int) w (by omega) hg hc (by omega) (by omega)
        · by_cases hn1 : n = 1
          · subst hn1
            obtain ⟨x, gx, ox, rfl, hx, rfl, hgx, hcx⟩ := row_at_one h0
            have ex : val [x] = x := by simp [val]
            rw [ex] at hP
            by_cases hxb : 1073741824 ≤ x
            · exact quick_no5 s c d g off (y : Int) w (x : Int) gx ox hgx hcx hg hc (by omega) (by omega) (by omega) (by omega)
            · exact absurd ⟨by omega, rfl, by omega, by omega, by omega⟩ hP
          · obtain rfl : n = 0 := by omega
            have ex : xs = [] := List.length_eq_zero_iff.1 h0.1
            subst ex
            exact absurd ⟨by omega, rfl, by omega, by omega, by simp [val]⟩ hP
    · exact quick_no2 s a b n c m d w (by omega) hm

theorem quickY {s : Bool} {a b : Option Addr} {n c m d : Nat} {xs ys : List Nat} (hP : (n ≤ 1 ∧ m = 1 ∧ 0 < val ys ∧ val ys < 1073741824 ∧ val xs < 1073741824)) (w : World) (h0 : Row w a n c xs) (h1 : Row w b m d ys) :
    Calls Tryz.prog 39 #[.agg #[.bool s, .slice a n c, .slice b m d]] w (QuickYes (sv s (val xs)) (val ys : Int) w) := by
  obtain ⟨hn, rfl, hy0, hyb, hxb⟩ := hP
  obtain ⟨y, g, off, rfl, hy, rfl, hg, hc⟩ := row_at_one h1
  have ev : val [y] = y := by simp [val]
  rw [ev] at hy0 hyb ⊢
  by_cases hn1 : n = 1
  · subst hn1
    obtain ⟨x, gx, ox, rfl, hx, rfl, hgx, hcx⟩ := row_at_one h0
    have ex : val [x] = x := by simp [val]
    rw [ex] at hxb ⊢
    cases s
    · exact quick_yes1f c d g off (y : Int) w (x : Int) gx ox hgx hcx hg hc (by omega) (by omega) (by omega) (by omega)
    · exact quick_yes1t c d g off (y : Int) w (x : Int) gx ox hgx hcx hg hc (by omega) (by omega) (by omega) (by omega)
  · obtain rfl : n = 0 := by omega
    have ex : xs = [] := List.length_eq_zero_iff.1 h0.1
    subst ex
    cases s
    · exact quick_yes0f a c d g off (y : Int) w hg hc (by omega) (by omega)
    · exact quick_yes0t a c d g off (y : Int) w hg hc (by omega) (by omega)

set_option maxHeartbeats 8000000 in
theorem rmulR_small (q : Rat) {s t : Bool} {a b a' b' : Option Addr} {n c m d n' c' m' d' : Nat} {xs ys us vs : List Nat} {w : World} (h0 : Row w a n c xs) (h1 : Row w b m d ys) (h2 : Row w a' n' c' us) (h3 : Row w b' m' d' vs) (X Y : Int) (hc0 : ∀ W, Row W a n c xs → Row W b m d ys → Calls Tryz.prog 39 #[.agg #[.bool s, .slice a n c, .slice b m d]] W (QuickYes X Y W)) (U V : Int) (hc1 : ∀ W, Row W a' n' c' us → Row W b' m' d' vs → Calls Tryz.prog 39 #[.agg #[.bool t, .slice a' n' c', .slice b' m' d']] W (QuickYes U V W)) (E F : Int) (hE : X * U = E) (hF : Y * V = F) (e0 : -4611686018427387904 < E) (e1 : E < 4611686018427387904) (f0 : 0 < F) (f1 : F < 4611686018427387904) (hq : mkRat E F.natAbs = q) :
    Calls Tryz.prog 33 #[.agg #[.bool s, .slice a n c, .slice b m d], .agg #[.bool t, .slice a' n' c', .slice b' m' d']] w (RatK 2 2 q w) := by
  have HB := Lib.hid (below_three w (.cells #[.bool s, .slice a n c, .slice b m d] 27) (.cells #[.bool t, .slice a' n' c', .slice b' m' d'] 27) (.cells #[.bool false, .slice none 0 0, .slice none 0 0] 27))
  have X0 : Hid (Tri (((w.alloc (.cells #[.bool s, .slice a n c, .slice b m d] 27)).alloc (.cells #[.bool t, .slice a' n' c', .slice b' m' d'] 27)).alloc (.cells #[.bool false, .slice none 0 0, .slice none 0 0] 27)) (w.heap.size) (.bool s) (.slice a n c) (.slice b m d)) := (((tri_new _ (.bool s) (.slice a n c) (.slice b m d)).alloc _).alloc _)
  have X1 : Hid (Tri (((w.alloc (.cells #[.bool s, .slice a n c, .slice b m d] 27)).alloc (.cells #[.bool t, .slice a' n' c', .slice b' m' d'] 27)).alloc (.cells #[.bool false, .slice none 0 0, .slice none 0 0] 27)) (w.heap.size + 1) (.bool t) (.slice a' n' c') (.slice b' m' d')) := ((tri_newE (by simp)).alloc _)
  have Z : Hid (Tri (((w.alloc (.cells #[.bool s, .slice a n c, .slice b m d] 27)).alloc (.cells #[.bool t, .slice a' n' c', .slice b' m' d'] 27)).alloc (.cells #[.bool false, .slice none 0 0, .slice none 0 0] 27)) (w.heap.size + 2) (.bool false) (.slice none 0 0) (.slice none 0 0)) := (tri_newE (by simp; try omega))
  have R0 := Lib.hid (h0.later HB.out); clear h0
  have R1 := Lib.hid (h1.later HB.out); clear h1
  have R2 := Lib.hid (h2.later HB.out); clear h2
  have R3 := Lib.hid (h3.later HB.out); clear h3
  have C0 := Lib.hid hc0; clear hc0
  have C1 := Lib.hid hc1; clear hc1
  have HE := Lib.hid hE; clear hE
  have HF := Lib.hid hF; clear hF
  have HQ := Lib.hid hq; clear hq
  have W1 := Lib.hid (show wrap64 (X * U) = E by rw [HE.out]; unfold wrap64; omega)
  have W2 := Lib.hid (show wrap64 (Y * V) = F by rw [HF.out]; unfold wrap64; omega)
  go_enter Tryz.func33, Tryz.ntmps33
  go_wp2_with fail
  refine (C0.out _ R0.out R1.out).mono ?_
  rintro e w1 ⟨rfl, hb⟩
  clear R0
  clear R1
  replace R2 := Lib.hid (R2.out.later hb)
  replace R3 := Lib.hid (R3.out.later hb)
  replace X0 := Lib.hid (X0.out.later hb)
  replace X1 := Lib.hid (X1.out.later hb)
  replace Z := Lib.hid (Z.out.later hb)
  replace HB := Lib.hid (bthen HB.out hb)
  clear hb
  obtain ⟨kX00, kX01, kX02, -, -, -, -⟩ := X0.out
  obtain ⟨kX10, kX11, kX12, -, -, -, -⟩ := X1.out
  obtain ⟨kZ0, kZ1, kZ2, -, -, -, -⟩ := Z.out
  go_wp2_with fail
  refine (C1.out _ R2.out R3.out).mono ?_
  rintro e w2 ⟨rfl, hb⟩
  clear R2
  clear R3
  replace X0 := Lib.hid (X0.out.later hb)
  replace X1 := Lib.hid (X1.out.later hb)
  replace Z := Lib.hid (Z.out.later hb)
  replace HB := Lib.hid (bthen HB.out hb)
  clear hb
  clear kX00 kX01 kX02 kX10 kX11 kX12 kZ0 kZ1 kZ2
  obtain ⟨kX00, kX01, kX02, -, -, -, -⟩ := X0.out
  obtain ⟨kX10, kX11, kX12, -, -, -, -⟩ := X1.out
  obtain ⟨kZ0, kZ1, kZ2, kZ3, kZ4, kZ5, kZ6⟩ := Z.out
  go_wp2_with fail
  rw [W1.out, W2.out]
  refine (toldR q E F _ e0 e1 f0 f1 HQ.out).mono ?_
  rintro e w3 ⟨ar, nr, cr, br, mr, dr, rfl, h2, h3, hr, hr2, hb⟩
  replace X0 := Lib.hid (X0.out.later hb)
  replace X1 := Lib.hid (X1.out.later hb)
  replace Z := Lib.hid (Z.out.later hb)
  replace HB := Lib.hid (bthen HB.out hb)
  clear hb
  clear kX00 kX01 kX02 kX10 kX11 kX12 kZ0 kZ1 kZ2 kZ3 kZ4 kZ5 kZ6
  have RA := Lib.hid hr; clear hr
  have RB := Lib.hid hr2; clear hr2
  obtain ⟨kX00, kX01, kX02, -, -, -, -⟩ := X0.out
  obtain ⟨kX10, kX11, kX12, -, -, -, -⟩ := X1.out
  obtain ⟨kZ0, kZ1, kZ2, kZ3, kZ4, kZ5, kZ6⟩ := Z.out
  all_goals
    go_wp2
    exact bodyPost_ret (v := .agg #[.bool (decide (q.num < 0)), .slice ar nr cr, .slice br mr dr]) (by simp [results, Tryz.results33, go_sem, *]) rfl
      ⟨ar, nr, cr, br, mr, dr, rfl, h2, h3, RA.out.put3 Z.out _ _ _, RB.out.put3 Z.out _ _ _, below_put3 HB.out (by omega) _ _ _⟩

set_option maxHeartbeats 16000000 in
theorem rmulR_nn (k1 j1 k2 j2 K J : Nat) (q p1 p2 : Rat) {s t : Bool} {a b a' b' : Option Addr} {n c m d n' c' m' d' : Nat} {xs ys us vs : List Nat} {w : World} (h0 : Row w a n c xs) (h1 : Row w b m d ys) (h2 : Row w a' n' c' us) (h3 : Row w b' m' d' vs) (hp : mkRat (sv s (val xs)) (val ys) = p1) (hq : mkRat (sv t (val us)) (val vs) = p2) (hc0 : ∀ W, Row W a n c xs → Row W b m d ys → Calls Tryz.prog 39 #[.agg #[.bool s, .slice a n c, .slice b m d]] W (QuickNo W)) (hc1 : ∀ W, Row W a' n' c' us → Row W b' m' d' vs → Calls Tryz.prog 39 #[.agg #[.bool t, .slice a' n' c', .slice b' m' d']] W (QuickNo W)) (hn : n ≤ k1) (hm : m ≤ j1) (hn' : n' ≤ k2) (hm' : m' ≤ j2) (h1a : 2 ≤ k1) (h1b : 2 ≤ j1) (h2a : 2 ≤ k2) (h2b : 2 ≤ j2) (h1k : k1 ≤ 20) (h1j : j1 ≤ 20) (h2k : k2 ≤ 20) (h2j : j2 ≤ 20) (hK : k1 + k2 ≤ K) (hJ : j1 + j2 ≤ J) (hK9 : K ≤ 60) (hJ9 : J ≤ 60) (hr : p1 * p2 = q) :
    Calls Tryz.prog 33 #[.agg #[.bool s, .slice a n c, .slice b m d], .agg #[.bool t, .slice a' n' c', .slice b' m' d']] w (RatK K J q w) := by
  have HB := Lib.hid (below_three w (.cells #[.bool s, .slice a n c, .slice b m d] 27) (.cells #[.bool t, .slice a' n' c', .slice b' m' d'] 27) (.cells #[.bool false, .slice none 0 0, .slice none 0 0] 27))
  have X0 : Hid (Tri (((w.alloc (.cells #[.bool s, .slice a n c, .slice b m d] 27)).alloc (.cells #[.bool t, .slice a' n' c', .slice b' m' d'] 27)).alloc (.cells #[.bool false, .slice none 0 0, .slice none 0 0] 27)) (w.heap.size) (.bool s) (.slice a n c) (.slice b m d)) := (((tri_new _ (.bool s) (.slice a n c) (.slice b m d)).alloc _).alloc _)
  have X1 : Hid (Tri (((w.alloc (.cells #[.bool s, .slice a n c, .slice b m d] 27)).alloc (.cells #[.bool t, .slice a' n' c', .slice b' m' d'] 27)).alloc (.cells #[.bool false, .slice none 0 0, .slice none 0 0] 27)) (w.heap.size + 1) (.bool t) (.slice a' n' c') (.slice b' m' d')) := ((tri_newE (by simp)).alloc _)
  have Z : Hid (Tri (((w.alloc (.cells #[.bool s, .slice a n c, .slice b m d] 27)).alloc (.cells #[.bool t, .slice a' n' c', .slice b' m' d'] 27)).alloc (.cells #[.bool false, .slice none 0 0, .slice none 0 0] 27)) (w.heap.size + 2) (.bool false) (.slice none 0 0) (.slice none 0 0)) := (tri_newE (by simp; try omega))
  have R0 := Lib.hid (h0.later HB.out); clear h0
  have R1 := Lib.hid (h1.later HB.out); clear h1
  have R2 := Lib.hid (h2.later HB.out); clear h2
  have R3 := Lib.hid (h3.later HB.out); clear h3
  have C0 := Lib.hid hc0; clear hc0
  have C1 := Lib.hid hc1; clear hc1
  have HQ0 := Lib.hid hp; clear hp
  have HQ1 := Lib.hid hq; clear hq
  go_enter Tryz.func33, Tryz.ntmps33
  go_wp2_with fail
  refine (C0.out _ R0.out R1.out).mono ?_
  rintro e w1 ⟨rfl, hb⟩
  replace R0 := Lib.hid (R0.out.later hb)
  replace R1 := Lib.hid (R1.out.later hb)
  replace R2 := Lib.hid (R2.out.later hb)
  replace R3 := Lib.hid (R3.out.later hb)
  replace X0 := Lib.hid (X0.out.later hb)
  replace X1 := Lib.hid (X1.out.later hb)
  replace Z := Lib.hid (Z.out.later hb)
  replace HB := Lib.hid (bthen HB.out hb)
  clear hb
  obtain ⟨kX00, kX01, kX02, -, -, -, -⟩ := X0.out
  obtain ⟨kX10, kX11, kX12, -, -, -, -⟩ := X1.out
  obtain ⟨kZ0, kZ1, kZ2, -, -, -, -⟩ := Z.out
  go_wp2_with fail
  refine (C1.out _ R2.out R3.out).mono ?_
  rintro e w2 ⟨rfl, hb⟩
  replace R0 := Lib.hid (R0.out.later hb)
  replace R1 := Lib.hid (R1.out.later hb)
  replace R2 := Lib.hid (R2.out.later hb)
  replace R3 := Lib.hid (R3.out.later hb)
  replace X0 := Lib.hid (X0.out.later hb)
  replace X1 := Lib.hid (X1.out.later hb)
  replace Z := Lib.hid (Z.out.later hb)
  replace HB := Lib.hid (bthen HB.out hb)
  clear hb
  clear kX00 kX01 kX02 kX10 kX11 kX12 kZ0 kZ1 kZ2
  obtain ⟨kX00, kX01, kX02, kX03, kX04, kX05, kX06⟩ := X0.out
  obtain ⟨kX10, kX11, kX12, -, -, -, -⟩ := X1.out
  obtain ⟨kZ0, kZ1, kZ2, -, -, -, -⟩ := Z.out
  go_wp2_with fail
  refine (rnormR k1 j1 p1 R0.out R1.out HQ0.out hn hm (by omega) (by omega) (by omega) (by omega)).mono ?_
  rintro e w3 ⟨a1, n1, c1, b1, m1, d1, rfl, hn1, hm1, hr, hr2, hb⟩
  clear R0
  clear R1
  replace R2 := Lib.hid (R2.out.later hb)
  replace R3 := Lib.hid (R3.out.later hb)
  replace X0 := Lib.hid (X0.out.later hb)
  replace X1 := Lib.hid (X1.out.later hb)
  replace Z := Lib.hid (Z.out.later hb)
  replace HB := Lib.hid (bthen HB.out hb)
  clear hb
  clear kX00 kX01 kX02 kX03 kX04 kX05 kX06 kX10 kX11 kX12 kZ0 kZ1 kZ2
  have RN1 := Lib.hid hr; clear hr
  have RD1 := Lib.hid hr2; clear hr2
  obtain ⟨kX00, kX01, kX02, kX03, kX04, kX05, kX06⟩ := X0.out
  obtain ⟨kX10, kX11, kX12, kX13, kX14, kX15, kX16⟩ := X1.out
  obtain ⟨kZ0, kZ1, kZ2, -, -, -, -⟩ := Z.out
  have X0' := Lib.hid X0.out
  replace R2 := Lib.hid (R2.out.put3 X0'.out (.bool (decide (p1.num < 0))) (.slice a1 n1 c1) (.slice b1 m1 d1))
  replace R3 := Lib.hid (R3.out.put3 X0'.out (.bool (decide (p1.num < 0))) (.slice a1 n1 c1) (.slice b1 m1 d1))
  replace RN1 := Lib.hid (RN1.out.put3 X0'.out (.bool (decide (p1.num < 0))) (.slice a1 n1 c1) (.slice b1 m1 d1))
  replace RD1 := Lib.hid (RD1.out.put3 X0'.out (.bool (decide (p1.num < 0))) (.slice a1 n1 c1) (.slice b1 m1 d1))
  replace X0 := Lib.hid (X0.out.put (.bool (decide (p1.num < 0))) (.slice a1 n1 c1) (.slice b1 m1 d1))
  replace X1 := Lib.hid (X1.out.far (g' := w.heap.size) (by omega) (.bool (decide (p1.num < 0))) (.slice a1 n1 c1) (.slice b1 m1 d1))
  replace Z := Lib.hid (Z.out.far (g' := w.heap.size) (by omega) (.bool (decide (p1.num < 0))) (.slice a1 n1 c1) (.slice b1 m1 d1))
  replace HB := Lib.hid (below_put3 (g := w.heap.size) HB.out (by omega) (.bool (decide (p1.num < 0))) (.slice a1 n1 c1) (.slice b1 m1 d1))
  clear X0'
  go_wp2_with fail
  refine (rnormR k2 j2 p2 R2.out R3.out HQ1.out hn' hm' (by omega) (by omega) (by omega) (by omega)).mono ?_
  rintro e w4 ⟨a2, n2, c2, b2, m2, d2, rfl, hn2, hm2, hr, hr2, hb⟩
  clear R2
  clear R3
  replace RN1 := Lib.hid (RN1.out.later hb)
  replace RD1 := Lib.hid (RD1.out.later hb)
  replace X0 := Lib.hid (X0.out.later hb)
  replace X1 := Lib.hid (X1.out.later hb)
  replace Z := Lib.hid (Z.out.later hb)
  replace HB := Lib.hid (bthen HB.out hb)
  clear hb
  clear kX00 kX01 kX02 kX03 kX04 kX05 kX06 kX10 kX11 kX12 kX13 kX14 kX15 kX16 kZ0 kZ1 kZ2
  have RN2 := Lib.hid hr; clear hr
  have RD2 := Lib.hid hr2; clear hr2
  obtain ⟨kX00, kX01, kX02, -, -, -, -⟩ := X0.out
  obtain ⟨kX10, kX11, kX12, kX13, kX14, kX15, kX16⟩ := X1.out
  obtain ⟨kZ0, kZ1, kZ2, -, -, -, -⟩ := Z.out
  have X0' := Lib.hid X1.out
  replace RN1 := Lib.hid (RN1.out.put3 X0'.out (.bool (decide (p2.num < 0))) (.slice a2 n2 c2) (.slice b2 m2 d2))
  replace RD1 := Lib.hid (RD1.out.put3 X0'.out (.bool (decide (p2.num < 0))) (.slice a2 n2 c2) (.slice b2 m2 d2))
  replace RN2 := Lib.hid (RN2.out.put3 X0'.out (.bool (decide (p2.num < 0))) (.slice a2 n2 c2) (.slice b2 m2 d2))
  replace RD2 := Lib.hid (RD2.out.put3 X0'.out (.bool (decide (p2.num < 0))) (.slice a2 n2 c2) (.slice b2 m2 d2))
  replace X0 := Lib.hid (X0.out.far (g' := w.heap.size + 1) (by omega) (.bool (decide (p2.num < 0))) (.slice a2 n2 c2) (.slice b2 m2 d2))
  replace X1 := Lib.hid (X1.out.put (.bool (decide (p2.num < 0))) (.slice a2 n2 c2) (.slice b2 m2 d2))
  replace Z := Lib.hid (Z.out.far (g' := w.heap.size + 1) (by omega) (.bool (decide (p2.num < 0))) (.slice a2 n2 c2) (.slice b2 m2 d2))
  replace HB := Lib.hid (below_put3 (g := w.heap.size + 1) HB.out (by omega) (.bool (decide (p2.num < 0))) (.slice a2 n2 c2) (.slice b2 m2 d2))
  clear X0'
  have e1 : (limbs p1.num.natAbs).length ≤ k1 := by have := RN1.out.1; omega
  have e2 : (limbs p2.num.natAbs).length ≤ k2 := by have := RN2.out.1; omega
  have e3 : (limbs p1.den).length ≤ j1 := by have := RD1.out.1; omega
  have e4 : (limbs p2.den).length ≤ j2 := by have := RD2.out.1; omega
  obtain ⟨P, hP⟩ : ∃ P, p1.num * p2.num = P := ⟨_, rfl⟩
  obtain ⟨D, hD⟩ : ∃ D, p1.den * p2.den = D := ⟨_, rfl⟩
  have hQ : mkRat P D = q := by rw [← hP, ← hD, ← Rat.mkRat_mul_mkRat, Rat.mkRat_self, Rat.mkRat_self, hr]
  have LP := Lib.hid (lenZ_le (lenZ_mul e1 e2 hP) hK)
  have LD := Lib.hid (show (limbs D).length ≤ J by rw [← hD]; exact Nat.le_trans (len_mul e3 e4) hJ)
  clear hr e1 e2 e3 e4
  have HP := Lib.hid hP; clear hP
  have HD := Lib.hid hD; clear hD
  have HQ := Lib.hid hQ; clear hQ
  go_wp2_with fail
  replace RN1 := Lib.hid RN1.out.drew
  replace RD1 := Lib.hid RD1.out.drew
  replace RN2 := Lib.hid RN2.out.drew
  replace RD2 := Lib.hid RD2.out.drew
  replace X0 := Lib.hid X0.out.drew
  replace X1 := Lib.hid X1.out.drew
  replace Z := Lib.hid Z.out.drew
  replace HB := Lib.hid HB.out.drew
  clear kX00 kX01 kX02 kX10 kX11 kX12 kX13 kX14 kX15 kX16 kZ0 kZ1 kZ2
  obtain ⟨kX00, kX01, kX02, -, -, -, -⟩ := X0.out
  obtain ⟨kX10, kX11, kX12, -, -, -, -⟩ := X1.out
  obtain ⟨kZ0, kZ1, kZ2, kZ3, kZ4, kZ5, kZ6⟩ := Z.out
  go_region_held3 (fun w' => w'.cell? ⟨w.heap.size, 0, none⟩ = some (.bool (decide (p1.num < 0))) ∧ w'.cell? ⟨w.heap.size, 1, none⟩ = some (.slice a1 n1 c1) ∧ w'.cell? ⟨w.heap.size, 2, none⟩ = some (.slice b1 m1 d1) ∧ w'.cell? ⟨w.heap.size + 1, 0, none⟩ = some (.bool (decide (p2.num < 0))) ∧ w'.cell? ⟨w.heap.size + 1, 1, none⟩ = some (.slice a2 n2 c2) ∧ w'.cell? ⟨w.heap.size + 1, 2, none⟩ = some (.slice b2 m2 d2))
    (first | (refine ⟨?_, ?_, ?_, ?_, ?_, ?_⟩ <;> with_reducible assumption) | (go_keep; done) | (refine ⟨?_, ?_, ?_, ?_, ?_, ?_⟩ <;> (repeat rw [cell_other (by first | (simp; done) | (simp; omega))]) <;> with_reducible assumption))
    (first
      | (have mk := G2; clear mk
         go_at_call 42
         refine (rnormR K J q RP.out RD.out (by rw [sv_limbs, val_limbs]; exact HQ.out) hnp hnd hK9 (by omega) (by omega) hJ9).mono ?_
         rintro e v3 ⟨ar, nr, cr, br, mr, dr, rfl, h2, h3, hr, hr2, hb⟩
         replace RP := Lib.hid (RP.out.later hb)
         replace RD := Lib.hid (RD.out.later hb)
         replace X0 := Lib.hid (X0.out.later hb)
         replace X1 := Lib.hid (X1.out.later hb)
         replace Z := Lib.hid (Z.out.later hb)
         replace HB := Lib.hid (bthen HB.out hb); clear hb
         clear kX00 kX01 kX02 kX10 kX11 kX12 kZ0 kZ1 kZ2 kZ3 kZ4 kZ5 kZ6
         obtain ⟨kX00, kX01, kX02, -, -, -, -⟩ := X0.out
         obtain ⟨kX10, kX11, kX12, -, -, -, -⟩ := X1.out
         obtain ⟨kZ0, kZ1, kZ2, kZ3, kZ4, kZ5, kZ6⟩ := Z.out
         have RA := Lib.hid hr; clear hr
         have RB := Lib.hid hr2; clear hr2
         have G3 : Hid True := trivial)
      | (have mk := G1; clear mk
         go_at_call 57
         refine (rmulN J D RD1.out RD2.out (val_limbs _) (val_limbs _) (by omega) (by omega) HD.out LD.out).mono ?_
         rintro e v2 ⟨ad, nd, cd, rfl, hnd, hr, hb⟩
         clear RD1
         clear RD2
         replace RP := Lib.hid (RP.out.later hb)
         replace X0 := Lib.hid (X0.out.later hb)
         replace X1 := Lib.hid (X1.out.later hb)
         replace Z := Lib.hid (Z.out.later hb)
         replace HB := Lib.hid (bthen HB.out hb); clear hb
         clear kX00 kX01 kX02 kX10 kX11 kX12 kZ0 kZ1 kZ2 kZ3 kZ4 kZ5 kZ6
         obtain ⟨kX00, kX01, kX02, -, -, -, -⟩ := X0.out
         obtain ⟨kX10, kX11, kX12, -, -, -, -⟩ := X1.out
         obtain ⟨kZ0, kZ1, kZ2, kZ3, kZ4, kZ5, kZ6⟩ := Z.out
         have RD := Lib.hid hr; clear hr
         have G2 : Hid True := trivial)
      | (skip
         go_at_call 48
         refine (rmulI K P RN1.out RN2.out (sv_limbs _) (sv_limbs _) (by omega) (by omega) HP.out LP.out (by omega)).mono ?_
         rintro e v1 ⟨ap, np, cp, rfl, hnp, hr, hb⟩
         clear RN1
         clear RN2
         replace RD1 := Lib.hid (RD1.out.later hb)
         replace RD2 := Lib.hid (RD2.out.later hb)
         replace X0 := Lib.hid (X0.out.later hb)
         replace X1 := Lib.hid (X1.out.later hb)
         replace Z := Lib.hid (Z.out.later hb)
         replace HB := Lib.hid (bthen HB.out hb); clear hb
         clear kX00 kX01 kX02 kX10 kX11 kX12 kZ0 kZ1 kZ2 kZ3 kZ4 kZ5 kZ6
         obtain ⟨kX00, kX01, kX02, -, -, -, -⟩ := X0.out
         obtain ⟨kX10, kX11, kX12, -, -, -, -⟩ := X1.out
         obtain ⟨kZ0, kZ1, kZ2, kZ3, kZ4, kZ5, kZ6⟩ := Z.out
         have RP := Lib.hid hr; clear hr
         have G1 : Hid True := trivial))
  all_goals
    go_wp2
    exact bodyPost_ret (v := .agg #[.bool (decide (q.num < 0)), .slice ar nr cr, .slice br mr dr]) (by simp [results, Tryz.results33, go_sem, *]) rfl
      ⟨ar, nr, cr, br, mr, dr, rfl, h2, h3, RA.out.put3 Z.out _ _ _, RB.out.put3 Z.out _ _ _, below_put3 HB.out (by omega) _ _ _⟩

set_option maxHeartbeats 16000000 in
theorem rmulR_ny (k1 j1 k2 j2 K J : Nat) (q p1 p2 : Rat) {s t : Bool} {a b a' b' : Option Addr} {n c m d n' c' m' d' : Nat} {xs ys us vs : List Nat} {w : World} (h0 : Row w a n c xs) (h1 : Row w b m d ys) (h2 : Row w a' n' c' us) (h3 : Row w b' m' d' vs) (hp : mkRat (sv s (val xs)) (val ys) = p1) (hq : mkRat (sv t (val us)) (val vs) = p2) (hc0 : ∀ W, Row W a n c xs → Row W b m d ys → Calls Tryz.prog 39 #[.agg #[.bool s, .slice a n c, .slice b m d]] W (QuickNo W)) (U V : Int) (hc1 : ∀ W, Row W a' n' c' us → Row W b' m' d' vs → Calls Tryz.prog 39 #[.agg #[.bool t, .slice a' n' c', .slice b' m' d']] W (QuickYes U V W)) (hn : n ≤ k1) (hm : m ≤ j1) (hn' : n' ≤ k2) (hm' : m' ≤ j2) (h1a : 2 ≤ k1) (h1b : 2 ≤ j1) (h2a : 2 ≤ k2) (h2b : 2 ≤ j2) (h1k : k1 ≤ 20) (h1j : j1 ≤ 20) (h2k : k2 ≤ 20) (h2j : j2 ≤ 20) (hK : k1 + k2 ≤ K) (hJ : j1 + j2 ≤ J) (hK9 : K ≤ 60) (hJ9 : J ≤ 60) (hr : p1 * p2 = q) :
    Calls Tryz.prog 33 #[.agg #[.bool s, .slice a n c, .slice b m d], .agg #[.bool t, .slice a' n' c', .slice b' m' d']] w (RatK K J q w) := by
  have HB := Lib.hid (below_three w (.cells #[.bool s, .slice a n c, .slice b m d] 27) (.cells #[.bool t, .slice a' n' c', .slice b' m' d'] 27) (.cells #[.bool false, .slice none 0 0, .slice none 0 0] 27))
  have X0 : Hid (Tri (((w.alloc (.cells #[.bool s, .slice a n c, .slice b m d] 27)).alloc (.cells #[.bool t, .slice a' n' c', .slice b' m' d'] 27)).alloc (.cells #[.bool false, .slice none 0 0, .slice none 0 0] 27)) (w.heap.size) (.bool s) (.slice a n c) (.slice b m d)) := (((tri_new _ (.bool s) (.slice a n c) (.slice b m d)).alloc _).alloc _)
  have X1 : Hid (Tri (((w.alloc (.cells #[.bool s, .slice a n c, .slice b m d] 27)).alloc (.cells #[.bool t, .slice a' n' c', .slice b' m' d'] 27)).alloc (.cells #[.bool false, .slice none 0 0, .slice none 0 0] 27)) (w.heap.size + 1) (.bool t) (.slice a' n' c') (.slice b' m' d')) := ((tri_newE (by simp)).alloc _)
  have Z : Hid (Tri (((w.alloc (.cells #[.bool s, .slice a n c, .slice b m d] 27)).alloc (.cells #[.bool t, .slice a' n' c', .slice b' m' d'] 27)).alloc (.cells #[.bool false, .slice none 0 0, .slice none 0 0] 27)) (w.heap.size + 2) (.bool false) (.slice none 0 0) (.slice none 0 0)) := (tri_newE (by simp; try omega))
  have R0 := Lib.hid (h0.later HB.out); clear h0
  have R1 := Lib.hid (h1.later HB.out); clear h1
  have R2 := Lib.hid (h2.later HB.out); clear h2
  have R3 := Lib.hid (h3.later HB.out); clear h3
  have C0 := Lib.hid hc0; clear hc0
  have C1 := Lib.hid hc1; clear hc1
  have HQ0 := Lib.hid hp; clear hp
  have HQ1 := Lib.hid hq; clear hq
  go_enter Tryz.func33, Tryz.ntmps33
  go_wp2_with fail
  refine (C0.out _ R0.out R1.out).mono ?_
  rintro e w1 ⟨rfl, hb⟩
  replace R0 := Lib.hid (R0.out.later hb)
  replace R1 := Lib.hid (R1.out.later hb)
  replace R2 := Lib.hid (R2.out.later hb)
  replace R3 := Lib.hid (R3.out.later hb)
  replace X0 := Lib.hid (X0.out.later hb)
  replace X1 := Lib.hid (X1.out.later hb)
  replace Z := Lib.hid (Z.out.later hb)
  replace HB := Lib.hid (bthen HB.out hb)
  clear hb
  obtain ⟨kX00, kX01, kX02, -, -, -, -⟩ := X0.out
  obtain ⟨kX10, kX11, kX12, -, -, -, -⟩ := X1.out
  obtain ⟨kZ0, kZ1, kZ2, -, -, -, -⟩ := Z.out
  go_wp2_with fail
  refine (C1.out _ R2.out R3.out).mono ?_
  rintro e w2 ⟨rfl, hb⟩
  replace R0 := Lib.hid (R0.out.later hb)
  replace R1 := Lib.hid (R1.out.later hb)
  replace R2 := Lib.hid (R2.out.later hb)
  replace R3 := Lib.hid (R3.out.later hb)
  replace X0 := Lib.hid (X0.out.later hb)
  replace X1 := Lib.hid (X1.out.later hb)
  replace Z := Lib.hid (Z.out.later hb)
  replace HB := Lib.hid (bthen HB.out hb)
  clear hb
  clear kX00 kX01 kX02 kX10 kX11 kX12 kZ0 kZ1 kZ2
  obtain ⟨kX00, kX01, kX02, kX03, kX04, kX05, kX06⟩ := X0.out
  obtain ⟨kX10, kX11, kX12, -, -, -, -⟩ := X1.out
  obtain ⟨kZ0, kZ1, kZ2, -, -, -, -⟩ := Z.out
  go_wp2_with fail
  refine (rnormR k1 j1 p1 R0.out R1.out HQ0.out hn hm (by omega) (by omega) (by omega) (by omega)).mono ?_
  rintro e w3 ⟨a1, n1, c1, b1, m1, d1, rfl, hn1, hm1, hr, hr2, hb⟩
  clear R0
  clear R1
  replace R2 := Lib.hid (R2.out.later hb)
  replace R3 := Lib.hid (R3.out.later hb)
  replace X0 := Lib.hid (X0.out.later hb)
  replace X1 := Lib.hid (X1.out.later hb)
  replace Z := Lib.hid (Z.out.later hb)
  replace HB := Lib.hid (bthen HB.out hb)
  clear hb
  clear kX00 kX01 kX02 kX03 kX04 kX05 kX06 kX10 kX11 kX12 kZ0 kZ1 kZ2
  have RN1 := Lib.hid hr; clear hr
  have RD1 := Lib.hid hr2; clear hr2
  obtain ⟨kX00, kX01, kX02, kX03, kX04, kX05, kX06⟩ := X0.out
  obtain ⟨kX10, kX11, kX12, kX13, kX14, kX15, kX16⟩ := X1.out
  obtain ⟨kZ0, kZ1, kZ2, -, -, -, -⟩ := Z.out
  have X0' := Lib.hid X0.out
  replace R2 := Lib.hid (R2.out.put3 X0'.out (.bool (decide (p1.num < 0))) (.slice a1 n1 c1) (.slice b1 m1 d1))
  replace R3 := Lib.hid (R3.out.put3 X0'.out (.bool (decide (p1.num < 0))) (.slice a1 n1 c1) (.slice b1 m1 d1))
  replace RN1 := Lib.hid (RN1.out.put3 X0'.out (.bool (decide (p1.num < 0))) (.slice a1 n1 c1) (.slice b1 m1 d1))
  replace RD1 := Lib.hid (RD1.out.put3 X0'.out (.bool (decide (p1.num < 0))) (.slice a1 n1 c1) (.slice b1 m1 d1))
  replace X0 := Lib.hid (X0.out.put (.bool (decide (p1.num < 0))) (.slice a1 n1 c1) (.slice b1 m1 d1))
  replace X1 := Lib.hid (X1.out.far (g' := w.heap.size) (by omega) (.bool (decide (p1.num < 0))) (.slice a1 n1 c1) (.slice b1 m1 d1))
  replace Z := Lib.hid (Z.out.far (g' := w.heap.size) (by omega) (.bool (decide (p1.num < 0))) (.slice a1 n1 c1) (.slice b1 m1 d1))
  replace HB := Lib.hid (below_put3 (g := w.heap.size) HB.out (by omega) (.bool (decide (p1.num < 0))) (.slice a1 n1 c1) (.slice b1 m1 d1))
  clear X0'
  go_wp2_with fail
  refine (rnormR k2 j2 p2 R2.out R3.out HQ1.out hn' hm' (by omega) (by omega) (by omega) (by omega)).mono ?_
  rintro e w4 ⟨a2, n2, c2, b2, m2, d2, rfl, hn2, hm2, hr, hr2, hb⟩
  clear R2
  clear R3
  replace RN1 := Lib.hid (RN1.out.later hb)
  replace RD1 := Lib.hid (RD1.out.later hb)
  replace X0 := Lib.hid (X0.out.later hb)
  replace X1 := Lib.hid (X1.out.later hb)
  replace Z := Lib.hid (Z.out.later hb)
  replace HB := Lib.hid (bthen HB.out hb)
  clear hb
  clear kX00 kX01 kX02 kX03 kX04 kX05 kX06 kX10 kX11 kX12 kX13 kX14 kX15 kX16 kZ0 kZ1 kZ2
  have RN2 := Lib.hid hr; clear hr
  have RD2 := Lib.hid hr2; clear hr2
  obtain ⟨kX00, kX01, kX02, -, -, -, -⟩ := X0.out
  obtain ⟨kX10, kX11, kX12, kX13, kX14, kX15, kX16⟩ := X1.out
  obtain ⟨kZ0, kZ1, kZ2, -, -, -, -⟩ := Z.out
  have X0' := Lib.hid X1.out
  replace RN1 := Lib.hid (RN1.out.put3 X0'.out (.bool (decide (p2.num < 0))) (.slice a2 n2 c2) (.slice b2 m2 d2))
  replace RD1 := Lib.hid (RD1.out.put3 X0'.out (.bool (decide (p2.num < 0))) (.slice a2 n2 c2) (.slice b2 m2 d2))
  replace RN2 := Lib.hid (RN2.out.put3 X0'.out (.bool (decide (p2.num < 0))) (.slice a2 n2 c2) (.slice b2 m2 d2))
  replace RD2 := Lib.hid (RD2.out.put3 X0'.out (.bool (decide (p2.num < 0))) (.slice a2 n2 c2) (.slice b2 m2 d2))
  replace X0 := Lib.hid (X0.out.far (g' := w.heap.size + 1) (by omega) (.bool (decide (p2.num < 0))) (.slice a2 n2 c2) (.slice b2 m2 d2))
  replace X1 := Lib.hid (X1.out.put (.bool (decide (p2.num < 0))) (.slice a2 n2 c2) (.slice b2 m2 d2))
  replace Z := Lib.hid (Z.out.far (g' := w.heap.size + 1) (by omega) (.bool (decide (p2.num < 0))) (.slice a2 n2 c2) (.slice b2 m2 d2))
  replace HB := Lib.hid (below_put3 (g := w.heap.size + 1) HB.out (by omega) (.bool (decide (p2.num < 0))) (.slice a2 n2 c2) (.slice b2 m2 d2))
  clear X0'
  have e1 : (limbs p1.num.natAbs).length ≤ k1 := by have := RN1.out.1; omega
  have e2 : (limbs p2.num.natAbs).length ≤ k2 := by have := RN2.out.1; omega
  have e3 : (limbs p1.den).length ≤ j1 := by have := RD1.out.1; omega
  have e4 : (limbs p2.den).length ≤ j2 := by have := RD2.out.1; omega
  obtain ⟨P, hP⟩ : ∃ P, p1.num * p2.num = P := ⟨_, rfl⟩
  obtain ⟨D, hD⟩ : ∃ D, p1.den * p2.den = D := ⟨_, rfl⟩
  have hQ : mkRat P D = q := by rw [← hP, ← hD, ← Rat.mkRat_mul_mkRat, Rat.mkRat_self, Rat.mkRat_self, hr]
  have LP := Lib.hid (lenZ_le (lenZ_mul e1 e2 hP) hK)
  have LD := Lib.hid (show (limbs D).length ≤ J by rw [← hD]; exact Nat.le_trans (len_mul e3 e4) hJ)
  clear hr e1 e2 e3 e4
  have HP := Lib.hid hP; clear hP
  have HD := Lib.hid hD; clear hD
  have HQ := Lib.hid hQ; clear hQ
  go_wp2_with fail
  replace RN1 := Lib.hid RN1.out.drew
  replace RD1 := Lib.hid RD1.out.drew
  replace RN2 := Lib.hid RN2.out.drew
  replace RD2 := Lib.hid RD2.out.drew
  replace X0 := Lib.hid X0.out.drew
  replace X1 := Lib.hid X1.out.drew
  replace Z := Lib.hid Z.out.drew
  replace HB := Lib.hid HB.out.drew
  clear kX00 kX01 kX02 kX10 kX11 kX12 kX13 kX14 kX15 kX16 kZ0 kZ1 kZ2
  obtain ⟨kX00, kX01, kX02, -, -, -, -⟩ := X0.out
  obtain ⟨kX10, kX11, kX12, -, -, -, -⟩ := X1.out
  obtain ⟨kZ0, kZ1, kZ2, kZ3, kZ4, kZ5, kZ6⟩ := Z.out
  go_region_held3 (fun w' => w'.cell? ⟨w.heap.size, 0, none⟩ = some (.bool (decide (p1.num < 0))) ∧ w'.cell? ⟨w.heap.size, 1, none⟩ = some (.slice a1 n1 c1) ∧ w'.cell? ⟨w.heap.size, 2, none⟩ = some (.slice b1 m1 d1) ∧ w'.cell? ⟨w.heap.size + 1, 0, none⟩ = some (.bool (decide (p2.num < 0))) ∧ w'.cell? ⟨w.heap.size + 1, 1, none⟩ = some (.slice a2 n2 c2) ∧ w'.cell? ⟨w.heap.size + 1, 2, none⟩ = some (.slice b2 m2 d2))
    (first | (refine ⟨?_, ?_, ?_, ?_, ?_, ?_⟩ <;> with_reducible assumption) | (go_keep; done) | (refine ⟨?_, ?_, ?_, ?_, ?_, ?_⟩ <;> (repeat rw [cell_other (by first | (simp; done) | (simp; omega))]) <;> with_reducible assumption))
    (first
      | (have mk := G2; clear mk
         go_at_call 42
         refine (rnormR K J q RP.out RD.out (by rw [sv_limbs, val_limbs]; exact HQ.out) hnp hnd hK9 (by omega) (by omega) hJ9).mono ?_
         rintro e v3 ⟨ar, nr, cr, br, mr, dr, rfl, h2, h3, hr, hr2, hb⟩
         replace RP := Lib.hid (RP.out.later hb)
         replace RD := Lib.hid (RD.out.later hb)
         replace X0 := Lib.hid (X0.out.later hb)
         replace X1 := Lib.hid (X1.out.later hb)
         replace Z := Lib.hid (Z.out.later hb)
         replace HB := Lib.hid (bthen HB.out hb); clear hb
         clear kX00 kX01 kX02 kX10 kX11 kX12 kZ0 kZ1 kZ2 kZ3 kZ4 kZ5 kZ6
         obtain ⟨kX00, kX01, kX02, -, -, -, -⟩ := X0.out
         obtain ⟨kX10, kX11, kX12, -, -, -, -⟩ := X1.out
         obtain ⟨kZ0, kZ1, kZ2, kZ3, kZ4, kZ5, kZ6⟩ := Z.out
         have RA := Lib.hid hr; clear hr
         have RB := Lib.hid hr2; clear hr2
         have G3 : Hid True := trivial)
      | (have mk := G1; clear mk
         go_at_call 57
         refine (rmulN J D RD1.out RD2.out (val_limbs _) (val_limbs _) (by omega) (by omega) HD.out LD.out).mono ?_
         rintro e v2 ⟨ad, nd, cd, rfl, hnd, hr, hb⟩
         clear RD1
         clear RD2
         replace RP := Lib.hid (RP.out.later hb)
         replace X0 := Lib.hid (X0.out.later hb)
         replace X1 := Lib.hid (X1.out.later hb)
         replace Z := Lib.hid (Z.out.later hb)
         replace HB := Lib.hid (bthen HB.out hb); clear hb
         clear kX00 kX01 kX02 kX10 kX11 kX12 kZ0 kZ1 kZ2 kZ3 kZ4 kZ5 kZ6
         obtain ⟨kX00, kX01, kX02, -, -, -, -⟩ := X0.out
         obtain ⟨kX10, kX11, kX12, -, -, -, -⟩ := X1.out
         obtain ⟨kZ0, kZ1, kZ2, kZ3, kZ4, kZ5, kZ6⟩ := Z.out
         have RD := Lib.hid hr; clear hr
         have G2 : Hid True := trivial)
      | (skip
         go_at_call 48
         refine (rmulI K P RN1.out RN2.out (sv_limbs _) (sv_limbs _) (by omega) (by omega) HP.out LP.out (by omega)).mono ?_
         rintro e v1 ⟨ap, np, cp, rfl, hnp, hr, hb⟩
         clear RN1
         clear RN2
         replace RD1 := Lib.hid (RD1.out.later hb)
         replace RD2 := Lib.hid (RD2.out.later hb)
         replace X0 := Lib.hid (X0.out.later hb)
         replace X1 := Lib.hid (X1.out.later hb)
         replace Z := Lib.hid (Z.out.later hb)
         replace HB := Lib.hid (bthen HB.out hb); clear hb
         clear kX00 kX01 kX02 kX10 kX11 kX12 kZ0 kZ1 kZ2 kZ3 kZ4 kZ5 kZ6
         obtain ⟨kX00, kX01, kX02, -, -, -, -⟩ := X0.out
         obtain ⟨kX10, kX11, kX12, -, -, -, -⟩ := X1.out
         obtain ⟨kZ0, kZ1, kZ2, kZ3, kZ4, kZ5, kZ6⟩ := Z.out
         have RP := Lib.hid hr; clear hr
         have G1 : Hid True := trivial))
  all_goals
    go_wp2
    exact bodyPost_ret (v := .agg #[.bool (decide (q.num < 0)), .slice ar nr cr, .slice br mr dr]) (by simp [results, Tryz.results33, go_sem, *]) rfl
      ⟨ar, nr, cr, br, mr, dr, rfl, h2, h3, RA.out.put3 Z.out _ _ _, RB.out.put3 Z.out _ _ _, below_put3 HB.out (by omega) _ _ _⟩

set_option maxHeartbeats 16000000 in
theorem rmulR_yn (k1 j1 k2 j2 K J : Nat) (q p1 p2 : Rat) {s t : Bool} {a b a' b' : Option Addr} {n c m d n' c' m' d' : Nat} {xs ys us vs : List Nat} {w : World} (h0 : Row w a n c xs) (h1 : Row w b m d ys) (h2 : Row w a' n' c' us) (h3 : Row w b' m' d' vs) (hp : mkRat (sv s (val xs)) (val ys) = p1) (hq : mkRat (sv t (val us)) (val vs) = p2) (X Y : Int) (hc0 : ∀ W, Row W a n c xs → Row W b m d ys → Calls Tryz.prog 39 #[.agg #[.bool s, .slice a n c, .slice b m d]] W (QuickYes X Y W)) (hc1 : ∀ W, Row W a' n' c' us → Row W b' m' d' vs → Calls Tryz.prog 39 #[.agg #[.bool t, .slice a' n' c', .slice b' m' d']] W (QuickNo W)) (hn : n ≤ k1) (hm : m ≤ j1) (hn' : n' ≤ k2) (hm' : m' ≤ j2) (h1a : 2 ≤ k1) (h1b : 2 ≤ j1) (h2a : 2 ≤ k2) (h2b : 2 ≤ j2) (h1k : k1 ≤ 20) (h1j : j1 ≤ 20) (h2k : k2 ≤ 20) (h2j : j2 ≤ 20) (hK : k1 + k2 ≤ K) (hJ : j1 + j2 ≤ J) (hK9 : K ≤ 60) (hJ9 : J ≤ 60) (hr : p1 * p2 = q) :
    Calls Tryz.prog 33 #[.agg #[.bool s, .slice a n c, .slice b m d], .agg #[.bool t, .slice a' n' c', .slice b' m' d']] w (RatK K J q w) := by
  have HB := Lib.hid (below_three w (.cells #[.bool s, .slice a n c, .slice b m d] 27) (.cells #[.bool t, .slice a' n' c', .slice b' m' d'] 27) (.cells #[.bool false, .slice none 0 0, .slice none 0 0] 27))
  have X0 : Hid (Tri (((w.alloc (.cells #[.bool s, .slice a n c, .slice b m d] 27)).alloc (.cells #[.bool t, .slice a' n' c', .slice b' m' d'] 27)).alloc (.cells #[.bool false, .slice none 0 0, .slice none 0 0] 27)) (w.heap.size) (.bool s) (.slice a n c) (.slice b m d)) := (((tri_new _ (.bool s) (.slice a n c) (.slice b m d)).alloc _).alloc _)
  have X1 : Hid (Tri (((w.alloc (.cells #[.bool s, .slice a n c, .slice b m d] 27)).alloc (.cells #[.bool t, .slice a' n' c', .slice b' m' d'] 27)).alloc (.cells #[.bool false, .slice none 0 0, .slice none 0 0] 27)) (w.heap.size + 1) (.bool t) (.slice a' n' c') (.slice b' m' d')) := ((tri_newE (by simp)).alloc _)
  have Z : Hid (Tri (((w.alloc (.cells #[.bool s, .slice a n c, .slice b m d] 27)).alloc (.cells #[.bool t, .slice a' n' c', .slice b' m' d'] 27)).alloc (.cells #[.bool false, .slice none 0 0, .slice none 0 0] 27)) (w.heap.size + 2) (.bool false) (.slice none 0 0) (.slice none 0 0)) := (tri_newE (by simp; try omega))
  have R0 := Lib.hid (h0.later HB.out); clear h0
  have R1 := Lib.hid (h1.later HB.out); clear h1
  have R2 := Lib.hid (h2.later HB.out); clear h2
  have R3 := Lib.hid (h3.later HB.out); clear h3
  have C0 := Lib.hid hc0; clear hc0
  have C1 := Lib.hid hc1; clear hc1
  have HQ0 := Lib.hid hp; clear hp
  have HQ1 := Lib.hid hq; clear hq
  go_enter Tryz.func33, Tryz.ntmps33
  go_wp2_with fail
  refine (C0.out _ R0.out R1.out).mono ?_
  rintro e w1 ⟨rfl, hb⟩
  replace R0 := Lib.hid (R0.out.later hb)
  replace R1 := Lib.hid (R1.out.later hb)
  replace R2 := Lib.hid (R2.out.later hb)
  replace R3 := Lib.hid (R3.out.later hb)
  replace X0 := Lib.hid (X0.out.later hb)
  replace X1 := Lib.hid (X1.out.later hb)
  replace Z := Lib.hid (Z.out.later hb)
  replace HB := Lib.hid (bthen HB.out hb)
  clear hb
  obtain ⟨kX00, kX01, kX02, -, -, -, -⟩ := X0.out
  obtain ⟨kX10, kX11, kX12, -, -, -, -⟩ := X1.out
  obtain ⟨kZ0, kZ1, kZ2, -, -, -, -⟩ := Z.out
  go_wp2_with fail
  refine (C1.out _ R2.out R3.out).mono ?_
  rintro e w2 ⟨rfl, hb⟩
  replace R0 := Lib.hid (R0.out.later hb)
  replace R1 := Lib.hid (R1.out.later hb)
  replace R2 := Lib.hid (R2.out.later hb)
  replace R3 := Lib.hid (R3.out.later hb)
  replace X0 := Lib.hid (X0.out.later hb)
  replace X1 := Lib.hid (X1.out.later hb)
  replace Z := Lib.hid (Z.out.later hb)
  replace HB := Lib.hid (bthen HB.out hb)
  clear hb
  clear kX00 kX01 kX02 kX10 kX11 kX12 kZ0 kZ1 kZ2
  obtain ⟨kX00, kX01, kX02, kX03, kX04, kX05, kX06⟩ := X0.out
  obtain ⟨kX10, kX11, kX12, -, -, -, -⟩ := X1.out
  obtain ⟨kZ0, kZ1, kZ2, -, -, -, -⟩ := Z.out
  go_wp2_with fail
  refine (rnormR k1 j1 p1 R0.out R1.out HQ0.out hn hm (by omega) (by omega) (by omega) (by omega)).mono ?_
  rintro e w3 ⟨a1, n1, c1, b1, m1, d1, rfl, hn1, hm1, hr, hr2, hb⟩
  clear R0
  clear R1
  replace R2 := Lib.hid (R2.out.later hb)
  replace R3 := Lib.hid (R3.out.later hb)
  replace X0 := Lib.hid (X0.out.later hb)
  replace X1 := Lib.hid (X1.out.later hb)
  replace Z := Lib.hid (Z.out.later hb)
  replace HB := Lib.hid (bthen HB.out hb)
  clear hb
  clear kX00 kX01 kX02 kX03 kX04 kX05 kX06 kX10 kX11 kX12 kZ0 kZ1 kZ2
  have RN1 := Lib.hid hr; clear hr
  have RD1 := Lib.hid hr2; clear hr2
  obtain ⟨kX00, kX01, kX02, kX03, kX04, kX05, kX06⟩ := X0.out
  obtain ⟨kX10, kX11, kX12, kX13, kX14, kX15, kX16⟩ := X1.out
  obtain ⟨kZ0, kZ1, kZ2, -, -, -, -⟩ := Z.out
  have X0' := Lib.hid X0.out
  replace R2 := Lib.hid (R2.out.put3 X0'.out (.bool (decide (p1.num < 0))) (.slice a1 n1 c1) (.slice b1 m1 d1))
  replace R3 := Lib.hid (R3.out.put3 X0'.out (.bool (decide (p1.num < 0))) (.slice a1 n1 c1) (.slice b1 m1 d1))
  replace RN1 := Lib.hid (RN1.out.put3 X0'.out (.bool (decide (p1.num < 0))) (.slice a1 n1 c1) (.slice b1 m1 d1))
  replace RD1 := Lib.hid (RD1.out.put3 X0'.out (.bool (decide (p1.num < 0))) (.slice a1 n1 c1) (.slice b1 m1 d1))
  replace X0 := Lib.hid (X0.out.put (.bool (decide (p1.num < 0))) (.slice a1 n1 c1) (.slice b1 m1 d1))
  replace X1 := Lib.hid (X1.out.far (g' := w.heap.size) (by omega) (.bool (decide (p1.num < 0))) (.slice a1 n1 c1) (.slice b1 m1 d1))
  replace Z := Lib.hid (Z.out.far (g' := w.heap.size) (by omega) (.bool (decide (p1.num < 0))) (.slice a1 n1 c1) (.slice b1 m1 d1))
  replace HB := Lib.hid (below_put3 (g := w.heap.size) HB.out (by omega) (.bool (decide (p1.num < 0))) (.slice a1 n1 c1) (.slice b1 m1 d1))
  clear X0'
  go_wp2_with fail
  refine (rnormR k2 j2 p2 R2.out R3.out HQ1.out hn' hm' (by omega) (by omega) (by omega) (by omega)).mono ?_
  rintro e w4 ⟨a2, n2, c2, b2, m2, d2, rfl, hn2, hm2, hr, hr2, hb⟩
  clear R2
  clear R3
  replace RN1 := Lib.hid (RN1.out.later hb)
  replace RD1 := Lib.hid (RD1.out.later hb)
  replace X0 := Lib.hid (X0.out.later hb)
  replace X1 := Lib.hid (X1.out.later hb)
  replace Z := Lib.hid (Z.out.later hb)
  replace HB := Lib.hid (bthen HB.out hb)
  clear hb
  clear kX00 kX01 kX02 kX03 kX04 kX05 kX06 kX10 kX11 kX12 kX13 kX14 kX15 kX16 kZ0 kZ1 kZ2
  have RN2 := Lib.hid hr; clear hr
  have RD2 := Lib.hid hr2; clear hr2
  obtain ⟨kX00, kX01, kX02, -, -, -, -⟩ := X0.out
  obtain ⟨kX10, kX11, kX12, kX13, kX14, kX15, kX16⟩ := X1.out
  obtain ⟨kZ0, kZ1, kZ2, -, -, -, -⟩ := Z.out
  have X0' := Lib.hid X1.out
  replace RN1 := Lib.hid (RN1.out.put3 X0'.out (.bool (decide (p2.num < 0))) (.slice a2 n2 c2) (.slice b2 m2 d2))
  replace RD1 := Lib.hid (RD1.out.put3 X0'.out (.bool (decide (p2.num < 0))) (.slice a2 n2 c2) (.slice b2 m2 d2))
  replace RN2 := Lib.hid (RN2.out.put3 X0'.out (.bool (decide (p2.num < 0))) (.slice a2 n2 c2) (.slice b2 m2 d2))
  replace RD2 := Lib.hid (RD2.out.put3 X0'.out (.bool (decide (p2.num < 0))) (.slice a2 n2 c2) (.slice b2 m2 d2))
  replace X0 := Lib.hid (X0.out.far (g' := w.heap.size + 1) (by omega) (.bool (decide (p2.num < 0))) (.slice a2 n2 c2) (.slice b2 m2 d2))
  replace X1 := Lib.hid (X1.out.put (.bool (decide (p2.num < 0))) (.slice a2 n2 c2) (.slice b2 m2 d2))
  replace Z := Lib.hid (Z.out.far (g' := w.heap.size + 1) (by omega) (.bool (decide (p2.num < 0))) (.slice a2 n2 c2) (.slice b2 m2 d2))
  replace HB := Lib.hid (below_put3 (g := w.heap.size + 1) HB.out (by omega) (.bool (decide (p2.num < 0))) (.slice a2 n2 c2) (.slice b2 m2 d2))
  clear X0'
  have e1 : (limbs p1.num.natAbs).length ≤ k1 := by have := RN1.out.1; omega
  have e2 : (limbs p2.num.natAbs).length ≤ k2 := by have := RN2.out.1; omega
  have e3 : (limbs p1.den).length ≤ j1 := by have := RD1.out.1; omega
  have e4 : (limbs p2.den).length ≤ j2 := by have := RD2.out.1; omega
  obtain ⟨P, hP⟩ : ∃ P, p1.num * p2.num = P := ⟨_, rfl⟩
  obtain ⟨D, hD⟩ : ∃ D, p1.den * p2.den = D := ⟨_, rfl⟩
  have hQ : mkRat P D = q := by rw [← hP, ← hD, ← Rat.mkRat_mul_mkRat, Rat.mkRat_self, Rat.mkRat_self, hr]
  have LP := Lib.hid (lenZ_le (lenZ_mul e1 e2 hP) hK)
  have LD := Lib.hid (show (limbs D).length ≤ J by rw [← hD]; exact Nat.le_trans (len_mul e3 e4) hJ)
  clear hr e1 e2 e3 e4
  have HP := Lib.hid hP; clear hP
  have HD := Lib.hid hD; clear hD
  have HQ := Lib.hid hQ; clear hQ
  go_wp2_with fail
  replace RN1 := Lib.hid RN1.out.drew
  replace RD1 := Lib.hid RD1.out.drew
  replace RN2 := Lib.hid RN2.out.drew
  replace RD2 := Lib.hid RD2.out.drew
  replace X0 := Lib.hid X0.out.drew
  replace X1 := Lib.hid X1.out.drew
  replace Z := Lib.hid Z.out.drew
  replace HB := Lib.hid HB.out.drew
  clear kX00 kX01 kX02 kX10 kX11 kX12 kX13 kX14 kX15 kX16 kZ0 kZ1 kZ2
  obtain ⟨kX00, kX01, kX02, -, -, -, -⟩ := X0.out
  obtain ⟨kX10, kX11, kX12, -, -, -, -⟩ := X1.out
  obtain ⟨kZ0, kZ1, kZ2, kZ3, kZ4, kZ5, kZ6⟩ := Z.out
  go_region_held3 (fun w' => w'.cell? ⟨w.heap.size, 0, none⟩ = some (.bool (decide (p1.num < 0))) ∧ w'.cell? ⟨w.heap.size, 1, none⟩ = some (.slice a1 n1 c1) ∧ w'.cell? ⟨w.heap.size, 2, none⟩ = some (.slice b1 m1 d1) ∧ w'.cell? ⟨w.heap.size + 1, 0, none⟩ = some (.bool (decide (p2.num < 0))) ∧ w'.cell? ⟨w.heap.size + 1, 1, none⟩ = some (.slice a2 n2 c2) ∧ w'.cell? ⟨w.heap.size + 1, 2, none⟩ = some (.slice b2 m2 d2))
    (first | (refine ⟨?_, ?_, ?_, ?_, ?_, ?_⟩ <;> with_reducible assumption) | (go_keep; done) | (refine ⟨?_, ?_, ?_, ?_, ?_, ?_⟩ <;> (repeat rw [cell_other (by first | (simp; done) | (simp; omega))]) <;> with_reducible assumption))
    (first
      | (have mk := G2; clear mk
         go_at_call 42
         refine (rnormR K J q RP.out RD.out (by rw [sv_limbs, val_limbs]; exact HQ.out) hnp hnd hK9 (by omega) (by omega) hJ9).mono ?_
         rintro e v3 ⟨ar, nr, cr, br, mr, dr, rfl, h2, h3, hr, hr2, hb⟩
         replace RP := Lib.hid (RP.out.later hb)
         replace RD := Lib.hid (RD.out.later hb)
         replace X0 := Lib.hid (X0.out.later hb)
         replace X1 := Lib.hid (X1.out.later hb)
         replace Z := Lib.hid (Z.out.later hb)
         replace HB := Lib.hid (bthen HB.out hb); clear hb
         clear kX00 kX01 kX02 kX10 kX11 kX12 kZ0 kZ1 kZ2 kZ3 kZ4 kZ5 kZ6
         obtain ⟨kX00, kX01, kX02, -, -, -, -⟩ := X0.out
         obtain ⟨kX10, kX11, kX12, -, -, -, -⟩ := X1.out
         obtain ⟨kZ0, kZ1, kZ2, kZ3, kZ4, kZ5, kZ6⟩ := Z.out
         have RA := Lib.hid hr; clear hr
         have RB := Lib.hid hr2; clear hr2
         have G3 : Hid True := trivial)
      | (have mk := G1; clear mk
         go_at_call 57
         refine (rmulN J D RD1.out RD2.out (val_limbs _) (val_limbs _) (by omega) (by omega) HD.out LD.out).mono ?_
         rintro e v2 ⟨ad, nd, cd, rfl, hnd, hr, hb⟩
         clear RD1
         clear RD2
         replace RP := Lib.hid (RP.out.later hb)
         replace X0 := Lib.hid (X0.out.later hb)
         replace X1 := Lib.hid (X1.out.later hb)
         replace Z := Lib.hid (Z.out.later hb)
         replace HB := Lib.hid (bthen HB.out hb); clear hb
         clear kX00 kX01 kX02 kX10 kX11 kX12 kZ0 kZ1 kZ2 kZ3 kZ4 kZ5 kZ6
         obtain ⟨kX00, kX01, kX02, -, -, -, -⟩ := X0.out
         obtain ⟨kX10, kX11, kX12, -, -, -, -⟩ := X1.out
         obtain ⟨kZ0, kZ1, kZ2, kZ3, kZ4, kZ5, kZ6⟩ := Z.out
         have RD := Lib.hid hr; clear hr
         have G2 : Hid True := trivial)
      | (skip
         go_at_call 48
         refine (rmulI K P RN1.out RN2.out (sv_limbs _) (sv_limbs _) (by omega) (by omega) HP.out LP.out (by omega)).mono ?_
         rintro e v1 ⟨ap, np, cp, rfl, hnp, hr, hb⟩
         clear RN1
         clear RN2
         replace RD1 := Lib.hid (RD1.out.later hb)
         replace RD2 := Lib.hid (RD2.out.later hb)
         replace X0 := Lib.hid (X0.out.later hb)
         replace X1 := Lib.hid (X1.out.later hb)
         replace Z := Lib.hid (Z.out.later hb)
         replace HB := Lib.hid (bthen HB.out hb); clear hb
         clear kX00 kX01 kX02 kX10 kX11 kX12 kZ0 kZ1 kZ2 kZ3 kZ4 kZ5 kZ6
         obtain ⟨kX00, kX01, kX02, -, -, -, -⟩ := X0.out
         obtain ⟨kX10, kX11, kX12, -, -, -, -⟩ := X1.out
         obtain ⟨kZ0, kZ1, kZ2, kZ3, kZ4, kZ5, kZ6⟩ := Z.out
         have RP := Lib.hid hr; clear hr
         have G1 : Hid True := trivial))
  all_goals
    go_wp2
    exact bodyPost_ret (v := .agg #[.bool (decide (q.num < 0)), .slice ar nr cr, .slice br mr dr]) (by simp [results, Tryz.results33, go_sem, *]) rfl
      ⟨ar, nr, cr, br, mr, dr, rfl, h2, h3, RA.out.put3 Z.out _ _ _, RB.out.put3 Z.out _ _ _, below_put3 HB.out (by omega) _ _ _⟩

theorem ratK_more {k j K J : Nat} {q : Rat} {w : World} (hk : k ≤ K) (hj : j ≤ J) : ∀ e w', RatK k j q w e w' → RatK K J q w e w' := by
  rintro e w' ⟨a, n, c, b, m, d, h1, h2, h3, h4⟩
  exact ⟨a, n, c, b, m, d, h1, by omega, by omega, h4⟩

theorem quick_bounds {s : Bool} {n m : Nat} {xs ys : List Nat} (hP : n ≤ 1 ∧ m = 1 ∧ 0 < val ys ∧ val ys < 1073741824 ∧ val xs < 1073741824) : -1073741824 < sv s (val xs) ∧ sv s (val xs) < 1073741824 ∧ -1073741824 < (val ys : Int) ∧ (val ys : Int) < 1073741824 ∧ 0 < (val ys : Int) := by
  obtain ⟨-, -, h1, h2, h3⟩ := hP
  refine ⟨?_, ?_, by omega, by omega, by omega⟩
  · unfold sv; split <;> omega
  · unfold sv; split <;> omega

theorem rmulR (k1 j1 k2 j2 K J : Nat) (q p1 p2 : Rat) {s t : Bool} {a b a' b' : Option Addr} {n c m d n' c' m' d' : Nat} {xs ys us vs : List Nat} {w : World} (h0 : Row w a n c xs) (h1 : Row w b m d ys) (h2 : Row w a' n' c' us) (h3 : Row w b' m' d' vs) (hp : mkRat (sv s (val xs)) (val ys) = p1) (hq : mkRat (sv t (val us)) (val vs) = p2) (hn : n ≤ k1) (hm : m ≤ j1) (hn' : n' ≤ k2) (hm' : m' ≤ j2) (h1a : 2 ≤ k1) (h1b : 2 ≤ j1) (h2a : 2 ≤ k2) (h2b : 2 ≤ j2) (h1k : k1 ≤ 20) (h1j : j1 ≤ 20) (h2k : k2 ≤ 20) (h2j : j2 ≤ 20) (hK : k1 + k2 ≤ K) (hJ : j1 + j2 ≤ J) (hK9 : K ≤ 60) (hJ9 : J ≤ 60) (hr : p1 * p2 = q) :
    Calls Tryz.prog 33 #[.agg #[.bool s, .slice a n c, .slice b m d], .agg #[.bool t, .slice a' n' c', .slice b' m' d']] w (RatK K J q w) := by
  by_cases c1 : n ≤ 1 ∧ m = 1 ∧ 0 < val ys ∧ val ys < 1073741824 ∧ val xs < 1073741824
  · by_cases c2 : n' ≤ 1 ∧ m' = 1 ∧ 0 < val vs ∧ val vs < 1073741824 ∧ val us < 1073741824
    · obtain ⟨x0, x1, y0, y1, y2⟩ := quick_bounds (s := s) c1
      obtain ⟨u0, u1, v0, v1, v2⟩ := quick_bounds (s := t) c2
      obtain ⟨X, hX⟩ : ∃ X, sv s (val xs) = X := ⟨_, rfl⟩
      obtain ⟨Y, hY⟩ : ∃ Y : Int, (val ys : Int) = Y := ⟨_, rfl⟩
      obtain ⟨U, hU⟩ : ∃ U, sv t (val us) = U := ⟨_, rfl⟩
      obtain ⟨V, hV⟩ : ∃ V : Int, (val vs : Int) = V := ⟨_, rfl⟩
      have q1 : ∀ W, Row W a n c xs → Row W b m d ys → Calls Tryz.prog 39 #[.agg #[.bool s, .slice a n c, .slice b m d]] W (QuickYes X Y W) := fun W r0 r1 => by rw [← hX, ← hY]; exact quickY c1 W r0 r1
      have q2 : ∀ W, Row W a' n' c' us → Row W b' m' d' vs → Calls Tryz.prog 39 #[.agg #[.bool t, .slice a' n' c', .slice b' m' d']] W (QuickYes U V W) := fun W r0 r1 => by rw [← hU, ← hV]; exact quickY c2 W r0 r1
      rw [hX] at x0 x1 hp
      rw [hU] at u0 u1 hq
      rw [hY] at y0 y1 y2
      rw [hV] at v0 v1 v2
      have hy : val ys = Y.natAbs := by omega
      have hv : val vs = V.natAbs := by omega
      rw [hy] at hp
      rw [hv] at hq
      have m1 := mul_lt_bound (by omega) x0 x1 u0 u1
      have m2 := mul_lt_bound (by omega) y0 y1 v0 v1
      have m3 := Int.mul_pos y2 v2
      exact (rmulR_small q h0 h1 h2 h3 X Y q1 U V q2 (X * U) (Y * V) rfl rfl (by omega) (by omega) m3 (by omega) (by rw [Int.natAbs_mul, ← Rat.mkRat_mul_mkRat, hp, hq, hr])).mono (ratK_more (by omega) (by omega))
    · exact rmulR_yn k1 j1 k2 j2 K J q p1 p2 h0 h1 h2 h3 hp hq _ _ (quickY c1) (quickN c2) hn hm hn' hm' h1a h1b h2a h2b h1k h1j h2k h2j hK hJ hK9 hJ9 hr
  · by_cases c2 : n' ≤ 1 ∧ m' = 1 ∧ 0 < val vs ∧ val vs < 1073741824 ∧ val us < 1073741824
    · exact rmulR_ny k1 j1 k2 j2 K J q p1 p2 h0 h1 h2 h3 hp hq (quickN c1) _ _ (quickY c2) hn hm hn' hm' h1a h1b h2a h2b h1k h1j h2k h2j hK hJ hK9 hJ9 hr
    · exact rmulR_nn k1 j1 k2 j2 K J q p1 p2 h0 h1 h2 h3 hp hq (quickN c1) (quickN c2) hn hm hn' hm' h1a h1b h2a h2b h1k h1j h2k h2j hK hJ hK9 hJ9 hr

end Go.Proofs.YtmoplgfmngohgaaGreat
