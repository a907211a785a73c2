/- What the answer's Make tells. -/
import Derived.Test.YtmoplgfmngohgaaGreatQH
import Derived.Test.YtmoplgfmngohgaaGreatQD
import Derived.Deep.RegionHeld3
namespace Go.Proofs.YtmoplgfmngohgaaGreat
set_option linter.unusedVariables false
set_option linter.unusedSimpArgs false
set_option maxRecDepth 100000
open Go.RowKit Nums

set_option maxHeartbeats 4000000 in
theorem rmakeR_zero {t : Bool} {b : Option Addr} {m d : Nat} {ys : List Nat} {w : World} (s : Bool) (a : Option Addr) (n c : Nat) (Y : Int) (h1 : Row w b m d ys) (hY : sv t (val ys) = Y) (hm : m ≤ 60) (hS : sgn Y = 0) :
    Calls Tryz.prog 47 #[.agg #[.bool s, .slice a n c], .agg #[.bool t, .slice b m d]] w (RatErr 3 w) := by
  have HB := Lib.hid (below_three w (.cells #[.bool s, .slice a n c] 25) (.cells #[.bool t, .slice b m d] 25) (.cells #[.bool false, .slice none 0 0, .slice none 0 0] 27))
  have X0 : Hid (Box (((w.alloc (.cells #[.bool s, .slice a n c] 25)).alloc (.cells #[.bool t, .slice b m d] 25)).alloc (.cells #[.bool false, .slice none 0 0, .slice none 0 0] 27)) (w.heap.size) (.bool s) (.slice a n c)) := (((box_new _ (.bool s) (.slice a n c)).alloc _).alloc _)
  have X1 : Hid (Box (((w.alloc (.cells #[.bool s, .slice a n c] 25)).alloc (.cells #[.bool t, .slice b m d] 25)).alloc (.cells #[.bool false, .slice none 0 0, .slice none 0 0] 27)) (w.heap.size + 1) (.bool t) (.slice b m d)) := ((box_newE (by simp)).alloc _)
  have Z : Hid (Tri (((w.alloc (.cells #[.bool s, .slice a n c] 25)).alloc (.cells #[.bool t, .slice b m d] 25)).alloc (.cells #[.bool false, .slice none 0 0, .slice none 0 0] 27)) (w.heap.size + 2) (.bool false) (.slice none 0 0) (.slice none 0 0)) := (tri_newE (by simp; try omega))
  have R1 := Lib.hid (h1.later HB.out); clear h1
  have HS := Lib.hid hS; clear hS
  have HY := Lib.hid hY; clear hY
  go_enter Tryz.func47, Tryz.ntmps47
  go_wp2_with fail
  refine (rsignI 0 R1.out HY.out (by omega) HS.out).mono ?_
  rintro e w1 ⟨rfl, hb⟩
  replace R1 := Lib.hid (R1.out.later hb)
  replace X0 := Lib.hid (X0.out.later hb)
  replace X1 := Lib.hid (X1.out.later hb)
  replace Z := Lib.hid (Z.out.later hb)
  replace HB := Lib.hid (bthen HB.out hb)
  clear hb
  obtain ⟨kX00, kX01, kX02, kX03, kX04⟩ := X0.out
  obtain ⟨kX10, kX11, -, -, -⟩ := X1.out
  obtain ⟨kZ0, kZ1, kZ2, kZ3, kZ4, kZ5, kZ6⟩ := Z.out
  go_wp2
  exact bodyPost_ret (v := .tuple #[.agg #[.bool false, .slice none 0 0, .slice none 0 0], .int .i64 3]) (by simp [results, Tryz.results47, go_sem, *]) rfl ⟨rfl, below_put3 HB.out (by omega) _ _ _⟩

set_option maxHeartbeats 4000000 in
theorem rmakeR_pos (K J : Nat) (q : Rat) (X Y : Int) {s t : Bool} {a b : Option Addr} {n c m d : Nat} {xs ys : List Nat} {w : World} (h0 : Row w a n c xs) (h1 : Row w b m d ys) (hX : sv s (val xs) = X) (hY : sv t (val ys) = Y) (hn : n ≤ K) (hm : m ≤ J) (hK : K ≤ 60) (hK2 : 2 ≤ K) (hJ2 : 2 ≤ J) (hJ : J ≤ 60) (hS : sgn Y = 1) (hq : mkRat X Y.natAbs = q) :
    Calls Tryz.prog 47 #[.agg #[.bool s, .slice a n c], .agg #[.bool t, .slice b m d]] w (RatOk K J q w) := by
  obtain rfl : t = false := by
    cases t
    · rfl
    · exfalso; rw [show sv true (val ys) = -(val ys : Int) from rfl] at hY; rcases sgn_cases Y with ⟨h, e⟩ | ⟨h, e⟩ | ⟨h, e⟩ <;> omega
  have HB := Lib.hid (below_three w (.cells #[.bool s, .slice a n c] 25) (.cells #[.bool false, .slice b m d] 25) (.cells #[.bool false, .slice none 0 0, .slice none 0 0] 27))
  have X0 : Hid (Box (((w.alloc (.cells #[.bool s, .slice a n c] 25)).alloc (.cells #[.bool false, .slice b m d] 25)).alloc (.cells #[.bool false, .slice none 0 0, .slice none 0 0] 27)) (w.heap.size) (.bool s) (.slice a n c)) := (((box_new _ (.bool s) (.slice a n c)).alloc _).alloc _)
  have X1 : Hid (Box (((w.alloc (.cells #[.bool s, .slice a n c] 25)).alloc (.cells #[.bool false, .slice b m d] 25)).alloc (.cells #[.bool false, .slice none 0 0, .slice none 0 0] 27)) (w.heap.size + 1) (.bool false) (.slice b m d)) := ((box_newE (by simp)).alloc _)
  have Z : Hid (Tri (((w.alloc (.cells #[.bool s, .slice a n c] 25)).alloc (.cells #[.bool false, .slice b m d] 25)).alloc (.cells #[.bool false, .slice none 0 0, .slice none 0 0] 27)) (w.heap.size + 2) (.bool false) (.slice none 0 0) (.slice none 0 0)) := (tri_newE (by simp; try omega))
  have R0 := Lib.hid (h0.later HB.out); clear h0
  have R1 := Lib.hid (h1.later HB.out); clear h1
  have HS := Lib.hid hS; clear hS
  have HY := Lib.hid hY; clear hY
  have HX := Lib.hid hX; clear hX
  have HQ := Lib.hid hq; clear hq
  go_enter Tryz.func47, Tryz.ntmps47
  go_wp2_with fail
  refine (rsignI 1 R1.out HY.out (by omega) HS.out).mono ?_
  rintro e w1 ⟨rfl, hb⟩
  replace R0 := Lib.hid (R0.out.later hb)
  replace R1 := Lib.hid (R1.out.later hb)
  replace X0 := Lib.hid (X0.out.later hb)
  replace X1 := Lib.hid (X1.out.later hb)
  replace Z := Lib.hid (Z.out.later hb)
  replace HB := Lib.hid (bthen HB.out hb)
  clear hb
  obtain ⟨kX00, kX01, kX02, kX03, kX04⟩ := X0.out
  obtain ⟨kX10, kX11, -, -, -⟩ := X1.out
  obtain ⟨kZ0, kZ1, kZ2, kZ3, kZ4, kZ5, kZ6⟩ := Z.out
  go_wp2_with fail
  refine (rnormR K J q R0.out R1.out (show mkRat (sv s (val xs)) (val ys) = q by rw [HX.out, sv_nat Y false _ HY.out]; exact HQ.out) hn hm hK hK2 hJ2 hJ).mono ?_
  rintro e w2 ⟨ar, nr, cr, br, mr, dr, rfl, h2, h3, hr, hr2, hb⟩
  replace R0 := Lib.hid (R0.out.later hb)
  replace R1 := Lib.hid (R1.out.later hb)
  replace X0 := Lib.hid (X0.out.later hb)
  replace X1 := Lib.hid (X1.out.later hb)
  replace Z := Lib.hid (Z.out.later hb)
  replace HB := Lib.hid (bthen HB.out hb)
  clear hb
  clear kX00 kX01 kX02 kX03 kX04 kX10 kX11 kZ0 kZ1 kZ2 kZ3 kZ4 kZ5 kZ6
  have RA := Lib.hid hr; clear hr
  have RB := Lib.hid hr2; clear hr2
  obtain ⟨kX00, kX01, -, -, -⟩ := X0.out
  obtain ⟨kX10, kX11, -, -, -⟩ := X1.out
  obtain ⟨kZ0, kZ1, kZ2, kZ3, kZ4, kZ5, kZ6⟩ := Z.out
  go_wp2
  exact bodyPost_ret (v := .tuple #[.agg #[.bool (decide (q.num < 0)), .slice ar nr cr, .slice br mr dr], .int .i64 0]) (by simp [results, Tryz.results47, go_sem, *]) rfl
    ⟨ar, nr, cr, br, mr, dr, rfl, h2, h3, RA.out.put3 Z.out _ _ _, RB.out.put3 Z.out _ _ _, below_put3 HB.out (by omega) _ _ _⟩

set_option maxHeartbeats 4000000 in
theorem rmakeR_neg (K J : Nat) (q : Rat) (X Y : Int) {s t : Bool} {a b : Option Addr} {n c m d : Nat} {xs ys : List Nat} {w : World} (h0 : Row w a n c xs) (h1 : Row w b m d ys) (hX : sv s (val xs) = X) (hY : sv t (val ys) = Y) (hn : n ≤ K) (hm : m ≤ J) (hK : K ≤ 60) (hK2 : 2 ≤ K) (hJ2 : 2 ≤ J) (hJ : J ≤ 60) (hS : sgn Y = (-1)) (hq : mkRat (-X) Y.natAbs = q) :
    Calls Tryz.prog 47 #[.agg #[.bool s, .slice a n c], .agg #[.bool t, .slice b m d]] w (RatOk K J q w) := by
  obtain rfl : t = true := by
    cases t
    · exfalso; rw [show sv false (val ys) = (val ys : Int) from rfl] at hY; rcases sgn_cases Y with ⟨h, e⟩ | ⟨h, e⟩ | ⟨h, e⟩ <;> omega
    · rfl
  have HB := Lib.hid (below_three w (.cells #[.bool s, .slice a n c] 25) (.cells #[.bool true, .slice b m d] 25) (.cells #[.bool false, .slice none 0 0, .slice none 0 0] 27))
  have X0 : Hid (Box (((w.alloc (.cells #[.bool s, .slice a n c] 25)).alloc (.cells #[.bool true, .slice b m d] 25)).alloc (.cells #[.bool false, .slice none 0 0, .slice none 0 0] 27)) (w.heap.size) (.bool s) (.slice a n c)) := (((box_new _ (.bool s) (.slice a n c)).alloc _).alloc _)
  have X1 : Hid (Box (((w.alloc (.cells #[.bool s, .slice a n c] 25)).alloc (.cells #[.bool true, .slice b m d] 25)).alloc (.cells #[.bool false, .slice none 0 0, .slice none 0 0] 27)) (w.heap.size + 1) (.bool true) (.slice b m d)) := ((box_newE (by simp)).alloc _)
  have Z : Hid (Tri (((w.alloc (.cells #[.bool s, .slice a n c] 25)).alloc (.cells #[.bool true, .slice b m d] 25)).alloc (.cells #[.bool false, .slice none 0 0, .slice none 0 0] 27)) (w.heap.size + 2) (.bool false) (.slice none 0 0) (.slice none 0 0)) := (tri_newE (by simp; try omega))
  have R0 := Lib.hid (h0.later HB.out); clear h0
  have R1 := Lib.hid (h1.later HB.out); clear h1
  have HS := Lib.hid hS; clear hS
  have HY := Lib.hid hY; clear hY
  have HX := Lib.hid hX; clear hX
  have HQ := Lib.hid hq; clear hq
  go_enter Tryz.func47, Tryz.ntmps47
  go_wp2_with fail
  refine (rsignI (-1) R1.out HY.out (by omega) HS.out).mono ?_
  rintro e w1 ⟨rfl, hb⟩
  replace R0 := Lib.hid (R0.out.later hb)
  replace R1 := Lib.hid (R1.out.later hb)
  replace X0 := Lib.hid (X0.out.later hb)
  replace X1 := Lib.hid (X1.out.later hb)
  replace Z := Lib.hid (Z.out.later hb)
  replace HB := Lib.hid (bthen HB.out hb)
  clear hb
  obtain ⟨kX00, kX01, kX02, kX03, kX04⟩ := X0.out
  obtain ⟨kX10, kX11, -, -, -⟩ := X1.out
  obtain ⟨kZ0, kZ1, kZ2, kZ3, kZ4, kZ5, kZ6⟩ := Z.out
  obtain ⟨M, hM⟩ : ∃ M, -X = M := ⟨_, rfl⟩
  have L0 := Lib.hid (show (limbs M.natAbs).length ≤ K by have := lenZ_raw R0.out hn HX.out; rw [← hM]; rwa [Int.natAbs_neg])
  have HM0 := Lib.hid (show sv (!s) (val xs) = M by rw [← hM, ← HX.out]; cases s <;> simp [sv])
  have HM := Lib.hid hM; clear hM
  go_wp2_with fail
  refine (rnegI_any K M s a n c xs _ R0.out (by omega) HM0.out L0.out).mono ?_
  rintro e w2 ⟨an, nn, cn, rfl, bn, hr, hb⟩
  replace R0 := Lib.hid (R0.out.later hb)
  replace R1 := Lib.hid (R1.out.later hb)
  replace X0 := Lib.hid (X0.out.later hb)
  replace X1 := Lib.hid (X1.out.later hb)
  replace Z := Lib.hid (Z.out.later hb)
  replace HB := Lib.hid (bthen HB.out hb)
  clear hb
  clear kX00 kX01 kX02 kX03 kX04 kX10 kX11 kZ0 kZ1 kZ2 kZ3 kZ4 kZ5 kZ6
  have RN := Lib.hid hr; clear hr
  obtain ⟨kX00, kX01, kX02, kX03, kX04⟩ := X0.out
  obtain ⟨kX10, kX11, -, -, -⟩ := X1.out
  obtain ⟨kZ0, kZ1, kZ2, kZ3, kZ4, kZ5, kZ6⟩ := Z.out
  clear R0
  have X0' := Lib.hid X0.out
  replace RN := Lib.hid (RN.out.put X0'.out.1 X0'.out.2.1 (.bool (decide (M < 0))) (.slice an nn cn))
  replace R1 := Lib.hid (R1.out.put X0'.out.1 X0'.out.2.1 (.bool (decide (M < 0))) (.slice an nn cn))
  replace X0 := Lib.hid (X0.out.put (.bool (decide (M < 0))) (.slice an nn cn))
  replace X1 := Lib.hid (X1.out.far (g' := w.heap.size) (by omega) (.bool (decide (M < 0))) (.slice an nn cn))
  replace Z := Lib.hid (Z.out.far2 (g' := w.heap.size) (by omega) (.bool (decide (M < 0))) (.slice an nn cn))
  replace HB := Lib.hid (below_put (g := w.heap.size) HB.out (by omega) (.bool (decide (M < 0))) (.slice an nn cn))
  clear X0'
  go_wp2_with fail
  refine (rnormR K J q RN.out R1.out (show mkRat (sv (decide (M < 0)) (val (limbs M.natAbs))) (val ys) = q by rw [sv_limbs, sv_nat Y true _ HY.out, ← HM.out]; exact HQ.out) bn hm hK hK2 hJ2 hJ).mono ?_
  rintro e w3 ⟨ar, nr, cr, br, mr, dr, rfl, h2, h3, hr, hr2, hb⟩
  replace RN := Lib.hid (RN.out.later hb)
  replace R1 := Lib.hid (R1.out.later hb)
  replace X0 := Lib.hid (X0.out.later hb)
  replace X1 := Lib.hid (X1.out.later hb)
  replace Z := Lib.hid (Z.out.later hb)
  replace HB := Lib.hid (bthen HB.out hb)
  clear hb
  clear kX00 kX01 kX02 kX03 kX04 kX10 kX11 kZ0 kZ1 kZ2 kZ3 kZ4 kZ5 kZ6
  have RA := Lib.hid hr; clear hr
  have RB := Lib.hid hr2; clear hr2
  obtain ⟨kX00, kX01, -, -, -⟩ := X0.out
  obtain ⟨kX10, kX11, -, -, -⟩ := X1.out
  obtain ⟨kZ0, kZ1, kZ2, kZ3, kZ4, kZ5, kZ6⟩ := Z.out
  go_wp2
  exact bodyPost_ret (v := .tuple #[.agg #[.bool (decide (q.num < 0)), .slice ar nr cr, .slice br mr dr], .int .i64 0]) (by simp [results, Tryz.results47, go_sem, *]) rfl
    ⟨ar, nr, cr, br, mr, dr, rfl, h2, h3, RA.out.put3 Z.out _ _ _, RB.out.put3 Z.out _ _ _, below_put3 HB.out (by omega) _ _ _⟩

theorem rmakeR (K J : Nat) (q : Rat) (X Y : Int) {s t : Bool} {a b : Option Addr} {n c m d : Nat} {xs ys : List Nat} {w : World} (h0 : Row w a n c xs) (h1 : Row w b m d ys) (hX : sv s (val xs) = X) (hY : sv t (val ys) = Y) (hn : n ≤ K) (hm : m ≤ J) (hK : K ≤ 60) (hK2 : 2 ≤ K) (hJ2 : 2 ≤ J) (hJ : J ≤ 60) (hY0 : Y ≠ 0) (hq : (X : Rat) / (Y : Rat) = q) :
    Calls Tryz.prog 47 #[.agg #[.bool s, .slice a n c], .agg #[.bool t, .slice b m d]] w (RatOk K J q w) := by
  have h := make_div (X := X) hY0
  rw [hq] at h
  by_cases hc : Y < 0
  · rw [if_pos hc] at h
    exact rmakeR_neg K J q X Y h0 h1 hX hY hn hm hK hK2 hJ2 hJ (by rw [sgn, if_pos hc]) h
  · rw [if_neg hc] at h
    exact rmakeR_pos K J q X Y h0 h1 hX hY hn hm hK hK2 hJ2 hJ (by rw [sgn, if_neg hc, if_pos (by omega)]) h

end Go.Proofs.YtmoplgfmngohgaaGreat
