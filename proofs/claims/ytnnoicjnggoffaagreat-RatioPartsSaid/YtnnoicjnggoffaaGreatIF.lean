/- What the document's answer's Div tells of any integers. -/
import Derived.Test.YtnnoicjnggoffaaGreatID
import Derived.Test.YtnnoicjnggoffaaGreatIC
import Derived.Deep.RegionWith
namespace Go.Proofs.YtnnoicjnggoffaaGreat
set_option linter.unusedVariables false
set_option linter.unusedSimpArgs false
set_option maxRecDepth 100000
open Go.RowKit Nums

theorem keep_six {W : World} {g1 g2 g3 h : Nat} {u1 u2 u3 u4 u5 u6 p q : Value} (H : W.cell? ⟨g1, 0, none⟩ = some u1 ∧ W.cell? ⟨g1, 1, none⟩ = some u2 ∧ W.cell? ⟨g2, 0, none⟩ = some u3 ∧ W.cell? ⟨g2, 1, none⟩ = some u4 ∧ W.cell? ⟨g3, 0, none⟩ = some u5 ∧ W.cell? ⟨g3, 1, none⟩ = some u6)
    (n1 : h ≠ g1) (n2 : h ≠ g2) (n3 : h ≠ g3) :
    ((W.setCell ⟨h, 0, none⟩ p).setCell ⟨h, 1, none⟩ q).cell? ⟨g1, 0, none⟩ = some u1 ∧ ((W.setCell ⟨h, 0, none⟩ p).setCell ⟨h, 1, none⟩ q).cell? ⟨g1, 1, none⟩ = some u2 ∧ ((W.setCell ⟨h, 0, none⟩ p).setCell ⟨h, 1, none⟩ q).cell? ⟨g2, 0, none⟩ = some u3 ∧ ((W.setCell ⟨h, 0, none⟩ p).setCell ⟨h, 1, none⟩ q).cell? ⟨g2, 1, none⟩ = some u4 ∧ ((W.setCell ⟨h, 0, none⟩ p).setCell ⟨h, 1, none⟩ q).cell? ⟨g3, 0, none⟩ = some u5 ∧ ((W.setCell ⟨h, 0, none⟩ p).setCell ⟨h, 1, none⟩ q).cell? ⟨g3, 1, none⟩ = some u6 := by
  obtain ⟨h1, h2, h3, h4, h5, h6⟩ := H
  refine ⟨?_, ?_, ?_, ?_, ?_, ?_⟩
  · rw [cell_other (by simp), cell_other (by simp)]; exact h1
  · rw [cell_other (by simp), cell_other (by simp)]; exact h2
  · rw [cell_other (by simp), cell_other (by simp)]; exact h3
  · rw [cell_other (by simp), cell_other (by simp)]; exact h4
  · rw [cell_other (by simp), cell_other (by simp)]; exact h5
  · rw [cell_other (by simp), cell_other (by simp)]; exact h6

set_option maxRecDepth 100000 in
set_option maxHeartbeats 8000000 in
theorem rdivI_zero (X Y : Int) (s t : Bool) (s' t' : Bool) (hs : decide (X < 0) = s') (ht : decide (Y < 0) = t') (a b : Option Addr) (n c m d : Nat) (xs ys : List Nat) (w : World) (h0 : Row w a n c xs) (h1 : Row w b m d ys) (hn : n ≤ 10) (hm : m ≤ 10) (hX : sv s (val xs) = X) (hY : sv t (val ys) = Y) (hY0 : Y = 0) :
    Calls Tryz.prog 76 #[.agg #[.bool s, .slice a n c], .agg #[.bool t, .slice b m d]] w fun e w' => e = .returned (.tuple #[.agg #[.bool false, .slice none 0 0], .agg #[.bool false, .slice none 0 0], .int .i64 3]) ∧ Below w.heap.size w w' := by
  have HX4 := Lib.hid (box_four w (.bool s) (.slice a n c) (.bool t) (.slice b m d) (.bool false) (.slice none 0 0) (.bool false) (.slice none 0 0))
  have XA := Lib.hid HX4.out.1
  have XB := Lib.hid HX4.out.2.1
  have XC := Lib.hid HX4.out.2.2.1
  have XD := Lib.hid HX4.out.2.2.2
  clear HX4
  have HB := Lib.hid (below_four w (.cells #[.bool s, .slice a n c] 24) (.cells #[.bool t, .slice b m d] 24) (.cells #[.bool false, .slice none 0 0] 24) (.cells #[.bool false, .slice none 0 0] 24))
  have LX : Hid ((limbs X.natAbs).length ≤ 10) := lenZ_raw h0 hn hX
  have LY : Hid ((limbs Y.natAbs).length ≤ 10) := lenZ_raw h1 hm hY
  have RA := Lib.hid (h0.later HB.out); clear h0
  have RB := Lib.hid (h1.later HB.out); clear h1
  have HX := Lib.hid hX; clear hX
  have HY := Lib.hid hY; clear hY
  have HS := Lib.hid hs; clear hs
  have HT := Lib.hid ht; clear ht
  have HZ0 : Hid (val (limbs Y.natAbs) = 0) := by show _ = _; rw [val_limbs, hY0]; rfl
  clear hY0
  go_enter Tryz.func76, Tryz.ntmps76
  go_wp2_with fail
  refine (rnormS 10 X RA.out HX.out (by omega) LX.out HS.out).mono ?_
  rintro e w1 ⟨a1, m1, c1, rfl, hm1, hrow, hb⟩
  replace RA := Lib.hid hrow; clear hrow
  replace RB := Lib.hid (RB.out.later hb)
  replace XA := Lib.hid (XA.out.later hb)
  replace XB := Lib.hid (XB.out.later hb)
  replace XC := Lib.hid (XC.out.later hb)
  replace XD := Lib.hid (XD.out.later hb)
  replace HB := Lib.hid (bthen HB.out hb); clear hb
  obtain ⟨k0, k1, k2, k3, k4⟩ := XA.out
  replace RA := Lib.hid (RA.out.put k0 k1 (.bool s') (.slice a1 m1 c1))
  replace RB := Lib.hid (RB.out.put k0 k1 (.bool s') (.slice a1 m1 c1))
  replace XA := Lib.hid (XA.out.put (.bool s') (.slice a1 m1 c1))
  replace XB := Lib.hid (XB.out.far (g' := w.heap.size) (by omega) (.bool s') (.slice a1 m1 c1))
  replace XC := Lib.hid (XC.out.far (g' := w.heap.size) (by omega) (.bool s') (.slice a1 m1 c1))
  replace XD := Lib.hid (XD.out.far (g' := w.heap.size) (by omega) (.bool s') (.slice a1 m1 c1))
  replace HB := Lib.hid (below_put HB.out (show w.heap.size ≤ w.heap.size by omega) (.bool s') (.slice a1 m1 c1))
  obtain ⟨j0, j1, j2, j3, j4⟩ := XB.out
  go_wp2_with fail
  refine (rnormS 10 Y RB.out HY.out (by omega) LY.out HT.out).mono ?_
  rintro e w2 ⟨a2, m2, c2, rfl, hm2, hrow, hb⟩
  clear k0 k1 k2 k3 k4 j0 j1 j2 j3 j4
  replace RB := Lib.hid hrow; clear hrow
  replace RA := Lib.hid (RA.out.later hb)
  replace XA := Lib.hid (XA.out.later hb)
  replace XB := Lib.hid (XB.out.later hb)
  replace XC := Lib.hid (XC.out.later hb)
  replace XD := Lib.hid (XD.out.later hb)
  replace HB := Lib.hid (bthen HB.out hb); clear hb
  obtain ⟨j0, j1, j2, j3, j4⟩ := XB.out
  replace RA := Lib.hid (RA.out.put j0 j1 (.bool t') (.slice a2 m2 c2))
  replace RB := Lib.hid (RB.out.put j0 j1 (.bool t') (.slice a2 m2 c2))
  replace XA := Lib.hid (XA.out.far (g' := w.heap.size + 1) (by omega) (.bool t') (.slice a2 m2 c2))
  replace XB := Lib.hid (XB.out.put (.bool t') (.slice a2 m2 c2))
  replace XC := Lib.hid (XC.out.far (g' := w.heap.size + 1) (by omega) (.bool t') (.slice a2 m2 c2))
  replace XD := Lib.hid (XD.out.far (g' := w.heap.size + 1) (by omega) (.bool t') (.slice a2 m2 c2))
  replace HB := Lib.hid (below_put HB.out (show w.heap.size ≤ w.heap.size + 1 by omega) (.bool t') (.slice a2 m2 c2))
  obtain ⟨k0, k1, k2, k3, k4⟩ := XA.out
  go_wp2_with fail
  refine (rdiv_zero _ _ _ _ _ _ _ _ _ RA.out RB.out (by omega) (by omega) HZ0.out).mono ?_
  rintro e w3 ⟨rfl, hb⟩
  clear k0 k1 k2 k3 k4 j0 j1 j2 j3 j4
  replace XA := Lib.hid (XA.out.later hb)
  replace XB := Lib.hid (XB.out.later hb)
  replace XC := Lib.hid (XC.out.later hb)
  replace XD := Lib.hid (XD.out.later hb)
  replace HB := Lib.hid (bthen HB.out hb); clear hb
  obtain ⟨q0, q1, q2, q3, q4⟩ := XC.out
  obtain ⟨p0, p1, p2, p3, p4⟩ := XD.out
  go_wp2
  exact bodyPost_ret (v := .tuple #[.agg #[.bool false, .slice none 0 0], .agg #[.bool false, .slice none 0 0], .int .i64 3]) (by simp [results, Tryz.results76, go_sem, *]) rfl ⟨rfl, below_put (below_put HB.out (by omega) _ _) (by omega) _ _⟩

set_option maxRecDepth 100000 in
set_option maxHeartbeats 8000000 in
theorem rdivI_same (X Y : Int) (s t : Bool) (s' : Bool) (hs : decide (X < 0) = s') (ht : decide (Y < 0) = s') (a b : Option Addr) (n c m d : Nat) (xs ys : List Nat) (w : World) (h0 : Row w a n c xs) (h1 : Row w b m d ys) (hn : n ≤ 10) (hm : m ≤ 10) (hX : sv s (val xs) = X) (hY : sv t (val ys) = Y) (hY0 : Y ≠ 0) (E Q P R : Int) (hE : sv false (X.natAbs / Y.natAbs) = E) (hQ : E = Q) (hP : Q * Y = P) (hR : X - P = R) :
    Calls Tryz.prog 76 #[.agg #[.bool s, .slice a n c], .agg #[.bool t, .slice b m d]] w (DivK 11 22 Q R w) := by
  have HX4 := Lib.hid (box_four w (.bool s) (.slice a n c) (.bool t) (.slice b m d) (.bool false) (.slice none 0 0) (.bool false) (.slice none 0 0))
  have XA := Lib.hid HX4.out.1
  have XB := Lib.hid HX4.out.2.1
  have XC := Lib.hid HX4.out.2.2.1
  have XD := Lib.hid HX4.out.2.2.2
  clear HX4
  have HB := Lib.hid (below_four w (.cells #[.bool s, .slice a n c] 24) (.cells #[.bool t, .slice b m d] 24) (.cells #[.bool false, .slice none 0 0] 24) (.cells #[.bool false, .slice none 0 0] 24))
  have LX : Hid ((limbs X.natAbs).length ≤ 10) := lenZ_raw h0 hn hX
  have LY : Hid ((limbs Y.natAbs).length ≤ 10) := lenZ_raw h1 hm hY
  have RA := Lib.hid (h0.later HB.out); clear h0
  have RB := Lib.hid (h1.later HB.out); clear h1
  have HX := Lib.hid hX; clear hX
  have HY := Lib.hid hY; clear hY
  have HS := Lib.hid hs; clear hs
  have HT := Lib.hid ht; clear ht
  have HY0 : Hid (0 < Y.natAbs) := by show 0 < _; omega
  have HQL : Hid ((limbs (X.natAbs / Y.natAbs)).length ≤ 10) := len_le (Nat.div_le_self _ _) LX.out
  have HRL : Hid ((limbs (X.natAbs % Y.natAbs)).length ≤ 10) := len_le (Nat.mod_le _ _) LX.out
  have LE : Hid ((limbs E.natAbs).length ≤ 10) := by show _ ≤ _; rw [← hE, natAbs_sv]; exact HQL.out
  subst hQ
  have LQ : Hid ((limbs E.natAbs).length ≤ 11) := lenZ_le LE.out (by omega)
  have LP : Hid ((limbs P.natAbs).length ≤ 21) := lenZ_mul LQ.out LY.out hP
  have LR : Hid ((limbs R.natAbs).length ≤ 22) := lenZ_sub (lenZ_le LX.out (by omega)) LP.out hR
  have HE : Hid (sv false (val (limbs (X.natAbs / Y.natAbs))) = E) := by show _ = _; rw [val_limbs]; exact hE
  clear hE hY0
  have HP := Lib.hid hP; clear hP
  have HR := Lib.hid hR; clear hR
  go_enter Tryz.func76, Tryz.ntmps76
  go_wp2_with fail
  refine (rnormS 10 X RA.out HX.out (by omega) LX.out HS.out).mono ?_
  rintro e w1 ⟨a1, m1, c1, rfl, hm1, hrow, hb⟩
  replace RA := Lib.hid hrow; clear hrow
  replace RB := Lib.hid (RB.out.later hb)
  replace XA := Lib.hid (XA.out.later hb)
  replace XB := Lib.hid (XB.out.later hb)
  replace XC := Lib.hid (XC.out.later hb)
  replace XD := Lib.hid (XD.out.later hb)
  replace HB := Lib.hid (bthen HB.out hb); clear hb
  obtain ⟨k0, k1, k2, k3, k4⟩ := XA.out
  replace RA := Lib.hid (RA.out.put k0 k1 (.bool s') (.slice a1 m1 c1))
  replace RB := Lib.hid (RB.out.put k0 k1 (.bool s') (.slice a1 m1 c1))
  replace XA := Lib.hid (XA.out.put (.bool s') (.slice a1 m1 c1))
  replace XB := Lib.hid (XB.out.far (g' := w.heap.size) (by omega) (.bool s') (.slice a1 m1 c1))
  replace XC := Lib.hid (XC.out.far (g' := w.heap.size) (by omega) (.bool s') (.slice a1 m1 c1))
  replace XD := Lib.hid (XD.out.far (g' := w.heap.size) (by omega) (.bool s') (.slice a1 m1 c1))
  replace HB := Lib.hid (below_put HB.out (show w.heap.size ≤ w.heap.size by omega) (.bool s') (.slice a1 m1 c1))
  obtain ⟨j0, j1, j2, j3, j4⟩ := XB.out
  go_wp2_with fail
  refine (rnormS 10 Y RB.out HY.out (by omega) LY.out HT.out).mono ?_
  rintro e w2 ⟨a2, m2, c2, rfl, hm2, hrow, hb⟩
  clear k0 k1 k2 k3 k4 j0 j1 j2 j3 j4
  replace RB := Lib.hid hrow; clear hrow
  replace RA := Lib.hid (RA.out.later hb)
  replace XA := Lib.hid (XA.out.later hb)
  replace XB := Lib.hid (XB.out.later hb)
  replace XC := Lib.hid (XC.out.later hb)
  replace XD := Lib.hid (XD.out.later hb)
  replace HB := Lib.hid (bthen HB.out hb); clear hb
  obtain ⟨j0, j1, j2, j3, j4⟩ := XB.out
  replace RA := Lib.hid (RA.out.put j0 j1 (.bool s') (.slice a2 m2 c2))
  replace RB := Lib.hid (RB.out.put j0 j1 (.bool s') (.slice a2 m2 c2))
  replace XA := Lib.hid (XA.out.far (g' := w.heap.size + 1) (by omega) (.bool s') (.slice a2 m2 c2))
  replace XB := Lib.hid (XB.out.put (.bool s') (.slice a2 m2 c2))
  replace XC := Lib.hid (XC.out.far (g' := w.heap.size + 1) (by omega) (.bool s') (.slice a2 m2 c2))
  replace XD := Lib.hid (XD.out.far (g' := w.heap.size + 1) (by omega) (.bool s') (.slice a2 m2 c2))
  replace HB := Lib.hid (below_put HB.out (show w.heap.size ≤ w.heap.size + 1 by omega) (.bool s') (.slice a2 m2 c2))
  obtain ⟨k0, k1, k2, k3, k4⟩ := XA.out
  go_wp2_with fail
  refine (rdivN 10 10 RA.out RB.out (val_limbs _) (val_limbs _) (by omega) (by omega) HY0.out HQL.out HRL.out).mono ?_
  rintro e w3 ⟨q, mq, cq, r, mr, cr, rfl, hmq, hmr, hq, hr, hb⟩
  have RQ := Lib.hid hq; clear hq hr
  clear k0 k1 k2 k3 k4 j0 j1 j2 j3 j4
  replace RA := Lib.hid (RA.out.later hb)
  replace RB := Lib.hid (RB.out.later hb)
  replace XA := Lib.hid (XA.out.later hb)
  replace XB := Lib.hid (XB.out.later hb)
  replace XC := Lib.hid (XC.out.later hb)
  replace XD := Lib.hid (XD.out.later hb)
  replace HB := Lib.hid (bthen HB.out hb); clear hb
  obtain ⟨k0, k1, k2, k3, k4⟩ := XA.out
  obtain ⟨j0, j1, j2, j3, j4⟩ := XB.out
  go_wp2_with fail
  refine (rnormI 10 E RQ.out HE.out (by omega) LE.out).mono ?_
  rintro e w4 ⟨a4, m4, c4, rfl, hm4, hrow, hb⟩
  have RE := Lib.hid (hrow.later (below_one w4 (.cells #[.bool (decide (E < 0)), .slice a4 m4 c4] 24))); clear hrow RQ
  clear k0 k1 k2 k3 k4 j0 j1 j2 j3 j4
  replace RA := Lib.hid (RA.out.later hb)
  replace RB := Lib.hid (RB.out.later hb)
  replace XA := Lib.hid (XA.out.later hb)
  replace XB := Lib.hid (XB.out.later hb)
  replace XC := Lib.hid (XC.out.later hb)
  replace XD := Lib.hid (XD.out.later hb)
  replace HB := Lib.hid (bthen HB.out hb); clear hb
  have XN := Lib.hid (box_new w4 (.bool (decide (E < 0))) (.slice a4 m4 c4))
  obtain ⟨g, hg⟩ : ∃ g, g = w4.heap.size := ⟨_, rfl⟩
  have hg3 : w.heap.size + 3 < g := by rw [hg]; exact XD.out.2.2.2.2
  have HG := Lib.hid hg; clear hg
  replace RA := Lib.hid (RA.out.later (below_one w4 (.cells #[.bool (decide (E < 0)), .slice a4 m4 c4] 24)))
  replace RB := Lib.hid (RB.out.later (below_one w4 (.cells #[.bool (decide (E < 0)), .slice a4 m4 c4] 24)))
  replace XA := Lib.hid (XA.out.later (below_one w4 (.cells #[.bool (decide (E < 0)), .slice a4 m4 c4] 24)))
  replace XB := Lib.hid (XB.out.later (below_one w4 (.cells #[.bool (decide (E < 0)), .slice a4 m4 c4] 24)))
  replace XC := Lib.hid (XC.out.later (below_one w4 (.cells #[.bool (decide (E < 0)), .slice a4 m4 c4] 24)))
  replace XD := Lib.hid (XD.out.later (below_one w4 (.cells #[.bool (decide (E < 0)), .slice a4 m4 c4] 24)))
  replace HB := Lib.hid (bthen HB.out (below_one w4 (.cells #[.bool (decide (E < 0)), .slice a4 m4 c4] 24)))
  obtain ⟨k0, k1, k2, k3, k4⟩ := XA.out
  obtain ⟨j0, j1, j2, j3, j4⟩ := XB.out
  go_wp2_with fail
  rw [← HG.out] at XN ⊢
  clear k0 k1 k2 k3 k4 j0 j1 j2 j3 j4
  replace RA := Lib.hid RA.out.drew
  replace RB := Lib.hid RB.out.drew
  replace RE := Lib.hid RE.out.drew
  replace XA := Lib.hid XA.out.drew
  replace XB := Lib.hid XB.out.drew
  replace XC := Lib.hid XC.out.drew
  replace XD := Lib.hid XD.out.drew
  replace XN := Lib.hid XN.out.drew
  replace HB := Lib.hid HB.out.drew
  obtain ⟨k0, k1, -, -, -⟩ := XN.out
  obtain ⟨k2, k3, -, -, -⟩ := XA.out
  obtain ⟨k4, k5, -, -, -⟩ := XB.out
  go_region_held3 (fun w' => w'.cell? ⟨g, 0, none⟩ = some (.bool (decide (E < 0))) ∧ w'.cell? ⟨g, 1, none⟩ = some (.slice a4 m4 c4) ∧ w'.cell? ⟨w.heap.size, 0, none⟩ = some (.bool s') ∧ w'.cell? ⟨w.heap.size, 1, none⟩ = some (.slice a1 m1 c1) ∧ w'.cell? ⟨w.heap.size + 1, 0, none⟩ = some (.bool s') ∧ w'.cell? ⟨w.heap.size + 1, 1, none⟩ = some (.slice a2 m2 c2))
    (first | (with_reducible exact keep_six (by assumption) (by omega) (by omega) (by omega)) | (refine ⟨?_, ?_, ?_, ?_, ?_, ?_⟩ <;> with_reducible assumption) | (go_keep; done))
    (first
      | (go_at_call 50
         refine (rmulI 21 P RE.out RB.out (sv_limbs _) (by rw [← HT.out]; exact sv_limbs _) (by omega) (by omega) HP.out LP.out (by omega)).mono ?_
         rintro e w6 ⟨a6, m6, c6, rfl, hm6, hrow, hb⟩
         have RP := Lib.hid hrow; clear hrow
         clear k0 k1 k2 k3 k4 k5
         replace RA := Lib.hid (RA.out.later hb)
         replace RE := Lib.hid (RE.out.later hb)
         replace XA := Lib.hid (XA.out.later hb)
         replace XB := Lib.hid (XB.out.later hb)
         replace XC := Lib.hid (XC.out.later hb)
         replace XD := Lib.hid (XD.out.later hb)
         replace XN := Lib.hid (XN.out.later hb)
         replace HB := Lib.hid (bthen HB.out hb); clear hb
         obtain ⟨k0, k1, -, -, -⟩ := XN.out
         obtain ⟨k2, k3, -, -, -⟩ := XA.out
         obtain ⟨k4, k5, -, -, -⟩ := XB.out)
      | (go_at_call 113
         refine (rsubI 22 R RA.out RP.out (by rw [← HS.out]; exact sv_limbs _) (sv_limbs _) (by omega) (by omega) HR.out LR.out (by omega)).mono ?_
         rintro e w7 ⟨a7, m7, c7, rfl, hm7, hrow, hb⟩
         have RR := Lib.hid hrow; clear hrow
         clear k0 k1 k2 k3 k4 k5
         replace RE := Lib.hid (RE.out.later hb)
         replace XA := Lib.hid (XA.out.later hb)
         replace XB := Lib.hid (XB.out.later hb)
         replace XC := Lib.hid (XC.out.later hb)
         replace XD := Lib.hid (XD.out.later hb)
         replace XN := Lib.hid (XN.out.later hb)
         replace HB := Lib.hid (bthen HB.out hb); clear hb
         obtain ⟨k0, k1, -, -, -⟩ := XN.out
         obtain ⟨k2, k3, -, -, -⟩ := XA.out
         obtain ⟨k4, k5, -, -, -⟩ := XB.out
         obtain ⟨q0, q1, q2, q3, q4⟩ := XC.out
         obtain ⟨p0, p1, p2, p3, p4⟩ := XD.out))
  go_wp2
  exact bodyPost_ret (v := .tuple #[.agg #[.bool (decide (E < 0)), .slice a4 m4 c4], .agg #[.bool (decide (R < 0)), .slice a7 m7 c7], .int .i64 0]) (by simp [results, Tryz.results76, go_sem, *]) rfl
    (divK_end (by omega) hm7 RE.out RR.out XC.out XD.out HB.out)

end Go.Proofs.YtnnoicjnggoffaaGreat
/- What the document's answer's Div tells, signs apart. -/
namespace Go.Proofs.YtnnoicjnggoffaaGreat
set_option linter.unusedVariables false
set_option linter.unusedSimpArgs false
set_option maxRecDepth 100000
open Go.RowKit Nums

set_option maxRecDepth 100000 in
set_option maxHeartbeats 8000000 in
theorem rdivI_even (X Y : Int) (s t : Bool) (s' t' : Bool) (hs : decide (X < 0) = s') (ht : decide (Y < 0) = t') (hst : (s' == t') = false) (a b : Option Addr) (n c m d : Nat) (xs ys : List Nat) (w : World) (h0 : Row w a n c xs) (h1 : Row w b m d ys) (hn : n ≤ 10) (hm : m ≤ 10) (hX : sv s (val xs) = X) (hY : sv t (val ys) = Y) (hY0 : Y ≠ 0) (E Q P R : Int) (hE : sv true (X.natAbs / Y.natAbs) = E) (hr0 : X.natAbs % Y.natAbs = 0) (hQ : E = Q) (hP : Q * Y = P) (hR : X - P = R) :
    Calls Tryz.prog 76 #[.agg #[.bool s, .slice a n c], .agg #[.bool t, .slice b m d]] w (DivK 11 22 Q R w) := by
  have HX4 := Lib.hid (box_four w (.bool s) (.slice a n c) (.bool t) (.slice b m d) (.bool false) (.slice none 0 0) (.bool false) (.slice none 0 0))
  have XA := Lib.hid HX4.out.1
  have XB := Lib.hid HX4.out.2.1
  have XC := Lib.hid HX4.out.2.2.1
  have XD := Lib.hid HX4.out.2.2.2
  clear HX4
  have HB := Lib.hid (below_four w (.cells #[.bool s, .slice a n c] 24) (.cells #[.bool t, .slice b m d] 24) (.cells #[.bool false, .slice none 0 0] 24) (.cells #[.bool false, .slice none 0 0] 24))
  have LX : Hid ((limbs X.natAbs).length ≤ 10) := lenZ_raw h0 hn hX
  have LY : Hid ((limbs Y.natAbs).length ≤ 10) := lenZ_raw h1 hm hY
  have RA := Lib.hid (h0.later HB.out); clear h0
  have RB := Lib.hid (h1.later HB.out); clear h1
  have HX := Lib.hid hX; clear hX
  have HY := Lib.hid hY; clear hY
  have HS := Lib.hid hs; clear hs
  have HT := Lib.hid ht; clear ht
  have HY0 : Hid (0 < Y.natAbs) := by show 0 < _; omega
  have HQL : Hid ((limbs (X.natAbs / Y.natAbs)).length ≤ 10) := len_le (Nat.div_le_self _ _) LX.out
  have HRL : Hid ((limbs (X.natAbs % Y.natAbs)).length ≤ 10) := len_le (Nat.mod_le _ _) LX.out
  have LE : Hid ((limbs E.natAbs).length ≤ 10) := by show _ ≤ _; rw [← hE, natAbs_sv]; exact HQL.out
  subst hQ
  have LQ : Hid ((limbs E.natAbs).length ≤ 11) := lenZ_le LE.out (by omega)
  have LP : Hid ((limbs P.natAbs).length ≤ 21) := lenZ_mul LQ.out LY.out hP
  have LR : Hid ((limbs R.natAbs).length ≤ 22) := lenZ_sub (lenZ_le LX.out (by omega)) LP.out hR
  have HE : Hid (sv true (val (limbs (X.natAbs / Y.natAbs))) = E) := by show _ = _; rw [val_limbs]; exact hE
  clear hE hY0
  have HP := Lib.hid hP; clear hP
  have HR := Lib.hid hR; clear hR
  have HR0 := Lib.hid hr0; clear hr0
  go_enter Tryz.func76, Tryz.ntmps76
  go_wp2_with fail
  refine (rnormS 10 X RA.out HX.out (by omega) LX.out HS.out).mono ?_
  rintro e w1 ⟨a1, m1, c1, rfl, hm1, hrow, hb⟩
  replace RA := Lib.hid hrow; clear hrow
  replace RB := Lib.hid (RB.out.later hb)
  replace XA := Lib.hid (XA.out.later hb)
  replace XB := Lib.hid (XB.out.later hb)
  replace XC := Lib.hid (XC.out.later hb)
  replace XD := Lib.hid (XD.out.later hb)
  replace HB := Lib.hid (bthen HB.out hb); clear hb
  obtain ⟨k0, k1, k2, k3, k4⟩ := XA.out
  replace RA := Lib.hid (RA.out.put k0 k1 (.bool s') (.slice a1 m1 c1))
  replace RB := Lib.hid (RB.out.put k0 k1 (.bool s') (.slice a1 m1 c1))
  replace XA := Lib.hid (XA.out.put (.bool s') (.slice a1 m1 c1))
  replace XB := Lib.hid (XB.out.far (g' := w.heap.size) (by omega) (.bool s') (.slice a1 m1 c1))
  replace XC := Lib.hid (XC.out.far (g' := w.heap.size) (by omega) (.bool s') (.slice a1 m1 c1))
  replace XD := Lib.hid (XD.out.far (g' := w.heap.size) (by omega) (.bool s') (.slice a1 m1 c1))
  replace HB := Lib.hid (below_put HB.out (show w.heap.size ≤ w.heap.size by omega) (.bool s') (.slice a1 m1 c1))
  obtain ⟨j0, j1, j2, j3, j4⟩ := XB.out
  go_wp2_with fail
  refine (rnormS 10 Y RB.out HY.out (by omega) LY.out HT.out).mono ?_
  rintro e w2 ⟨a2, m2, c2, rfl, hm2, hrow, hb⟩
  clear k0 k1 k2 k3 k4 j0 j1 j2 j3 j4
  replace RB := Lib.hid hrow; clear hrow
  replace RA := Lib.hid (RA.out.later hb)
  replace XA := Lib.hid (XA.out.later hb)
  replace XB := Lib.hid (XB.out.later hb)
  replace XC := Lib.hid (XC.out.later hb)
  replace XD := Lib.hid (XD.out.later hb)
  replace HB := Lib.hid (bthen HB.out hb); clear hb
  obtain ⟨j0, j1, j2, j3, j4⟩ := XB.out
  replace RA := Lib.hid (RA.out.put j0 j1 (.bool t') (.slice a2 m2 c2))
  replace RB := Lib.hid (RB.out.put j0 j1 (.bool t') (.slice a2 m2 c2))
  replace XA := Lib.hid (XA.out.far (g' := w.heap.size + 1) (by omega) (.bool t') (.slice a2 m2 c2))
  replace XB := Lib.hid (XB.out.put (.bool t') (.slice a2 m2 c2))
  replace XC := Lib.hid (XC.out.far (g' := w.heap.size + 1) (by omega) (.bool t') (.slice a2 m2 c2))
  replace XD := Lib.hid (XD.out.far (g' := w.heap.size + 1) (by omega) (.bool t') (.slice a2 m2 c2))
  replace HB := Lib.hid (below_put HB.out (show w.heap.size ≤ w.heap.size + 1 by omega) (.bool t') (.slice a2 m2 c2))
  obtain ⟨k0, k1, k2, k3, k4⟩ := XA.out
  go_wp2_with fail
  refine (rdivN 10 10 RA.out RB.out (val_limbs _) (val_limbs _) (by omega) (by omega) HY0.out HQL.out HRL.out).mono ?_
  rintro e w3 ⟨q, mq, cq, r, mr, cr, rfl, hmq, hmr, hq, hr, hb⟩
  obtain rfl : mr = 0 := by rw [← hr.1, HR0.out, limbs_zero]; rfl
  have RQ := Lib.hid hq; clear hq hr
  clear k0 k1 k2 k3 k4 j0 j1 j2 j3 j4
  replace RA := Lib.hid (RA.out.later hb)
  replace RB := Lib.hid (RB.out.later hb)
  replace XA := Lib.hid (XA.out.later hb)
  replace XB := Lib.hid (XB.out.later hb)
  replace XC := Lib.hid (XC.out.later hb)
  replace XD := Lib.hid (XD.out.later hb)
  replace HB := Lib.hid (bthen HB.out hb); clear hb
  obtain ⟨k0, k1, k2, k3, k4⟩ := XA.out
  obtain ⟨j0, j1, j2, j3, j4⟩ := XB.out
  go_wp2_with fail
  refine (rnormI 10 E RQ.out HE.out (by omega) LE.out).mono ?_
  rintro e w4 ⟨a4, m4, c4, rfl, hm4, hrow, hb⟩
  have RE := Lib.hid (hrow.later (below_one w4 (.cells #[.bool (decide (E < 0)), .slice a4 m4 c4] 24))); clear hrow RQ
  clear k0 k1 k2 k3 k4 j0 j1 j2 j3 j4
  replace RA := Lib.hid (RA.out.later hb)
  replace RB := Lib.hid (RB.out.later hb)
  replace XA := Lib.hid (XA.out.later hb)
  replace XB := Lib.hid (XB.out.later hb)
  replace XC := Lib.hid (XC.out.later hb)
  replace XD := Lib.hid (XD.out.later hb)
  replace HB := Lib.hid (bthen HB.out hb); clear hb
  have XN := Lib.hid (box_new w4 (.bool (decide (E < 0))) (.slice a4 m4 c4))
  obtain ⟨g, hg⟩ : ∃ g, g = w4.heap.size := ⟨_, rfl⟩
  have hg3 : w.heap.size + 3 < g := by rw [hg]; exact XD.out.2.2.2.2
  have HG := Lib.hid hg; clear hg
  replace RA := Lib.hid (RA.out.later (below_one w4 (.cells #[.bool (decide (E < 0)), .slice a4 m4 c4] 24)))
  replace RB := Lib.hid (RB.out.later (below_one w4 (.cells #[.bool (decide (E < 0)), .slice a4 m4 c4] 24)))
  replace XA := Lib.hid (XA.out.later (below_one w4 (.cells #[.bool (decide (E < 0)), .slice a4 m4 c4] 24)))
  replace XB := Lib.hid (XB.out.later (below_one w4 (.cells #[.bool (decide (E < 0)), .slice a4 m4 c4] 24)))
  replace XC := Lib.hid (XC.out.later (below_one w4 (.cells #[.bool (decide (E < 0)), .slice a4 m4 c4] 24)))
  replace XD := Lib.hid (XD.out.later (below_one w4 (.cells #[.bool (decide (E < 0)), .slice a4 m4 c4] 24)))
  replace HB := Lib.hid (bthen HB.out (below_one w4 (.cells #[.bool (decide (E < 0)), .slice a4 m4 c4] 24)))
  obtain ⟨k0, k1, k2, k3, k4⟩ := XA.out
  obtain ⟨j0, j1, j2, j3, j4⟩ := XB.out
  go_wp2_with fail
  rw [← HG.out] at XN ⊢
  clear k0 k1 k2 k3 k4 j0 j1 j2 j3 j4
  replace RA := Lib.hid RA.out.drew
  replace RB := Lib.hid RB.out.drew
  replace RE := Lib.hid RE.out.drew
  replace XA := Lib.hid XA.out.drew
  replace XB := Lib.hid XB.out.drew
  replace XC := Lib.hid XC.out.drew
  replace XD := Lib.hid XD.out.drew
  replace XN := Lib.hid XN.out.drew
  replace HB := Lib.hid HB.out.drew
  obtain ⟨k0, k1, -, -, -⟩ := XN.out
  obtain ⟨k2, k3, -, -, -⟩ := XA.out
  obtain ⟨k4, k5, -, -, -⟩ := XB.out
  go_region_held3 (fun w' => w'.cell? ⟨g, 0, none⟩ = some (.bool (decide (E < 0))) ∧ w'.cell? ⟨g, 1, none⟩ = some (.slice a4 m4 c4) ∧ w'.cell? ⟨w.heap.size, 0, none⟩ = some (.bool s') ∧ w'.cell? ⟨w.heap.size, 1, none⟩ = some (.slice a1 m1 c1) ∧ w'.cell? ⟨w.heap.size + 1, 0, none⟩ = some (.bool t') ∧ w'.cell? ⟨w.heap.size + 1, 1, none⟩ = some (.slice a2 m2 c2))
    (first | (with_reducible exact keep_six (by assumption) (by omega) (by omega) (by omega)) | (refine ⟨?_, ?_, ?_, ?_, ?_, ?_⟩ <;> with_reducible assumption) | (go_keep; done))
    (first
      | (go_at_call 50
         refine (rmulI 21 P RE.out RB.out (sv_limbs _) (by rw [← HT.out]; exact sv_limbs _) (by omega) (by omega) HP.out LP.out (by omega)).mono ?_
         rintro e w6 ⟨a6, m6, c6, rfl, hm6, hrow, hb⟩
         have RP := Lib.hid hrow; clear hrow
         clear k0 k1 k2 k3 k4 k5
         replace RA := Lib.hid (RA.out.later hb)
         replace RE := Lib.hid (RE.out.later hb)
         replace XA := Lib.hid (XA.out.later hb)
         replace XB := Lib.hid (XB.out.later hb)
         replace XC := Lib.hid (XC.out.later hb)
         replace XD := Lib.hid (XD.out.later hb)
         replace XN := Lib.hid (XN.out.later hb)
         replace HB := Lib.hid (bthen HB.out hb); clear hb
         obtain ⟨k0, k1, -, -, -⟩ := XN.out
         obtain ⟨k2, k3, -, -, -⟩ := XA.out
         obtain ⟨k4, k5, -, -, -⟩ := XB.out)
      | (go_at_call 113
         refine (rsubI 22 R RA.out RP.out (by rw [← HS.out]; exact sv_limbs _) (sv_limbs _) (by omega) (by omega) HR.out LR.out (by omega)).mono ?_
         rintro e w7 ⟨a7, m7, c7, rfl, hm7, hrow, hb⟩
         have RR := Lib.hid hrow; clear hrow
         clear k0 k1 k2 k3 k4 k5
         replace RE := Lib.hid (RE.out.later hb)
         replace XA := Lib.hid (XA.out.later hb)
         replace XB := Lib.hid (XB.out.later hb)
         replace XC := Lib.hid (XC.out.later hb)
         replace XD := Lib.hid (XD.out.later hb)
         replace XN := Lib.hid (XN.out.later hb)
         replace HB := Lib.hid (bthen HB.out hb); clear hb
         obtain ⟨k0, k1, -, -, -⟩ := XN.out
         obtain ⟨k2, k3, -, -, -⟩ := XA.out
         obtain ⟨k4, k5, -, -, -⟩ := XB.out
         obtain ⟨q0, q1, q2, q3, q4⟩ := XC.out
         obtain ⟨p0, p1, p2, p3, p4⟩ := XD.out))
  go_wp2
  exact bodyPost_ret (v := .tuple #[.agg #[.bool (decide (E < 0)), .slice a4 m4 c4], .agg #[.bool (decide (R < 0)), .slice a7 m7 c7], .int .i64 0]) (by simp [results, Tryz.results76, go_sem, *]) rfl
    (divK_end (by omega) hm7 RE.out RR.out XC.out XD.out HB.out)

end Go.Proofs.YtnnoicjnggoffaaGreat
/- What the document's answer's Div tells, signs apart. -/
namespace Go.Proofs.YtnnoicjnggoffaaGreat
set_option linter.unusedVariables false
set_option linter.unusedSimpArgs false
set_option maxRecDepth 100000
open Go.RowKit Nums

set_option maxRecDepth 100000 in
set_option maxHeartbeats 8000000 in
theorem rdivI_odd (X Y : Int) (s t : Bool) (s' t' : Bool) (hs : decide (X < 0) = s') (ht : decide (Y < 0) = t') (hst : (s' == t') = false) (a b : Option Addr) (n c m d : Nat) (xs ys : List Nat) (w : World) (h0 : Row w a n c xs) (h1 : Row w b m d ys) (hn : n ≤ 10) (hm : m ≤ 10) (hX : sv s (val xs) = X) (hY : sv t (val ys) = Y) (hY0 : Y ≠ 0) (E Q P R : Int) (hE : sv true (X.natAbs / Y.natAbs) = E) (hr0 : 0 < X.natAbs % Y.natAbs) (hQ : E - 1 = Q) (hP : Q * Y = P) (hR : X - P = R) :
    Calls Tryz.prog 76 #[.agg #[.bool s, .slice a n c], .agg #[.bool t, .slice b m d]] w (DivK 11 22 Q R w) := by
  have HX4 := Lib.hid (box_four w (.bool s) (.slice a n c) (.bool t) (.slice b m d) (.bool false) (.slice none 0 0) (.bool false) (.slice none 0 0))
  have XA := Lib.hid HX4.out.1
  have XB := Lib.hid HX4.out.2.1
  have XC := Lib.hid HX4.out.2.2.1
  have XD := Lib.hid HX4.out.2.2.2
  clear HX4
  have HB := Lib.hid (below_four w (.cells #[.bool s, .slice a n c] 24) (.cells #[.bool t, .slice b m d] 24) (.cells #[.bool false, .slice none 0 0] 24) (.cells #[.bool false, .slice none 0 0] 24))
  have LX : Hid ((limbs X.natAbs).length ≤ 10) := lenZ_raw h0 hn hX
  have LY : Hid ((limbs Y.natAbs).length ≤ 10) := lenZ_raw h1 hm hY
  have RA := Lib.hid (h0.later HB.out); clear h0
  have RB := Lib.hid (h1.later HB.out); clear h1
  have HX := Lib.hid hX; clear hX
  have HY := Lib.hid hY; clear hY
  have HS := Lib.hid hs; clear hs
  have HT := Lib.hid ht; clear ht
  have HY0 : Hid (0 < Y.natAbs) := by show 0 < _; omega
  have HQL : Hid ((limbs (X.natAbs / Y.natAbs)).length ≤ 10) := len_le (Nat.div_le_self _ _) LX.out
  have HRL : Hid ((limbs (X.natAbs % Y.natAbs)).length ≤ 10) := len_le (Nat.mod_le _ _) LX.out
  have LE : Hid ((limbs E.natAbs).length ≤ 10) := by show _ ≤ _; rw [← hE, natAbs_sv]; exact HQL.out
  have LQ : Hid ((limbs Q.natAbs).length ≤ 11) := lenZ_sub LE.out (limbs_small (1 : Int).natAbs 10 (by decide) (by omega)) hQ
  have LP : Hid ((limbs P.natAbs).length ≤ 21) := lenZ_mul LQ.out LY.out hP
  have LR : Hid ((limbs R.natAbs).length ≤ 22) := lenZ_sub (lenZ_le LX.out (by omega)) LP.out hR
  have HE : Hid (sv true (val (limbs (X.natAbs / Y.natAbs))) = E) := by show _ = _; rw [val_limbs]; exact hE
  clear hE hY0
  have HP := Lib.hid hP; clear hP
  have HR := Lib.hid hR; clear hR
  have HQ := Lib.hid hQ; clear hQ
  have HR0 := Lib.hid hr0; clear hr0
  go_enter Tryz.func76, Tryz.ntmps76
  go_wp2_with fail
  refine (rnormS 10 X RA.out HX.out (by omega) LX.out HS.out).mono ?_
  rintro e w1 ⟨a1, m1, c1, rfl, hm1, hrow, hb⟩
  replace RA := Lib.hid hrow; clear hrow
  replace RB := Lib.hid (RB.out.later hb)
  replace XA := Lib.hid (XA.out.later hb)
  replace XB := Lib.hid (XB.out.later hb)
  replace XC := Lib.hid (XC.out.later hb)
  replace XD := Lib.hid (XD.out.later hb)
  replace HB := Lib.hid (bthen HB.out hb); clear hb
  obtain ⟨k0, k1, k2, k3, k4⟩ := XA.out
  replace RA := Lib.hid (RA.out.put k0 k1 (.bool s') (.slice a1 m1 c1))
  replace RB := Lib.hid (RB.out.put k0 k1 (.bool s') (.slice a1 m1 c1))
  replace XA := Lib.hid (XA.out.put (.bool s') (.slice a1 m1 c1))
  replace XB := Lib.hid (XB.out.far (g' := w.heap.size) (by omega) (.bool s') (.slice a1 m1 c1))
  replace XC := Lib.hid (XC.out.far (g' := w.heap.size) (by omega) (.bool s') (.slice a1 m1 c1))
  replace XD := Lib.hid (XD.out.far (g' := w.heap.size) (by omega) (.bool s') (.slice a1 m1 c1))
  replace HB := Lib.hid (below_put HB.out (show w.heap.size ≤ w.heap.size by omega) (.bool s') (.slice a1 m1 c1))
  obtain ⟨j0, j1, j2, j3, j4⟩ := XB.out
  go_wp2_with fail
  refine (rnormS 10 Y RB.out HY.out (by omega) LY.out HT.out).mono ?_
  rintro e w2 ⟨a2, m2, c2, rfl, hm2, hrow, hb⟩
  clear k0 k1 k2 k3 k4 j0 j1 j2 j3 j4
  replace RB := Lib.hid hrow; clear hrow
  replace RA := Lib.hid (RA.out.later hb)
  replace XA := Lib.hid (XA.out.later hb)
  replace XB := Lib.hid (XB.out.later hb)
  replace XC := Lib.hid (XC.out.later hb)
  replace XD := Lib.hid (XD.out.later hb)
  replace HB := Lib.hid (bthen HB.out hb); clear hb
  obtain ⟨j0, j1, j2, j3, j4⟩ := XB.out
  replace RA := Lib.hid (RA.out.put j0 j1 (.bool t') (.slice a2 m2 c2))
  replace RB := Lib.hid (RB.out.put j0 j1 (.bool t') (.slice a2 m2 c2))
  replace XA := Lib.hid (XA.out.far (g' := w.heap.size + 1) (by omega) (.bool t') (.slice a2 m2 c2))
  replace XB := Lib.hid (XB.out.put (.bool t') (.slice a2 m2 c2))
  replace XC := Lib.hid (XC.out.far (g' := w.heap.size + 1) (by omega) (.bool t') (.slice a2 m2 c2))
  replace XD := Lib.hid (XD.out.far (g' := w.heap.size + 1) (by omega) (.bool t') (.slice a2 m2 c2))
  replace HB := Lib.hid (below_put HB.out (show w.heap.size ≤ w.heap.size + 1 by omega) (.bool t') (.slice a2 m2 c2))
  obtain ⟨k0, k1, k2, k3, k4⟩ := XA.out
  go_wp2_with fail
  refine (rdivN 10 10 RA.out RB.out (val_limbs _) (val_limbs _) (by omega) (by omega) HY0.out HQL.out HRL.out).mono ?_
  rintro e w3 ⟨q, mq, cq, r, mr, cr, rfl, hmq, hmr, hq, hr, hb⟩
  have hmr0 : 0 < mr := by
    rcases Nat.eq_zero_or_pos mr with e | e
    · have h := hr.1; rw [e] at h; have := length_limbs_zero.1 h; have := HR0.out; omega
    · exact e
  have RQ := Lib.hid hq; clear hq hr
  clear k0 k1 k2 k3 k4 j0 j1 j2 j3 j4
  replace RA := Lib.hid (RA.out.later hb)
  replace RB := Lib.hid (RB.out.later hb)
  replace XA := Lib.hid (XA.out.later hb)
  replace XB := Lib.hid (XB.out.later hb)
  replace XC := Lib.hid (XC.out.later hb)
  replace XD := Lib.hid (XD.out.later hb)
  replace HB := Lib.hid (bthen HB.out hb); clear hb
  obtain ⟨k0, k1, k2, k3, k4⟩ := XA.out
  obtain ⟨j0, j1, j2, j3, j4⟩ := XB.out
  go_wp2_with fail
  refine (rnormI 10 E RQ.out HE.out (by omega) LE.out).mono ?_
  rintro e w4 ⟨a4, m4, c4, rfl, hm4, hrow, hb⟩
  have RE := Lib.hid (hrow.later (below_one w4 (.cells #[.bool (decide (E < 0)), .slice a4 m4 c4] 24))); clear hrow RQ
  clear k0 k1 k2 k3 k4 j0 j1 j2 j3 j4
  replace RA := Lib.hid (RA.out.later hb)
  replace RB := Lib.hid (RB.out.later hb)
  replace XA := Lib.hid (XA.out.later hb)
  replace XB := Lib.hid (XB.out.later hb)
  replace XC := Lib.hid (XC.out.later hb)
  replace XD := Lib.hid (XD.out.later hb)
  replace HB := Lib.hid (bthen HB.out hb); clear hb
  have XN := Lib.hid (box_new w4 (.bool (decide (E < 0))) (.slice a4 m4 c4))
  obtain ⟨g, hg⟩ : ∃ g, g = w4.heap.size := ⟨_, rfl⟩
  have hg3 : w.heap.size + 3 < g := by rw [hg]; exact XD.out.2.2.2.2
  have HG := Lib.hid hg; clear hg
  replace RA := Lib.hid (RA.out.later (below_one w4 (.cells #[.bool (decide (E < 0)), .slice a4 m4 c4] 24)))
  replace RB := Lib.hid (RB.out.later (below_one w4 (.cells #[.bool (decide (E < 0)), .slice a4 m4 c4] 24)))
  replace XA := Lib.hid (XA.out.later (below_one w4 (.cells #[.bool (decide (E < 0)), .slice a4 m4 c4] 24)))
  replace XB := Lib.hid (XB.out.later (below_one w4 (.cells #[.bool (decide (E < 0)), .slice a4 m4 c4] 24)))
  replace XC := Lib.hid (XC.out.later (below_one w4 (.cells #[.bool (decide (E < 0)), .slice a4 m4 c4] 24)))
  replace XD := Lib.hid (XD.out.later (below_one w4 (.cells #[.bool (decide (E < 0)), .slice a4 m4 c4] 24)))
  replace HB := Lib.hid (bthen HB.out (below_one w4 (.cells #[.bool (decide (E < 0)), .slice a4 m4 c4] 24)))
  obtain ⟨k0, k1, k2, k3, k4⟩ := XA.out
  obtain ⟨j0, j1, j2, j3, j4⟩ := XB.out
  go_wp2_with fail
  rw [← HG.out] at XN ⊢
  clear k0 k1 k2 k3 k4 j0 j1 j2 j3 j4
  replace RA := Lib.hid RA.out.drew
  replace RB := Lib.hid RB.out.drew
  replace RE := Lib.hid RE.out.drew
  replace XA := Lib.hid XA.out.drew
  replace XB := Lib.hid XB.out.drew
  replace XC := Lib.hid XC.out.drew
  replace XD := Lib.hid XD.out.drew
  replace XN := Lib.hid XN.out.drew
  replace HB := Lib.hid HB.out.drew
  obtain ⟨k0, k1, k2, k3, k4⟩ := XN.out
  go_region_with (first
      | (go_at_call 114
         refine (rofI 1 1 _ (by decide) (by decide) (limbs_small 1 1 (by omega) (by omega))).mono ?_
         rintro e w5 ⟨a5, m5, c5, rfl, hm5, hrow, hb⟩
         have RO := Lib.hid hrow; clear hrow
         clear k0 k1 k2 k3 k4
         replace RA := Lib.hid (RA.out.later hb)
         replace RB := Lib.hid (RB.out.later hb)
         replace RE := Lib.hid (RE.out.later hb)
         replace XA := Lib.hid (XA.out.later hb)
         replace XB := Lib.hid (XB.out.later hb)
         replace XC := Lib.hid (XC.out.later hb)
         replace XD := Lib.hid (XD.out.later hb)
         replace XN := Lib.hid (XN.out.later hb)
         replace HB := Lib.hid (bthen HB.out hb); clear hb
         obtain ⟨k0, k1, k2, k3, k4⟩ := XN.out)
      | (go_at_call 113
         refine (rsubI 11 Q RE.out RO.out (sv_limbs _) (sv_limbs _) (by omega) (by omega) HQ.out LQ.out (by omega)).mono ?_
         rintro e w6 ⟨a8, m8, c8, rfl, hm8, hrow, hb⟩
         have RN := Lib.hid hrow; clear hrow
         clear k0 k1 k2 k3 k4
         replace RA := Lib.hid (RA.out.later hb)
         replace RB := Lib.hid (RB.out.later hb)
         replace XA := Lib.hid (XA.out.later hb)
         replace XB := Lib.hid (XB.out.later hb)
         replace XC := Lib.hid (XC.out.later hb)
         replace XD := Lib.hid (XD.out.later hb)
         replace XN := Lib.hid (XN.out.later hb)
         replace HB := Lib.hid (bthen HB.out hb); clear hb
         obtain ⟨k0, k1, k2, k3, k4⟩ := XN.out))
  all_goals
    replace RA := Lib.hid (RA.out.put k0 k1 (.bool (decide (Q < 0))) (.slice a8 m8 c8))
    replace RB := Lib.hid (RB.out.put k0 k1 (.bool (decide (Q < 0))) (.slice a8 m8 c8))
    replace RN := Lib.hid (RN.out.put k0 k1 (.bool (decide (Q < 0))) (.slice a8 m8 c8))
    replace XA := Lib.hid (XA.out.far (g' := g) (by omega) (.bool (decide (Q < 0))) (.slice a8 m8 c8))
    replace XB := Lib.hid (XB.out.far (g' := g) (by omega) (.bool (decide (Q < 0))) (.slice a8 m8 c8))
    replace XC := Lib.hid (XC.out.far (g' := g) (by omega) (.bool (decide (Q < 0))) (.slice a8 m8 c8))
    replace XD := Lib.hid (XD.out.far (g' := g) (by omega) (.bool (decide (Q < 0))) (.slice a8 m8 c8))
    replace XN := Lib.hid (XN.out.put (.bool (decide (Q < 0))) (.slice a8 m8 c8))
    replace HB := Lib.hid (below_put HB.out (show w.heap.size ≤ g by omega) (.bool (decide (Q < 0))) (.slice a8 m8 c8))
    obtain ⟨i0, i1, i2, i3, i4⟩ := XA.out
    obtain ⟨j0, j1, j2, j3, j4⟩ := XB.out
    go_wp2_with fail
    clear k0 k1 k2 k3 k4 i0 i1 i2 i3 i4 j0 j1 j2 j3 j4
    replace RA := Lib.hid RA.out.drew
    replace RB := Lib.hid RB.out.drew
    replace RN := Lib.hid RN.out.drew
    replace XA := Lib.hid XA.out.drew
    replace XB := Lib.hid XB.out.drew
    replace XC := Lib.hid XC.out.drew
    replace XD := Lib.hid XD.out.drew
    replace XN := Lib.hid XN.out.drew
    replace HB := Lib.hid HB.out.drew
    obtain ⟨k0, k1, -, -, -⟩ := XN.out
    obtain ⟨k2, k3, -, -, -⟩ := XA.out
    obtain ⟨k4, k5, -, -, -⟩ := XB.out
    go_region_held3 (fun w' => w'.cell? ⟨g, 0, none⟩ = some (.bool (decide (Q < 0))) ∧ w'.cell? ⟨g, 1, none⟩ = some (.slice a8 m8 c8) ∧ w'.cell? ⟨w.heap.size, 0, none⟩ = some (.bool s') ∧ w'.cell? ⟨w.heap.size, 1, none⟩ = some (.slice a1 m1 c1) ∧ w'.cell? ⟨w.heap.size + 1, 0, none⟩ = some (.bool t') ∧ w'.cell? ⟨w.heap.size + 1, 1, none⟩ = some (.slice a2 m2 c2))
      (first | (with_reducible exact keep_six (by assumption) (by omega) (by omega) (by omega)) | (refine ⟨?_, ?_, ?_, ?_, ?_, ?_⟩ <;> with_reducible assumption) | (go_keep; done))
      (first
        | (go_at_call 50
           refine (rmulI 21 P RN.out RB.out (sv_limbs _) (by rw [← HT.out]; exact sv_limbs _) (by omega) (by omega) HP.out LP.out (by omega)).mono ?_
           rintro e w6 ⟨a6, m6, c6, rfl, hm6, hrow, hb⟩
           have RP := Lib.hid hrow; clear hrow
           clear k0 k1 k2 k3 k4 k5
           replace RA := Lib.hid (RA.out.later hb)
           replace RN := Lib.hid (RN.out.later hb)
           replace XA := Lib.hid (XA.out.later hb)
           replace XB := Lib.hid (XB.out.later hb)
           replace XC := Lib.hid (XC.out.later hb)
           replace XD := Lib.hid (XD.out.later hb)
           replace XN := Lib.hid (XN.out.later hb)
           replace HB := Lib.hid (bthen HB.out hb); clear hb
           obtain ⟨k0, k1, -, -, -⟩ := XN.out
           obtain ⟨k2, k3, -, -, -⟩ := XA.out
           obtain ⟨k4, k5, -, -, -⟩ := XB.out)
        | (go_at_call 113
           refine (rsubI 22 R RA.out RP.out (by rw [← HS.out]; exact sv_limbs _) (sv_limbs _) (by omega) (by omega) HR.out LR.out (by omega)).mono ?_
           rintro e w7 ⟨a7, m7, c7, rfl, hm7, hrow, hb⟩
           have RR := Lib.hid hrow; clear hrow
           clear k0 k1 k2 k3 k4 k5
           replace RN := Lib.hid (RN.out.later hb)
           replace XA := Lib.hid (XA.out.later hb)
           replace XB := Lib.hid (XB.out.later hb)
           replace XC := Lib.hid (XC.out.later hb)
           replace XD := Lib.hid (XD.out.later hb)
           replace XN := Lib.hid (XN.out.later hb)
           replace HB := Lib.hid (bthen HB.out hb); clear hb
           obtain ⟨k0, k1, -, -, -⟩ := XN.out
           obtain ⟨k2, k3, -, -, -⟩ := XA.out
           obtain ⟨k4, k5, -, -, -⟩ := XB.out
           obtain ⟨q0, q1, q2, q3, q4⟩ := XC.out
           obtain ⟨p0, p1, p2, p3, p4⟩ := XD.out))
    go_wp2
    exact bodyPost_ret (v := .tuple #[.agg #[.bool (decide (Q < 0)), .slice a8 m8 c8], .agg #[.bool (decide (R < 0)), .slice a7 m7 c7], .int .i64 0]) (by simp [results, Tryz.results76, go_sem, *]) rfl
      (divK_end (by omega) hm7 RN.out RR.out XC.out XD.out HB.out)

end Go.Proofs.YtnnoicjnggoffaaGreat
/- What the document's answer's Div tells, in the words of the integers that it is handed. -/
namespace Go.Proofs.YtnnoicjnggoffaaGreat
set_option linter.unusedVariables false
set_option linter.unusedSimpArgs false
set_option maxRecDepth 100000
open Go.RowKit Nums

section
variable {s t : Bool} {a b : Option Addr} {n c m d : Nat} {xs ys : List Nat} {w : World} {X Y : Int}

theorem fdiv_back {X Y Q R : Int} (hQ : X.fdiv Y = Q) (hR : X.fmod Y = R) : X - Q * Y = R := by
  have h := Int.mul_fdiv_add_fmod X Y
  rw [hQ, hR, Int.mul_comm] at h
  omega

theorem rdivI (Q R : Int) (h0 : Row w a n c xs) (h1 : Row w b m d ys) (hX : sv s (val xs) = X) (hY : sv t (val ys) = Y) (hn : n ≤ 10) (hm : m ≤ 10) (hY0 : Y ≠ 0) (hQ : X.fdiv Y = Q) (hR : X.fmod Y = R) :
    Calls Tryz.prog 76 #[.agg #[.bool s, .slice a n c], .agg #[.bool t, .slice b m d]] w (DivK 11 22 Q R w) := by
  have hB : 0 < Y.natAbs := by omega
  have hback := fdiv_back hQ hR
  have hx := sv_told X
  have hy := sv_told Y
  by_cases hst : decide (Y < 0) = decide (X < 0)
  · obtain ⟨e1, e2⟩ := fdiv_same (decide (X < 0)) X.natAbs Y.natAbs hB
    rw [hx, ← hst, hy] at e1
    exact rdivI_same X Y s t (decide (X < 0)) rfl hst a b n c m d xs ys w h0 h1 hn hm hX hY hY0 Q Q _ R (by rw [← e1]; exact hQ) rfl rfl hback
  · have hne : decide (Y < 0) = !decide (X < 0) := by
      cases h1 : decide (X < 0) <;> cases h2 : decide (Y < 0) <;> simp_all
    have hst' : (decide (X < 0) == decide (Y < 0)) = false := by
      rw [beq_eq_false_iff_ne]; exact fun e => hst e.symm
    rcases Nat.eq_zero_or_pos (X.natAbs % Y.natAbs) with h | h
    · obtain ⟨e1, e2⟩ := fdiv_even (decide (X < 0)) X.natAbs Y.natAbs hB h
      rw [hx, ← hne, hy] at e1
      exact rdivI_even X Y s t (decide (X < 0)) (decide (Y < 0)) rfl rfl hst' a b n c m d xs ys w h0 h1 hn hm hX hY hY0 Q Q _ R (by rw [← e1]; exact hQ) h rfl rfl hback
    · obtain ⟨e1, e2⟩ := fdiv_odd (decide (X < 0)) X.natAbs Y.natAbs hB h
      rw [hx, ← hne, hy] at e1
      refine rdivI_odd X Y s t (decide (X < 0)) (decide (Y < 0)) rfl rfl hst' a b n c m d xs ys w h0 h1 hn hm hX hY hY0 (Q + 1) Q _ R ?_ h (by omega) rfl hback
      rw [← hQ, e1]
      simp [sv]
      omega

theorem rdivI_none (h0 : Row w a n c xs) (h1 : Row w b m d ys) (hX : sv s (val xs) = X) (hY : sv t (val ys) = 0) (hn : n ≤ 10) (hm : m ≤ 10) :
    Calls Tryz.prog 76 #[.agg #[.bool s, .slice a n c], .agg #[.bool t, .slice b m d]] w fun e w' => e = .returned (.tuple #[.agg #[.bool false, .slice none 0 0], .agg #[.bool false, .slice none 0 0], .int .i64 3]) ∧ Below w.heap.size w w' :=
  rdivI_zero X 0 s t _ _ rfl rfl a b n c m d xs ys w h0 h1 hn hm hX hY rfl
end
end Go.Proofs.YtnnoicjnggoffaaGreat
