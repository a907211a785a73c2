/- At, told as it should be. -/
import Derived.Test.YtmoplgfmngohgaaGreatSvO
import Derived.Deep.DeepCutAuto
import Derived.Deep.RegionHeld3
namespace Go.Proofs.YtmoplgfmngohgaaGreat
set_option linter.unusedVariables false
set_option linter.unusedSimpArgs false
set_option maxRecDepth 100000
open Go.RowKit Nums

set_option maxHeartbeats 4000000 in
/-- At of a line that is not On -/
theorem at_offT (v z r : RV) (w : World) : Calls Tryz.prog 13 #[.agg #[.bool false, .bool v.s, .slice v.a v.n v.c, .slice v.b v.m v.d, .bool z.s, .slice z.a z.n z.c, .slice z.b z.m z.d], .agg #[.bool r.s, .slice r.a r.n r.c, .slice r.b r.m r.d]] w (RatT 2 1 0 w) := by
  obtain ⟨W1, hW1⟩ : ∃ W1, W1 = w.alloc (.cells #[.bool false, .bool v.s, .slice v.a v.n v.c, .slice v.b v.m v.d, .bool z.s, .slice z.a z.n z.c, .slice z.b z.m z.d] 37) := ⟨_, rfl⟩
  obtain ⟨W2, hW2⟩ : ∃ W2, W2 = W1.alloc (.cells #[.bool r.s, .slice r.a r.n r.c, .slice r.b r.m r.d] 27) := ⟨_, rfl⟩
  obtain ⟨W3, hW3⟩ : ∃ W3, W3 = W2.alloc (.cells #[.bool false, .slice none 0 0, .slice none 0 0] 27) := ⟨_, rfl⟩
  have hb1 : Below w.heap.size w W1 := by rw [hW1]; exact below_one _ _
  have hb2 : Below W1.heap.size W1 W2 := by rw [hW2]; exact below_one _ _
  have hb3 : Below W2.heap.size W2 W3 := by rw [hW3]; exact below_one _ _
  have HK1 := Lib.hid ((show Blk W1 w.heap.size 37 #[.bool false, .bool v.s, .slice v.a v.n v.c, .slice v.b v.m v.d, .bool z.s, .slice z.a z.n z.c, .slice z.b z.m z.d] by rw [hW1]; exact Blk.new _ _ _).later hb2 |>.later hb3)
  have HK3 := Lib.hid (show Blk W3 W2.heap.size 27 #[.bool false, .slice none 0 0, .slice none 0 0] by rw [hW3]; exact Blk.new _ _ _)
  have HB := Lib.hid (bthen (bthen hb1 hb2) hb3)
  have hs2 : W1.heap.size + 1 = W2.heap.size := by rw [hW2]; simp
  have hs1 : w.heap.size + 1 = W1.heap.size := by rw [hW1]; simp
  have HS := Lib.hid (show w.heap.size ≤ W2.heap.size by omega)
  clear hb1 hb2 hb3
  obtain ⟨p0, p1, p2, p3, p4, p5, p6⟩ := HK1.out.sev
  have HW1 := Lib.hid hW1
  have HW2 := Lib.hid hW2
  have HW3 := Lib.hid hW3
  have HS1 := Lib.hid hs1
  have HS2 := Lib.hid hs2
  clear hW1 hW2 hW3 hs1 hs2
  go_enter Tryz.func13, Tryz.ntmps13
  go_upto_region 1 with fail
  rw [← HW1.out, ← HW2.out, ← HW3.out]; simp only [HS1.out, HS2.out]; clear HW1 HW2 HW3 HS1 HS2
  go_wp2_with (go_at_call 28; refine (of_t 0 (by omega) (by omega)).mono ?_; rintro e w4 ⟨r4, rfl, h4, hb4⟩; have HR := Lib.hid h4; have HK4 := Lib.hid (HK3.out.later hb4); have HB4 := Lib.hid (bthen HB.out hb4); clear h4 hb4; obtain ⟨q0, q1, q2, q3, q4, q5, q6⟩ := HK4.out.tri)
  exact bodyPost_ret (v := .agg #[.bool r4.s, .slice r4.a r4.n r4.c, .slice r4.b r4.m r4.d]) (by simp [results, Tryz.results13, go_sem, *]) rfl ⟨r4, rfl, HR.out.put3 (t := ⟨false, none, 0, 0, none, 0, 0⟩) HK4.out _ _ _, below_put3 HB4.out HS.out _ _ _⟩

set_option maxHeartbeats 8000000 in
/-- At of a line that is On -/
theorem at_onT (k1 j1 k2 j2 k3 j3 K J : Nat) {v z r : RV} {p q t : Rat} {w : World} (hv : v.Is k1 j1 p w) (hz : z.Is k2 j2 q w) (hr : r.Is k3 j3 t w) (b1 : k1 ≤ 20 ∧ j1 ≤ 20 ∧ k2 ≤ 20 ∧ j2 ≤ 20 ∧ k3 ≤ 20 ∧ j3 ≤ 20) (b2 : 1 ≤ j1 ∧ 1 ≤ j2 ∧ 1 ≤ j3) (hK : k1 + (j2 + j3) + 1 ≤ K) (hK2 : k2 + k3 + j1 + 1 ≤ K) (hJ : j1 + (j2 + j3) ≤ J) (hK9 : K ≤ 95) (hJ9 : J ≤ 95) :
    Calls Tryz.prog 13 #[.agg #[.bool true, .bool v.s, .slice v.a v.n v.c, .slice v.b v.m v.d, .bool z.s, .slice z.a z.n z.c, .slice z.b z.m z.d], .agg #[.bool r.s, .slice r.a r.n r.c, .slice r.b r.m r.d]] w (RatT K J (p + q * t) w) := by
  obtain ⟨W1, hW1⟩ : ∃ W1, W1 = w.alloc (.cells #[.bool true, .bool v.s, .slice v.a v.n v.c, .slice v.b v.m v.d, .bool z.s, .slice z.a z.n z.c, .slice z.b z.m z.d] 37) := ⟨_, rfl⟩
  obtain ⟨W2, hW2⟩ : ∃ W2, W2 = W1.alloc (.cells #[.bool r.s, .slice r.a r.n r.c, .slice r.b r.m r.d] 27) := ⟨_, rfl⟩
  obtain ⟨W3, hW3⟩ : ∃ W3, W3 = W2.alloc (.cells #[.bool false, .slice none 0 0, .slice none 0 0] 27) := ⟨_, rfl⟩
  have hb1 : Below w.heap.size w W1 := by rw [hW1]; exact below_one _ _
  have hb2 : Below W1.heap.size W1 W2 := by rw [hW2]; exact below_one _ _
  have hb3 : Below W2.heap.size W2 W3 := by rw [hW3]; exact below_one _ _
  have HK1 := Lib.hid ((show Blk W1 w.heap.size 37 #[.bool true, .bool v.s, .slice v.a v.n v.c, .slice v.b v.m v.d, .bool z.s, .slice z.a z.n z.c, .slice z.b z.m z.d] by rw [hW1]; exact Blk.new _ _ _).later hb2 |>.later hb3)
  have HK2 := Lib.hid ((show Blk W2 W1.heap.size 27 #[.bool r.s, .slice r.a r.n r.c, .slice r.b r.m r.d] by rw [hW2]; exact Blk.new _ _ _).later hb3)
  have HK3 := Lib.hid (show Blk W3 W2.heap.size 27 #[.bool false, .slice none 0 0, .slice none 0 0] by rw [hW3]; exact Blk.new _ _ _)
  have HB := Lib.hid (bthen (bthen hb1 hb2) hb3)
  have HV := Lib.hid (hv.later HB.out)
  have HZ := Lib.hid (hz.later HB.out)
  have HR := Lib.hid (hr.later HB.out)
  have hs2 : W1.heap.size + 1 = W2.heap.size := by rw [hW2]; simp
  have hs1 : w.heap.size + 1 = W1.heap.size := by rw [hW1]; simp
  have hl1 : w.heap.size < W1.heap.size := by omega
  have hl2 : W1.heap.size < W2.heap.size := by omega
  have B1 := Lib.hid b1
  have B2 := Lib.hid b2
  have BK := Lib.hid hK
  have BK2 := Lib.hid hK2
  have BJ := Lib.hid hJ
  have BK9 := Lib.hid hK9
  have BJ9 := Lib.hid hJ9
  clear hb1 hb2 hb3 hv hz hr b1 b2 hK hK2 hJ hK9 hJ9
  obtain ⟨p0, p1, p2, p3, p4, p5, p6⟩ := HK1.out.sev
  have HW1 := Lib.hid hW1
  have HW2 := Lib.hid hW2
  have HW3 := Lib.hid hW3
  have HS1 := Lib.hid hs1
  have HS2 := Lib.hid hs2
  clear hW1 hW2 hW3 hs1 hs2
  go_enter Tryz.func13, Tryz.ntmps13
  go_upto_region 1 with fail
  rw [← HW1.out, ← HW2.out, ← HW3.out]; simp only [HS1.out, HS2.out]; clear HW1 HW2 HW3 HS1 HS2
  go_wp2_with fail
  clear p0 p1 p2 p3 p4 p5 p6
  replace HV := Lib.hid (HV.out.later (Below.refl _ _).drew)
  replace HZ := Lib.hid (HZ.out.later (Below.refl _ _).drew)
  replace HR := Lib.hid (HR.out.later (Below.refl _ _).drew)
  replace HK1 := Lib.hid HK1.out.drew
  replace HK2 := Lib.hid HK2.out.drew
  replace HK3 := Lib.hid HK3.out.drew
  replace HB := Lib.hid HB.out.drew
  obtain ⟨p0, p1, p2, p3, p4, p5, p6⟩ := HK1.out.sev
  obtain ⟨q0, q1, q2, q3, q4, q5, q6⟩ := HK2.out.tri
  obtain ⟨s0, s1, s2, s3, s4, s5, s6⟩ := HK3.out.tri
  go_region_held3 (fun w' => w'.cell? ⟨w.heap.size, 0, none⟩ = some (.bool true) ∧ w'.cell? ⟨w.heap.size, 1, none⟩ = some (.bool v.s) ∧ w'.cell? ⟨w.heap.size, 2, none⟩ = some (.slice v.a v.n v.c) ∧ w'.cell? ⟨w.heap.size, 3, none⟩ = some (.slice v.b v.m v.d) ∧ w'.cell? ⟨w.heap.size, 4, none⟩ = some (.bool z.s) ∧ w'.cell? ⟨w.heap.size, 5, none⟩ = some (.slice z.a z.n z.c) ∧ w'.cell? ⟨w.heap.size, 6, none⟩ = some (.slice z.b z.m z.d) ∧ w'.cell? ⟨W1.heap.size, 0, none⟩ = some (.bool r.s) ∧ w'.cell? ⟨W1.heap.size, 1, none⟩ = some (.slice r.a r.n r.c) ∧ w'.cell? ⟨W1.heap.size, 2, none⟩ = some (.slice r.b r.m r.d))
    (first | (refine ⟨?_, ?_, ?_, ?_, ?_, ?_, ?_, ?_, ?_, ?_⟩ <;> with_reducible assumption) | (go_keep; done) | (refine ⟨?_, ?_, ?_, ?_, ?_, ?_, ?_, ?_, ?_, ?_⟩ <;> (repeat rw [cell_other (by first | (simp; done) | (simp; omega))]) <;> with_reducible assumption))
    (first
      | (have mk := G1; clear mk
         go_at_call 29
         refine (add_t K J HV.out HM.out (by have := B1.out; omega) (by have := B1.out; omega) (by have := B1.out; omega) (by have := B1.out; omega) (by have := B2.out; omega) (by have := B2.out; omega) (by have := BK.out; omega) (by have := BK2.out; omega) (by have := BJ.out; omega) BK9.out BJ9.out).mono ?_
         rintro e v2 ⟨r2, rfl, h2, hb⟩
         replace HV := Lib.hid (HV.out.later hb); replace HZ := Lib.hid (HZ.out.later hb); replace HR := Lib.hid (HR.out.later hb); replace HK1 := Lib.hid (HK1.out.later hb); replace HK2 := Lib.hid (HK2.out.later hb); replace HK3 := Lib.hid (HK3.out.later hb); replace HB := Lib.hid (bthen HB.out hb); clear p0 p1 p2 p3 p4 p5 p6 q0 q1 q2 q3 q4 q5 q6 s0 s1 s2 s3 s4 s5 s6; obtain ⟨p0, p1, p2, p3, p4, p5, p6⟩ := HK1.out.sev; obtain ⟨q0, q1, q2, q3, q4, q5, q6⟩ := HK2.out.tri; obtain ⟨s0, s1, s2, s3, s4, s5, s6⟩ := HK3.out.tri
         have HQ := Lib.hid h2; clear h2 hb
         have G2 : Hid True := trivial)
      | (go_at_call 30
         refine (mul_v HZ.out HR.out (by have := B1.out; omega) (by have := B1.out; omega) (by have := B1.out; omega) (by have := B1.out; omega) (by have := B2.out; omega)).mono ?_
         rintro e v1 ⟨r1, rfl, h1, hb⟩
         replace HV := Lib.hid (HV.out.later hb); replace HZ := Lib.hid (HZ.out.later hb); replace HR := Lib.hid (HR.out.later hb); replace HK1 := Lib.hid (HK1.out.later hb); replace HK2 := Lib.hid (HK2.out.later hb); replace HK3 := Lib.hid (HK3.out.later hb); replace HB := Lib.hid (bthen HB.out hb); clear p0 p1 p2 p3 p4 p5 p6 q0 q1 q2 q3 q4 q5 q6 s0 s1 s2 s3 s4 s5 s6; obtain ⟨p0, p1, p2, p3, p4, p5, p6⟩ := HK1.out.sev; obtain ⟨q0, q1, q2, q3, q4, q5, q6⟩ := HK2.out.tri; obtain ⟨s0, s1, s2, s3, s4, s5, s6⟩ := HK3.out.tri
         have HM := Lib.hid h1; clear h1 hb
         have G1 : Hid True := trivial))
  all_goals
    go_wp2
    exact bodyPost_ret (v := .agg #[.bool r2.s, .slice r2.a r2.n r2.c, .slice r2.b r2.m r2.d]) (by simp [results, Tryz.results13, go_sem, *]) rfl ⟨r2, rfl, HQ.out.put3 (t := ⟨false, none, 0, 0, none, 0, 0⟩) HK3.out _ _ _, below_put3 HB.out (by omega) _ _ _⟩

def PassCutT (w : World) (g1 k j : Nat) (t : Rat) (g : Nat) (wx : World) : Prop := g1 < g ∧ ∃ r : RV, Blk wx g 27 #[.bool r.s, .slice r.a r.n r.c, .slice r.b r.m r.d] ∧ r.Told k j t wx ∧ Blk wx g1 27 #[.bool false, .slice none 0 0, .slice none 0 0] ∧ Below w.heap.size w wx
set_option maxHeartbeats 8000000 in
/-- Passes of a line that does -/
theorem passes_yesT (k1 j1 k2 j2 : Nat) {v z : RV} {p q : Rat} {w : World} (hv : v.Is k1 j1 p w) (hz : z.Is k2 j2 q w) (b1 : k1 ≤ 20 ∧ j1 ≤ 20 ∧ k2 ≤ 20 ∧ j2 ≤ 20 ∧ 1 ≤ j1 ∧ 1 ≤ j2) (hp : p < 0) (hq : 0 < q) :
    Calls Tryz.prog 11 #[.agg #[.bool true, .bool v.s, .slice v.a v.n v.c, .slice v.b v.m v.d, .bool z.s, .slice z.a z.n z.c, .slice z.b z.m z.d]] w fun e w' => ∃ r : RV, e = .returned (.tuple #[.agg #[.bool r.s, .slice r.a r.n r.c, .slice r.b r.m r.d], .bool true]) ∧ r.Told (k1 + j2) (k2 + j1) (-p / q) w' ∧ Below w.heap.size w w' := by
  obtain ⟨W1, hW1⟩ : ∃ W1, W1 = w.alloc (.cells #[.bool true, .bool v.s, .slice v.a v.n v.c, .slice v.b v.m v.d, .bool z.s, .slice z.a z.n z.c, .slice z.b z.m z.d] 37) := ⟨_, rfl⟩
  obtain ⟨W2, hW2⟩ : ∃ W2, W2 = W1.alloc (.cells #[.bool false, .slice none 0 0, .slice none 0 0] 27) := ⟨_, rfl⟩
  have hb1 : Below w.heap.size w W1 := by rw [hW1]; exact below_one _ _
  have hb2 : Below W1.heap.size W1 W2 := by rw [hW2]; exact below_one _ _
  have HK1 := Lib.hid ((show Blk W1 w.heap.size 37 #[.bool true, .bool v.s, .slice v.a v.n v.c, .slice v.b v.m v.d, .bool z.s, .slice z.a z.n z.c, .slice z.b z.m z.d] by rw [hW1]; exact Blk.new _ _ _).later hb2)
  have HK2 := Lib.hid (show Blk W2 W1.heap.size 27 #[.bool false, .slice none 0 0, .slice none 0 0] by rw [hW2]; exact Blk.new _ _ _)
  have HB := Lib.hid (bthen hb1 hb2)
  have HV := Lib.hid (hv.later HB.out)
  have HZ := Lib.hid (hz.later HB.out)
  have hs1 : w.heap.size + 1 = W1.heap.size := by rw [hW1]; simp
  have HL := Lib.hid (show w.heap.size < W1.heap.size by omega)
  have BB := Lib.hid b1
  clear hb1 hb2 hv hz b1
  have HC := Lib.hid (show (true && decide (p < 0)) = true by rw [decide_eq_true hp]; rfl)
  have HQ := Lib.hid hq
  have HS := Lib.hid (show sgn q.num = 1 by rcases sgnR_cases q with ⟨h, hs⟩ | ⟨h, hs⟩ | ⟨h, hs⟩ <;> first | exact hs | grind)
  clear hp hq
  obtain ⟨p0, p1, p2, p3, p4, p5, p6⟩ := HK1.out.sev
  obtain ⟨q0, q1, q2, q3, q4, q5, q6⟩ := HK2.out.tri
  have HW1 := Lib.hid hW1
  have HW2 := Lib.hid hW2
  have HS1 := Lib.hid hs1
  clear hW1 hW2 hs1
  go_enter Tryz.func11, Tryz.ntmps11
  go_upto_region 1 with fail
  rw [← HW1.out, ← HW2.out]; simp only [HS1.out]; clear HW1 HW2 HS1
  go_upto_region 3 with (first
        | (go_at_call 19; refine (isBelow_t true v z _ HV.out (by have := BB.out; omega) (by have := BB.out; omega)).mono ?_; rintro e w3 ⟨rfl, hb⟩; rw [HC.out]; replace HV := Lib.hid (HV.out.later hb); replace HZ := Lib.hid (HZ.out.later hb); replace HK1 := Lib.hid (HK1.out.later hb); replace HK2 := Lib.hid (HK2.out.later hb); replace HB := Lib.hid (bthen HB.out hb); clear p0 p1 p2 p3 p4 p5 p6 q0 q1 q2 q3 q4 q5 q6; obtain ⟨p0, p1, p2, p3, p4, p5, p6⟩ := HK1.out.sev; obtain ⟨q0, q1, q2, q3, q4, q5, q6⟩ := HK2.out.tri; have hl3 := hb.size; clear hb)
        | (go_at_call 20; refine (sign_v _ HZ.out HS.out (by have := BB.out; omega) (by have := BB.out; omega)).mono ?_; rintro e w4 ⟨rfl, hb⟩; replace HV := Lib.hid (HV.out.later hb); replace HZ := Lib.hid (HZ.out.later hb); replace HK1 := Lib.hid (HK1.out.later hb); replace HK2 := Lib.hid (HK2.out.later hb); replace HB := Lib.hid (bthen HB.out hb); clear p0 p1 p2 p3 p4 p5 p6 q0 q1 q2 q3 q4 q5 q6; obtain ⟨p0, p1, p2, p3, p4, p5, p6⟩ := HK1.out.sev; obtain ⟨q0, q1, q2, q3, q4, q5, q6⟩ := HK2.out.tri; have hl4 := hb.size; clear hb))
  clear hl3 hl4
  have lw4 : w.heap.size < w4.heap.size := HK1.out.lt
  have lw5 : W1.heap.size < w4.heap.size := HK2.out.lt
  go_cut [4, 5] (fun s4 s5 wx => ∃ g : Nat, s4 = .pointer (some ⟨g, 0, none⟩) ∧ s5 = .int .i64 0 ∧ Hid (PassCutT w W1.heap.size (k1 + j2) (k2 + j1) (-p / q) g wx))
  case first =>
    go_region_held3 (fun w' => w'.cell? ⟨w.heap.size, 0, none⟩ = some (.bool true) ∧ w'.cell? ⟨w.heap.size, 1, none⟩ = some (.bool v.s) ∧ w'.cell? ⟨w.heap.size, 2, none⟩ = some (.slice v.a v.n v.c) ∧ w'.cell? ⟨w.heap.size, 3, none⟩ = some (.slice v.b v.m v.d) ∧ w'.cell? ⟨w.heap.size, 4, none⟩ = some (.bool z.s) ∧ w'.cell? ⟨w.heap.size, 5, none⟩ = some (.slice z.a z.n z.c) ∧ w'.cell? ⟨w.heap.size, 6, none⟩ = some (.slice z.b z.m z.d))
      (first | (refine ⟨?_, ?_, ?_, ?_, ?_, ?_, ?_⟩ <;> with_reducible assumption) | (go_keep; done) | (refine ⟨?_, ?_, ?_, ?_, ?_, ?_, ?_⟩ <;> (repeat rw [cell_other (by first | (simp; done) | (simp; omega))]) <;> with_reducible assumption) | ((refine (fun h => blk_seven (T := 37) h) ?_ <;> repeat' (first | with_reducible exact HK1.out | with_reducible refine Blk.other ?_ ?_ | with_reducible refine Blk.alloc ?_ _ | with_reducible refine Blk.drew ?_ | omega | (simp; omega))); done))
      (first
        | (have mk := G1; clear mk
           go_at_call 24
           refine (div_t (HR1.out.later (by first | exact Below.refl _ _ | exact (Below.refl _ _).drew | exact below_one _ _ | exact (below_one _ _).drew)) (HZ.out.later (by first | exact Below.refl _ _ | exact (Below.refl _ _).drew | exact below_one _ _ | exact (below_one _ _).drew)) (Rat.ne_of_gt HQ.out) (by have := BB.out; omega) (by have := BB.out; omega) (by have := BB.out; omega) (by have := BB.out; omega) (by have := BB.out; omega) (by have := BB.out; omega)).mono ?_
           rintro e v2 ⟨r2, rfl, h2, hb⟩
           have hbb : Below v1.heap.size v1 v2 := bthen (by first | exact Below.refl _ _ | exact (Below.refl _ _).drew | exact below_one _ _ | exact (below_one _ _).drew) hb
           replace HV := Lib.hid (HV.out.later hbb); replace HZ := Lib.hid (HZ.out.later hbb); replace HK1 := Lib.hid (HK1.out.later hbb); replace HK2 := Lib.hid (HK2.out.later hbb); replace HB := Lib.hid (bthen HB.out hbb); clear p0 p1 p2 p3 p4 p5 p6 q0 q1 q2 q3 q4 q5 q6; obtain ⟨p0, p1, p2, p3, p4, p5, p6⟩ := HK1.out.sev; obtain ⟨q0, q1, q2, q3, q4, q5, q6⟩ := HK2.out.tri
           (first | (have Y0 := Lib.hid ((show Blk v2 v1.heap.size 27 #[.bool false, .slice none 0 0, .slice none 0 0] from (Blk.new v1 _ _).later hb)); obtain ⟨y0, y1, y2, y3, y4, y5, y6⟩ := Y0.out.tri) | (replace Y0 := Lib.hid (Y0.out.later hbb); clear y0 y1 y2 y3 y4 y5 y6; obtain ⟨y0, y1, y2, y3, y4, y5, y6⟩ := Y0.out.tri) | skip)
           have HR2 := Lib.hid h2
           have l2 : v1.heap.size ≤ v2.heap.size := hbb.size
           clear h2 hb hbb HR1
           have G2 : Hid True := trivial)
        | (go_at_call 25
           refine (neg_v (HV.out.later (by first | exact Below.refl _ _ | exact (Below.refl _ _).drew | exact below_one _ _ | exact (below_one _ _).drew)) (by have := BB.out; omega) (by have := BB.out; omega) (by have := BB.out; omega)).mono ?_
           rintro e v1 ⟨r1, rfl, h1, hb⟩
           have hbb : Below w4.heap.size w4 v1 := bthen (by first | exact Below.refl _ _ | exact (Below.refl _ _).drew | exact below_one _ _ | exact (below_one _ _).drew) hb
           replace HV := Lib.hid (HV.out.later hbb); replace HZ := Lib.hid (HZ.out.later hbb); replace HK1 := Lib.hid (HK1.out.later hbb); replace HK2 := Lib.hid (HK2.out.later hbb); replace HB := Lib.hid (bthen HB.out hbb); clear p0 p1 p2 p3 p4 p5 p6 q0 q1 q2 q3 q4 q5 q6; obtain ⟨p0, p1, p2, p3, p4, p5, p6⟩ := HK1.out.sev; obtain ⟨q0, q1, q2, q3, q4, q5, q6⟩ := HK2.out.tri
           (first | (have Y0 := Lib.hid ((show Blk v1 w4.heap.size 27 #[.bool false, .slice none 0 0, .slice none 0 0] from (Blk.new w4 _ _).drew.later hb)); obtain ⟨y0, y1, y2, y3, y4, y5, y6⟩ := Y0.out.tri) | skip)
           have HR1 := Lib.hid h1
           have l1 : w4.heap.size ≤ v1.heap.size := hbb.size
           clear h1 hb hbb
           have G1 : Hid True := trivial))
    all_goals
      go_wp2_with fail
      go_meet
      refine ⟨_, rfl, rfl, Lib.hid ⟨?_, r2, ?_, ?_, ?_, ?_⟩⟩
      · repeat' (first | omega | (simp; omega))
      · repeat' (first | with_reducible exact Blk.new _ _ _ | with_reducible exact Y0.out.put3 _ _ _)
      · repeat' (first | with_reducible exact HR2.out | with_reducible exact HR2.out.later (below_one _ _) | with_reducible exact HR2.out.put3 (t := ⟨false, none, 0, 0, none, 0, 0⟩) Y0.out _ _ _)
      · repeat' (first | with_reducible exact HK2.out.alloc _ | with_reducible refine Blk.far3 HK2.out ?_ _ _ _ | omega)
      · repeat' (first | with_reducible exact HB.out.alloc HB.out.size _ | with_reducible refine below_put3 HB.out ?_ _ _ _ | omega)
  case rest =>
    obtain ⟨g, rfl, rfl, hm⟩ := hcut
    obtain ⟨hg, r, hy, hr, hz, hb⟩ := hm.out
    have HZ2 := Lib.hid hz
    have HR := Lib.hid hr
    have HBW := Lib.hid hb
    obtain ⟨y0, y1, y2, y3, y4, y5, y6⟩ := hy.tri
    obtain ⟨z0, z1, z2, z3, z4, z5, z6⟩ := hz.tri
    clear hm hr hb hz hy HV HZ HK1 HK2 HB p0 p1 p2 p3 p4 p5 p6 q0 q1 q2 q3 q4 q5 q6
    have hne : W1.heap.size ≠ g := by omega
    go_wp2_with fail
    exact bodyPost_ret (v := .tuple #[.agg #[.bool r.s, .slice r.a r.n r.c, .slice r.b r.m r.d], .bool true]) (by simp [results, Tryz.results11, go_sem, *]) rfl ⟨r, rfl, HR.out.put3 (t := ⟨false, none, 0, 0, none, 0, 0⟩) HZ2.out _ _ _, below_put3 HBW.out (Nat.le_of_lt HL.out) _ _ _⟩

/-- a call that tells a number as it should be told, and whether there is one -/
def OptT (k j : Nat) (o : Option Rat) (w : World) (e : Ending) (w' : World) : Prop := match o with
  | none => e = .returned (.tuple #[.agg #[.bool false, .slice none 0 0, .slice none 0 0], .bool false]) ∧ Below w.heap.size w w'
  | some t => ∃ r : RV, e = .returned (.tuple #[.agg #[.bool r.s, .slice r.a r.n r.c, .slice r.b r.m r.d], .bool true]) ∧ r.Told k j t w' ∧ Below w.heap.size w w'
theorem lineAt_anyT (on : Bool) {v z r : RV} {p q t : Rat} {w : World} (hv : v.Is 4 4 p w) (hz : z.Is 4 4 q w) (hr : r.Is 4 4 t w) : Calls Tryz.prog 13 #[.agg #[.bool on, .bool v.s, .slice v.a v.n v.c, .slice v.b v.m v.d, .bool z.s, .slice z.a z.n z.c, .slice z.b z.m z.d], .agg #[.bool r.s, .slice r.a r.n r.c, .slice r.b r.m r.d]] w (RatT 13 12 (atM on p q t) w) := by
  cases on with
  | false => exact (at_offT v z r w).mono (by rintro e w' ⟨r, rfl, hr, hb⟩; exact ⟨r, rfl, hr.more (by omega) (by omega), hb⟩)
  | true => exact at_onT 4 4 4 4 4 4 13 12 hv hz hr (by omega) (by omega) (by omega) (by omega) (by omega) (by omega) (by omega)
theorem passes_tT {x : LM} {w : World} (hv : x.v.Is 4 4 x.p w) (hz : x.z.Is 4 4 x.q w) : Calls Tryz.prog 11 #[.agg #[.bool x.on, .bool x.v.s, .slice x.v.a x.v.n x.v.c, .slice x.v.b x.v.m x.v.d, .bool x.z.s, .slice x.z.a x.z.n x.z.c, .slice x.z.b x.z.m x.z.d]] w (OptT 8 8 (passL x) w) := by
  unfold passL passM
  by_cases h : x.on = true ∧ x.p < 0 ∧ 0 < x.q
  · rw [if_pos h]
    obtain ⟨h1, h2, h3⟩ := h
    rw [h1]
    exact (passes_yesT 4 4 4 4 hv hz (by omega) h2 h3).mono fun _ _ h => h
  · rw [if_neg h]
    exact (passes_no x.on 4 4 4 4 hv hz (by omega) h).mono fun _ _ h => h

end Go.Proofs.YtmoplgfmngohgaaGreat
