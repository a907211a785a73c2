/- At of a line that is On. -/
import Derived.Test.YtmoplgfmngohgaaGreatSvC
import Derived.Deep.RegionHeld3
namespace Go.Proofs.YtmoplgfmngohgaaGreat
set_option linter.unusedVariables false
set_option linter.unusedSimpArgs false
set_option maxRecDepth 100000
open Go.RowKit Nums

set_option maxHeartbeats 8000000 in
/-- At of a line that is On -/
theorem at_on (k1 j1 k2 j2 k3 j3 K J : Nat) {v z r : RV} {p q t : Rat} {w : World} (hv : v.Is k1 j1 p w) (hz : z.Is k2 j2 q w) (hr : r.Is k3 j3 t w) (b1 : k1 ≤ 20 ∧ j1 ≤ 20 ∧ k2 ≤ 20 ∧ j2 ≤ 20 ∧ k3 ≤ 20 ∧ j3 ≤ 20) (b2 : 1 ≤ j1 ∧ 1 ≤ j2 ∧ 1 ≤ j3) (hK : k1 + (j2 + j3) + 1 ≤ K) (hK2 : k2 + k3 + j1 + 1 ≤ K) (hJ : j1 + (j2 + j3) ≤ J) (hK9 : K ≤ 95) (hJ9 : J ≤ 95) :
    Calls Tryz.prog 13 #[.agg #[.bool true, .bool v.s, .slice v.a v.n v.c, .slice v.b v.m v.d, .bool z.s, .slice z.a z.n z.c, .slice z.b z.m z.d], .agg #[.bool r.s, .slice r.a r.n r.c, .slice r.b r.m r.d]] w (RatV K J (p + q * t) w) := by
  obtain ⟨W1, hW1⟩ : ∃ W1, W1 = w.alloc (.cells #[.bool true, .bool v.s, .slice v.a v.n v.c, .slice v.b v.m v.d, .bool z.s, .slice z.a z.n z.c, .slice z.b z.m z.d] 37) := ⟨_, rfl⟩
  obtain ⟨W2, hW2⟩ : ∃ W2, W2 = W1.alloc (.cells #[.bool r.s, .slice r.a r.n r.c, .slice r.b r.m r.d] 27) := ⟨_, rfl⟩
  obtain ⟨W3, hW3⟩ : ∃ W3, W3 = W2.alloc (.cells #[.bool false, .slice none 0 0, .slice none 0 0] 27) := ⟨_, rfl⟩
  have hb1 : Below w.heap.size w W1 := by rw [hW1]; exact below_one _ _
  have hb2 : Below W1.heap.size W1 W2 := by rw [hW2]; exact below_one _ _
  have hb3 : Below W2.heap.size W2 W3 := by rw [hW3]; exact below_one _ _
  have HK1 := Lib.hid ((show Blk W1 w.heap.size 37 #[.bool true, .bool v.s, .slice v.a v.n v.c, .slice v.b v.m v.d, .bool z.s, .slice z.a z.n z.c, .slice z.b z.m z.d] by rw [hW1]; exact Blk.new _ _ _).later hb2 |>.later hb3)
  have HK2 := Lib.hid ((show Blk W2 W1.heap.size 27 #[.bool r.s, .slice r.a r.n r.c, .slice r.b r.m r.d] by rw [hW2]; exact Blk.new _ _ _).later hb3)
  have HK3 := Lib.hid (show Blk W3 W2.heap.size 27 #[.bool false, .slice none 0 0, .slice none 0 0] by rw [hW3]; exact Blk.new _ _ _)
  have HB := Lib.hid (bthen (bthen hb1 hb2) hb3)
  have HV := Lib.hid (hv.later HB.out)
  have HZ := Lib.hid (hz.later HB.out)
  have HR := Lib.hid (hr.later HB.out)
  have hs2 : W1.heap.size + 1 = W2.heap.size := by rw [hW2]; simp
  have hs1 : w.heap.size + 1 = W1.heap.size := by rw [hW1]; simp
  have hl1 : w.heap.size < W1.heap.size := by omega
  have hl2 : W1.heap.size < W2.heap.size := by omega
  have B1 := Lib.hid b1
  have B2 := Lib.hid b2
  have BK := Lib.hid hK
  have BK2 := Lib.hid hK2
  have BJ := Lib.hid hJ
  have BK9 := Lib.hid hK9
  have BJ9 := Lib.hid hJ9
  clear hb1 hb2 hb3 hv hz hr b1 b2 hK hK2 hJ hK9 hJ9
  obtain ⟨p0, p1, p2, p3, p4, p5, p6⟩ := HK1.out.sev
  have HW1 := Lib.hid hW1
  have HW2 := Lib.hid hW2
  have HW3 := Lib.hid hW3
  have HS1 := Lib.hid hs1
  have HS2 := Lib.hid hs2
  clear hW1 hW2 hW3 hs1 hs2
  go_enter Tryz.func13, Tryz.ntmps13
  go_upto_region 1 with fail
  rw [← HW1.out, ← HW2.out, ← HW3.out]; simp only [HS1.out, HS2.out]; clear HW1 HW2 HW3 HS1 HS2
  go_wp2_with fail
  clear p0 p1 p2 p3 p4 p5 p6
  replace HV := Lib.hid (HV.out.later (Below.refl _ _).drew)
  replace HZ := Lib.hid (HZ.out.later (Below.refl _ _).drew)
  replace HR := Lib.hid (HR.out.later (Below.refl _ _).drew)
  replace HK1 := Lib.hid HK1.out.drew
  replace HK2 := Lib.hid HK2.out.drew
  replace HK3 := Lib.hid HK3.out.drew
  replace HB := Lib.hid HB.out.drew
  obtain ⟨p0, p1, p2, p3, p4, p5, p6⟩ := HK1.out.sev
  obtain ⟨q0, q1, q2, q3, q4, q5, q6⟩ := HK2.out.tri
  obtain ⟨s0, s1, s2, s3, s4, s5, s6⟩ := HK3.out.tri
  go_region_held3 (fun w' => w'.cell? ⟨w.heap.size, 0, none⟩ = some (.bool true) ∧ w'.cell? ⟨w.heap.size, 1, none⟩ = some (.bool v.s) ∧ w'.cell? ⟨w.heap.size, 2, none⟩ = some (.slice v.a v.n v.c) ∧ w'.cell? ⟨w.heap.size, 3, none⟩ = some (.slice v.b v.m v.d) ∧ w'.cell? ⟨w.heap.size, 4, none⟩ = some (.bool z.s) ∧ w'.cell? ⟨w.heap.size, 5, none⟩ = some (.slice z.a z.n z.c) ∧ w'.cell? ⟨w.heap.size, 6, none⟩ = some (.slice z.b z.m z.d) ∧ w'.cell? ⟨W1.heap.size, 0, none⟩ = some (.bool r.s) ∧ w'.cell? ⟨W1.heap.size, 1, none⟩ = some (.slice r.a r.n r.c) ∧ w'.cell? ⟨W1.heap.size, 2, none⟩ = some (.slice r.b r.m r.d))
    (first | (refine ⟨?_, ?_, ?_, ?_, ?_, ?_, ?_, ?_, ?_, ?_⟩ <;> with_reducible assumption) | (go_keep; done) | (refine ⟨?_, ?_, ?_, ?_, ?_, ?_, ?_, ?_, ?_, ?_⟩ <;> (repeat rw [cell_other (by first | (simp; done) | (simp; omega))]) <;> with_reducible assumption))
    (first
      | (have mk := G1; clear mk
         go_at_call 29
         refine (add_v K J HV.out HM.out (by have := B1.out; omega) (by have := B1.out; omega) (by have := B1.out; omega) (by have := B1.out; omega) (by have := B2.out; omega) (by have := B2.out; omega) (by have := BK.out; omega) (by have := BK2.out; omega) (by have := BJ.out; omega) BK9.out BJ9.out).mono ?_
         rintro e v2 ⟨r2, rfl, h2, hb⟩
         replace HV := Lib.hid (HV.out.later hb); replace HZ := Lib.hid (HZ.out.later hb); replace HR := Lib.hid (HR.out.later hb); replace HK1 := Lib.hid (HK1.out.later hb); replace HK2 := Lib.hid (HK2.out.later hb); replace HK3 := Lib.hid (HK3.out.later hb); replace HB := Lib.hid (bthen HB.out hb); clear p0 p1 p2 p3 p4 p5 p6 q0 q1 q2 q3 q4 q5 q6 s0 s1 s2 s3 s4 s5 s6; obtain ⟨p0, p1, p2, p3, p4, p5, p6⟩ := HK1.out.sev; obtain ⟨q0, q1, q2, q3, q4, q5, q6⟩ := HK2.out.tri; obtain ⟨s0, s1, s2, s3, s4, s5, s6⟩ := HK3.out.tri
         have HQ := Lib.hid h2; clear h2 hb
         have G2 : Hid True := trivial)
      | (go_at_call 30
         refine (mul_v HZ.out HR.out (by have := B1.out; omega) (by have := B1.out; omega) (by have := B1.out; omega) (by have := B1.out; omega) (by have := B2.out; omega)).mono ?_
         rintro e v1 ⟨r1, rfl, h1, hb⟩
         replace HV := Lib.hid (HV.out.later hb); replace HZ := Lib.hid (HZ.out.later hb); replace HR := Lib.hid (HR.out.later hb); replace HK1 := Lib.hid (HK1.out.later hb); replace HK2 := Lib.hid (HK2.out.later hb); replace HK3 := Lib.hid (HK3.out.later hb); replace HB := Lib.hid (bthen HB.out hb); clear p0 p1 p2 p3 p4 p5 p6 q0 q1 q2 q3 q4 q5 q6 s0 s1 s2 s3 s4 s5 s6; obtain ⟨p0, p1, p2, p3, p4, p5, p6⟩ := HK1.out.sev; obtain ⟨q0, q1, q2, q3, q4, q5, q6⟩ := HK2.out.tri; obtain ⟨s0, s1, s2, s3, s4, s5, s6⟩ := HK3.out.tri
         have HM := Lib.hid h1; clear h1 hb
         have G1 : Hid True := trivial))
  all_goals
    go_wp2
    exact bodyPost_ret (v := .agg #[.bool r2.s, .slice r2.a r2.n r2.c, .slice r2.b r2.m r2.d]) (by simp [results, Tryz.results13, go_sem, *]) rfl ⟨r2, rfl, HQ.out.put3 (t := ⟨false, none, 0, 0, none, 0, 0⟩) HK3.out _ _ _, below_put3 HB.out (by omega) _ _ _⟩

end Go.Proofs.YtmoplgfmngohgaaGreat
