/- Passes, of a line that passes. -/
import Derived.Test.YtmoplgfmngohgaaGreatSvE
import Derived.Deep.DeepCutAuto
import Derived.Deep.RegionHeld3
namespace Go.Proofs.YtmoplgfmngohgaaGreat
set_option linter.unusedVariables false
set_option linter.unusedSimpArgs false
set_option maxRecDepth 100000
open Go.RowKit Nums

set_option maxHeartbeats 8000000 in
/-- Passes of a line that does -/
theorem passes_yes (k1 j1 k2 j2 : Nat) {v z : RV} {p q : Rat} {w : World} (hv : v.Is k1 j1 p w) (hz : z.Is k2 j2 q w) (b1 : k1 ≤ 20 ∧ j1 ≤ 20 ∧ k2 ≤ 20 ∧ j2 ≤ 20 ∧ 1 ≤ j1 ∧ 1 ≤ j2) (hp : p < 0) (hq : 0 < q) :
    Calls Tryz.prog 11 #[.agg #[.bool true, .bool v.s, .slice v.a v.n v.c, .slice v.b v.m v.d, .bool z.s, .slice z.a z.n z.c, .slice z.b z.m z.d]] w fun e w' => ∃ r : RV, e = .returned (.tuple #[.agg #[.bool r.s, .slice r.a r.n r.c, .slice r.b r.m r.d], .bool true]) ∧ r.Is (k1 + j2) (k2 + j1) (-p / q) w' ∧ Below w.heap.size w w' := by
  obtain ⟨W1, hW1⟩ : ∃ W1, W1 = w.alloc (.cells #[.bool true, .bool v.s, .slice v.a v.n v.c, .slice v.b v.m v.d, .bool z.s, .slice z.a z.n z.c, .slice z.b z.m z.d] 37) := ⟨_, rfl⟩
  obtain ⟨W2, hW2⟩ : ∃ W2, W2 = W1.alloc (.cells #[.bool false, .slice none 0 0, .slice none 0 0] 27) := ⟨_, rfl⟩
  have hb1 : Below w.heap.size w W1 := by rw [hW1]; exact below_one _ _
  have hb2 : Below W1.heap.size W1 W2 := by rw [hW2]; exact below_one _ _
  have HK1 := Lib.hid ((show Blk W1 w.heap.size 37 #[.bool true, .bool v.s, .slice v.a v.n v.c, .slice v.b v.m v.d, .bool z.s, .slice z.a z.n z.c, .slice z.b z.m z.d] by rw [hW1]; exact Blk.new _ _ _).later hb2)
  have HK2 := Lib.hid (show Blk W2 W1.heap.size 27 #[.bool false, .slice none 0 0, .slice none 0 0] by rw [hW2]; exact Blk.new _ _ _)
  have HB := Lib.hid (bthen hb1 hb2)
  have HV := Lib.hid (hv.later HB.out)
  have HZ := Lib.hid (hz.later HB.out)
  have hs1 : w.heap.size + 1 = W1.heap.size := by rw [hW1]; simp
  have HL := Lib.hid (show w.heap.size < W1.heap.size by omega)
  have BB := Lib.hid b1
  clear hb1 hb2 hv hz b1
  have HC := Lib.hid (show (true && decide (p < 0)) = true by rw [decide_eq_true hp]; rfl)
  have HQ := Lib.hid hq
  have HS := Lib.hid (show sgn q.num = 1 by rcases sgnR_cases q with ⟨h, hs⟩ | ⟨h, hs⟩ | ⟨h, hs⟩ <;> first | exact hs | grind)
  clear hp hq
  obtain ⟨p0, p1, p2, p3, p4, p5, p6⟩ := HK1.out.sev
  obtain ⟨q0, q1, q2, q3, q4, q5, q6⟩ := HK2.out.tri
  have HW1 := Lib.hid hW1
  have HW2 := Lib.hid hW2
  have HS1 := Lib.hid hs1
  clear hW1 hW2 hs1
  go_enter Tryz.func11, Tryz.ntmps11
  go_upto_region 1 with fail
  rw [← HW1.out, ← HW2.out]; simp only [HS1.out]; clear HW1 HW2 HS1
  go_upto_region 3 with (first
        | (go_at_call 19; refine (isBelow_t true v z _ HV.out (by have := BB.out; omega) (by have := BB.out; omega)).mono ?_; rintro e w3 ⟨rfl, hb⟩; rw [HC.out]; replace HV := Lib.hid (HV.out.later hb); replace HZ := Lib.hid (HZ.out.later hb); replace HK1 := Lib.hid (HK1.out.later hb); replace HK2 := Lib.hid (HK2.out.later hb); replace HB := Lib.hid (bthen HB.out hb); clear p0 p1 p2 p3 p4 p5 p6 q0 q1 q2 q3 q4 q5 q6; obtain ⟨p0, p1, p2, p3, p4, p5, p6⟩ := HK1.out.sev; obtain ⟨q0, q1, q2, q3, q4, q5, q6⟩ := HK2.out.tri; have hl3 := hb.size; clear hb)
        | (go_at_call 20; refine (sign_v _ HZ.out HS.out (by have := BB.out; omega) (by have := BB.out; omega)).mono ?_; rintro e w4 ⟨rfl, hb⟩; replace HV := Lib.hid (HV.out.later hb); replace HZ := Lib.hid (HZ.out.later hb); replace HK1 := Lib.hid (HK1.out.later hb); replace HK2 := Lib.hid (HK2.out.later hb); replace HB := Lib.hid (bthen HB.out hb); clear p0 p1 p2 p3 p4 p5 p6 q0 q1 q2 q3 q4 q5 q6; obtain ⟨p0, p1, p2, p3, p4, p5, p6⟩ := HK1.out.sev; obtain ⟨q0, q1, q2, q3, q4, q5, q6⟩ := HK2.out.tri; have hl4 := hb.size; clear hb))
  clear hl3 hl4
  have lw4 : w.heap.size < w4.heap.size := HK1.out.lt
  have lw5 : W1.heap.size < w4.heap.size := HK2.out.lt
  go_cut [4, 5] (fun s4 s5 wx => ∃ g : Nat, s4 = .pointer (some ⟨g, 0, none⟩) ∧ s5 = .int .i64 0 ∧ Hid (PassCut w W1.heap.size (k1 + j2) (k2 + j1) (-p / q) g wx))
  case first =>
    go_region_held3 (fun w' => w'.cell? ⟨w.heap.size, 0, none⟩ = some (.bool true) ∧ w'.cell? ⟨w.heap.size, 1, none⟩ = some (.bool v.s) ∧ w'.cell? ⟨w.heap.size, 2, none⟩ = some (.slice v.a v.n v.c) ∧ w'.cell? ⟨w.heap.size, 3, none⟩ = some (.slice v.b v.m v.d) ∧ w'.cell? ⟨w.heap.size, 4, none⟩ = some (.bool z.s) ∧ w'.cell? ⟨w.heap.size, 5, none⟩ = some (.slice z.a z.n z.c) ∧ w'.cell? ⟨w.heap.size, 6, none⟩ = some (.slice z.b z.m z.d))
      (first | (refine ⟨?_, ?_, ?_, ?_, ?_, ?_, ?_⟩ <;> with_reducible assumption) | (go_keep; done) | (refine ⟨?_, ?_, ?_, ?_, ?_, ?_, ?_⟩ <;> (repeat rw [cell_other (by first | (simp; done) | (simp; omega))]) <;> with_reducible assumption) | ((refine (fun h => blk_seven (T := 37) h) ?_ <;> repeat' (first | with_reducible exact HK1.out | with_reducible refine Blk.other ?_ ?_ | with_reducible refine Blk.alloc ?_ _ | with_reducible refine Blk.drew ?_ | omega | (simp; omega))); done))
      (first
        | (have mk := G1; clear mk
           go_at_call 24
           refine (div_v (HR1.out.later (by first | exact Below.refl _ _ | exact (Below.refl _ _).drew | exact below_one _ _ | exact (below_one _ _).drew)) (HZ.out.later (by first | exact Below.refl _ _ | exact (Below.refl _ _).drew | exact below_one _ _ | exact (below_one _ _).drew)) (Rat.ne_of_gt HQ.out) (by have := BB.out; omega) (by have := BB.out; omega) (by have := BB.out; omega) (by have := BB.out; omega) (by have := BB.out; omega) (by have := BB.out; omega)).mono ?_
           rintro e v2 ⟨r2, rfl, h2, hb⟩
           have hbb : Below v1.heap.size v1 v2 := bthen (by first | exact Below.refl _ _ | exact (Below.refl _ _).drew | exact below_one _ _ | exact (below_one _ _).drew) hb
           replace HV := Lib.hid (HV.out.later hbb); replace HZ := Lib.hid (HZ.out.later hbb); replace HK1 := Lib.hid (HK1.out.later hbb); replace HK2 := Lib.hid (HK2.out.later hbb); replace HB := Lib.hid (bthen HB.out hbb); clear p0 p1 p2 p3 p4 p5 p6 q0 q1 q2 q3 q4 q5 q6; obtain ⟨p0, p1, p2, p3, p4, p5, p6⟩ := HK1.out.sev; obtain ⟨q0, q1, q2, q3, q4, q5, q6⟩ := HK2.out.tri
           (first | (have Y0 := Lib.hid ((show Blk v2 v1.heap.size 27 #[.bool false, .slice none 0 0, .slice none 0 0] from (Blk.new v1 _ _).later hb)); obtain ⟨y0, y1, y2, y3, y4, y5, y6⟩ := Y0.out.tri) | (replace Y0 := Lib.hid (Y0.out.later hbb); clear y0 y1 y2 y3 y4 y5 y6; obtain ⟨y0, y1, y2, y3, y4, y5, y6⟩ := Y0.out.tri) | skip)
           have HR2 := Lib.hid h2
           have l2 : v1.heap.size ≤ v2.heap.size := hbb.size
           clear h2 hb hbb HR1
           have G2 : Hid True := trivial)
        | (go_at_call 25
           refine (neg_v (HV.out.later (by first | exact Below.refl _ _ | exact (Below.refl _ _).drew | exact below_one _ _ | exact (below_one _ _).drew)) (by have := BB.out; omega) (by have := BB.out; omega) (by have := BB.out; omega)).mono ?_
           rintro e v1 ⟨r1, rfl, h1, hb⟩
           have hbb : Below w4.heap.size w4 v1 := bthen (by first | exact Below.refl _ _ | exact (Below.refl _ _).drew | exact below_one _ _ | exact (below_one _ _).drew) hb
           replace HV := Lib.hid (HV.out.later hbb); replace HZ := Lib.hid (HZ.out.later hbb); replace HK1 := Lib.hid (HK1.out.later hbb); replace HK2 := Lib.hid (HK2.out.later hbb); replace HB := Lib.hid (bthen HB.out hbb); clear p0 p1 p2 p3 p4 p5 p6 q0 q1 q2 q3 q4 q5 q6; obtain ⟨p0, p1, p2, p3, p4, p5, p6⟩ := HK1.out.sev; obtain ⟨q0, q1, q2, q3, q4, q5, q6⟩ := HK2.out.tri
           (first | (have Y0 := Lib.hid ((show Blk v1 w4.heap.size 27 #[.bool false, .slice none 0 0, .slice none 0 0] from (Blk.new w4 _ _).drew.later hb)); obtain ⟨y0, y1, y2, y3, y4, y5, y6⟩ := Y0.out.tri) | skip)
           have HR1 := Lib.hid h1
           have l1 : w4.heap.size ≤ v1.heap.size := hbb.size
           clear h1 hb hbb
           have G1 : Hid True := trivial))
    all_goals
      go_wp2_with fail
      go_meet
      refine ⟨_, rfl, rfl, Lib.hid ⟨?_, r2, ?_, ?_, ?_, ?_⟩⟩
      · repeat' (first | omega | (simp; omega))
      · repeat' (first | with_reducible exact Blk.new _ _ _ | with_reducible exact Y0.out.put3 _ _ _)
      · repeat' (first | with_reducible exact HR2.out | with_reducible exact HR2.out.later (below_one _ _) | with_reducible exact HR2.out.put3 (t := ⟨false, none, 0, 0, none, 0, 0⟩) Y0.out _ _ _)
      · repeat' (first | with_reducible exact HK2.out.alloc _ | with_reducible refine Blk.far3 HK2.out ?_ _ _ _ | omega)
      · repeat' (first | with_reducible exact HB.out.alloc HB.out.size _ | with_reducible refine below_put3 HB.out ?_ _ _ _ | omega)
  case rest =>
    obtain ⟨g, rfl, rfl, hm⟩ := hcut
    obtain ⟨hg, r, hy, hr, hz, hb⟩ := hm.out
    have HZ2 := Lib.hid hz
    have HR := Lib.hid hr
    have HBW := Lib.hid hb
    obtain ⟨y0, y1, y2, y3, y4, y5, y6⟩ := hy.tri
    obtain ⟨z0, z1, z2, z3, z4, z5, z6⟩ := hz.tri
    clear hm hr hb hz hy HV HZ HK1 HK2 HB p0 p1 p2 p3 p4 p5 p6 q0 q1 q2 q3 q4 q5 q6
    have hne : W1.heap.size ≠ g := by omega
    go_wp2_with fail
    exact bodyPost_ret (v := .tuple #[.agg #[.bool r.s, .slice r.a r.n r.c, .slice r.b r.m r.d], .bool true]) (by simp [results, Tryz.results11, go_sem, *]) rfl ⟨r, rfl, HR.out.put3 (t := ⟨false, none, 0, 0, none, 0, 0⟩) HZ2.out _ _ _, below_put3 HBW.out (Nat.le_of_lt HL.out) _ _ _⟩

end Go.Proofs.YtmoplgfmngohgaaGreat
