/- At of a line that is not On. -/
import Derived.Test.YtmoplgfmngohgaaGreatSvB
namespace Go.Proofs.YtmoplgfmngohgaaGreat
set_option linter.unusedVariables false
set_option linter.unusedSimpArgs false
set_option maxRecDepth 100000
open Go.RowKit Nums

set_option maxHeartbeats 4000000 in
/-- At of a line that is not On -/
theorem at_off (v z r : RV) (w : World) : Calls Tryz.prog 13 #[.agg #[.bool false, .bool v.s, .slice v.a v.n v.c, .slice v.b v.m v.d, .bool z.s, .slice z.a z.n z.c, .slice z.b z.m z.d], .agg #[.bool r.s, .slice r.a r.n r.c, .slice r.b r.m r.d]] w (RatV 2 1 0 w) := by
  obtain ⟨W1, hW1⟩ : ∃ W1, W1 = w.alloc (.cells #[.bool false, .bool v.s, .slice v.a v.n v.c, .slice v.b v.m v.d, .bool z.s, .slice z.a z.n z.c, .slice z.b z.m z.d] 37) := ⟨_, rfl⟩
  obtain ⟨W2, hW2⟩ : ∃ W2, W2 = W1.alloc (.cells #[.bool r.s, .slice r.a r.n r.c, .slice r.b r.m r.d] 27) := ⟨_, rfl⟩
  obtain ⟨W3, hW3⟩ : ∃ W3, W3 = W2.alloc (.cells #[.bool false, .slice none 0 0, .slice none 0 0] 27) := ⟨_, rfl⟩
  have hb1 : Below w.heap.size w W1 := by rw [hW1]; exact below_one _ _
  have hb2 : Below W1.heap.size W1 W2 := by rw [hW2]; exact below_one _ _
  have hb3 : Below W2.heap.size W2 W3 := by rw [hW3]; exact below_one _ _
  have HK1 := Lib.hid ((show Blk W1 w.heap.size 37 #[.bool false, .bool v.s, .slice v.a v.n v.c, .slice v.b v.m v.d, .bool z.s, .slice z.a z.n z.c, .slice z.b z.m z.d] by rw [hW1]; exact Blk.new _ _ _).later hb2 |>.later hb3)
  have HK3 := Lib.hid (show Blk W3 W2.heap.size 27 #[.bool false, .slice none 0 0, .slice none 0 0] by rw [hW3]; exact Blk.new _ _ _)
  have HB := Lib.hid (bthen (bthen hb1 hb2) hb3)
  have hs2 : W1.heap.size + 1 = W2.heap.size := by rw [hW2]; simp
  have hs1 : w.heap.size + 1 = W1.heap.size := by rw [hW1]; simp
  have HS := Lib.hid (show w.heap.size ≤ W2.heap.size by omega)
  clear hb1 hb2 hb3
  obtain ⟨p0, p1, p2, p3, p4, p5, p6⟩ := HK1.out.sev
  have HW1 := Lib.hid hW1
  have HW2 := Lib.hid hW2
  have HW3 := Lib.hid hW3
  have HS1 := Lib.hid hs1
  have HS2 := Lib.hid hs2
  clear hW1 hW2 hW3 hs1 hs2
  go_enter Tryz.func13, Tryz.ntmps13
  go_upto_region 1 with fail
  rw [← HW1.out, ← HW2.out, ← HW3.out]; simp only [HS1.out, HS2.out]; clear HW1 HW2 HW3 HS1 HS2
  go_wp2_with (go_at_call 28; refine (of_v 0 (by omega) (by omega)).mono ?_; rintro e w4 ⟨r4, rfl, h4, hb4⟩; have HR := Lib.hid h4; have HK4 := Lib.hid (HK3.out.later hb4); have HB4 := Lib.hid (bthen HB.out hb4); clear h4 hb4; obtain ⟨q0, q1, q2, q3, q4, q5, q6⟩ := HK4.out.tri)
  exact bodyPost_ret (v := .agg #[.bool r4.s, .slice r4.a r4.n r4.c, .slice r4.b r4.m r4.d]) (by simp [results, Tryz.results13, go_sem, *]) rfl ⟨r4, rfl, HR.out.put3 (t := ⟨false, none, 0, 0, none, 0, 0⟩) HK4.out _ _ _, below_put3 HB4.out HS.out _ _ _⟩

end Go.Proofs.YtmoplgfmngohgaaGreat
