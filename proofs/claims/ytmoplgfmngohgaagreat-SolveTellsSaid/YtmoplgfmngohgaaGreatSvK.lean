/- The example of chapter 18. -/
import Derived.Test.YtmoplgfmngohgaaGreatSvJ
import Derived.Test.YtmoplgfmngohgaaGreatSvH
import Derived.Test.YtmoplgfmngohgaaGreatQT
namespace Go.Proofs.YtmoplgfmngohgaaGreat
set_option linter.unusedVariables false
set_option linter.unusedSimpArgs false
set_option maxRecDepth 100000
open Go.RowKit Nums

/-- a row of one line that a law makes -/
theorem LRow.one {w : World} {x : LM} (hv : x.v.Is x.v.n x.v.m x.p w) (hz : x.z.Is x.z.n x.z.m x.q w) : LRow (w.alloc (.cells #[.bool x.on, .bool x.v.s, .slice x.v.a x.v.n x.v.c, .slice x.v.b x.v.m x.v.d, .bool x.z.s, .slice x.z.a x.z.n x.z.c, .slice x.z.b x.z.m x.z.d] 37)) (some ⟨w.heap.size, 0, none⟩) 1 1 [x] := by
  have hb := below_one w (.cells #[.bool x.on, .bool x.v.s, .slice x.v.a x.v.n x.v.c, .slice x.v.b x.v.m x.v.d, .bool x.z.s, .slice x.z.a x.z.n x.z.c, .slice x.z.b x.z.m x.z.d] 37)
  have hk := Blk.new w 37 #[.bool x.on, .bool x.v.s, .slice x.v.a x.v.n x.v.c, .slice x.v.b x.v.m x.v.d, .bool x.z.s, .slice x.z.a x.z.n x.z.c, .slice x.z.b x.z.m x.z.d]
  refine ⟨rfl, Nat.le_refl _, by unfold maxLen; omega, _, 0, .inl rfl, fun i y hy => ⟨hk.lt, ?_⟩⟩
  match i, hy with
  | 0, hy =>
    simp at hy
    subst hy
    exact ⟨hk.cell 0 rfl, hk.cell 1 rfl, hk.cell 2 rfl, hk.cell 3 rfl, hk.cell 4 rfl, hk.cell 5 rfl, hk.cell 6 rfl, hv.later hb, hz.later hb⟩
  | i + 1, hy => simp at hy
theorem LRow.two {w : World} {x y : LM} (hv : x.v.Is x.v.n x.v.m x.p w) (hz : x.z.Is x.z.n x.z.m x.q w) (gv : y.v.Is y.v.n y.v.m y.p w) (gz : y.z.Is y.z.n y.z.m y.q w) : LRow (w.alloc (.cells #[.bool x.on, .bool x.v.s, .slice x.v.a x.v.n x.v.c, .slice x.v.b x.v.m x.v.d, .bool x.z.s, .slice x.z.a x.z.n x.z.c, .slice x.z.b x.z.m x.z.d, .bool y.on, .bool y.v.s, .slice y.v.a y.v.n y.v.c, .slice y.v.b y.v.m y.v.d, .bool y.z.s, .slice y.z.a y.z.n y.z.c, .slice y.z.b y.z.m y.z.d] 37)) (some ⟨w.heap.size, 0, none⟩) 2 2 [x, y] := by
  have hb := below_one w (.cells #[.bool x.on, .bool x.v.s, .slice x.v.a x.v.n x.v.c, .slice x.v.b x.v.m x.v.d, .bool x.z.s, .slice x.z.a x.z.n x.z.c, .slice x.z.b x.z.m x.z.d, .bool y.on, .bool y.v.s, .slice y.v.a y.v.n y.v.c, .slice y.v.b y.v.m y.v.d, .bool y.z.s, .slice y.z.a y.z.n y.z.c, .slice y.z.b y.z.m y.z.d] 37)
  have hk := Blk.new w 37 #[.bool x.on, .bool x.v.s, .slice x.v.a x.v.n x.v.c, .slice x.v.b x.v.m x.v.d, .bool x.z.s, .slice x.z.a x.z.n x.z.c, .slice x.z.b x.z.m x.z.d, .bool y.on, .bool y.v.s, .slice y.v.a y.v.n y.v.c, .slice y.v.b y.v.m y.v.d, .bool y.z.s, .slice y.z.a y.z.n y.z.c, .slice y.z.b y.z.m y.z.d]
  refine ⟨rfl, Nat.le_refl _, by unfold maxLen; omega, _, 0, .inl rfl, fun i u hu => ⟨hk.lt, ?_⟩⟩
  match i, hu with
  | 0, hu =>
    simp at hu
    subst hu
    exact ⟨hk.cell 0 rfl, hk.cell 1 rfl, hk.cell 2 rfl, hk.cell 3 rfl, hk.cell 4 rfl, hk.cell 5 rfl, hk.cell 6 rfl, hv.later hb, hz.later hb⟩
  | 1, hu =>
    simp at hu
    subst hu
    exact ⟨hk.cell 7 rfl, hk.cell 8 rfl, hk.cell 9 rfl, hk.cell 10 rfl, hk.cell 11 rfl, hk.cell 12 rfl, hk.cell 13 rfl, gv.later hb, gz.later hb⟩
  | i + 2, hu => simp at hu
theorem RV.Is.self {r : RV} {k j : Nat} {q : Rat} {w : World} (h : r.Is k j q w) : r.Is r.n r.m q w := by
  obtain ⟨xs, ys, h1, h2, h3, h4, h5⟩ := h; exact ⟨xs, ys, h1, h2, h3, Nat.le_refl _, Nat.le_refl _⟩
theorem rof_v (Z : Int) (q : Rat) (w : World) (h0 : -9223372036854775808 ≤ Z) (h1 : Z < 9223372036854775808) (hq : (Z : Rat) = q) : Calls Tryz.prog 31 #[.int .i64 Z] w (RatV 2 1 q w) := by
  subst hq; exact (rofR Z w h0 h1).mono ratK_V
theorem rprint_v {r : RV} {k j : Nat} {q : Rat} {w : World} (T : ByteArray) (h : r.Is k j q w) (hT : ratStr q = T) (hk : k ≤ 12) (hj : j ≤ 12) : Calls Tryz.prog 34 #[.agg #[.bool r.s, .slice r.a r.n r.c, .slice r.b r.m r.d]] w fun e w' => e = .returned (.string T) ∧ Below w.heap.size w w' := by
  obtain ⟨xs, ys, h1, h2, h3, h4, h5⟩ := h; exact rprintR T q h1 h2 h3 (by omega) (by omega) hT
theorem str12 : ratStr (1/2) = ⟨#[49, 47, 50]⟩ := by
  have h1 : ((1 : Rat)/2).num = 1 := by decide +kernel
  have h2 : ((1 : Rat)/2).den = 2 := by decide +kernel
  rw [ratStr, if_neg (by rw [h2]; decide), h1, h2, decI, if_neg (by decide), show (1 : Int).natAbs = 1 from rfl, dec_digit 1 49 (by omega) (by omega) rfl, dec_digit 2 50 (by omega) (by omega) rfl]; rfl
theorem ex_next (r1 r2 r3 r4 : RV) : nextM [⟨true, r1, r2, -1, 2⟩, ⟨true, r3, r4, -3, 4⟩] = some (1/2) := by
  have h1 : passM true (-1) 2 = some (1/2) := by decide +kernel
  have h2 : passM true (-3) 4 = some (3/4) := by decide +kernel
  have h3 : lessM (some (1/2)) (3/4) = some (1/2) := by decide +kernel
  unfold nextM
  simp only [List.filterMap_cons, passL, h1, h2, List.filterMap_nil, List.foldl_cons, List.foldl_nil]
  exact h3
theorem ex_passed (r1 r2 r3 r4 : RV) : [⟨true, r1, r2, -1, 2⟩, ⟨true, r3, r4, -3, 4⟩].map (passedM (1/2)) = [true, false] := by
  have h1 : (decide ((-1 : Rat) < 0) && decide ((0 : Rat) ≤ -1 + 2 * (1/2))) = true := by decide +kernel
  have h2 : (decide ((-3 : Rat) < 0) && decide ((0 : Rat) ≤ -3 + 4 * (1/2))) = false := by decide +kernel
  simp only [List.map_cons, List.map_nil, passedM, Bool.true_and, h1, h2]
theorem RV.Is.le1 {r : RV} {j : Nat} {q : Rat} {w : World} (h : r.Is 2 j q w) : r.n ≤ 4 := by obtain ⟨_, _, _, _, _, h, _⟩ := h; omega
theorem RV.Is.le2 {r : RV} {k : Nat} {q : Rat} {w : World} (h : r.Is k 1 q w) : r.m ≤ 4 := by obtain ⟨_, _, _, _, _, _, h⟩ := h; omega
set_option maxHeartbeats 8000000 in
/-- chapter 18's example -/
theorem awake18 (w : World) : Calls Tryz.prog 15 #[] w fun e w' => e = .returned (.bool true) ∧ Below w.heap.size w w' := by
  have HB := Lib.hid (Below.refl w.heap.size w)
  go_enter Tryz.func15, Tryz.ntmps15
  go_wp2_with (first
    | (go_at_call 34; refine (rprint_v _ HT.out str12 (by omega) (by omega)).mono ?_; rintro e w7 ⟨rfl, hb⟩; replace HM := Lib.hid (MemB.below HM.out hb HM.out.lt); clear m0 m1; have m0 := HM.out.cell 0 (by simp); have m1 := HM.out.cell 1 (by simp); replace HB := Lib.hid (bthen HB.out hb); clear hb)
    | (go_at_call 8; refine (passed_t _ _ _ [⟨true, r1, r2, -1, 2⟩, ⟨true, r3, r4, -3, 4⟩] t (1/2) _ (HL.out.later (below_one _ _)) (HT.out.later (below_one _ _)) HS.out (by omega)).mono ?_; rw [ex_passed]; rintro e w6 ⟨g, rfl, hm, -, hb⟩; have m0 := hm.cell 0 (by simp); have m1 := hm.cell 1 (by simp); have HM := Lib.hid hm; replace HT := Lib.hid ((HT.out.later (below_one _ (.cells #[.bool t.s, .slice t.a t.n t.c, .slice t.b t.m t.d] 27))).later hb); have hb2 := bthen (below_one w5 (.cells #[.bool t.s, .slice t.a t.n t.c, .slice t.b t.m t.d] 27)) hb; have HX := Lib.hid ((Blk.new w5 27 #[.bool t.s, .slice t.a t.n t.c, .slice t.b t.m t.d]).later hb); obtain ⟨x0, x1, x2, -, -, -, -⟩ := HX.out.tri; replace HB := Lib.hid (bthen HB.out hb2); clear hm hb hb2)
    | (go_at_call 6; have hL := LRow.two (w := w4) (x := ⟨true, r1, r2, -1, 2⟩) (y := ⟨true, r3, r4, -3, 4⟩) H1.out.self H2.out.self H3.out.self H4.out.self; have HS := Lib.hid (show ∀ x ∈ ([⟨true, r1, r2, -1, 2⟩, ⟨true, r3, r4, -3, 4⟩] : List LM), x.Short by intro x hx; simp at hx; rcases hx with rfl | rfl; exact ⟨H1.out.le1, H1.out.le2, H2.out.le1, H2.out.le2⟩; exact ⟨H3.out.le1, H3.out.le2, H4.out.le1, H4.out.le2⟩); refine (next_t _ _ _ [⟨true, r1, r2, -1, 2⟩, ⟨true, r3, r4, -3, 4⟩] _ hL HS.out (by omega)).mono ?_; rw [ex_next]; rintro e w5 ⟨t, rfl, ht, hb⟩; have HL := Lib.hid (hL.later hb); have HT := Lib.hid ht; replace HB := Lib.hid (bthen (bthen HB.out (below_one _ _)) hb); clear hL ht hb)
    | (have mk := G3; go_at_call 31; refine (rof_v (4) (4) _ (by omega) (by omega) (by simp)).mono ?_; rintro e w4 ⟨r4, rfl, h4, hb⟩; replace H1 := Lib.hid (H1.out.later hb); replace H2 := Lib.hid (H2.out.later hb); replace H3 := Lib.hid (H3.out.later hb); replace HB := Lib.hid (bthen HB.out hb); have H4 := Lib.hid h4; clear h4 hb; have G4 : Hid True := trivial)
    | (have mk := G2; go_at_call 31; refine (rof_v (-3) (-3) _ (by omega) (by omega) (by simp)).mono ?_; rintro e w3 ⟨r3, rfl, h3, hb⟩; replace H1 := Lib.hid (H1.out.later hb); replace H2 := Lib.hid (H2.out.later hb); replace HB := Lib.hid (bthen HB.out hb); have H3 := Lib.hid h3; clear h3 hb; have G3 : Hid True := trivial)
    | (have mk := G1; go_at_call 31; refine (rof_v (2) (2) _ (by omega) (by omega) (by simp)).mono ?_; rintro e w2 ⟨r2, rfl, h2, hb⟩; replace H1 := Lib.hid (H1.out.later hb); replace HB := Lib.hid (bthen HB.out hb); have H2 := Lib.hid h2; clear h2 hb; have G2 : Hid True := trivial)
    | (go_at_call 31; refine (rof_v (-1) (-1) _ (by omega) (by omega) (by simp)).mono ?_; rintro e w1 ⟨r1, rfl, h1, hb⟩; replace HB := Lib.hid (bthen HB.out hb); have H1 := Lib.hid h1; clear h1 hb; have G1 : Hid True := trivial))
  go_ret
  exact ⟨rfl, HB.out⟩

end Go.Proofs.YtmoplgfmngohgaaGreat
