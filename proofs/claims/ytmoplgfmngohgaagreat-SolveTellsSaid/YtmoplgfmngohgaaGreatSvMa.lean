/- Numbers told; At and Passes without a case. -/
import Derived.Test.YtmoplgfmngohgaaGreatSvLm
namespace Go.Proofs.YtmoplgfmngohgaaGreat
set_option linter.unusedVariables false
set_option linter.unusedSimpArgs false
set_option maxRecDepth 100000
open Go.RowKit Nums

/-- numbers told as they should be -/
def RV.Told (r : RV) (k j : Nat) (q : Rat) (w : World) : Prop := r.s = decide (q.num < 0) ∧ Row w r.a r.n r.c (limbs q.num.natAbs) ∧ Row w r.b r.m r.d (limbs q.den) ∧ r.n ≤ k ∧ r.m ≤ j
theorem RV.Told.later {r : RV} {k j : Nat} {q : Rat} {w w' : World} (h : r.Told k j q w) (hb : Below w.heap.size w w') : r.Told k j q w' := ⟨h.1, h.2.1.later hb, h.2.2.1.later hb, h.2.2.2⟩
def RatT (k j : Nat) (q : Rat) (w : World) (e : Ending) (w' : World) : Prop := ∃ r : RV, e = .returned (.agg #[.bool r.s, .slice r.a r.n r.c, .slice r.b r.m r.d]) ∧ r.Told k j q w' ∧ Below w.heap.size w w'
theorem ratK_T {k j : Nat} {q : Rat} {w : World} : ∀ e w', RatK k j q w e w' → RatT k j q w e w' := by
  rintro e w' ⟨a, n, c, b, m, d, rfl, hn, hm, h1, h2, hb⟩
  exact ⟨⟨_, a, n, c, b, m, d⟩, rfl, ⟨rfl, h1, h2, hn, hm⟩, hb⟩
theorem radd_v {r t : RV} {k j k' j' : Nat} (K J : Nat) {p q s : Rat} {w : World} (h : r.Is k j p w) (h' : t.Is k' j' q w) (hs : p + q = s) (hk : k ≤ 20) (hj : j ≤ 20) (hk' : k' ≤ 20) (hj' : j' ≤ 20) (h2 : 2 ≤ k ∧ 2 ≤ j ∧ 2 ≤ k' ∧ 2 ≤ j') (hK : k + j' + 1 ≤ K) (hK' : k' + j + 1 ≤ K) (hJ : j + j' ≤ J) (hK9 : K ≤ 60) (hJ9 : J ≤ 60) : Calls Tryz.prog 32 #[.agg #[.bool r.s, .slice r.a r.n r.c, .slice r.b r.m r.d], .agg #[.bool t.s, .slice t.a t.n t.c, .slice t.b t.m t.d]] w (RatT K J s w) := by
  obtain ⟨xs, ys, h1, h2', h3, h4, h5⟩ := h; obtain ⟨us, vs, g1, g2, g3, g4, g5⟩ := h'
  exact (raddR k j k' j' K J s p q h1 h2' g1 g2 h3 g3 h4 h5 g4 g5 h2.1 h2.2.1 h2.2.2.1 h2.2.2.2 hk hj hk' hj' hK hK' hJ hK9 hJ9 hs).mono ratK_T
theorem rnorm_v {r : RV} {k j : Nat} {q : Rat} {w : World} (h : r.Is k j q w) (hk : k ≤ 60) (hj : j ≤ 60) (hk2 : 2 ≤ k) (hj2 : 2 ≤ j) : Calls Tryz.prog 42 #[.agg #[.bool r.s, .slice r.a r.n r.c, .slice r.b r.m r.d]] w (RatT k j q w) := by
  obtain ⟨xs, ys, h1, h2, h3, h4, h5⟩ := h; exact (rnormR k j q h1 h2 h3 h4 h5 hk hk2 hj2 hj).mono ratK_T
theorem rsame_v {r t : RV} {k j k' j' : Nat} {q : Rat} {w : World} (h : r.Told k j q w) (h' : t.Told k' j' q w) (hk : k ≤ 100) (hj : j ≤ 100) (hk' : k' ≤ 100) (hj' : j' ≤ 100) : Calls Tryz.prog 10 #[.agg #[.bool r.s, .slice r.a r.n r.c, .slice r.b r.m r.d], .agg #[.bool t.s, .slice t.a t.n t.c, .slice t.b t.m t.d]] w fun e w' => e = .returned (.bool true) ∧ Below w.heap.size w w' := by
  obtain ⟨h1, h2, h3, h4, h5⟩ := h; obtain ⟨g1, g2, g3, g4, g5⟩ := h'
  exact rsameR_yes h2 h3 g2 g3 (by omega) (by omega) (by omega) (by omega) (by rw [h1, g1]) rfl rfl
/-- where a line is after d, in plain numbers -/
def atM (on : Bool) (p q d : Rat) : Rat := if on = true then p + q * d else 0
theorem lineAt_any (on : Bool) {v z r : RV} {p q t : Rat} {w : World} (hv : v.Is 4 4 p w) (hz : z.Is 4 4 q w) (hr : r.Is 4 4 t w) : Calls Tryz.prog 13 #[.agg #[.bool on, .bool v.s, .slice v.a v.n v.c, .slice v.b v.m v.d, .bool z.s, .slice z.a z.n z.c, .slice z.b z.m z.d], .agg #[.bool r.s, .slice r.a r.n r.c, .slice r.b r.m r.d]] w (RatV 13 12 (atM on p q t) w) := by
  cases on with
  | false => exact (at_off v z r w).mono (by rintro e w' ⟨r, rfl, hr, hb⟩; exact ⟨r, rfl, hr.more (by omega) (by omega), hb⟩)
  | true => exact at_on 4 4 4 4 4 4 13 12 hv hz hr (by omega) (by omega) (by omega) (by omega) (by omega) (by omega) (by omega)
/-- a call that tells a number and whether there is one, without a case -/
def OptG (k j : Nat) (o : Option Rat) (w : World) (e : Ending) (w' : World) : Prop := ∃ (r : RV) (b : Bool), e = .returned (.tuple #[.agg #[.bool r.s, .slice r.a r.n r.c, .slice r.b r.m r.d], .bool b]) ∧ (o = none → b = false) ∧ (∀ t, o = some t → b = true ∧ r.Is k j t w') ∧ Below w.heap.size w w'
theorem passes_g (on : Bool) (k1 j1 k2 j2 : Nat) {v z : RV} {p q : Rat} {w : World} (hv : v.Is k1 j1 p w) (hz : z.Is k2 j2 q w) (b1 : k1 ≤ 20 ∧ j1 ≤ 20 ∧ k2 ≤ 20 ∧ j2 ≤ 20 ∧ 1 ≤ j1 ∧ 1 ≤ j2) : Calls Tryz.prog 11 #[.agg #[.bool on, .bool v.s, .slice v.a v.n v.c, .slice v.b v.m v.d, .bool z.s, .slice z.a z.n z.c, .slice z.b z.m z.d]] w (OptG (k1 + j2) (k2 + j1) (passM on p q) w) := by
  unfold passM
  by_cases h : on = true ∧ p < 0 ∧ 0 < q
  · rw [if_pos h]
    obtain ⟨rfl, h2, h3⟩ := h
    refine (passes_yes k1 j1 k2 j2 hv hz b1 h2 h3).mono ?_
    rintro e w' ⟨r, rfl, hr, hb⟩
    exact ⟨r, true, rfl, (fun h => by cases h), (fun t ht => by cases ht; exact ⟨rfl, hr⟩), hb⟩
  · rw [if_neg h]
    refine (passes_no on k1 j1 k2 j2 hv hz (by omega) h).mono ?_
    rintro e w' ⟨rfl, hb⟩
    exact ⟨⟨false, none, 0, 0, none, 0, 0⟩, false, rfl, (fun _ => rfl), (fun t ht => by cases ht), hb⟩
theorem tw_cells {W : World} {g h T U : Nat} {x0 x1 x2 x3 x4 x5 x6 y0 y1 y2 : Value} (k : Blk W g T #[x0, x1, x2, x3, x4, x5, x6]) (l : Blk W h U #[y0, y1, y2]) : W.cell? ⟨g, 0, none⟩ = some x0 ∧ W.cell? ⟨g, 1, none⟩ = some x1 ∧ W.cell? ⟨g, 2, none⟩ = some x2 ∧ W.cell? ⟨g, 3, none⟩ = some x3 ∧ W.cell? ⟨g, 4, none⟩ = some x4 ∧ W.cell? ⟨g, 5, none⟩ = some x5 ∧ W.cell? ⟨g, 6, none⟩ = some x6 ∧ W.cell? ⟨h, 0, none⟩ = some y0 ∧ W.cell? ⟨h, 1, none⟩ = some y1 ∧ W.cell? ⟨h, 2, none⟩ = some y2 := ⟨k.cell 0 rfl, k.cell 1 rfl, k.cell 2 rfl, k.cell 3 rfl, k.cell 4 rfl, k.cell 5 rfl, k.cell 6 rfl, l.cell 0 rfl, l.cell 1 rfl, l.cell 2 rfl⟩
/-- ahead of the second Passes -/
def TwCut (Wc : World) (on : Bool) (z : RV) (p' : Rat) (g : Nat) (wx : World) : Prop := Wc.heap.size ≤ g ∧ ∃ r : RV, Blk wx g 37 #[.bool on, .bool r.s, .slice r.a r.n r.c, .slice r.b r.m r.d, .bool z.s, .slice z.a z.n z.c, .slice z.b z.m z.d] ∧ r.Is 13 12 p' wx ∧ Below Wc.heap.size Wc wx
theorem TwCut.mk {Wc : World} {on : Bool} {z r : RV} {p' : Rat} {g : Nat} {wx : World} (hg : Wc.heap.size ≤ g) (hk : Blk wx g 37 #[.bool on, .bool r.s, .slice r.a r.n r.c, .slice r.b r.m r.d, .bool z.s, .slice z.a z.n z.c, .slice z.b z.m z.d]) (hr : r.Is 13 12 p' wx) (hb : Below Wc.heap.size Wc wx) : TwCut Wc on z p' g wx := ⟨hg, r, hk, hr, hb⟩
theorem RV.Is.setB {r : RV} {k j g T i : Nat} {q : Rat} {w : World} {vs : Array Value} {u : Value} (h : r.Is k j q w) (hx : Blk w g T vs) (hi : vs[i]? = some u) (hu : ∀ x, u ≠ .int .u32 x) (y : Value) : r.Is k j q (w.setCell ⟨g, i, none⟩ y) := by
  obtain ⟨xs, ys, h1, h2, h3⟩ := h
  exact ⟨xs, ys, h1.set (hx.cell i hi) hu y, h2.set (hx.cell i hi) hu y, h3⟩
theorem Blk.put7 {w : World} {g T : Nat} {x0 x1 x2 x3 x4 x5 x6 : Value} (h : Blk w g T #[x0, x1, x2, x3, x4, x5, x6]) (y0 y1 y2 y3 y4 y5 y6 : Value) : Blk (((((((w.setCell ⟨g, 0, none⟩ y0).setCell ⟨g, 1, none⟩ y1).setCell ⟨g, 2, none⟩ y2).setCell ⟨g, 3, none⟩ y3).setCell ⟨g, 4, none⟩ y4).setCell ⟨g, 5, none⟩ y5).setCell ⟨g, 6, none⟩ y6) g T #[y0, y1, y2, y3, y4, y5, y6] := by
  have b0 : Blk _ g T #[y0, x1, x2, x3, x4, x5, x6] := h.set 0 y0
  have b1 : Blk _ g T #[y0, y1, x2, x3, x4, x5, x6] := b0.set 1 y1
  have b2 : Blk _ g T #[y0, y1, y2, x3, x4, x5, x6] := b1.set 2 y2
  have b3 : Blk _ g T #[y0, y1, y2, y3, x4, x5, x6] := b2.set 3 y3
  have b4 : Blk _ g T #[y0, y1, y2, y3, y4, x5, x6] := b3.set 4 y4
  have b5 : Blk _ g T #[y0, y1, y2, y3, y4, y5, x6] := b4.set 5 y5
  have b6 : Blk _ g T #[y0, y1, y2, y3, y4, y5, y6] := b5.set 6 y6
  exact b6
theorem RV.Is.put7 {r : RV} {k j g T : Nat} {q : Rat} {w : World} (h : r.Is k j q w) (b0 : Blk w g T #[.bool false, .bool false, .slice none 0 0, .slice none 0 0, .bool false, .slice none 0 0, .slice none 0 0]) (y0 y1 y2 y3 y4 y5 y6 : Value) : r.Is k j q (((((((w.setCell ⟨g, 0, none⟩ y0).setCell ⟨g, 1, none⟩ y1).setCell ⟨g, 2, none⟩ y2).setCell ⟨g, 3, none⟩ y3).setCell ⟨g, 4, none⟩ y4).setCell ⟨g, 5, none⟩ y5).setCell ⟨g, 6, none⟩ y6) := by
  have b1 : Blk _ g T #[y0, .bool false, .slice none 0 0, .slice none 0 0, .bool false, .slice none 0 0, .slice none 0 0] := b0.set 0 y0
  have b2 : Blk _ g T #[y0, y1, .slice none 0 0, .slice none 0 0, .bool false, .slice none 0 0, .slice none 0 0] := b1.set 1 y1
  have b3 : Blk _ g T #[y0, y1, y2, .slice none 0 0, .bool false, .slice none 0 0, .slice none 0 0] := b2.set 2 y2
  have b4 : Blk _ g T #[y0, y1, y2, y3, .bool false, .slice none 0 0, .slice none 0 0] := b3.set 3 y3
  have b5 : Blk _ g T #[y0, y1, y2, y3, y4, .slice none 0 0, .slice none 0 0] := b4.set 4 y4
  have b6 : Blk _ g T #[y0, y1, y2, y3, y4, y5, .slice none 0 0] := b5.set 5 y5
  have h1 := h.setB (i := 0) (u := .bool false) b0 rfl (by intro x; simp) y0
  have h2 := h1.setB (i := 1) (u := .bool false) b1 rfl (by intro x; simp) y1
  have h3 := h2.setB (i := 2) (u := .slice none 0 0) b2 rfl (by intro x; simp) y2
  have h4 := h3.setB (i := 3) (u := .slice none 0 0) b3 rfl (by intro x; simp) y3
  have h5 := h4.setB (i := 4) (u := .bool false) b4 rfl (by intro x; simp) y4
  have h6 := h5.setB (i := 5) (u := .slice none 0 0) b5 rfl (by intro x; simp) y5
  exact h6.setB (i := 6) (u := .slice none 0 0) b6 rfl (by intro x; simp) y6
theorem below_put7 {B g : Nat} {a w : World} (h : Below B a w) (hg : B ≤ g) (y0 y1 y2 y3 y4 y5 y6 : Value) : Below B a (((((((w.setCell ⟨g, 0, none⟩ y0).setCell ⟨g, 1, none⟩ y1).setCell ⟨g, 2, none⟩ y2).setCell ⟨g, 3, none⟩ y3).setCell ⟨g, 4, none⟩ y4).setCell ⟨g, 5, none⟩ y5).setCell ⟨g, 6, none⟩ y6) := ((((((h.setCell hg _).setCell hg _).setCell hg _).setCell hg _).setCell hg _).setCell hg _).setCell hg _

end Go.Proofs.YtmoplgfmngohgaaGreat
