/- long and isBelow. -/
import Derived.Test.YtmoplgfmngohgaaGreatSvA
namespace Go.Proofs.YtmoplgfmngohgaaGreat
set_option linter.unusedVariables false
set_option linter.unusedSimpArgs false
set_option maxRecDepth 100000
open Go.RowKit Nums

theorem Blk.set {w : World} {g T : Nat} {vs : Array Value} (h : Blk w g T vs) (j : Nat) (u : Value) : Blk (w.setCell ⟨g, j, none⟩ u) g T (vs.setIfInBounds j u) := by
  unfold Blk World.setCell at *
  simp only [Array.getElem?_modify, h]
  simp
theorem Blk.other {w : World} {g T h o : Nat} {vs : Array Value} {u : Value} (hb : Blk w g T vs) (hg : g ≠ h) : Blk (w.setCell ⟨h, o, none⟩ u) g T vs := (Below.heap_setCell w ⟨h, o, none⟩ u g hg).trans hb
theorem Blk.put3 {w : World} {g T : Nat} {a b c : Value} (h : Blk w g T #[a, b, c]) (x y z : Value) : Blk (((w.setCell ⟨g, 0, none⟩ x).setCell ⟨g, 1, none⟩ y).setCell ⟨g, 2, none⟩ z) g T #[x, y, z] := ((h.set 0 x).set 1 y).set 2 z
theorem Blk.far3 {w : World} {g T h : Nat} {vs : Array Value} (hb : Blk w g T vs) (hg : g ≠ h) (x y z : Value) : Blk (((w.setCell ⟨h, 0, none⟩ x).setCell ⟨h, 1, none⟩ y).setCell ⟨h, 2, none⟩ z) g T vs := ((hb.other hg).other hg).other hg
/-- a store into a block that holds a number leaves numbers as they are -/
theorem RV.Is.put3 {r t : RV} {k j g T : Nat} {q : Rat} {w : World} (h : r.Is k j q w) (hx : Blk w g T #[.bool t.s, .slice t.a t.n t.c, .slice t.b t.m t.d]) (x y z : Value) : r.Is k j q (((w.setCell ⟨g, 0, none⟩ x).setCell ⟨g, 1, none⟩ y).setCell ⟨g, 2, none⟩ z) := by
  obtain ⟨xs, ys, h1, h2, h3⟩ := h
  exact ⟨xs, ys, h1.put3 hx.tri x y z, h2.put3 hx.tri x y z, h3⟩

/-- long: has a number more than four limbs somewhere? -/
theorem long_t (r : RV) (w : World) : Calls Tryz.prog 5 #[.agg #[.bool r.s, .slice r.a r.n r.c, .slice r.b r.m r.d]] w fun e w' => e = .returned (.bool (decide (4 < r.n ∨ 4 < r.m))) ∧ Below w.heap.size w w' := by
  by_cases h1 : 4 < r.n
  · rw [show decide (4 < r.n ∨ 4 < r.m) = true from decide_eq_true (.inl h1)]
    have h1' : (4 : Int) < (r.n : Int) := by omega
    go_enter Tryz.func5, Tryz.ntmps5
    go_wp2
    go_ret
    exact ⟨rfl, below_one _ _⟩
  · by_cases h2 : 4 < r.m
    · rw [show decide (4 < r.n ∨ 4 < r.m) = true from decide_eq_true (.inr h2)]
      have h1' : ¬ (4 : Int) < (r.n : Int) := by omega
      have h2' : (4 : Int) < (r.m : Int) := by omega
      go_enter Tryz.func5, Tryz.ntmps5
      go_wp2
      go_ret
      exact ⟨rfl, below_one _ _⟩
    · rw [show decide (4 < r.n ∨ 4 < r.m) = false from decide_eq_false (by omega)]
      have h1' : ¬ (4 : Int) < (r.n : Int) := by omega
      have h2' : ¬ (4 : Int) < (r.m : Int) := by omega
      go_enter Tryz.func5, Tryz.ntmps5
      go_wp2
      go_ret
      exact ⟨rfl, below_one _ _⟩

/-- isBelow: is a line On, and below 0? -/
theorem isBelow_t (on : Bool) (v z : RV) {k j : Nat} {p : Rat} (w : World) (hv : v.Is k j p w) (hk : k ≤ 95) (hj : j ≤ 95) : Calls Tryz.prog 19 #[.agg #[.bool on, .bool v.s, .slice v.a v.n v.c, .slice v.b v.m v.d, .bool z.s, .slice z.a z.n z.c, .slice z.b z.m z.d]] w fun e w' => e = .returned (.bool (on && decide (p < 0))) ∧ Below w.heap.size w w' := by
  obtain ⟨W1, hW1⟩ : ∃ W1, W1 = w.alloc (.cells #[.bool on, .bool v.s, .slice v.a v.n v.c, .slice v.b v.m v.d, .bool z.s, .slice z.a z.n z.c, .slice z.b z.m z.d] 37) := ⟨_, rfl⟩
  have hb1 : Below w.heap.size w W1 := by rw [hW1]; exact below_one _ _
  have HB1 := Lib.hid hb1
  have HK := Lib.hid (show Blk W1 w.heap.size 37 #[.bool on, .bool v.s, .slice v.a v.n v.c, .slice v.b v.m v.d, .bool z.s, .slice z.a z.n z.c, .slice z.b z.m z.d] by rw [hW1]; exact Blk.new _ _ _)
  have HV := Lib.hid (hv.later hb1)
  have HN := Lib.hid hk
  have HJ := Lib.hid hj
  clear hv hb1 hk hj
  rcases on with _ | _
  · obtain ⟨p0, p1, p2, p3, p4, p5, p6⟩ := HK.out.sev
    go_enter Tryz.func19, Tryz.ntmps19
    go_upto_region 1 with fail
    rw [← hW1]; clear hW1
    go_wp2_with fail
    go_ret
    exact ⟨rfl, HB1.out⟩
  · obtain ⟨p0, p1, p2, p3, p4, p5, p6⟩ := HK.out.sev
    rcases sgnR_cases p with ⟨hp, hs⟩ | ⟨hp, hs⟩ | ⟨hp, hs⟩
    all_goals
      have HS := Lib.hid hs; clear hs
      have HP := Lib.hid hp; clear hp
      go_enter Tryz.func19, Tryz.ntmps19
      go_upto_region 1 with fail
      rw [← hW1]; clear hW1
      go_wp2_with (go_at_call 20; refine (sign_v _ HV.out HS.out HN.out HJ.out).mono ?_; rintro e w2 ⟨rfl, hb⟩)
      go_ret
    · exact ⟨by rw [decide_eq_true HP.out]; rfl, bthen HB1.out hb⟩
    · exact ⟨by rw [decide_eq_false (by rw [HP.out]; exact Rat.lt_irrefl)]; rfl, bthen HB1.out hb⟩
    · exact ⟨by rw [decide_eq_false (Rat.not_lt.2 (Rat.le_of_lt HP.out))]; rfl, bthen HB1.out hb⟩

end Go.Proofs.YtmoplgfmngohgaaGreat
