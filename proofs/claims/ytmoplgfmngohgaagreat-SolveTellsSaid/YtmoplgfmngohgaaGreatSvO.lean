/- Numbers told as they should be. -/
import Derived.Test.YtmoplgfmngohgaaGreatSvMa
import Derived.Test.YtmoplgfmngohgaaGreatSvJ
namespace Go.Proofs.YtmoplgfmngohgaaGreat
set_option linter.unusedVariables false
set_option linter.unusedSimpArgs false
set_option maxRecDepth 100000
open Go.RowKit Nums

variable {w : World}
theorem RV.Told.is {r : RV} {k j : Nat} {q : Rat} {w : World} (h : r.Told k j q w) : r.Is k j q w := ⟨_, _, h.2.1, h.2.2.1, by rw [h.1]; exact rat_limbs q, h.2.2.2.1, h.2.2.2.2⟩
theorem RV.Told.more {r : RV} {k j k' j' : Nat} {q : Rat} {w : World} (h : r.Told k j q w) (hk : k ≤ k') (hj : j ≤ j') : r.Told k' j' q w := ⟨h.1, h.2.1, h.2.2.1, Nat.le_trans h.2.2.2.1 hk, Nat.le_trans h.2.2.2.2 hj⟩
theorem RV.Told.put3 {r t : RV} {k j g T : Nat} {q : Rat} {w : World} (h : r.Told k j q w) (hx : Blk w g T #[.bool t.s, .slice t.a t.n t.c, .slice t.b t.m t.d]) (x y z : Value) : r.Told k j q (((w.setCell ⟨g, 0, none⟩ x).setCell ⟨g, 1, none⟩ y).setCell ⟨g, 2, none⟩ z) := ⟨h.1, h.2.1.put3 hx.tri x y z, h.2.2.1.put3 hx.tri x y z, h.2.2.2⟩
theorem RV.Told.putObj {r : RV} {k j l : Nat} {q : Rat} {w : World} {o : Obj} (h : r.Told k j q w) (hl : w.heap[l]? = some o) (ho : o.isCells = false) (o' : Obj) : r.Told k j q (w.putObj l o') := ⟨h.1, h.2.1.putObj hl ho o', h.2.2.1.putObj hl ho o', h.2.2.2⟩
theorem of_t (Z : Int) (h0 : -9223372036854775808 ≤ Z) (h1 : Z < 9223372036854775808) : Calls Tryz.prog 28 #[.int .i64 Z] w (RatT 2 1 (Z : Rat) w) := (ofR 2 Z w h0 h1 (len_of (Nat.lt_of_le_of_lt (show Z.natAbs ≤ 9223372036854775808 by omega) (by decide)))).mono ratK_T
theorem rof_t (Z : Int) (h0 : -9223372036854775808 ≤ Z) (h1 : Z < 9223372036854775808) : Calls Tryz.prog 31 #[.int .i64 Z] w (RatT 2 1 (Z : Rat) w) := (rofR Z w h0 h1).mono ratK_T
theorem add_t {r t : RV} {k j k' j' : Nat} (K J : Nat) {p q : Rat} (h : r.Is k j p w) (h' : t.Is k' j' q w) (hk : k ≤ 40) (hj : j ≤ 40) (hk' : k' ≤ 40) (hj' : j' ≤ 40) (hj1 : 1 ≤ j) (hj1' : 1 ≤ j') (hK : k + j' + 1 ≤ K) (hK' : k' + j + 1 ≤ K) (hJ : j + j' ≤ J) (hK9 : K ≤ 95) (hJ9 : J ≤ 95) : Calls Tryz.prog 29 #[.agg #[.bool r.s, .slice r.a r.n r.c, .slice r.b r.m r.d], .agg #[.bool t.s, .slice t.a t.n t.c, .slice t.b t.m t.d]] w (RatT K J (p + q) w) := by
  obtain ⟨xs, ys, h1, h2, h3, h4, h5⟩ := h; obtain ⟨us, vs, g1, g2, g3, g4, g5⟩ := h'
  exact (addR k j k' j' K J (p + q) p q h1 h2 g1 g2 h3 g3 h4 h5 g4 g5 hk hj hk' hj' hj1 hj1' hK hK' hJ hK9 hJ9 rfl).mono ratK_T
/-- a call that tells a quotient as it should be told, and no error -/
def RatOT (k j : Nat) (q : Rat) (w : World) (e : Ending) (w' : World) : Prop := ∃ r : RV, e = .returned (.tuple #[.agg #[.bool r.s, .slice r.a r.n r.c, .slice r.b r.m r.d], .int .i64 0]) ∧ r.Told k j q w' ∧ Below w.heap.size w w'
theorem ratOk_T {k j : Nat} {q : Rat} {w : World} : ∀ e w', RatOk k j q w e w' → RatOT k j q w e w' := by
  rintro e w' ⟨a, n, c, b, m, d, rfl, hn, hm, h1, h2, hb⟩
  exact ⟨⟨_, a, n, c, b, m, d⟩, rfl, ⟨rfl, h1, h2, hn, hm⟩, hb⟩
theorem div_t {r t : RV} {k j k' j' : Nat} {p q : Rat} (h : r.Is k j p w) (h' : t.Is k' j' q w) (hz : q ≠ 0) (hk : k ≤ 40) (hj : j ≤ 40) (hk' : k' ≤ 40) (hj' : j' ≤ 40) (hj1 : 1 ≤ j) (hj1' : 1 ≤ j') : Calls Tryz.prog 24 #[.agg #[.bool r.s, .slice r.a r.n r.c, .slice r.b r.m r.d], .agg #[.bool t.s, .slice t.a t.n t.c, .slice t.b t.m t.d]] w (RatOT (k + j') (k' + j) (p / q) w) := by
  obtain ⟨xs, ys, h1, h2, h3, h4, h5⟩ := h; obtain ⟨us, vs, g1, g2, g3, g4, g5⟩ := h'
  exact (divR k j k' j' (k + j') (k' + j) (p / q) p q h1 h2 g1 g2 h3 g3 h4 h5 g4 g5 hk hj hk' hj' hj1 hj1' (Nat.le_refl _) (Nat.le_refl _) (by omega) (by omega) hz rfl).mono ratOk_T

end Go.Proofs.YtmoplgfmngohgaaGreat
