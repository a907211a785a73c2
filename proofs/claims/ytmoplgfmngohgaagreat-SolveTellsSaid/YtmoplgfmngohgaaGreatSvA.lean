/- Numbers as values, and what the operations on them tell. -/
import Derived.Test.YtmoplgfmngohgaaGreatQK
import Derived.Laws.NewBlocks
namespace Go.Proofs.YtmoplgfmngohgaaGreat
set_option linter.unusedVariables false
set_option linter.unusedSimpArgs false
set_option maxRecDepth 100000
open Go.RowKit Nums

/-- block g holds just these values -/
def Blk (w : World) (g T : Nat) (vs : Array Value) : Prop := w.heap[g]? = some (.cells vs T (0, 0))
theorem Blk.cell {w : World} {g T : Nat} {vs : Array Value} (h : Blk w g T vs) (i : Nat) {v : Value} (hv : vs[i]? = some v) : w.cell? ⟨g, i, none⟩ = some v := by
  rw [cell_of_row _ _ _ vs T (0, 0) h]; exact hv
theorem Blk.free {w : World} {g T : Nat} {vs : Array Value} (h : Blk w g T vs) (i : Nat) : w.frozen? ⟨g, i, none⟩ = false := frozen_of_row w g i _ T h
theorem Blk.lt {w : World} {g T : Nat} {vs : Array Value} (h : Blk w g T vs) : g < w.heap.size := (Array.getElem?_eq_some_iff.1 h).1
theorem Blk.below {w w' : World} {B g T : Nat} {vs : Array Value} (h : Blk w g T vs) (hb : Below B w w') (hg : g < B) : Blk w' g T vs := (hb.block g hg).trans h
theorem Blk.later {w w' : World} {g T : Nat} {vs : Array Value} (h : Blk w g T vs) (hb : Below w.heap.size w w') : Blk w' g T vs := h.below hb h.lt
theorem Blk.new (w : World) (T : Nat) (vs : Array Value) : Blk (w.alloc (.cells vs T)) w.heap.size T vs := heap_alloc_new w _
theorem Blk.alloc {w : World} {g T : Nat} {vs : Array Value} (h : Blk w g T vs) (o : Obj) : Blk (w.alloc o) g T vs := h.later ((Below.refl _ _).alloc (Nat.le_refl _) o)
theorem Blk.drew {w : World} {g T : Nat} {vs : Array Value} (h : Blk w g T vs) : Blk w.drew g T vs := h.later (Below.refl _ _).drew
theorem Blk.tri {w : World} {g T : Nat} {u v x : Value} (h : Blk w g T #[u, v, x]) : Tri w g u v x :=
  ⟨h.cell 0 rfl, h.cell 1 rfl, h.cell 2 rfl, h.free 0, h.free 1, h.free 2, h.lt⟩
theorem Blk.sev {w : World} {g T : Nat} {x0 x1 x2 x3 x4 x5 x6 : Value} (h : Blk w g T #[x0, x1, x2, x3, x4, x5, x6]) : w.cell? ⟨g, 0, none⟩ = some x0 ∧ w.cell? ⟨g, 1, none⟩ = some x1 ∧ w.cell? ⟨g, 2, none⟩ = some x2 ∧ w.cell? ⟨g, 3, none⟩ = some x3 ∧ w.cell? ⟨g, 4, none⟩ = some x4 ∧ w.cell? ⟨g, 5, none⟩ = some x5 ∧ w.cell? ⟨g, 6, none⟩ = some x6 := ⟨h.cell 0 rfl, h.cell 1 rfl, h.cell 2 rfl, h.cell 3 rfl, h.cell 4 rfl, h.cell 5 rfl, h.cell 6 rfl⟩

/-- a number's parts, as values -/
structure RV where
  s : Bool
  a : Option Addr
  n : Nat
  c : Nat
  b : Option Addr
  m : Nat
  d : Nat
/-- they tell q, in k and j limbs at most -/
def RV.Is (r : RV) (k j : Nat) (q : Rat) (w : World) : Prop := ∃ xs ys, Row w r.a r.n r.c xs ∧ Row w r.b r.m r.d ys ∧ mkRat (sv r.s (val xs)) (val ys) = q ∧ r.n ≤ k ∧ r.m ≤ j
theorem RV.Is.later {r : RV} {k j : Nat} {q : Rat} {w w' : World} (h : r.Is k j q w) (hb : Below w.heap.size w w') : r.Is k j q w' := by
  obtain ⟨xs, ys, h1, h2, h3⟩ := h; exact ⟨xs, ys, h1.later hb, h2.later hb, h3⟩
theorem RV.Is.more {r : RV} {k j k' j' : Nat} {q : Rat} {w : World} (h : r.Is k j q w) (hk : k ≤ k') (hj : j ≤ j') : r.Is k' j' q w := by
  obtain ⟨xs, ys, h1, h2, h3, h4, h5⟩ := h; exact ⟨xs, ys, h1, h2, h3, Nat.le_trans h4 hk, Nat.le_trans h5 hj⟩
/-- a call that tells a number -/
def RatV (k j : Nat) (q : Rat) (w : World) (e : Ending) (w' : World) : Prop := ∃ r : RV, e = .returned (.agg #[.bool r.s, .slice r.a r.n r.c, .slice r.b r.m r.d]) ∧ r.Is k j q w' ∧ Below w.heap.size w w'
theorem ratK_V {k j : Nat} {q : Rat} {w : World} : ∀ e w', RatK k j q w e w' → RatV k j q w e w' := by
  rintro e w' ⟨a, n, c, b, m, d, rfl, hn, hm, h1, h2, hb⟩
  exact ⟨⟨_, a, n, c, b, m, d⟩, rfl, ⟨_, _, h1, h2, rat_limbs q, hn, hm⟩, hb⟩

/-- a sign -/
theorem sgnR_cases (p : Rat) : (p < 0 ∧ sgn p.num = -1) ∨ (p = 0 ∧ sgn p.num = 0) ∨ (0 < p ∧ sgn p.num = 1) := by
  rcases (show p < 0 ∨ p = 0 ∨ 0 < p by grind) with h | h | h
  · exact .inl ⟨h, by unfold sgn; rw [if_pos (num_neg' h)]⟩
  · exact .inr (.inl ⟨h, sgn_zero_num.2 h⟩)
  · exact .inr (.inr ⟨h, by have := num_pos' h; unfold sgn; rw [if_neg (by omega), if_pos this]⟩)

section ops
variable {w : World}
theorem sign_v {r : RV} {k j : Nat} {q : Rat} (T : Int) (h : r.Is k j q w) (hT : sgn q.num = T) (hk : k ≤ 95) (hj : j ≤ 95) : Calls Tryz.prog 20 #[.agg #[.bool r.s, .slice r.a r.n r.c, .slice r.b r.m r.d]] w fun e w' => e = .returned (.int .i64 T) ∧ Below w.heap.size w w' := by
  obtain ⟨xs, ys, h1, h2, h3, h4, h5⟩ := h; exact signR T q h1 h2 h3 (by omega) (by omega) hT
theorem rsign_v {r : RV} {k j : Nat} {q : Rat} (T : Int) (h : r.Is k j q w) (hT : sgn q.num = T) (hk : k ≤ 60) (hj : j ≤ 60) : Calls Tryz.prog 21 #[.agg #[.bool r.s, .slice r.a r.n r.c, .slice r.b r.m r.d]] w fun e w' => e = .returned (.int .i64 T) ∧ Below w.heap.size w w' := by
  obtain ⟨xs, ys, h1, h2, h3, h4, h5⟩ := h; exact rsignR 60 60 T q h1 h2 h3 (by omega) (by omega) (by omega) (by omega) (by omega) (by omega) hT
theorem cmp_v {r t : RV} {k j k' j' : Nat} {p q : Rat} (T : Int) (h : r.Is k j p w) (h' : t.Is k' j' q w) (hT : cmpR p q = T) (hk : k ≤ 45) (hj : j ≤ 45) (hk' : k' ≤ 45) (hj' : j' ≤ 45) : Calls Tryz.prog 17 #[.agg #[.bool r.s, .slice r.a r.n r.c, .slice r.b r.m r.d], .agg #[.bool t.s, .slice t.a t.n t.c, .slice t.b t.m t.d]] w fun e w' => e = .returned (.int .i64 T) ∧ Below w.heap.size w w' := by
  obtain ⟨xs, ys, h1, h2, h3, h4, h5⟩ := h; obtain ⟨us, vs, g1, g2, g3, g4, g5⟩ := h'; exact cmpRat T p q h1 h2 g1 g2 h3 g3 (by omega) (by omega) (by omega) (by omega) hT
theorem rcmp_v {r t : RV} {k j k' j' : Nat} {p q : Rat} (T : Int) (h : r.Is k j p w) (h' : t.Is k' j' q w) (hT : cmpR p q = T) (hk : k ≤ 20) (hj : j ≤ 20) (hk' : k' ≤ 20) (hj' : j' ≤ 20) : Calls Tryz.prog 18 #[.agg #[.bool r.s, .slice r.a r.n r.c, .slice r.b r.m r.d], .agg #[.bool t.s, .slice t.a t.n t.c, .slice t.b t.m t.d]] w fun e w' => e = .returned (.int .i64 T) ∧ Below w.heap.size w w' := by
  obtain ⟨xs, ys, h1, h2, h3, h4, h5⟩ := h; obtain ⟨us, vs, g1, g2, g3, g4, g5⟩ := h'
  exact rcmpR 20 20 20 20 41 40 T p q h1 h2 g1 g2 h3 g3 (by omega) (by omega) (by omega) (by omega) (by omega) (by omega) (by omega) (by omega) (by omega) (by omega) (by omega) (by omega) (by omega) (by omega) (by omega) (by omega) (by omega) hT
theorem neg_v {r : RV} {k j : Nat} {p : Rat} (h : r.Is k j p w) (hk : k ≤ 95) (hj : j ≤ 95) (hj1 : 1 ≤ j) : Calls Tryz.prog 25 #[.agg #[.bool r.s, .slice r.a r.n r.c, .slice r.b r.m r.d]] w (RatV k j (-p) w) := by
  obtain ⟨xs, ys, h1, h2, h3, h4, h5⟩ := h; exact (negR k j (-p) h1 h2 (by rw [h3, Rat.neg_neg]) h4 h5 hk hj1 hj).mono ratK_V
theorem mul_v {r t : RV} {k j k' j' : Nat} {p q : Rat} (h : r.Is k j p w) (h' : t.Is k' j' q w) (hk : k ≤ 40) (hj : j ≤ 40) (hk' : k' ≤ 40) (hj' : j' ≤ 40) (hj1 : 1 ≤ j) : Calls Tryz.prog 30 #[.agg #[.bool r.s, .slice r.a r.n r.c, .slice r.b r.m r.d], .agg #[.bool t.s, .slice t.a t.n t.c, .slice t.b t.m t.d]] w (RatV (k + k') (j + j') (p * q) w) := by
  obtain ⟨xs, ys, h1, h2, h3, h4, h5⟩ := h; obtain ⟨us, vs, g1, g2, g3, g4, g5⟩ := h'
  exact (mulR (k + k') (j + j') (p * q) p q h1 h2 g1 g2 h3 g3 (by omega) (by omega) (by omega) (by omega) (by omega) (by omega) (by omega) (by omega) (by omega) rfl).mono ratK_V
theorem add_v {r t : RV} {k j k' j' : Nat} (K J : Nat) {p q : Rat} (h : r.Is k j p w) (h' : t.Is k' j' q w) (hk : k ≤ 40) (hj : j ≤ 40) (hk' : k' ≤ 40) (hj' : j' ≤ 40) (hj1 : 1 ≤ j) (hj1' : 1 ≤ j') (hK : k + j' + 1 ≤ K) (hK' : k' + j + 1 ≤ K) (hJ : j + j' ≤ J) (hK9 : K ≤ 95) (hJ9 : J ≤ 95) : Calls Tryz.prog 29 #[.agg #[.bool r.s, .slice r.a r.n r.c, .slice r.b r.m r.d], .agg #[.bool t.s, .slice t.a t.n t.c, .slice t.b t.m t.d]] w (RatV K J (p + q) w) := by
  obtain ⟨xs, ys, h1, h2, h3, h4, h5⟩ := h; obtain ⟨us, vs, g1, g2, g3, g4, g5⟩ := h'
  exact (addR k j k' j' K J (p + q) p q h1 h2 g1 g2 h3 g3 h4 h5 g4 g5 hk hj hk' hj' hj1 hj1' hK hK' hJ hK9 hJ9 rfl).mono ratK_V
/-- a call that tells a quotient, and no error -/
def RatO (k j : Nat) (q : Rat) (w : World) (e : Ending) (w' : World) : Prop := ∃ r : RV, e = .returned (.tuple #[.agg #[.bool r.s, .slice r.a r.n r.c, .slice r.b r.m r.d], .int .i64 0]) ∧ r.Is k j q w' ∧ Below w.heap.size w w'
theorem div_v {r t : RV} {k j k' j' : Nat} {p q : Rat} (h : r.Is k j p w) (h' : t.Is k' j' q w) (hz : q ≠ 0) (hk : k ≤ 40) (hj : j ≤ 40) (hk' : k' ≤ 40) (hj' : j' ≤ 40) (hj1 : 1 ≤ j) (hj1' : 1 ≤ j') : Calls Tryz.prog 24 #[.agg #[.bool r.s, .slice r.a r.n r.c, .slice r.b r.m r.d], .agg #[.bool t.s, .slice t.a t.n t.c, .slice t.b t.m t.d]] w (RatO (k + j') (k' + j) (p / q) w) := by
  obtain ⟨xs, ys, h1, h2, h3, h4, h5⟩ := h; obtain ⟨us, vs, g1, g2, g3, g4, g5⟩ := h'
  refine (divR k j k' j' (k + j') (k' + j) (p / q) p q h1 h2 g1 g2 h3 g3 h4 h5 g4 g5 hk hj hk' hj' hj1 hj1' (Nat.le_refl _) (Nat.le_refl _) (by omega) (by omega) hz rfl).mono ?_
  rintro e w' ⟨a, n, c, b, m, d, rfl, hn, hm, h1, h2, hb⟩
  exact ⟨⟨_, a, n, c, b, m, d⟩, rfl, ⟨_, _, h1, h2, rat_limbs _, hn, hm⟩, hb⟩
theorem of_v (Z : Int) (h0 : -9223372036854775808 ≤ Z) (h1 : Z < 9223372036854775808) : Calls Tryz.prog 28 #[.int .i64 Z] w (RatV 2 1 (Z : Rat) w) := (ofR 2 Z w h0 h1 (len_of (Nat.lt_of_le_of_lt (show Z.natAbs ≤ 9223372036854775808 by omega) (by decide)))).mono ratK_V
end ops

end Go.Proofs.YtmoplgfmngohgaaGreat
