/- What areSlopes tells; the boxes of the parts. No condition. · What allKept tells. No condition. -/
import Derived.Test.YtpcpbpinhdbjiaaZFlHToFlJ
namespace Go.Proofs.Ytpcpbpinhdbjiaa
set_option linter.unusedVariables false
set_option linter.unusedSimpArgs false
set_option maxRecDepth 100000
open Go.RowKit

def memvs (x : MemM) (m d r : Option Addr × Nat × Nat) : Array Value := #[.int .i64 x.init.kind, .bool x.init.neg, .slice m.1 m.2.1 m.2.2, .slice d.1 d.2.1 d.2.2, .string x.init.name, .int .i64 x.next, .int .i64 x.guard, .slice r.1 r.2.1 r.2.2]
theorem Blk.mem {w : World} {g T : Nat} {x : MemM} {m d r : Option Addr × Nat × Nat} (h : Blk w g T (memvs x m d r)) : w.cell? ⟨g, 0, none⟩ = some (.int .i64 x.init.kind) ∧ w.cell? ⟨g, 1, none⟩ = some (.bool x.init.neg) ∧ w.cell? ⟨g, 2, none⟩ = some (.slice m.1 m.2.1 m.2.2) ∧ w.cell? ⟨g, 3, none⟩ = some (.slice d.1 d.2.1 d.2.2) ∧ w.cell? ⟨g, 4, none⟩ = some (.string x.init.name) ∧ w.cell? ⟨g, 5, none⟩ = some (.int .i64 x.next) ∧ w.cell? ⟨g, 6, none⟩ = some (.int .i64 x.guard) ∧ w.cell? ⟨g, 7, none⟩ = some (.slice r.1 r.2.1 r.2.2) :=
  ⟨h.cell 0 rfl, h.cell 1 rfl, h.cell 2 rfl, h.cell 3 rfl, h.cell 4 rfl, h.cell 5 rfl, h.cell 6 rfl, h.cell 7 rfl⟩
theorem MemAt.cells {w : World} {B b o : Nat} {x : MemM} (h : MemAt w B b o x) : ∃ m d r : Option Addr × Nat × Nat, URow w B m.1 m.2.1 m.2.2 x.init.mag ∧ URow w B d.1 d.2.1 d.2.2 x.init.den ∧ IRow w B r.1 r.2.1 r.2.2 x.resets ∧ (w.cell? ⟨b, o, none⟩ = some (.int .i64 x.init.kind) ∧ w.cell? ⟨b, o + 1, none⟩ = some (.bool x.init.neg) ∧ w.cell? ⟨b, o + 2, none⟩ = some (.slice m.1 m.2.1 m.2.2) ∧ w.cell? ⟨b, o + 3, none⟩ = some (.slice d.1 d.2.1 d.2.2) ∧ w.cell? ⟨b, o + 4, none⟩ = some (.string x.init.name) ∧ w.cell? ⟨b, o + 5, none⟩ = some (.int .i64 x.next) ∧ w.cell? ⟨b, o + 6, none⟩ = some (.int .i64 x.guard) ∧ w.cell? ⟨b, o + 7, none⟩ = some (.slice r.1 r.2.1 r.2.2)) := by
  obtain ⟨A1, L1, C1, p1, q1⟩ := h.init.mag
  obtain ⟨A2, L2, C2, p2, q2⟩ := h.init.den
  obtain ⟨A3, L3, C3, p3, q3⟩ := h.resets
  exact ⟨(A1, L1, C1), (A2, L2, C2), (A3, L3, C3), q1, q2, q3, h.init.kind.1, h.init.neg, p1, p2, h.init.name.1, h.next.1, h.guard.1, p3⟩
def slopevs (x : SlopeM)  : Array Value := #[.int .i64 x.guard, .int .i64 x.var]
theorem Blk.slope {w : World} {g T : Nat} {x : SlopeM}  (h : Blk w g T (slopevs x )) : w.cell? ⟨g, 0, none⟩ = some (.int .i64 x.guard) ∧ w.cell? ⟨g, 1, none⟩ = some (.int .i64 x.var) :=
  ⟨h.cell 0 rfl, h.cell 1 rfl⟩
theorem SlopeAt.cells {w : World} {B b o : Nat} {x : SlopeM} (h : SlopeAt w B b o x) : (w.cell? ⟨b, o, none⟩ = some (.int .i64 x.guard) ∧ w.cell? ⟨b, o + 1, none⟩ = some (.int .i64 x.var)) := by
  exact ⟨h.guard.1, h.var.1⟩
def contvs (x : ContM) (m d r s : Option Addr × Nat × Nat) : Array Value := #[.int .i64 x.init.kind, .bool x.init.neg, .slice m.1 m.2.1 m.2.2, .slice d.1 d.2.1 d.2.2, .string x.init.name, .int .i64 x.var, .int .i64 x.guard, .slice r.1 r.2.1 r.2.2, .slice s.1 s.2.1 s.2.2]
theorem Blk.cont {w : World} {g T : Nat} {x : ContM} {m d r s : Option Addr × Nat × Nat} (h : Blk w g T (contvs x m d r s)) : w.cell? ⟨g, 0, none⟩ = some (.int .i64 x.init.kind) ∧ w.cell? ⟨g, 1, none⟩ = some (.bool x.init.neg) ∧ w.cell? ⟨g, 2, none⟩ = some (.slice m.1 m.2.1 m.2.2) ∧ w.cell? ⟨g, 3, none⟩ = some (.slice d.1 d.2.1 d.2.2) ∧ w.cell? ⟨g, 4, none⟩ = some (.string x.init.name) ∧ w.cell? ⟨g, 5, none⟩ = some (.int .i64 x.var) ∧ w.cell? ⟨g, 6, none⟩ = some (.int .i64 x.guard) ∧ w.cell? ⟨g, 7, none⟩ = some (.slice r.1 r.2.1 r.2.2) ∧ w.cell? ⟨g, 8, none⟩ = some (.slice s.1 s.2.1 s.2.2) :=
  ⟨h.cell 0 rfl, h.cell 1 rfl, h.cell 2 rfl, h.cell 3 rfl, h.cell 4 rfl, h.cell 5 rfl, h.cell 6 rfl, h.cell 7 rfl, h.cell 8 rfl⟩
theorem ContAt.cells {w : World} {B b o : Nat} {x : ContM} (h : ContAt w B b o x) : ∃ m d r s : Option Addr × Nat × Nat, URow w B m.1 m.2.1 m.2.2 x.init.mag ∧ URow w B d.1 d.2.1 d.2.2 x.init.den ∧ IRow w B r.1 r.2.1 r.2.2 x.resets ∧ SRow 2 SlopeAt w B s.1 s.2.1 s.2.2 x.slopes ∧ (w.cell? ⟨b, o, none⟩ = some (.int .i64 x.init.kind) ∧ w.cell? ⟨b, o + 1, none⟩ = some (.bool x.init.neg) ∧ w.cell? ⟨b, o + 2, none⟩ = some (.slice m.1 m.2.1 m.2.2) ∧ w.cell? ⟨b, o + 3, none⟩ = some (.slice d.1 d.2.1 d.2.2) ∧ w.cell? ⟨b, o + 4, none⟩ = some (.string x.init.name) ∧ w.cell? ⟨b, o + 5, none⟩ = some (.int .i64 x.var) ∧ w.cell? ⟨b, o + 6, none⟩ = some (.int .i64 x.guard) ∧ w.cell? ⟨b, o + 7, none⟩ = some (.slice r.1 r.2.1 r.2.2) ∧ w.cell? ⟨b, o + 8, none⟩ = some (.slice s.1 s.2.1 s.2.2)) := by
  obtain ⟨A1, L1, C1, p1, q1⟩ := h.init.mag
  obtain ⟨A2, L2, C2, p2, q2⟩ := h.init.den
  obtain ⟨A3, L3, C3, p3, q3⟩ := h.resets
  obtain ⟨A4, L4, C4, p4, q4⟩ := h.slopes
  exact ⟨(A1, L1, C1), (A2, L2, C2), (A3, L3, C3), (A4, L4, C4), q1, q2, q3, q4, h.init.kind.1, h.init.neg, p1, p2, h.init.name.1, h.var.1, h.guard.1, p3, p4⟩
def copvs (x : COpM) (r : Option Addr × Nat × Nat) : Array Value := #[.string x.op, .slice r.1 r.2.1 r.2.2]
theorem Blk.cop {w : World} {g T : Nat} {x : COpM} {r : Option Addr × Nat × Nat} (h : Blk w g T (copvs x r)) : w.cell? ⟨g, 0, none⟩ = some (.string x.op) ∧ w.cell? ⟨g, 1, none⟩ = some (.slice r.1 r.2.1 r.2.2) :=
  ⟨h.cell 0 rfl, h.cell 1 rfl⟩
theorem COpAt.cells {w : World} {B b o : Nat} {x : COpM} (h : COpAt w B b o x) : ∃ r : Option Addr × Nat × Nat, IRow w B r.1 r.2.1 r.2.2 x.args ∧ (w.cell? ⟨b, o, none⟩ = some (.string x.op) ∧ w.cell? ⟨b, o + 1, none⟩ = some (.slice r.1 r.2.1 r.2.2)) := by
  obtain ⟨A1, L1, C1, p1, q1⟩ := h.args
  exact ⟨(A1, L1, C1), q1, h.op.1, p1⟩
def crossvs (x : CrossM) (r : Option Addr × Nat × Nat) : Array Value := #[.int .i64 x.guard, .slice r.1 r.2.1 r.2.2]
theorem Blk.cross {w : World} {g T : Nat} {x : CrossM} {r : Option Addr × Nat × Nat} (h : Blk w g T (crossvs x r)) : w.cell? ⟨g, 0, none⟩ = some (.int .i64 x.guard) ∧ w.cell? ⟨g, 1, none⟩ = some (.slice r.1 r.2.1 r.2.2) :=
  ⟨h.cell 0 rfl, h.cell 1 rfl⟩
theorem CrossAt.cells {w : World} {B b o : Nat} {x : CrossM} (h : CrossAt w B b o x) : ∃ r : Option Addr × Nat × Nat, SRow 2 COpAt w B r.1 r.2.1 r.2.2 x.ops ∧ (w.cell? ⟨b, o, none⟩ = some (.int .i64 x.guard) ∧ w.cell? ⟨b, o + 1, none⟩ = some (.slice r.1 r.2.1 r.2.2)) := by
  obtain ⟨A1, L1, C1, p1, q1⟩ := h.ops
  exact ⟨(A1, L1, C1), q1, h.guard.1, p1⟩

/-- what holds while one part is looked at: the program's box, the part's box, the program, and what P says -/
structure St (W0 : World) (B g e T : Nat) (v : FlatV) (f : FlatM) (vs : Array Value) (P : World → Prop) (W : World) : Prop where
  fb : Blk W g 29 (fvs v)
  qb : Blk W e T vs
  is : FlatIs W B v f
  row : P W
  old : Below (g + 1) W0 W
  le : B ≤ g
  keep : ∀ W W', Below B W W' → P W → P W'
theorem St.later {W0 W W' : World} {B g e T : Nat} {v : FlatV} {f : FlatM} {vs : Array Value} {P : World → Prop} (h : St W0 B g e T v f vs P W) (hb : Below W.heap.size W W') : St W0 B g e T v f vs P W' :=
  have hl := h.fb.lt
  have hB : B ≤ W.heap.size := Nat.le_trans h.le (Nat.le_of_lt hl)
  ⟨h.fb.later hb, h.qb.later hb, h.is.below (hb.mono hB), h.keep _ _ (hb.mono hB) h.row, h.old.trans (hb.mono hl), h.le, h.keep⟩
theorem St.hB {W0 W : World} {B g e T : Nat} {v : FlatV} {f : FlatM} {vs : Array Value} {P : World → Prop} (h : St W0 B g e T v f vs P W) : B ≤ W.heap.size := Nat.le_trans h.le (Nat.le_of_lt h.fb.lt)
theorem St.new {W0 W : World} {B g T : Nat} {v : FlatV} {f : FlatM} (vs : Array Value) {P : World → Prop} (hfb : Blk W g 29 (fvs v)) (his : FlatIs W B v f) (ho : Below (g + 1) W0 W) (hB : B ≤ g) (hk : ∀ W W', Below B W W' → P W → P W') (hp : P W) :
    St W0 B g W.heap.size T v f vs P (W.alloc (.cells vs T)) :=
  have hnew : Below W.heap.size W (W.alloc (.cells vs T)) := (Below.refl _ _).alloc (Nat.le_refl _) _
  have hB' : B ≤ W.heap.size := Nat.le_trans hB (Nat.le_of_lt hfb.lt)
  ⟨hfb.later hnew, Blk.new _ _ _, his.below (hnew.mono hB'), hk _ _ (hnew.mono hB') hp, ho.trans (hnew.mono hfb.lt), hB, hk⟩
theorem SRow.below {α : Type} {sz : Nat} {R : World → Nat → Nat → Nat → α → Prop} {w w' : World} {B : Nat} {a : Option Addr} {n c : Nat} {xs : List α} (h : SRow sz R w B a n c xs) (hb : Below B w w') (hR : ∀ b o x, b < B → R w B b o x → R w' B b o x) : SRow sz R w' B a n c xs := h.keep hR

end Go.Proofs.Ytpcpbpinhdbjiaa

namespace Go.Proofs.Ytpcpbpinhdbjiaa
set_option linter.unusedVariables false
set_option linter.unusedSimpArgs false
set_option maxRecDepth 100000
open Go.RowKit

theorem keptB_outs {f : FlatM} (h : wiB f.outs f.names.length = false) : keptB f = false := by unfold keptB; rw [h]; simp
theorem keptB_again {f : FlatM} (h : wiB f.again f.names.length = false) : keptB f = false := by unfold keptB; rw [h]; simp
theorem keptB_mems {f : FlatM} (h : f.mems.all (memB f) = false) : keptB f = false := by unfold keptB; rw [h]; simp
theorem keptB_conts {f : FlatM} (h : f.conts.all (contB f) = false) : keptB f = false := by unfold keptB; rw [h]; simp
theorem keptB_yes {f : FlatM} (h0 : wiB f.outs f.names.length = true) (h1 : wiB f.again f.names.length = true) (h2 : f.mems.all (memB f) = true) (h3 : f.conts.all (contB f) = true) : keptB f = true := by unfold keptB; rw [h0, h1, h2, h3]; rfl

end Go.Proofs.Ytpcpbpinhdbjiaa
