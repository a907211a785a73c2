/- What hasPlace tells. No condition. · What allEqs tells. No condition. -/
import Derived.Test.YtpcpbpinhdbjiaaZFlE
namespace Go.Proofs.Ytpcpbpinhdbjiaa
set_option linter.unusedVariables false
set_option linter.unusedSimpArgs false
set_option maxRecDepth 100000
open Go.RowKit

theorem kL_0 (k : Int) (li lm lc lx : Nat) : kL (bs [105, 110]) k li lm lc lx = plB k li := rfl
theorem kL_1 (k : Int) (li lm lc lx : Nat) : kL (bs [109, 101, 109]) k li lm lc lx = plB k lm := rfl
theorem kL_2 (k : Int) (li lm lc lx : Nat) : kL (bs [99, 111, 110, 116]) k li lm lc lx = plB k lc := rfl
theorem kL_3 (k : Int) (li lm lc lx : Nat) : kL (bs [102, 108, 97, 103]) k li lm lc lx = plB k lx := rfl
theorem kL_no (op : ByteArray) (k : Int) (li lm lc lx : Nat) (h0 : ¬ op = bs [105, 110]) (h1 : ¬ op = bs [109, 101, 109]) (h2 : ¬ op = bs [99, 111, 110, 116]) (h3 : ¬ op = bs [102, 108, 97, 103]) : kL op k li lm lc lx = true := by
  unfold kL opIn opMem opCont opFlag
  rw [if_neg h0, if_neg h1, if_neg h2, if_neg h3]
end Go.Proofs.Ytpcpbpinhdbjiaa

namespace Go.Proofs.Ytpcpbpinhdbjiaa
set_option linter.unusedVariables false
set_option linter.unusedSimpArgs false
set_option maxRecDepth 100000
open Go.RowKit

theorem FEqAt.cells {w : World} {B b o : Nat} {q : FEqM} (h : FEqAt w B b o q) : ∃ a m d : Option Addr × Nat × Nat, IRow w B a.1 a.2.1 a.2.2 q.args ∧ URow w B m.1 m.2.1 m.2.2 q.lit.mag ∧ URow w B d.1 d.2.1 d.2.2 q.lit.den ∧
    (w.cell? ⟨b, o, none⟩ = some (.int .i64 q.var) ∧ w.cell? ⟨b, o + 1, none⟩ = some (.string q.op) ∧ w.cell? ⟨b, o + 2, none⟩ = some (.slice a.1 a.2.1 a.2.2) ∧ w.cell? ⟨b, o + 3, none⟩ = some (.int .i64 q.k) ∧ w.cell? ⟨b, o + 4, none⟩ = some (.int .i64 q.lit.kind) ∧
     w.cell? ⟨b, o + 5, none⟩ = some (.bool q.lit.neg) ∧ w.cell? ⟨b, o + 6, none⟩ = some (.slice m.1 m.2.1 m.2.2) ∧ w.cell? ⟨b, o + 7, none⟩ = some (.slice d.1 d.2.1 d.2.2) ∧ w.cell? ⟨b, o + 8, none⟩ = some (.string q.lit.name) ∧ w.cell? ⟨b, o + 9, none⟩ = some (.int .i64 q.guard)) := by
  obtain ⟨A, L, C, h1, h2⟩ := h.args
  obtain ⟨A', L', C', h3, h4⟩ := h.lit.mag
  obtain ⟨A'', L'', C'', h5, h6⟩ := h.lit.den
  exact ⟨(A, L, C), (A', L', C'), (A'', L'', C''), h2, h4, h6, h.var.1, h.op.1, h1, h.k.1, h.lit.kind.1, h.lit.neg, h3, h5, h.lit.name.1, h.guard.1⟩
theorem eqB_of {f : FlatM} {v : FlatV} {q : FEqM} {n : Nat} (hn : f.names.length = v.names.2.1) (ha : q.args.length = n) (hl : f.ins.length = v.ins.2.1) (hm : f.mems.length = v.mems.2.1) (hc : f.conts.length = v.conts.2.1) (hx : f.cross.length = v.cross.2.1) :
    eqB f q = (guB q.guard v.names.2.1 && wiB q.args v.names.2.1 && enB q.op n && kL q.op q.k v.ins.2.1 v.mems.2.1 v.conts.2.1 v.cross.2.1) := by
  unfold eqB kB; rw [hn, ha, hl, hm, hc, hx]

/-- block g is these cells -/
def Blk (w : World) (g T : Nat) (vs : Array Value) : Prop := w.heap[g]? = some (.cells vs T (0, 0))
theorem Blk.cell {w : World} {g T : Nat} {vs : Array Value} (h : Blk w g T vs) (i : Nat) {v : Value} (hv : vs[i]? = some v) : w.cell? ⟨g, i, none⟩ = some v := by
  rw [cell_of_row w g i _ T (0, 0) h]; exact hv
theorem Blk.free {w : World} {g T : Nat} {vs : Array Value} (h : Blk w g T vs) (i : Nat) : w.frozen? ⟨g, i, none⟩ = false := frozen_of_row w g i _ T h
theorem Blk.lt {w : World} {g T : Nat} {vs : Array Value} (h : Blk w g T vs) : g < w.heap.size := (Array.getElem?_eq_some_iff.1 h).1
theorem Blk.below {w w' : World} {B g T : Nat} {vs : Array Value} (h : Blk w g T vs) (hb : Below B w w') (hg : g < B) : Blk w' g T vs := (hb.block g hg).trans h
theorem Blk.later {w w' : World} {g T : Nat} {vs : Array Value} (h : Blk w g T vs) (hb : Below w.heap.size w w') : Blk w' g T vs := h.below hb h.lt
theorem Blk.new (w : World) (T : Nat) (vs : Array Value) : Blk (w.alloc (.cells vs T)) w.heap.size T vs := heap_alloc_new w _
theorem Blk.alloc {w : World} {g T : Nat} {vs : Array Value} (h : Blk w g T vs) (o : Obj) : Blk (w.alloc o) g T vs := h.later ((Below.refl _ _).alloc (Nat.le_refl _) o)
/-- the cells of a flat program's value -/
def fvs (v : FlatV) : Array Value := #[.slice v.ins.1 v.ins.2.1 v.ins.2.2, .slice v.names.1 v.names.2.1 v.names.2.2, .slice v.outs.1 v.outs.2.1 v.outs.2.2, .slice v.eqs.1 v.eqs.2.1 v.eqs.2.2, .slice v.mems.1 v.mems.2.1 v.mems.2.2, .slice v.conts.1 v.conts.2.1 v.conts.2.2, .slice v.cross.1 v.cross.2.1 v.cross.2.2, .slice v.again.1 v.again.2.1 v.again.2.2]
theorem Blk.flat {w : World} {g : Nat} {v : FlatV} (h : Blk w g 29 (fvs v)) :
    w.cell? ⟨g, 0, none⟩ = some (.slice v.ins.1 v.ins.2.1 v.ins.2.2) ∧ w.cell? ⟨g, 1, none⟩ = some (.slice v.names.1 v.names.2.1 v.names.2.2) ∧ w.cell? ⟨g, 2, none⟩ = some (.slice v.outs.1 v.outs.2.1 v.outs.2.2) ∧ w.cell? ⟨g, 3, none⟩ = some (.slice v.eqs.1 v.eqs.2.1 v.eqs.2.2) ∧
    w.cell? ⟨g, 4, none⟩ = some (.slice v.mems.1 v.mems.2.1 v.mems.2.2) ∧ w.cell? ⟨g, 5, none⟩ = some (.slice v.conts.1 v.conts.2.1 v.conts.2.2) ∧ w.cell? ⟨g, 6, none⟩ = some (.slice v.cross.1 v.cross.2.1 v.cross.2.2) ∧ w.cell? ⟨g, 7, none⟩ = some (.slice v.again.1 v.again.2.1 v.again.2.2) :=
  ⟨h.cell 0 rfl, h.cell 1 rfl, h.cell 2 rfl, h.cell 3 rfl, h.cell 4 rfl, h.cell 5 rfl, h.cell 6 rfl, h.cell 7 rfl⟩
/-- the cells of an equation's value -/
def qvs (q : FEqM) (a m d : Option Addr × Nat × Nat) : Array Value := #[.int .i64 q.var, .string q.op, .slice a.1 a.2.1 a.2.2, .int .i64 q.k, .int .i64 q.lit.kind, .bool q.lit.neg, .slice m.1 m.2.1 m.2.2, .slice d.1 d.2.1 d.2.2, .string q.lit.name, .int .i64 q.guard]
theorem Blk.eq {w : World} {g : Nat} {q : FEqM} {a m d : Option Addr × Nat × Nat} (h : Blk w g 52 (qvs q a m d)) :
    w.cell? ⟨g, 0, none⟩ = some (.int .i64 q.var) ∧ w.cell? ⟨g, 1, none⟩ = some (.string q.op) ∧ w.cell? ⟨g, 2, none⟩ = some (.slice a.1 a.2.1 a.2.2) ∧ w.cell? ⟨g, 3, none⟩ = some (.int .i64 q.k) ∧ w.cell? ⟨g, 4, none⟩ = some (.int .i64 q.lit.kind) ∧
     w.cell? ⟨g, 5, none⟩ = some (.bool q.lit.neg) ∧ w.cell? ⟨g, 6, none⟩ = some (.slice m.1 m.2.1 m.2.2) ∧ w.cell? ⟨g, 7, none⟩ = some (.slice d.1 d.2.1 d.2.2) ∧ w.cell? ⟨g, 8, none⟩ = some (.string q.lit.name) ∧ w.cell? ⟨g, 9, none⟩ = some (.int .i64 q.guard) :=
  ⟨h.cell 0 rfl, h.cell 1 rfl, h.cell 2 rfl, h.cell 3 rfl, h.cell 4 rfl, h.cell 5 rfl, h.cell 6 rfl, h.cell 7 rfl, h.cell 8 rfl, h.cell 9 rfl⟩

/-- what holds while one equation is looked at: the program's box, the equation's box, the program itself -/
structure EqSt (W0 : World) (B g e : Nat) (v : FlatV) (f : FlatM) (q : FEqM) (a m d : Option Addr × Nat × Nat) (W : World) : Prop where
  fb : Blk W g 29 (fvs v)
  qb : Blk W e 52 (qvs q a m d)
  is : FlatIs W B v f
  row : IRow W B a.1 a.2.1 a.2.2 q.args
  old : Below (g + 1) W0 W
  le : B ≤ g
theorem EqSt.later {W0 W W' : World} {B g e : Nat} {v : FlatV} {f : FlatM} {q : FEqM} {a m d : Option Addr × Nat × Nat} (h : EqSt W0 B g e v f q a m d W) (hb : Below W.heap.size W W') : EqSt W0 B g e v f q a m d W' :=
  have hl := h.fb.lt
  have hB : B ≤ W.heap.size := Nat.le_trans h.le (Nat.le_of_lt hl)
  ⟨h.fb.later hb, h.qb.later hb, h.is.below (hb.mono hB), h.row.below (hb.mono hB), h.old.trans (hb.mono hl), h.le⟩
theorem EqSt.hB {W0 W : World} {B g e : Nat} {v : FlatV} {f : FlatM} {q : FEqM} {a m d : Option Addr × Nat × Nat} (h : EqSt W0 B g e v f q a m d W) : B ≤ W.heap.size := Nat.le_trans h.le (Nat.le_of_lt h.fb.lt)
end Go.Proofs.Ytpcpbpinhdbjiaa
