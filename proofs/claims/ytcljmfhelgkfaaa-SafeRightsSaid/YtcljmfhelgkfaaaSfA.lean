/- What it says that object code lies in memory, and its reader. No condition. -/
import Derived.Test.YtcljmfhelgkfaaaSfM
import Derived.Test.YtcljmfhelgkfaaaFlB
namespace Go.Proofs.Ytcljmfhelgkfaaa
set_option linter.unusedVariables false
set_option linter.unusedSimpArgs false
set_option maxRecDepth 100000
open Go.RowKit

/-- block g is these cells -/
def Blk (w : World) (g T : Nat) (vs : Array Value) : Prop := w.heap[g]? = some (.cells vs T (0, 0))
theorem Blk.cell {w : World} {g T : Nat} {vs : Array Value} (h : Blk w g T vs) (i : Nat) {v : Value} (hv : vs[i]? = some v) : w.cell? ⟨g, i, none⟩ = some v := by
  rw [cell_of_row w g i _ T (0, 0) h]; exact hv
theorem Blk.free {w : World} {g T : Nat} {vs : Array Value} (h : Blk w g T vs) (i : Nat) : w.frozen? ⟨g, i, none⟩ = false := frozen_of_row w g i _ T h
theorem Blk.lt {w : World} {g T : Nat} {vs : Array Value} (h : Blk w g T vs) : g < w.heap.size := (Array.getElem?_eq_some_iff.1 h).1
theorem Blk.below {w w' : World} {B g T : Nat} {vs : Array Value} (h : Blk w g T vs) (hb : Below B w w') (hg : g < B) : Blk w' g T vs := (hb.block g hg).trans h
theorem Blk.only {w w' : World} {g T : Nat} {vs : Array Value} {S : List (Option Nat)} (h : Blk w g T vs) (hb : Only S w w') (hg : some g ∉ S) : Blk w' g T vs := (hb.block g h.lt hg).trans h
theorem Blk.later {w w' : World} {g T : Nat} {vs : Array Value} (h : Blk w g T vs) (hb : Below w.heap.size w w') : Blk w' g T vs := h.below hb h.lt
theorem Blk.new (w : World) (T : Nat) (vs : Array Value) : Blk (w.alloc (.cells vs T)) w.heap.size T vs := heap_alloc_new w _
theorem Blk.alloc {w : World} {g T : Nat} {vs : Array Value} (h : Blk w g T vs) (o : Obj) : Blk (w.alloc o) g T vs := h.later ((Below.refl _ _).alloc (Nat.le_refl _) o)
/-- an instruction lies from a cell on -/
structure InsAt (w : World) (B b o : Nat) (q : InsP) : Prop where
  op : StrAt w B b o q.op
  dst : IntAt w B b (o + 1) q.dst
  args : IsAt w B b (o + 2) q.args
  k : IntAt w B b (o + 3) q.k
  lit : ValAt w B b (o + 4) q.lit
  guard : IntAt w B b (o + 9) q.guard
  resets : IsAt w B b (o + 10) q.resets
theorem InsAt.keep {w w' : World} {B b o : Nat} {v : InsP} (h : InsAt w B b o v) (hb : b < B) (hk : ∀ p : Addr, p.block < B → w'.cell? p = w.cell? p) : InsAt w' B b o v :=
  ⟨h.op.keep hb hk, h.dst.keep hb hk, h.args.keep hb hk, h.k.keep hb hk, h.lit.keep hb hk, h.guard.keep hb hk, h.resets.keep hb hk⟩
/-- an instruction's cells -/
def ics (q : InsP) (a m d r : Option Addr × Nat × Nat) : Array Value := #[.string q.op, .int .i64 q.dst, .slice a.1 a.2.1 a.2.2, .int .i64 q.k, .int .i64 q.lit.kind, .bool q.lit.neg, .slice m.1 m.2.1 m.2.2, .slice d.1 d.2.1 d.2.2, .string q.lit.name, .int .i64 q.guard, .slice r.1 r.2.1 r.2.2]
def insV (q : InsP) (a m d r : Option Addr × Nat × Nat) : Value := .agg #[.string q.op, .int .i64 q.dst, .slice a.1 a.2.1 a.2.2, .int .i64 q.k, .int .i64 q.lit.kind, .bool q.lit.neg, .slice m.1 m.2.1 m.2.2, .slice d.1 d.2.1 d.2.2, .string q.lit.name, .int .i64 q.guard, .slice r.1 r.2.1 r.2.2]
/-- its parts lie below a block -/
structure InsW (w : World) (B : Nat) (q : InsP) (a m d r : Option Addr × Nat × Nat) : Prop where
  args : IRow w B a.1 a.2.1 a.2.2 q.args
  resets : IRow w B r.1 r.2.1 r.2.2 q.resets
  size : q.op.size ≤ maxLen
  dst : -9223372036854775808 ≤ q.dst ∧ q.dst ≤ 9223372036854775807
  k : -9223372036854775808 ≤ q.k ∧ q.k ≤ 9223372036854775807
  guard : -9223372036854775808 ≤ q.guard ∧ q.guard ≤ 9223372036854775807
theorem InsW.keep {w w' : World} {B : Nat} {q : InsP} {a m d r : Option Addr × Nat × Nat} (h : InsW w B q a m d r) (hb : Below B w w') : InsW w' B q a m d r :=
  { h with args := h.args.below hb, resets := h.resets.below hb }
theorem InsW.only {w w' : World} {B : Nat} {q : InsP} {a m d r : Option Addr × Nat × Nat} (h : InsW w B q a m d r) (hb : ∀ p : Addr, p.block < B → w'.cell? p = w.cell? p) : InsW w' B q a m d r :=
  { h with args := h.args.keep hb, resets := h.resets.keep hb }
theorem InsAt.cells {w : World} {B b o : Nat} {q : InsP} (h : InsAt w B b o q) : ∃ a m d r : Option Addr × Nat × Nat, InsW w B q a m d r ∧ URow w B m.1 m.2.1 m.2.2 q.lit.mag ∧ URow w B d.1 d.2.1 d.2.2 q.lit.den ∧ q.lit.name.size ≤ maxLen ∧
    (w.cell? ⟨b, o, none⟩ = some (.string q.op) ∧ w.cell? ⟨b, o + 1, none⟩ = some (.int .i64 q.dst) ∧ w.cell? ⟨b, o + 2, none⟩ = some (.slice a.1 a.2.1 a.2.2) ∧ w.cell? ⟨b, o + 3, none⟩ = some (.int .i64 q.k) ∧ w.cell? ⟨b, o + 4, none⟩ = some (.int .i64 q.lit.kind) ∧ w.cell? ⟨b, o + 5, none⟩ = some (.bool q.lit.neg) ∧ w.cell? ⟨b, o + 6, none⟩ = some (.slice m.1 m.2.1 m.2.2) ∧ w.cell? ⟨b, o + 7, none⟩ = some (.slice d.1 d.2.1 d.2.2) ∧ w.cell? ⟨b, o + 8, none⟩ = some (.string q.lit.name) ∧ w.cell? ⟨b, o + 9, none⟩ = some (.int .i64 q.guard) ∧ w.cell? ⟨b, o + 10, none⟩ = some (.slice r.1 r.2.1 r.2.2)) := by
  obtain ⟨A, L, C, h1, h2⟩ := h.args
  obtain ⟨A', L', C', h3, h4⟩ := h.lit.mag
  obtain ⟨A'', L'', C'', h5, h6⟩ := h.lit.den
  obtain ⟨A3, L3, C3, h7, h8⟩ := h.resets
  exact ⟨(A, L, C), (A', L', C'), (A'', L'', C''), (A3, L3, C3), ⟨h2, h8, h.op.2, h.dst.2, h.k.2, h.guard.2⟩, h4, h6, h.lit.name.2, h.op.1, h.dst.1, h1, h.k.1, h.lit.kind.1, h.lit.neg, h3, h5, h.lit.name.1, h.guard.1, h7⟩
/-- its own copy of an instruction, in a block -/
theorem Blk.elev {w : World} {g T : Nat} {q : InsP} {a m d r : Option Addr × Nat × Nat} (h : Blk w g T (ics q a m d r)) : w.cell? ⟨g, 0, none⟩ = some (.string q.op) ∧ w.cell? ⟨g, 1, none⟩ = some (.int .i64 q.dst) ∧ w.cell? ⟨g, 2, none⟩ = some (.slice a.1 a.2.1 a.2.2) ∧ w.cell? ⟨g, 3, none⟩ = some (.int .i64 q.k) ∧ w.cell? ⟨g, 4, none⟩ = some (.int .i64 q.lit.kind) ∧ w.cell? ⟨g, 5, none⟩ = some (.bool q.lit.neg) ∧ w.cell? ⟨g, 6, none⟩ = some (.slice m.1 m.2.1 m.2.2) ∧ w.cell? ⟨g, 7, none⟩ = some (.slice d.1 d.2.1 d.2.2) ∧ w.cell? ⟨g, 8, none⟩ = some (.string q.lit.name) ∧ w.cell? ⟨g, 9, none⟩ = some (.int .i64 q.guard) ∧ w.cell? ⟨g, 10, none⟩ = some (.slice r.1 r.2.1 r.2.2) :=
  ⟨h.cell 0 rfl, h.cell 1 rfl, h.cell 2 rfl, h.cell 3 rfl, h.cell 4 rfl, h.cell 5 rfl, h.cell 6 rfl, h.cell 7 rfl, h.cell 8 rfl, h.cell 9 rfl, h.cell 10 rfl⟩
/-- five slices of object code -/
structure CodeV where
  mems : Option Addr × Nat × Nat
  conts : Option Addr × Nat × Nat
  step : Option Addr × Nat × Nat
  deriv : Option Addr × Nat × Nat
  cross : Option Addr × Nat × Nat
def cvs (c : CodeM) (v : CodeV) : Array Value := #[.int .i64 c.ins, .int .i64 c.outs, .int .i64 c.slots, .int .i64 c.crosses, .int .i64 c.lines, .slice v.mems.1 v.mems.2.1 v.mems.2.2, .slice v.conts.1 v.conts.2.1 v.conts.2.2, .slice v.step.1 v.step.2.1 v.step.2.2, .slice v.deriv.1 v.deriv.2.1 v.deriv.2.2, .slice v.cross.1 v.cross.2.1 v.cross.2.2]
def codeV (c : CodeM) (v : CodeV) : Value := .agg #[.int .i64 c.ins, .int .i64 c.outs, .int .i64 c.slots, .int .i64 c.crosses, .int .i64 c.lines, .slice v.mems.1 v.mems.2.1 v.mems.2.2, .slice v.conts.1 v.conts.2.1 v.conts.2.2, .slice v.step.1 v.step.2.1 v.step.2.2, .slice v.deriv.1 v.deriv.2.1 v.deriv.2.2, .slice v.cross.1 v.cross.2.1 v.cross.2.2]
/-- object code lies below a block -/
structure CodeIs (w : World) (B : Nat) (c : CodeM) (v : CodeV) : Prop where
  ins : -9223372036854775808 ≤ c.ins ∧ c.ins ≤ 9223372036854775807
  outs : -9223372036854775808 ≤ c.outs ∧ c.outs ≤ 9223372036854775807
  slots : -9223372036854775808 ≤ c.slots ∧ c.slots ≤ 9223372036854775807
  crosses : -9223372036854775808 ≤ c.crosses ∧ c.crosses ≤ 9223372036854775807
  lines : -9223372036854775808 ≤ c.lines ∧ c.lines ≤ 9223372036854775807
  mems : SRow 5 ValAt w B v.mems.1 v.mems.2.1 v.mems.2.2 c.mems
  conts : SRow 5 ValAt w B v.conts.1 v.conts.2.1 v.conts.2.2 c.conts
  step : SRow 11 InsAt w B v.step.1 v.step.2.1 v.step.2.2 c.step
  deriv : SRow 11 InsAt w B v.deriv.1 v.deriv.2.1 v.deriv.2.2 c.deriv
  cross : SRow 11 InsAt w B v.cross.1 v.cross.2.1 v.cross.2.2 c.cross
theorem CodeIs.keep {w w' : World} {B : Nat} {c : CodeM} {v : CodeV} (h : CodeIs w B c v) (hk : ∀ p : Addr, p.block < B → w'.cell? p = w.cell? p) : CodeIs w' B c v :=
  { h with mems := h.mems.keep fun _ _ _ q r => r.keep q hk, conts := h.conts.keep fun _ _ _ q r => r.keep q hk, step := h.step.keep fun _ _ _ q r => r.keep q hk, deriv := h.deriv.keep fun _ _ _ q r => r.keep q hk, cross := h.cross.keep fun _ _ _ q r => r.keep q hk }
theorem CodeIs.below {w w' : World} {B : Nat} {c : CodeM} {v : CodeV} (h : CodeIs w B c v) (hb : Below B w w') : CodeIs w' B c v := h.keep fun _ hp => hb.cell hp
theorem Blk.code {w : World} {g : Nat} {c : CodeM} {v : CodeV} (h : Blk w g 25 (cvs c v)) : w.cell? ⟨g, 0, none⟩ = some (.int .i64 c.ins) ∧ w.cell? ⟨g, 1, none⟩ = some (.int .i64 c.outs) ∧ w.cell? ⟨g, 2, none⟩ = some (.int .i64 c.slots) ∧ w.cell? ⟨g, 3, none⟩ = some (.int .i64 c.crosses) ∧ w.cell? ⟨g, 4, none⟩ = some (.int .i64 c.lines) ∧ w.cell? ⟨g, 5, none⟩ = some (.slice v.mems.1 v.mems.2.1 v.mems.2.2) ∧ w.cell? ⟨g, 6, none⟩ = some (.slice v.conts.1 v.conts.2.1 v.conts.2.2) ∧ w.cell? ⟨g, 7, none⟩ = some (.slice v.step.1 v.step.2.1 v.step.2.2) ∧ w.cell? ⟨g, 8, none⟩ = some (.slice v.deriv.1 v.deriv.2.1 v.deriv.2.2) ∧ w.cell? ⟨g, 9, none⟩ = some (.slice v.cross.1 v.cross.2.1 v.cross.2.2) :=
  ⟨h.cell 0 rfl, h.cell 1 rfl, h.cell 2 rfl, h.cell 3 rfl, h.cell 4 rfl, h.cell 5 rfl, h.cell 6 rfl, h.cell 7 rfl, h.cell 8 rfl, h.cell 9 rfl⟩
/-- the reader: its block, and the marks of slots and lines -/
structure Rd (w : World) (B g : Nat) (c : CodeM) (v : CodeV) (S N gs gl : Nat) (W L : List Int) : Prop where
  blk : Blk w g 64 #[.int .i64 c.ins, .int .i64 c.outs, .int .i64 c.slots, .int .i64 c.crosses, .int .i64 c.lines, .slice v.mems.1 v.mems.2.1 v.mems.2.2, .slice v.conts.1 v.conts.2.1 v.conts.2.2, .slice v.step.1 v.step.2.1 v.step.2.2, .slice v.deriv.1 v.deriv.2.1 v.deriv.2.2, .slice v.cross.1 v.cross.2.1 v.cross.2.2, .slice (some ⟨gs, 0, none⟩) S S, .slice (some ⟨gl, 0, none⟩) N N]
  is : CodeIs w B c v
  ms : BMem w gs (mkB S W)
  ml : BMem w gl (mkB N L)
  hg : B ≤ g
  hs : B ≤ gs
  hl : B ≤ gl
  ne : gs ≠ gl
  ng : g ≠ gs
  nl : g ≠ gl
  slots : c.slots = (S : Int)
  lines : c.lines = (N : Int)
  sS : S ≤ 65536
  sN : N ≤ 65536
section
variable {w w' : World} {B g : Nat} {c : CodeM} {v : CodeV} {S N gs gl : Nat} {W L : List Int}
theorem Rd.cells (h : Rd w B g c v S N gs gl W L) : w.cell? ⟨g, 0, none⟩ = some (.int .i64 c.ins) ∧ w.cell? ⟨g, 1, none⟩ = some (.int .i64 c.outs) ∧ w.cell? ⟨g, 2, none⟩ = some (.int .i64 c.slots) ∧ w.cell? ⟨g, 3, none⟩ = some (.int .i64 c.crosses) ∧ w.cell? ⟨g, 4, none⟩ = some (.int .i64 c.lines) ∧ w.cell? ⟨g, 5, none⟩ = some (.slice v.mems.1 v.mems.2.1 v.mems.2.2) ∧ w.cell? ⟨g, 6, none⟩ = some (.slice v.conts.1 v.conts.2.1 v.conts.2.2) ∧ w.cell? ⟨g, 7, none⟩ = some (.slice v.step.1 v.step.2.1 v.step.2.2) ∧ w.cell? ⟨g, 8, none⟩ = some (.slice v.deriv.1 v.deriv.2.1 v.deriv.2.2) ∧ w.cell? ⟨g, 9, none⟩ = some (.slice v.cross.1 v.cross.2.1 v.cross.2.2) ∧ w.cell? ⟨g, 10, none⟩ = some (.slice (some ⟨gs, 0, none⟩) S S) ∧ w.cell? ⟨g, 11, none⟩ = some (.slice (some ⟨gl, 0, none⟩) N N) :=
  ⟨h.blk.cell 0 rfl, h.blk.cell 1 rfl, h.blk.cell 2 rfl, h.blk.cell 3 rfl, h.blk.cell 4 rfl, h.blk.cell 5 rfl, h.blk.cell 6 rfl, h.blk.cell 7 rfl, h.blk.cell 8 rfl, h.blk.cell 9 rfl, h.blk.cell 10 rfl, h.blk.cell 11 rfl⟩
theorem Rd.hB (h : Rd w B g c v S N gs gl W L) : B ≤ w.heap.size := Nat.le_of_lt (Nat.lt_of_le_of_lt h.hg h.blk.lt)
theorem Rd.later (h : Rd w B g c v S N gs gl W L) (hb : Below w.heap.size w w') : Rd w' B g c v S N gs gl W L :=
  { h with blk := h.blk.later hb, is := h.is.below (hb.mono h.hB), ms := h.ms.below hb h.ms.lt, ml := h.ml.below hb h.ml.lt }
theorem Rd.drew (h : Rd w B g c v S N gs gl W L) : Rd w.drew B g c v S N gs gl W L := h.later (Below.refl _ _).drew
theorem Rd.alloc (h : Rd w B g c v S N gs gl W L) (o : Obj) : Rd (w.alloc o) B g c v S N gs gl W L := h.later ((Below.refl _ _).alloc (Nat.le_refl _) o)
theorem Rd.putS (h : Rd w B g c v S N gs gl W L) (j : Nat) : Rd (w.setCell ⟨gs, j, none⟩ (.bool true)) B g c v S N gs gl (W ++ [(j : Int)]) L :=
  { h with blk := by unfold Blk; rw [Below.heap_setCell w _ _ g h.ng]; exact h.blk
           is := h.is.keep fun p hp => (((Below.refl gs w).setCell (p := ⟨gs, j, none⟩) (Nat.le_refl _) (.bool true)).mono h.hs).cell hp
           ms := by rw [← mkB_set]; exact h.ms.set j true
           ml := h.ml.setOther h.ne.symm _ }
theorem Rd.putL (h : Rd w B g c v S N gs gl W L) (j : Nat) : Rd (w.setCell ⟨gl, j, none⟩ (.bool true)) B g c v S N gs gl W (L ++ [(j : Int)]) :=
  { h with blk := by unfold Blk; rw [Below.heap_setCell w _ _ g h.nl]; exact h.blk
           is := h.is.keep fun p hp => (((Below.refl gl w).setCell (p := ⟨gl, j, none⟩) (Nat.le_refl _) (.bool true)).mono h.hl).cell hp
           ml := by rw [← mkB_set]; exact h.ml.set j true
           ms := h.ms.setOther h.ne _ }
end
theorem ret_bool' {p q : Bool} (h : p = q) : Ending.returned (.bool p) = .returned (.bool q) := by rw [h]
theorem str_no {op : ByteArray} {l : List UInt8} (h : ¬ op = bs l) : (op.toList == l) = false := by
  rw [beq_eq_false_iff_ne]
  intro e
  refine h ?_
  rw [Lib.toList_data] at e
  unfold bs
  rw [← e]

end Go.Proofs.Ytcljmfhelgkfaaa
