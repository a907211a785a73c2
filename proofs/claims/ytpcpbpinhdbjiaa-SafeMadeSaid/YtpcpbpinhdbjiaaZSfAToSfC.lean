/- What it says that object code lies in memory, and its reader. No condition. · Object code that came in. No condition. · What the small functions of package safe tell. No condition but bounds. -/
import Derived.Test.YtpcpbpinhdbjiaaZFlFToFlG
import Derived.Test.YtpcpbpinhdbjiaaZFlE
import Derived.Test.YtpcpbpinhdbjiaaZFlD
import Derived.Test.YtpcpbpinhdbjiaaZSfM
import Derived.Test.YtpcpbpinhdbjiaaZFlAToFlC
import Derived.ProofKit
import Derived.OpenShut
import Derived.ShutString
import Derived.ChangeOld
import Derived.Lib.SmallJoins
import Derived.SizedLaws
import Derived.Deep.RegionWith
namespace Go.Proofs.Ytpcpbpinhdbjiaa
set_option linter.unusedVariables false
set_option linter.unusedSimpArgs false
set_option maxRecDepth 100000
open Go.RowKit

theorem Blk.only {w w' : World} {g T : Nat} {vs : Array Value} {S : List (Option Nat)} (h : Blk w g T vs) (hb : Only S w w') (hg : some g ∉ S) : Blk w' g T vs := (hb.block g h.lt hg).trans h
/-- an instruction lies from a cell on -/
structure InsAt (w : World) (B b o : Nat) (q : InsP) : Prop where
  op : StrAt w B b o q.op
  dst : IntAt w B b (o + 1) q.dst
  args : IsAt w B b (o + 2) q.args
  k : IntAt w B b (o + 3) q.k
  lit : ValAt w B b (o + 4) q.lit
  guard : IntAt w B b (o + 9) q.guard
  resets : IsAt w B b (o + 10) q.resets
theorem InsAt.keep {w w' : World} {B b o : Nat} {v : InsP} (h : InsAt w B b o v) (hb : b < B) (hk : ∀ p : Addr, p.block < B → w'.cell? p = w.cell? p) : InsAt w' B b o v :=
  ⟨h.op.keep hb hk, h.dst.keep hb hk, h.args.keep hb hk, h.k.keep hb hk, h.lit.keep hb hk, h.guard.keep hb hk, h.resets.keep hb hk⟩
/-- an instruction's cells -/
def ics (q : InsP) (a m d r : Option Addr × Nat × Nat) : Array Value := #[.string q.op, .int .i64 q.dst, .slice a.1 a.2.1 a.2.2, .int .i64 q.k, .int .i64 q.lit.kind, .bool q.lit.neg, .slice m.1 m.2.1 m.2.2, .slice d.1 d.2.1 d.2.2, .string q.lit.name, .int .i64 q.guard, .slice r.1 r.2.1 r.2.2]
def insU (q : InsP) (a m d r : Option Addr × Nat × Nat) : Value := .agg #[.string q.op, .int .i64 q.dst, .slice a.1 a.2.1 a.2.2, .int .i64 q.k, .int .i64 q.lit.kind, .bool q.lit.neg, .slice m.1 m.2.1 m.2.2, .slice d.1 d.2.1 d.2.2, .string q.lit.name, .int .i64 q.guard, .slice r.1 r.2.1 r.2.2]
/-- its parts lie below a block -/
structure InsW (w : World) (B : Nat) (q : InsP) (a m d r : Option Addr × Nat × Nat) : Prop where
  args : IRow w B a.1 a.2.1 a.2.2 q.args
  resets : IRow w B r.1 r.2.1 r.2.2 q.resets
  size : q.op.size ≤ maxLen
  dst : -9223372036854775808 ≤ q.dst ∧ q.dst ≤ 9223372036854775807
  k : -9223372036854775808 ≤ q.k ∧ q.k ≤ 9223372036854775807
  guard : -9223372036854775808 ≤ q.guard ∧ q.guard ≤ 9223372036854775807
theorem InsW.keep {w w' : World} {B : Nat} {q : InsP} {a m d r : Option Addr × Nat × Nat} (h : InsW w B q a m d r) (hb : Below B w w') : InsW w' B q a m d r :=
  { h with args := h.args.below hb, resets := h.resets.below hb }
theorem InsW.only {w w' : World} {B : Nat} {q : InsP} {a m d r : Option Addr × Nat × Nat} (h : InsW w B q a m d r) (hb : ∀ p : Addr, p.block < B → w'.cell? p = w.cell? p) : InsW w' B q a m d r :=
  { h with args := h.args.keep hb, resets := h.resets.keep hb }
theorem InsAt.cells {w : World} {B b o : Nat} {q : InsP} (h : InsAt w B b o q) : ∃ a m d r : Option Addr × Nat × Nat, InsW w B q a m d r ∧ URow w B m.1 m.2.1 m.2.2 q.lit.mag ∧ URow w B d.1 d.2.1 d.2.2 q.lit.den ∧ q.lit.name.size ≤ maxLen ∧
    (w.cell? ⟨b, o, none⟩ = some (.string q.op) ∧ w.cell? ⟨b, o + 1, none⟩ = some (.int .i64 q.dst) ∧ w.cell? ⟨b, o + 2, none⟩ = some (.slice a.1 a.2.1 a.2.2) ∧ w.cell? ⟨b, o + 3, none⟩ = some (.int .i64 q.k) ∧ w.cell? ⟨b, o + 4, none⟩ = some (.int .i64 q.lit.kind) ∧ w.cell? ⟨b, o + 5, none⟩ = some (.bool q.lit.neg) ∧ w.cell? ⟨b, o + 6, none⟩ = some (.slice m.1 m.2.1 m.2.2) ∧ w.cell? ⟨b, o + 7, none⟩ = some (.slice d.1 d.2.1 d.2.2) ∧ w.cell? ⟨b, o + 8, none⟩ = some (.string q.lit.name) ∧ w.cell? ⟨b, o + 9, none⟩ = some (.int .i64 q.guard) ∧ w.cell? ⟨b, o + 10, none⟩ = some (.slice r.1 r.2.1 r.2.2)) := by
  obtain ⟨A, L, C, h1, h2⟩ := h.args
  obtain ⟨A', L', C', h3, h4⟩ := h.lit.mag
  obtain ⟨A'', L'', C'', h5, h6⟩ := h.lit.den
  obtain ⟨A3, L3, C3, h7, h8⟩ := h.resets
  exact ⟨(A, L, C), (A', L', C'), (A'', L'', C''), (A3, L3, C3), ⟨h2, h8, h.op.2, h.dst.2, h.k.2, h.guard.2⟩, h4, h6, h.lit.name.2, h.op.1, h.dst.1, h1, h.k.1, h.lit.kind.1, h.lit.neg, h3, h5, h.lit.name.1, h.guard.1, h7⟩
/-- its own copy of an instruction, in a block -/
theorem Blk.elev {w : World} {g T : Nat} {q : InsP} {a m d r : Option Addr × Nat × Nat} (h : Blk w g T (ics q a m d r)) : w.cell? ⟨g, 0, none⟩ = some (.string q.op) ∧ w.cell? ⟨g, 1, none⟩ = some (.int .i64 q.dst) ∧ w.cell? ⟨g, 2, none⟩ = some (.slice a.1 a.2.1 a.2.2) ∧ w.cell? ⟨g, 3, none⟩ = some (.int .i64 q.k) ∧ w.cell? ⟨g, 4, none⟩ = some (.int .i64 q.lit.kind) ∧ w.cell? ⟨g, 5, none⟩ = some (.bool q.lit.neg) ∧ w.cell? ⟨g, 6, none⟩ = some (.slice m.1 m.2.1 m.2.2) ∧ w.cell? ⟨g, 7, none⟩ = some (.slice d.1 d.2.1 d.2.2) ∧ w.cell? ⟨g, 8, none⟩ = some (.string q.lit.name) ∧ w.cell? ⟨g, 9, none⟩ = some (.int .i64 q.guard) ∧ w.cell? ⟨g, 10, none⟩ = some (.slice r.1 r.2.1 r.2.2) :=
  ⟨h.cell 0 rfl, h.cell 1 rfl, h.cell 2 rfl, h.cell 3 rfl, h.cell 4 rfl, h.cell 5 rfl, h.cell 6 rfl, h.cell 7 rfl, h.cell 8 rfl, h.cell 9 rfl, h.cell 10 rfl⟩
/-- five slices of object code -/
structure CodeV where
  mems : Option Addr × Nat × Nat
  conts : Option Addr × Nat × Nat
  step : Option Addr × Nat × Nat
  deriv : Option Addr × Nat × Nat
  cross : Option Addr × Nat × Nat
def cvs (c : CodeM) (v : CodeV) : Array Value := #[.int .i64 c.ins, .int .i64 c.outs, .int .i64 c.slots, .int .i64 c.crosses, .int .i64 c.lines, .slice v.mems.1 v.mems.2.1 v.mems.2.2, .slice v.conts.1 v.conts.2.1 v.conts.2.2, .slice v.step.1 v.step.2.1 v.step.2.2, .slice v.deriv.1 v.deriv.2.1 v.deriv.2.2, .slice v.cross.1 v.cross.2.1 v.cross.2.2]
def codeV (c : CodeM) (v : CodeV) : Value := .agg #[.int .i64 c.ins, .int .i64 c.outs, .int .i64 c.slots, .int .i64 c.crosses, .int .i64 c.lines, .slice v.mems.1 v.mems.2.1 v.mems.2.2, .slice v.conts.1 v.conts.2.1 v.conts.2.2, .slice v.step.1 v.step.2.1 v.step.2.2, .slice v.deriv.1 v.deriv.2.1 v.deriv.2.2, .slice v.cross.1 v.cross.2.1 v.cross.2.2]
/-- object code lies below a block -/
structure CodeIs (w : World) (B : Nat) (c : CodeM) (v : CodeV) : Prop where
  ins : -9223372036854775808 ≤ c.ins ∧ c.ins ≤ 9223372036854775807
  outs : -9223372036854775808 ≤ c.outs ∧ c.outs ≤ 9223372036854775807
  slots : -9223372036854775808 ≤ c.slots ∧ c.slots ≤ 9223372036854775807
  crosses : -9223372036854775808 ≤ c.crosses ∧ c.crosses ≤ 9223372036854775807
  lines : -9223372036854775808 ≤ c.lines ∧ c.lines ≤ 9223372036854775807
  mems : SRow 5 ValAt w B v.mems.1 v.mems.2.1 v.mems.2.2 c.mems
  conts : SRow 5 ValAt w B v.conts.1 v.conts.2.1 v.conts.2.2 c.conts
  step : SRow 11 InsAt w B v.step.1 v.step.2.1 v.step.2.2 c.step
  deriv : SRow 11 InsAt w B v.deriv.1 v.deriv.2.1 v.deriv.2.2 c.deriv
  cross : SRow 11 InsAt w B v.cross.1 v.cross.2.1 v.cross.2.2 c.cross
theorem CodeIs.keep {w w' : World} {B : Nat} {c : CodeM} {v : CodeV} (h : CodeIs w B c v) (hk : ∀ p : Addr, p.block < B → w'.cell? p = w.cell? p) : CodeIs w' B c v :=
  { h with mems := h.mems.keep fun _ _ _ q r => r.keep q hk, conts := h.conts.keep fun _ _ _ q r => r.keep q hk, step := h.step.keep fun _ _ _ q r => r.keep q hk, deriv := h.deriv.keep fun _ _ _ q r => r.keep q hk, cross := h.cross.keep fun _ _ _ q r => r.keep q hk }
theorem CodeIs.below {w w' : World} {B : Nat} {c : CodeM} {v : CodeV} (h : CodeIs w B c v) (hb : Below B w w') : CodeIs w' B c v := h.keep fun _ hp => hb.cell hp
theorem Blk.code {w : World} {g : Nat} {c : CodeM} {v : CodeV} (h : Blk w g 40 (cvs c v)) : w.cell? ⟨g, 0, none⟩ = some (.int .i64 c.ins) ∧ w.cell? ⟨g, 1, none⟩ = some (.int .i64 c.outs) ∧ w.cell? ⟨g, 2, none⟩ = some (.int .i64 c.slots) ∧ w.cell? ⟨g, 3, none⟩ = some (.int .i64 c.crosses) ∧ w.cell? ⟨g, 4, none⟩ = some (.int .i64 c.lines) ∧ w.cell? ⟨g, 5, none⟩ = some (.slice v.mems.1 v.mems.2.1 v.mems.2.2) ∧ w.cell? ⟨g, 6, none⟩ = some (.slice v.conts.1 v.conts.2.1 v.conts.2.2) ∧ w.cell? ⟨g, 7, none⟩ = some (.slice v.step.1 v.step.2.1 v.step.2.2) ∧ w.cell? ⟨g, 8, none⟩ = some (.slice v.deriv.1 v.deriv.2.1 v.deriv.2.2) ∧ w.cell? ⟨g, 9, none⟩ = some (.slice v.cross.1 v.cross.2.1 v.cross.2.2) :=
  ⟨h.cell 0 rfl, h.cell 1 rfl, h.cell 2 rfl, h.cell 3 rfl, h.cell 4 rfl, h.cell 5 rfl, h.cell 6 rfl, h.cell 7 rfl, h.cell 8 rfl, h.cell 9 rfl⟩
/-- the reader: its block, and the marks of slots and lines -/
structure Rd (w : World) (B g : Nat) (c : CodeM) (v : CodeV) (S N gs gl : Nat) (W L : List Int) : Prop where
  blk : Blk w g 81 #[.int .i64 c.ins, .int .i64 c.outs, .int .i64 c.slots, .int .i64 c.crosses, .int .i64 c.lines, .slice v.mems.1 v.mems.2.1 v.mems.2.2, .slice v.conts.1 v.conts.2.1 v.conts.2.2, .slice v.step.1 v.step.2.1 v.step.2.2, .slice v.deriv.1 v.deriv.2.1 v.deriv.2.2, .slice v.cross.1 v.cross.2.1 v.cross.2.2, .slice (some ⟨gs, 0, none⟩) S S, .slice (some ⟨gl, 0, none⟩) N N]
  is : CodeIs w B c v
  ms : BMem w gs (mkB S W)
  ml : BMem w gl (mkB N L)
  hg : B ≤ g
  hs : B ≤ gs
  hl : B ≤ gl
  ne : gs ≠ gl
  ng : g ≠ gs
  nl : g ≠ gl
  slots : c.slots = (S : Int)
  lines : c.lines = (N : Int)
  sS : S ≤ 65536
  sN : N ≤ 65536
section
variable {w w' : World} {B g : Nat} {c : CodeM} {v : CodeV} {S N gs gl : Nat} {W L : List Int}
theorem Rd.cells (h : Rd w B g c v S N gs gl W L) : w.cell? ⟨g, 0, none⟩ = some (.int .i64 c.ins) ∧ w.cell? ⟨g, 1, none⟩ = some (.int .i64 c.outs) ∧ w.cell? ⟨g, 2, none⟩ = some (.int .i64 c.slots) ∧ w.cell? ⟨g, 3, none⟩ = some (.int .i64 c.crosses) ∧ w.cell? ⟨g, 4, none⟩ = some (.int .i64 c.lines) ∧ w.cell? ⟨g, 5, none⟩ = some (.slice v.mems.1 v.mems.2.1 v.mems.2.2) ∧ w.cell? ⟨g, 6, none⟩ = some (.slice v.conts.1 v.conts.2.1 v.conts.2.2) ∧ w.cell? ⟨g, 7, none⟩ = some (.slice v.step.1 v.step.2.1 v.step.2.2) ∧ w.cell? ⟨g, 8, none⟩ = some (.slice v.deriv.1 v.deriv.2.1 v.deriv.2.2) ∧ w.cell? ⟨g, 9, none⟩ = some (.slice v.cross.1 v.cross.2.1 v.cross.2.2) ∧ w.cell? ⟨g, 10, none⟩ = some (.slice (some ⟨gs, 0, none⟩) S S) ∧ w.cell? ⟨g, 11, none⟩ = some (.slice (some ⟨gl, 0, none⟩) N N) :=
  ⟨h.blk.cell 0 rfl, h.blk.cell 1 rfl, h.blk.cell 2 rfl, h.blk.cell 3 rfl, h.blk.cell 4 rfl, h.blk.cell 5 rfl, h.blk.cell 6 rfl, h.blk.cell 7 rfl, h.blk.cell 8 rfl, h.blk.cell 9 rfl, h.blk.cell 10 rfl, h.blk.cell 11 rfl⟩
theorem Rd.hB (h : Rd w B g c v S N gs gl W L) : B ≤ w.heap.size := Nat.le_of_lt (Nat.lt_of_le_of_lt h.hg h.blk.lt)
theorem Rd.later (h : Rd w B g c v S N gs gl W L) (hb : Below w.heap.size w w') : Rd w' B g c v S N gs gl W L :=
  { h with blk := h.blk.later hb, is := h.is.below (hb.mono h.hB), ms := h.ms.below hb h.ms.lt, ml := h.ml.below hb h.ml.lt }
theorem Rd.drew (h : Rd w B g c v S N gs gl W L) : Rd w.drew B g c v S N gs gl W L := h.later (Below.refl _ _).drew
theorem Rd.alloc (h : Rd w B g c v S N gs gl W L) (o : Obj) : Rd (w.alloc o) B g c v S N gs gl W L := h.later ((Below.refl _ _).alloc (Nat.le_refl _) o)
theorem Rd.putS (h : Rd w B g c v S N gs gl W L) (j : Nat) : Rd (w.setCell ⟨gs, j, none⟩ (.bool true)) B g c v S N gs gl (W ++ [(j : Int)]) L :=
  { h with blk := by unfold Blk; rw [Below.heap_setCell w _ _ g h.ng]; exact h.blk
           is := h.is.keep fun p hp => (((Below.refl gs w).setCell (p := ⟨gs, j, none⟩) (Nat.le_refl _) (.bool true)).mono h.hs).cell hp
           ms := by rw [← mkB_set]; exact h.ms.set j true
           ml := h.ml.setOther h.ne.symm _ }
theorem Rd.putL (h : Rd w B g c v S N gs gl W L) (j : Nat) : Rd (w.setCell ⟨gl, j, none⟩ (.bool true)) B g c v S N gs gl W (L ++ [(j : Int)]) :=
  { h with blk := by unfold Blk; rw [Below.heap_setCell w _ _ g h.nl]; exact h.blk
           is := h.is.keep fun p hp => (((Below.refl gl w).setCell (p := ⟨gl, j, none⟩) (Nat.le_refl _) (.bool true)).mono h.hl).cell hp
           ml := by rw [← mkB_set]; exact h.ml.set j true
           ms := h.ms.setOther h.ne _ }
end
end Go.Proofs.Ytpcpbpinhdbjiaa

namespace Go.Proofs.Ytpcpbpinhdbjiaa
set_option linter.unusedVariables false
set_option linter.unusedSimpArgs false
set_option maxRecDepth 100000
open Go.ChangeShapes Go.WideShapes Go.ChangeAt Go.RowKit Go.Joins

section
variable {w : World} {b o : Nat} {ds : List Value}
theorem ins_came (hb : b < w.heap.size) (hc : ∀ j, j < 11 → w.cell? ⟨b, o + j, none⟩ = ds[j]?) (hl : ds.length = 11) (ht : Tr w 70 ds) : ∃ x, InsAt w w.heap.size b o x := by
  have hs := (ht.struct Try.underlying70).2
  have k0 : Tr w 9 ((ds.drop 0).take 1) := hs 0 _ rfl
  obtain ⟨x0, h0⟩ := str_came hb (sub_cells hc 0 1 (by decide)) (sub_len hl 0 1 (by decide)) k0
  have k1 : Tr w 3 ((ds.drop 1).take 1) := hs 1 _ rfl
  obtain ⟨x1, h1⟩ := int_came hb (sub_cells hc 1 1 (by decide)) (sub_len hl 1 1 (by decide)) k1
  have k2 : Tr w 23 ((ds.drop 2).take 1) := hs 2 _ rfl
  obtain ⟨x2, h2⟩ := is_came hb (sub_cells hc 2 1 (by decide)) (sub_len hl 2 1 (by decide)) k2
  have k3 : Tr w 3 ((ds.drop 3).take 1) := hs 3 _ rfl
  obtain ⟨x3, h3⟩ := int_came hb (sub_cells hc 3 1 (by decide)) (sub_len hl 3 1 (by decide)) k3
  have k4 : Tr w 50 ((ds.drop 4).take 5) := hs 4 _ rfl
  obtain ⟨x4, h4⟩ := val_came hb (sub_cells hc 4 5 (by decide)) (sub_len hl 4 5 (by decide)) k4
  have k5 : Tr w 3 ((ds.drop 9).take 1) := hs 5 _ rfl
  obtain ⟨x5, h5⟩ := int_came hb (sub_cells hc 9 1 (by decide)) (sub_len hl 9 1 (by decide)) k5
  have k6 : Tr w 23 ((ds.drop 10).take 1) := hs 6 _ rfl
  obtain ⟨x6, h6⟩ := is_came hb (sub_cells hc 10 1 (by decide)) (sub_len hl 10 1 (by decide)) k6
  exact ⟨⟨x0, x1, x2, x3, x4, x5, x6⟩, h0, h1, h2, h3, h4, h5, h6⟩
end
/-- object code that came in -/
theorem code_came {w : World} {cs : List Value} (h : Tr w 40 cs) : ∃ c v, Value.agg cs.toArray = codeV c v ∧ CodeIs w w.heap.size c v := by
  have hl : cs.length = 10 := (h.struct Try.underlying40).1.trans (by kernel_rfl)
  obtain ⟨v0, e0, t0⟩ := h.one (e := 3) Try.underlying40 0 _ rfl rfl (by kernel_rfl) (by rw [hl]; decide)
  obtain ⟨v1, e1, t1⟩ := h.one (e := 3) Try.underlying40 1 _ rfl rfl (by kernel_rfl) (by rw [hl]; decide)
  obtain ⟨v2, e2, t2⟩ := h.one (e := 3) Try.underlying40 2 _ rfl rfl (by kernel_rfl) (by rw [hl]; decide)
  obtain ⟨v3, e3, t3⟩ := h.one (e := 3) Try.underlying40 3 _ rfl rfl (by kernel_rfl) (by rw [hl]; decide)
  obtain ⟨v4, e4, t4⟩ := h.one (e := 3) Try.underlying40 4 _ rfl rfl (by kernel_rfl) (by rw [hl]; decide)
  obtain ⟨v5, e5, t5⟩ := h.one (e := 37) Try.underlying40 5 _ rfl rfl (by kernel_rfl) (by rw [hl]; decide)
  obtain ⟨v6, e6, t6⟩ := h.one (e := 37) Try.underlying40 6 _ rfl rfl (by kernel_rfl) (by rw [hl]; decide)
  obtain ⟨v7, e7, t7⟩ := h.one (e := 38) Try.underlying40 7 _ rfl rfl (by kernel_rfl) (by rw [hl]; decide)
  obtain ⟨v8, e8, t8⟩ := h.one (e := 38) Try.underlying40 8 _ rfl rfl (by kernel_rfl) (by rw [hl]; decide)
  obtain ⟨v9, e9, t9⟩ := h.one (e := 38) Try.underlying40 9 _ rfl rfl (by kernel_rfl) (by rw [hl]; decide)
  obtain ⟨n0, q0, r0⟩ := t0.i64 Try.underlying3
  obtain rfl : v0 = .int .i64 n0 := by simpa using q0
  obtain ⟨n1, q1, r1⟩ := t1.i64 Try.underlying3
  obtain rfl : v1 = .int .i64 n1 := by simpa using q1
  obtain ⟨n2, q2, r2⟩ := t2.i64 Try.underlying3
  obtain rfl : v2 = .int .i64 n2 := by simpa using q2
  obtain ⟨n3, q3, r3⟩ := t3.i64 Try.underlying3
  obtain rfl : v3 = .int .i64 n3 := by simpa using q3
  obtain ⟨n4, q4, r4⟩ := t4.i64 Try.underlying3
  obtain rfl : v4 = .int .i64 n4 := by simpa using q4
  obtain ⟨a5, l5, c5, x5, rfl, r5⟩ := SRow.of_tr (R := ValAt) 5 Try.underlying37 (by kernel_rfl) (by decide) t5 (fun _ _ _ => val_came)
  obtain ⟨a6, l6, c6, x6, rfl, r6⟩ := SRow.of_tr (R := ValAt) 5 Try.underlying37 (by kernel_rfl) (by decide) t6 (fun _ _ _ => val_came)
  obtain ⟨a7, l7, c7, x7, rfl, r7⟩ := SRow.of_tr (R := InsAt) 11 Try.underlying38 (by kernel_rfl) (by decide) t7 (fun _ _ _ => ins_came)
  obtain ⟨a8, l8, c8, x8, rfl, r8⟩ := SRow.of_tr (R := InsAt) 11 Try.underlying38 (by kernel_rfl) (by decide) t8 (fun _ _ _ => ins_came)
  obtain ⟨a9, l9, c9, x9, rfl, r9⟩ := SRow.of_tr (R := InsAt) 11 Try.underlying38 (by kernel_rfl) (by decide) t9 (fun _ _ _ => ins_came)
  refine ⟨⟨n0, n1, n2, n3, n4, x5, x6, x7, x8, x9⟩, ⟨(a5, l5, c5), (a6, l6, c6), (a7, l7, c7), (a8, l8, c8), (a9, l9, c9)⟩, ?_, r0, r1, r2, r3, r4, r5, r6, r7, r8, r9⟩
  match cs, hl with
  | [u0, u1, u2, u3, u4, u5, u6, u7, u8, u9], _ =>
    simp at e0 e1 e2 e3 e4 e5 e6 e7 e8 e9
    subst e0 e1 e2 e3 e4 e5 e6 e7 e8 e9
    rfl
theorem code_of_trod {H : Type} {enc : TypeId × Value → H} {r : Reach} {b0 : Nat} {W : World} {v : Value} {d : DataW H} {p : List MemPlace} {base : Nat}
    (hv : Value.okWide Try.prog W r b0 40 v) (h : DataW.Trod enc Try.prog W base (fun _ => true) true 40 v d p) (hz : ∀ n ∈ d.weights Try.prog 40, n ≤ reachBytes) : ∃ c cv, v = codeV c cv ∧ CodeIs W W.heap.size c cv := by
  obtain ⟨cs, rfl, _⟩ := okWide_struct Try.underlying40 hv
  obtain ⟨fuel, hf⟩ := h
  have ht : Tr W 40 cs.toList := ⟨H, enc, base, _, _, fuel, _, by simpa [Value.cells] using hf, hz⟩
  obtain ⟨fv, f, e, hi⟩ := code_came ht
  exact ⟨fv, f, by simpa using e, hi⟩

end Go.Proofs.Ytpcpbpinhdbjiaa

namespace Go.Proofs.Ytpcpbpinhdbjiaa
set_option linter.unusedVariables false
set_option linter.unusedSimpArgs false
set_option maxRecDepth 100000
open Go.RowKit

theorem inB_no {i n : Int} (h : inB i n = false) : i < 0 ∨ n ≤ i := by
  unfold inB at h
  simp at h
  omega
theorem inB_ok {i n : Int} (h0 : 0 ≤ i) (h1 : i < n) : inB i n = true := by unfold inB; simp [h0, h1]
theorem isPlace_t (i n : Int) (b : Bool) (w : World) (h : inB i n = b) :
    Calls Try.prog 43 #[.int .i64 i, .int .i64 n] w fun e w' => e = .returned (.bool b) ∧ w' = w := by
  cases b with
  | true =>
    obtain ⟨j, rfl, h1⟩ := inB_yes h
    clear h
    go_enter Try.func43, Try.ntmps43
    go_wp2
    go_ret
    exact ⟨rfl, rfl⟩
  | false =>
    have h' := inB_no h
    clear h
    by_cases h0 : i < 0
    · go_enter Try.func43, Try.ntmps43
      go_wp2
      go_ret
      exact ⟨rfl, rfl⟩
    · have h1 : n ≤ i := by omega
      have h0' : 0 ≤ i := by omega
      have h2 : decide (i < n) = false := by rw [decide_eq_false_iff_not]; omega
      clear h' h0
      go_enter Try.func43, Try.ntmps43
      go_wp2
      go_ret
      exact ⟨by first | rfl | rw [h2], rfl⟩
theorem isCount_t (i : Int) (b : Bool) (w : World) (h : cntB i = b) :
    Calls Try.prog 20 #[.int .i64 i] w fun e w' => e = .returned (.bool b) ∧ w' = w := by
  have h' := h
  unfold cntB at h'
  by_cases h0 : 0 ≤ i
  · have g0 : decide (0 ≤ i) = true := decide_eq_true h0
    rw [g0, Bool.true_and] at h'
    clear h
    go_enter Try.func20, Try.ntmps20
    go_wp2
    go_ret
    exact ⟨by first | rfl | rw [h'], rfl⟩
  · have h2 : decide (0 ≤ i) = false := by rw [decide_eq_false_iff_not]; exact h0
    rw [h2, Bool.false_and] at h'
    subst h'
    have h3 : i < 0 := by omega
    clear h h0
    go_enter Try.func20, Try.ntmps20
    go_wp2
    go_ret
    exact ⟨rfl, rfl⟩
set_option maxHeartbeats 1000000 in
theorem written_t (gs S : Nat) (W : List Int) (i : Int) (b : Bool) (w : World) (hm : BMem w gs (mkB S W)) (hS : S ≤ 65536) (h : wrB S W i = b) :
    Calls Try.prog 38 #[.slice (some ⟨gs, 0, none⟩) S S, .int .i64 i] w fun e w' => e = .returned (.bool b) ∧ w' = w := by
  have HM := Lib.hid hm
  cases hb : inB i S with
  | false =>
    rw [wrB_no hb] at h
    subst h
    have HB := Lib.hid hb
    clear hm hb
    go_enter Try.func38, Try.ntmps38
    go_wp2_with (go_at_call 43; refine (isPlace_t i (S : Int) false _ HB.out).mono ?_; rintro e w1 ⟨rfl, rfl⟩)
    go_ret
    exact ⟨rfl, rfl⟩
  | true =>
    obtain ⟨j, rfl, h1⟩ := inB_yes hb
    have HB := Lib.hid hb
    rw [wrB_at h1] at h
    have hj : j < S := by omega
    have hc := hm.cell j (by rw [mkB_len]; exact hj)
    rw [mkB_get hj, h] at hc
    clear hm hb h
    go_enter Try.func38, Try.ntmps38
    go_wp2_with (go_at_call 43; refine (isPlace_t (j : Int) (S : Int) true _ HB.out).mono ?_; rintro e w1 ⟨rfl, rfl⟩)
    go_ret
    exact ⟨rfl, rfl⟩
theorem mayGuard_t (gs S : Nat) (W : List Int) (i : Int) (b : Bool) (w : World) (hm : BMem w gs (mkB S W)) (hS : S ≤ 65536) (h : gdB S W i = b) :
    Calls Try.prog 37 #[.slice (some ⟨gs, 0, none⟩) S S, .int .i64 i] w fun e w' => e = .returned (.bool b) ∧ w' = w := by
  have HM := Lib.hid hm
  by_cases h0 : i < 0
  · have : b = true := by rw [← h]; unfold gdB; simp [h0]
    subst this
    clear hm h
    go_enter Try.func37, Try.ntmps37
    go_wp2
    go_ret
    exact ⟨rfl, rfl⟩
  · have HB : Hid (wrB S W i = b) := Lib.hid (by rw [← h]; unfold gdB; simp [h0])
    have g0 : 0 ≤ i := by omega
    have g1 : decide (i < 0) = false := by rw [decide_eq_false_iff_not]; exact h0
    clear hm h h0
    go_enter Try.func37, Try.ntmps37
    go_wp2_with (go_at_call 38; refine (written_t gs S W i b _ HM.out hS HB.out).mono ?_; rintro e w1 ⟨rfl, rfl⟩)
    go_ret
    exact ⟨by first | rfl | (rw [g1]; rfl), rfl⟩
theorem write_no (gs S : Nat) (i : Int) (w : World) (h : inB i S = false) :
    Calls Try.prog 40 #[.slice (some ⟨gs, 0, none⟩) S S, .int .i64 i] w fun e w' => e = .returned (.bool false) ∧ w' = w := by
  have HB := Lib.hid h
  clear h
  go_enter Try.func40, Try.ntmps40
  go_wp2_with (go_at_call 43; refine (isPlace_t i (S : Int) false _ HB.out).mono ?_; rintro e w1 ⟨rfl, rfl⟩)
  go_ret
  exact ⟨rfl, rfl⟩
theorem write_yes (gs S : Nat) (W : List Int) (j : Nat) (w : World) (hm : BMem w gs (mkB S W)) (hS : S ≤ 65536) (h : inB (j : Int) S = true) :
    Calls Try.prog 40 #[.slice (some ⟨gs, 0, none⟩) S S, .int .i64 (j : Int)] w fun e w' => e = .returned (.bool true) ∧ w' = w.setCell ⟨gs, j, none⟩ (.bool true) := by
  have HB := Lib.hid h
  obtain ⟨k, hk, h1⟩ := inB_yes h
  have hj : j < S := by omega
  have hc := hm.cell j (by rw [mkB_len]; exact hj)
  have hf := hm.free j
  clear h hm hk
  go_enter Try.func40, Try.ntmps40
  go_wp2_with (go_at_call 43; refine (isPlace_t (j : Int) (S : Int) true _ HB.out).mono ?_; rintro e w1 ⟨rfl, rfl⟩)
  go_ret
  exact ⟨rfl, rfl⟩
theorem isEnd_0 (op : ByteArray) (w : World) (h : op = bs [107, 101, 101, 112]) : Calls Try.prog 39 #[.string op] w fun e w' => e = .returned (.bool (isEnd op)) ∧ w' = w := by
  have HE : Hid (isEnd (bs [107, 101, 101, 112]) = true) := Lib.hid (by unfold isEnd; decide)
  subst h
  unfold bs at HE ⊢
  go_enter Try.func39, Try.ntmps39
  go_wp2
  go_ret
  exact ⟨by rw [HE.out]; rfl, rfl⟩
theorem isEnd_1 (op : ByteArray) (w : World) (h : op = bs [115, 116, 97, 116, 101]) : Calls Try.prog 39 #[.string op] w fun e w' => e = .returned (.bool (isEnd op)) ∧ w' = w := by
  have HE : Hid (isEnd (bs [115, 116, 97, 116, 101]) = true) := Lib.hid (by unfold isEnd; decide)
  subst h
  unfold bs at HE ⊢
  go_enter Try.func39, Try.ntmps39
  go_wp2
  go_ret
  exact ⟨by rw [HE.out]; rfl, rfl⟩
theorem isEnd_2 (op : ByteArray) (w : World) (h : op = bs [111, 117, 116]) : Calls Try.prog 39 #[.string op] w fun e w' => e = .returned (.bool (isEnd op)) ∧ w' = w := by
  have HE : Hid (isEnd (bs [111, 117, 116]) = true) := Lib.hid (by unfold isEnd; decide)
  subst h
  unfold bs at HE ⊢
  go_enter Try.func39, Try.ntmps39
  go_wp2
  go_ret
  exact ⟨by rw [HE.out]; rfl, rfl⟩
theorem isEnd_3 (op : ByteArray) (w : World) (h : op = bs [97, 103, 97, 105, 110]) : Calls Try.prog 39 #[.string op] w fun e w' => e = .returned (.bool (isEnd op)) ∧ w' = w := by
  have HE : Hid (isEnd (bs [97, 103, 97, 105, 110]) = true) := Lib.hid (by unfold isEnd; decide)
  subst h
  unfold bs at HE ⊢
  go_enter Try.func39, Try.ntmps39
  go_wp2
  go_ret
  exact ⟨by rw [HE.out]; rfl, rfl⟩
theorem isEnd_none (op : ByteArray) (w : World) (h0 : ¬ op = bs [107, 101, 101, 112]) (h1 : ¬ op = bs [115, 116, 97, 116, 101]) (h2 : ¬ op = bs [111, 117, 116]) (h3 : ¬ op = bs [97, 103, 97, 105, 110]) : Calls Try.prog 39 #[.string op] w fun e w' => e = .returned (.bool (isEnd op)) ∧ w' = w := by
  have HE : Hid (isEnd op = false) := Lib.hid (by unfold isEnd hasOp opsEnd; simp [h0, h1, h2, h3])
  have g0 := str_no h0; clear h0
  have g1 := str_no h1; clear h1
  have g2 := str_no h2; clear h2
  have g3 := str_no h3; clear h3
  go_enter Try.func39, Try.ntmps39
  go_wp2
  go_ret
  exact ⟨by rw [HE.out]; rfl, rfl⟩
theorem isEnd_t (op : ByteArray) (w : World) : Calls Try.prog 39 #[.string op] w fun e w' => e = .returned (.bool (isEnd op)) ∧ w' = w := by
  by_cases h0 : op = bs [107, 101, 101, 112]
  · exact isEnd_0 op w h0
  by_cases h1 : op = bs [115, 116, 97, 116, 101]
  · exact isEnd_1 op w h1
  by_cases h2 : op = bs [111, 117, 116]
  · exact isEnd_2 op w h2
  by_cases h3 : op = bs [97, 103, 97, 105, 110]
  · exact isEnd_3 op w h3
  exact isEnd_none op w h0 h1 h2 h3
theorem mayBegin_0 (op : ByteArray) (w : World) (h : op = bs [109, 101, 109]) : Calls Try.prog 36 #[.string op] w fun e w' => e = .returned (.bool (mayB op)) ∧ w' = w := by
  have HE : Hid (mayB (bs [109, 101, 109]) = true) := Lib.hid (by unfold mayB; decide)
  subst h
  unfold bs at HE ⊢
  go_enter Try.func36, Try.ntmps36
  go_wp2
  go_ret
  exact ⟨by rw [HE.out]; rfl, rfl⟩
theorem mayBegin_1 (op : ByteArray) (w : World) (h : op = bs [99, 111, 110, 116]) : Calls Try.prog 36 #[.string op] w fun e w' => e = .returned (.bool (mayB op)) ∧ w' = w := by
  have HE : Hid (mayB (bs [99, 111, 110, 116]) = true) := Lib.hid (by unfold mayB; decide)
  subst h
  unfold bs at HE ⊢
  go_enter Try.func36, Try.ntmps36
  go_wp2
  go_ret
  exact ⟨by rw [HE.out]; rfl, rfl⟩
theorem mayBegin_2 (op : ByteArray) (w : World) (h : op = bs [107, 101, 101, 112]) : Calls Try.prog 36 #[.string op] w fun e w' => e = .returned (.bool (mayB op)) ∧ w' = w := by
  have HE : Hid (mayB (bs [107, 101, 101, 112]) = true) := Lib.hid (by unfold mayB; decide)
  subst h
  unfold bs at HE ⊢
  go_enter Try.func36, Try.ntmps36
  go_wp2
  go_ret
  exact ⟨by rw [HE.out]; rfl, rfl⟩
theorem mayBegin_3 (op : ByteArray) (w : World) (h : op = bs [115, 116, 97, 116, 101]) : Calls Try.prog 36 #[.string op] w fun e w' => e = .returned (.bool (mayB op)) ∧ w' = w := by
  have HE : Hid (mayB (bs [115, 116, 97, 116, 101]) = true) := Lib.hid (by unfold mayB; decide)
  subst h
  unfold bs at HE ⊢
  go_enter Try.func36, Try.ntmps36
  go_wp2
  go_ret
  exact ⟨by rw [HE.out]; rfl, rfl⟩
theorem mayBegin_none (op : ByteArray) (w : World) (h0 : ¬ op = bs [109, 101, 109]) (h1 : ¬ op = bs [99, 111, 110, 116]) (h2 : ¬ op = bs [107, 101, 101, 112]) (h3 : ¬ op = bs [115, 116, 97, 116, 101]) : Calls Try.prog 36 #[.string op] w fun e w' => e = .returned (.bool (mayB op)) ∧ w' = w := by
  have HE : Hid (mayB op = false) := Lib.hid (by unfold mayB hasOp opsBegin; simp [h0, h1, h2, h3])
  have g0 := str_no h0; clear h0
  have g1 := str_no h1; clear h1
  have g2 := str_no h2; clear h2
  have g3 := str_no h3; clear h3
  go_enter Try.func36, Try.ntmps36
  go_wp2
  go_ret
  exact ⟨by rw [HE.out]; rfl, rfl⟩
theorem mayBegin_t (op : ByteArray) (w : World) : Calls Try.prog 36 #[.string op] w fun e w' => e = .returned (.bool (mayB op)) ∧ w' = w := by
  by_cases h0 : op = bs [109, 101, 109]
  · exact mayBegin_0 op w h0
  by_cases h1 : op = bs [99, 111, 110, 116]
  · exact mayBegin_1 op w h1
  by_cases h2 : op = bs [107, 101, 101, 112]
  · exact mayBegin_2 op w h2
  by_cases h3 : op = bs [115, 116, 97, 116, 101]
  · exact mayBegin_3 op w h3
  exact mayBegin_none op w h0 h1 h2 h3

end Go.Proofs.Ytpcpbpinhdbjiaa
