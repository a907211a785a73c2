/- What it says that a flat program lies in memory below a block. No condition. -/
import Derived.Test.YtcljmfhelgkfaaaMem
namespace Go.Proofs.Ytcljmfhelgkfaaa
set_option linter.unusedVariables false
set_option linter.unusedSimpArgs false
set_option maxRecDepth 100000
open Go.RowKit

/-- a row of things of sz cells each: R says what lies from a cell on -/
def SRow {α : Type} (sz : Nat) (R : World → Nat → Nat → Nat → α → Prop) (w : World) (B : Nat) (a : Option Addr) (n c : Nat) (xs : List α) : Prop :=
  xs.length = n ∧ n ≤ c ∧ c ≤ maxLen ∧ ∃ b off, (a = some ⟨b, off, none⟩ ∨ n ≤ 0) ∧ ∀ i x, xs[i]? = some x → b < B ∧ R w B b (off + i * sz) x

section
variable {α : Type} {sz : Nat} {R : World → Nat → Nat → Nat → α → Prop} {w w' : World} {B B' : Nat} {a : Option Addr} {n c : Nat} {xs : List α}
theorem SRow.keep (h : SRow sz R w B a n c xs) (hk : ∀ b o x, b < B → R w B b o x → R w' B b o x) : SRow sz R w' B a n c xs := by
  obtain ⟨h1, h2, h3, b, off, h6, h7⟩ := h
  exact ⟨h1, h2, h3, b, off, h6, fun i x hx => ⟨(h7 i x hx).1, hk b _ x (h7 i x hx).1 (h7 i x hx).2⟩⟩
theorem SRow.at_ (h : SRow sz R w B a n c xs) {i : Nat} {x : α} (hx : xs[i]? = some x) : ∃ b off, a = some ⟨b, off, none⟩ ∧ b < B ∧ R w B b (off + i * sz) x := by
  obtain ⟨h1, h2, h3, b, off, h6, h7⟩ := h
  have hi : i < xs.length := (List.getElem?_eq_some_iff.1 hx).1
  exact ⟨b, off, h6.resolve_right (by omega), h7 i x hx⟩
theorem SRow.len_le (h : SRow sz R w B a n c xs) : n ≤ maxLen := Nat.le_trans h.2.1 h.2.2.1
theorem SRow.len (h : SRow sz R w B a n c xs) : xs.length = n := h.1
theorem SRow.ex (h : SRow sz R w B a n c xs) {i : Nat} (hi : i < n) : ∃ x, xs[i]? = some x := ⟨_, List.getElem?_eq_getElem (by rw [h.1]; exact hi)⟩
theorem SRow.nil (sz : Nat) (R : World → Nat → Nat → Nat → α → Prop) (w : World) (B : Nat) : SRow sz R w B none 0 0 [] :=
  ⟨rfl, Nat.le_refl _, Nat.zero_le _, 0, 0, .inr (Nat.le_refl _), fun i x h => by simp at h⟩
end

/-- a slice of uint32, as numbers, all of it below block B -/
def URow (w : World) (B : Nat) (a : Option Addr) (n c : Nat) (xs : List Nat) : Prop :=
  xs.length = n ∧ n ≤ c ∧ c ≤ maxLen ∧ (a = none → c = 0) ∧ (∀ x ∈ xs, x < 4294967296) ∧ n ≤ 35184372088832 ∧ ∃ b off, (a = some ⟨b, off, none⟩ ∨ n ≤ 0) ∧ ∀ i, i < n → b < B ∧ w.cell? ⟨b, off + i, none⟩ = some (.int .u32 (xs.getD i 0 : Nat))
theorem URow.keep {w w' : World} {B : Nat} {a : Option Addr} {n c : Nat} {xs : List Nat} (h : URow w B a n c xs) (hk : ∀ p : Addr, p.block < B → w'.cell? p = w.cell? p) : URow w' B a n c xs := by
  obtain ⟨h1, h2, h3, h4, h5, h8, b, off, h6, h7⟩ := h
  exact ⟨h1, h2, h3, h4, h5, h8, b, off, h6, fun i hi => ⟨(h7 i hi).1, (hk ⟨b, off + i, none⟩ (h7 i hi).1).trans (h7 i hi).2⟩⟩

/-- A value: its kind, its number, its name. -/
structure ValM where
  kind : Int
  neg : Bool
  mag : List Nat
  den : List Nat
  name : ByteArray
structure FEqM where
  var : Int
  op : ByteArray
  args : List Int
  k : Int
  lit : ValM
  guard : Int
structure MemM where
  init : ValM
  next : Int
  guard : Int
  resets : List Int
structure SlopeM where
  guard : Int
  var : Int
structure ContM where
  init : ValM
  var : Int
  guard : Int
  resets : List Int
  slopes : List SlopeM
structure COpM where
  op : ByteArray
  args : List Int
structure CrossM where
  guard : Int
  ops : List COpM
structure FlatM where
  ins : List ByteArray
  names : List ByteArray
  outs : List Int
  eqs : List FEqM
  mems : List MemM
  conts : List ContM
  cross : List CrossM
  again : List Int

/-- a cell that holds a slice of numbers -/
def IsAt (w : World) (B b o : Nat) (xs : List Int) : Prop := ∃ A L C, w.cell? ⟨b, o, none⟩ = some (.slice A L C) ∧ IRow w B A L C xs
def UsAt (w : World) (B b o : Nat) (xs : List Nat) : Prop := ∃ A L C, w.cell? ⟨b, o, none⟩ = some (.slice A L C) ∧ URow w B A L C xs
def SsAt {α : Type} (sz : Nat) (R : World → Nat → Nat → Nat → α → Prop) (w : World) (B b o : Nat) (xs : List α) : Prop := ∃ A L C, w.cell? ⟨b, o, none⟩ = some (.slice A L C) ∧ SRow sz R w B A L C xs
def StrAt (w : World) (_ b o : Nat) (s : ByteArray) : Prop := w.cell? ⟨b, o, none⟩ = some (.string s) ∧ s.size ≤ maxLen
def IntAt (w : World) (_ b o : Nat) (x : Int) : Prop := w.cell? ⟨b, o, none⟩ = some (.int .i64 x) ∧ -9223372036854775808 ≤ x ∧ x ≤ 9223372036854775807
structure ValAt (w : World) (B b o : Nat) (v : ValM) : Prop where
  kind : IntAt w B b o v.kind
  neg : w.cell? ⟨b, o + 1, none⟩ = some (.bool v.neg)
  mag : UsAt w B b (o + 2) v.mag
  den : UsAt w B b (o + 3) v.den
  name : StrAt w B b (o + 4) v.name
structure FEqAt (w : World) (B b o : Nat) (q : FEqM) : Prop where
  var : IntAt w B b o q.var
  op : StrAt w B b (o + 1) q.op
  args : IsAt w B b (o + 2) q.args
  k : IntAt w B b (o + 3) q.k
  lit : ValAt w B b (o + 4) q.lit
  guard : IntAt w B b (o + 9) q.guard
structure MemAt (w : World) (B b o : Nat) (m : MemM) : Prop where
  init : ValAt w B b o m.init
  next : IntAt w B b (o + 5) m.next
  guard : IntAt w B b (o + 6) m.guard
  resets : IsAt w B b (o + 7) m.resets
structure SlopeAt (w : World) (B b o : Nat) (s : SlopeM) : Prop where
  guard : IntAt w B b o s.guard
  var : IntAt w B b (o + 1) s.var
structure ContAt (w : World) (B b o : Nat) (m : ContM) : Prop where
  init : ValAt w B b o m.init
  var : IntAt w B b (o + 5) m.var
  guard : IntAt w B b (o + 6) m.guard
  resets : IsAt w B b (o + 7) m.resets
  slopes : SsAt 2 SlopeAt w B b (o + 8) m.slopes
structure COpAt (w : World) (B b o : Nat) (s : COpM) : Prop where
  op : StrAt w B b o s.op
  args : IsAt w B b (o + 1) s.args
structure CrossAt (w : World) (B b o : Nat) (s : CrossM) : Prop where
  guard : IntAt w B b o s.guard
  ops : SsAt 2 COpAt w B b (o + 1) s.ops

section
variable {w w' : World} {B b o : Nat}
theorem IntAt.keep {x : Int} (h : IntAt w B b o x) (hb : b < B) (hk : ∀ p : Addr, p.block < B → w'.cell? p = w.cell? p) : IntAt w' B b o x := ⟨(hk _ hb).trans h.1, h.2⟩
theorem StrAt.keep {x : ByteArray} (h : StrAt w B b o x) (hb : b < B) (hk : ∀ p : Addr, p.block < B → w'.cell? p = w.cell? p) : StrAt w' B b o x := ⟨(hk _ hb).trans h.1, h.2⟩
theorem IsAt.keep {x : List Int} (h : IsAt w B b o x) (hb : b < B) (hk : ∀ p : Addr, p.block < B → w'.cell? p = w.cell? p) : IsAt w' B b o x := by
  obtain ⟨A, L, C, h1, h2⟩ := h; exact ⟨A, L, C, (hk _ hb).trans h1, h2.keep hk⟩
theorem UsAt.keep {x : List Nat} (h : UsAt w B b o x) (hb : b < B) (hk : ∀ p : Addr, p.block < B → w'.cell? p = w.cell? p) : UsAt w' B b o x := by
  obtain ⟨A, L, C, h1, h2⟩ := h; exact ⟨A, L, C, (hk _ hb).trans h1, h2.keep hk⟩
theorem SsAt.keep {α : Type} {sz : Nat} {R : World → Nat → Nat → Nat → α → Prop} {x : List α} (h : SsAt sz R w B b o x) (hb : b < B) (hk : ∀ p : Addr, p.block < B → w'.cell? p = w.cell? p) (hR : ∀ b o x, b < B → R w B b o x → R w' B b o x) : SsAt sz R w' B b o x := by
  obtain ⟨A, L, C, h1, h2⟩ := h; exact ⟨A, L, C, (hk _ hb).trans h1, h2.keep hR⟩
theorem ValAt.keep {v : ValM} (h : ValAt w B b o v) (hb : b < B) (hk : ∀ p : Addr, p.block < B → w'.cell? p = w.cell? p) : ValAt w' B b o v :=
  ⟨h.kind.keep hb hk, (hk _ hb).trans h.neg, h.mag.keep hb hk, h.den.keep hb hk, h.name.keep hb hk⟩
theorem FEqAt.keep {v : FEqM} (h : FEqAt w B b o v) (hb : b < B) (hk : ∀ p : Addr, p.block < B → w'.cell? p = w.cell? p) : FEqAt w' B b o v :=
  ⟨h.var.keep hb hk, h.op.keep hb hk, h.args.keep hb hk, h.k.keep hb hk, h.lit.keep hb hk, h.guard.keep hb hk⟩
theorem MemAt.keep {v : MemM} (h : MemAt w B b o v) (hb : b < B) (hk : ∀ p : Addr, p.block < B → w'.cell? p = w.cell? p) : MemAt w' B b o v :=
  ⟨h.init.keep hb hk, h.next.keep hb hk, h.guard.keep hb hk, h.resets.keep hb hk⟩
theorem SlopeAt.keep {v : SlopeM} (h : SlopeAt w B b o v) (hb : b < B) (hk : ∀ p : Addr, p.block < B → w'.cell? p = w.cell? p) : SlopeAt w' B b o v :=
  ⟨h.guard.keep hb hk, h.var.keep hb hk⟩
theorem ContAt.keep {v : ContM} (h : ContAt w B b o v) (hb : b < B) (hk : ∀ p : Addr, p.block < B → w'.cell? p = w.cell? p) : ContAt w' B b o v :=
  ⟨h.init.keep hb hk, h.var.keep hb hk, h.guard.keep hb hk, h.resets.keep hb hk, h.slopes.keep hb hk fun _ _ _ q r => r.keep q hk⟩
theorem COpAt.keep {v : COpM} (h : COpAt w B b o v) (hb : b < B) (hk : ∀ p : Addr, p.block < B → w'.cell? p = w.cell? p) : COpAt w' B b o v :=
  ⟨h.op.keep hb hk, h.args.keep hb hk⟩
theorem CrossAt.keep {v : CrossM} (h : CrossAt w B b o v) (hb : b < B) (hk : ∀ p : Addr, p.block < B → w'.cell? p = w.cell? p) : CrossAt w' B b o v :=
  ⟨h.guard.keep hb hk, h.ops.keep hb hk fun _ _ _ q r => r.keep q hk⟩
end

/-- eight slices that are a flat program, all of it below block B -/
structure FlatV where
  ins : Option Addr × Nat × Nat
  names : Option Addr × Nat × Nat
  outs : Option Addr × Nat × Nat
  eqs : Option Addr × Nat × Nat
  mems : Option Addr × Nat × Nat
  conts : Option Addr × Nat × Nat
  cross : Option Addr × Nat × Nat
  again : Option Addr × Nat × Nat
def sl3 (s : Option Addr × Nat × Nat) : Value := .slice s.1 s.2.1 s.2.2
/-- the value of a flat program -/
def flatV (v : FlatV) : Value := .agg #[sl3 v.ins, sl3 v.names, sl3 v.outs, sl3 v.eqs, sl3 v.mems, sl3 v.conts, sl3 v.cross, sl3 v.again]
structure FlatIs (w : World) (B : Nat) (v : FlatV) (f : FlatM) : Prop where
  ins : SRow 1 StrAt w B v.ins.1 v.ins.2.1 v.ins.2.2 f.ins
  names : SRow 1 StrAt w B v.names.1 v.names.2.1 v.names.2.2 f.names
  outs : IRow w B v.outs.1 v.outs.2.1 v.outs.2.2 f.outs
  eqs : SRow 10 FEqAt w B v.eqs.1 v.eqs.2.1 v.eqs.2.2 f.eqs
  mems : SRow 8 MemAt w B v.mems.1 v.mems.2.1 v.mems.2.2 f.mems
  conts : SRow 9 ContAt w B v.conts.1 v.conts.2.1 v.conts.2.2 f.conts
  cross : SRow 2 CrossAt w B v.cross.1 v.cross.2.1 v.cross.2.2 f.cross
  again : IRow w B v.again.1 v.again.2.1 v.again.2.2 f.again
theorem FlatIs.keep {w w' : World} {B : Nat} {v : FlatV} {f : FlatM} (h : FlatIs w B v f) (hk : ∀ p : Addr, p.block < B → w'.cell? p = w.cell? p) : FlatIs w' B v f :=
  ⟨h.ins.keep fun _ _ _ q r => r.keep q hk, h.names.keep fun _ _ _ q r => r.keep q hk, h.outs.keep hk, h.eqs.keep fun _ _ _ q r => r.keep q hk, h.mems.keep fun _ _ _ q r => r.keep q hk, h.conts.keep fun _ _ _ q r => r.keep q hk, h.cross.keep fun _ _ _ q r => r.keep q hk, h.again.keep hk⟩
theorem FlatIs.below {w w' : World} {B : Nat} {v : FlatV} {f : FlatM} (h : FlatIs w B v f) (hb : Below B w w') : FlatIs w' B v f := h.keep fun _ hp => hb.cell hp

end Go.Proofs.Ytcljmfhelgkfaaa
