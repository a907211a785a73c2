/- What it says that a flat program lies in memory below a block. No condition. · 12.4 on plain lists. No condition. · How what came in reads: rows of structs. No condition. · A flat program that came in. No condition. -/
import Derived.Test.YtpcpbpinhdbjiaaZMem
import Derived.ProofKit
import Derived.OpenShut
import Derived.ShutString
import Derived.ChangeOld
import Derived.Deep.Slices
import Derived.SizedLaws
import Derived.Deep.Fields
import Derived.Deep.Matrix
import Derived.Lib.SmallJoins
namespace Go.Proofs.Ytpcpbpinhdbjiaa
set_option linter.unusedVariables false
set_option linter.unusedSimpArgs false
set_option maxRecDepth 100000
open Go.RowKit

/-- a row of things of sz cells each: R says what lies from a cell on -/
def SRow {α : Type} (sz : Nat) (R : World → Nat → Nat → Nat → α → Prop) (w : World) (B : Nat) (a : Option Addr) (n c : Nat) (xs : List α) : Prop :=
  xs.length = n ∧ n ≤ c ∧ c ≤ maxLen ∧ ∃ b off, (a = some ⟨b, off, none⟩ ∨ n ≤ 0) ∧ ∀ i x, xs[i]? = some x → b < B ∧ R w B b (off + i * sz) x

section
variable {α : Type} {sz : Nat} {R : World → Nat → Nat → Nat → α → Prop} {w w' : World} {B B' : Nat} {a : Option Addr} {n c : Nat} {xs : List α}
theorem SRow.keep (h : SRow sz R w B a n c xs) (hk : ∀ b o x, b < B → R w B b o x → R w' B b o x) : SRow sz R w' B a n c xs := by
  obtain ⟨h1, h2, h3, b, off, h6, h7⟩ := h
  exact ⟨h1, h2, h3, b, off, h6, fun i x hx => ⟨(h7 i x hx).1, hk b _ x (h7 i x hx).1 (h7 i x hx).2⟩⟩
theorem SRow.at_ (h : SRow sz R w B a n c xs) {i : Nat} {x : α} (hx : xs[i]? = some x) : ∃ b off, a = some ⟨b, off, none⟩ ∧ b < B ∧ R w B b (off + i * sz) x := by
  obtain ⟨h1, h2, h3, b, off, h6, h7⟩ := h
  have hi : i < xs.length := (List.getElem?_eq_some_iff.1 hx).1
  exact ⟨b, off, h6.resolve_right (by omega), h7 i x hx⟩
theorem SRow.len_le (h : SRow sz R w B a n c xs) : n ≤ maxLen := Nat.le_trans h.2.1 h.2.2.1
theorem SRow.len (h : SRow sz R w B a n c xs) : xs.length = n := h.1
theorem SRow.ex (h : SRow sz R w B a n c xs) {i : Nat} (hi : i < n) : ∃ x, xs[i]? = some x := ⟨_, List.getElem?_eq_getElem (by rw [h.1]; exact hi)⟩
theorem SRow.nil (sz : Nat) (R : World → Nat → Nat → Nat → α → Prop) (w : World) (B : Nat) : SRow sz R w B none 0 0 [] :=
  ⟨rfl, Nat.le_refl _, Nat.zero_le _, 0, 0, .inr (Nat.le_refl _), fun i x h => by simp at h⟩
end

/-- a slice of uint32, as numbers, all of it below block B -/
def URow (w : World) (B : Nat) (a : Option Addr) (n c : Nat) (xs : List Nat) : Prop :=
  xs.length = n ∧ n ≤ c ∧ c ≤ maxLen ∧ (a = none → c = 0) ∧ (∀ x ∈ xs, x < 4294967296) ∧ n ≤ 35184372088832 ∧ ∃ b off, (a = some ⟨b, off, none⟩ ∨ n ≤ 0) ∧ ∀ i, i < n → b < B ∧ w.cell? ⟨b, off + i, none⟩ = some (.int .u32 (xs.getD i 0 : Nat))
theorem URow.keep {w w' : World} {B : Nat} {a : Option Addr} {n c : Nat} {xs : List Nat} (h : URow w B a n c xs) (hk : ∀ p : Addr, p.block < B → w'.cell? p = w.cell? p) : URow w' B a n c xs := by
  obtain ⟨h1, h2, h3, h4, h5, h8, b, off, h6, h7⟩ := h
  exact ⟨h1, h2, h3, h4, h5, h8, b, off, h6, fun i hi => ⟨(h7 i hi).1, (hk ⟨b, off + i, none⟩ (h7 i hi).1).trans (h7 i hi).2⟩⟩

/-- A value: its kind, its number, its name. -/
structure ValM where
  kind : Int
  neg : Bool
  mag : List Nat
  den : List Nat
  name : ByteArray
structure FEqM where
  var : Int
  op : ByteArray
  args : List Int
  k : Int
  lit : ValM
  guard : Int
structure MemM where
  init : ValM
  next : Int
  guard : Int
  resets : List Int
structure SlopeM where
  guard : Int
  var : Int
structure ContM where
  init : ValM
  var : Int
  guard : Int
  resets : List Int
  slopes : List SlopeM
structure COpM where
  op : ByteArray
  args : List Int
structure CrossM where
  guard : Int
  ops : List COpM
structure FlatM where
  ins : List ByteArray
  names : List ByteArray
  outs : List Int
  eqs : List FEqM
  mems : List MemM
  conts : List ContM
  cross : List CrossM
  again : List Int

/-- a cell that holds a slice of numbers -/
def IsAt (w : World) (B b o : Nat) (xs : List Int) : Prop := ∃ A L C, w.cell? ⟨b, o, none⟩ = some (.slice A L C) ∧ IRow w B A L C xs
def UsAt (w : World) (B b o : Nat) (xs : List Nat) : Prop := ∃ A L C, w.cell? ⟨b, o, none⟩ = some (.slice A L C) ∧ URow w B A L C xs
def SsAt {α : Type} (sz : Nat) (R : World → Nat → Nat → Nat → α → Prop) (w : World) (B b o : Nat) (xs : List α) : Prop := ∃ A L C, w.cell? ⟨b, o, none⟩ = some (.slice A L C) ∧ SRow sz R w B A L C xs
def StrAt (w : World) (_ b o : Nat) (s : ByteArray) : Prop := w.cell? ⟨b, o, none⟩ = some (.string s) ∧ s.size ≤ maxLen
def IntAt (w : World) (_ b o : Nat) (x : Int) : Prop := w.cell? ⟨b, o, none⟩ = some (.int .i64 x) ∧ -9223372036854775808 ≤ x ∧ x ≤ 9223372036854775807
structure ValAt (w : World) (B b o : Nat) (v : ValM) : Prop where
  kind : IntAt w B b o v.kind
  neg : w.cell? ⟨b, o + 1, none⟩ = some (.bool v.neg)
  mag : UsAt w B b (o + 2) v.mag
  den : UsAt w B b (o + 3) v.den
  name : StrAt w B b (o + 4) v.name
structure FEqAt (w : World) (B b o : Nat) (q : FEqM) : Prop where
  var : IntAt w B b o q.var
  op : StrAt w B b (o + 1) q.op
  args : IsAt w B b (o + 2) q.args
  k : IntAt w B b (o + 3) q.k
  lit : ValAt w B b (o + 4) q.lit
  guard : IntAt w B b (o + 9) q.guard
structure MemAt (w : World) (B b o : Nat) (m : MemM) : Prop where
  init : ValAt w B b o m.init
  next : IntAt w B b (o + 5) m.next
  guard : IntAt w B b (o + 6) m.guard
  resets : IsAt w B b (o + 7) m.resets
structure SlopeAt (w : World) (B b o : Nat) (s : SlopeM) : Prop where
  guard : IntAt w B b o s.guard
  var : IntAt w B b (o + 1) s.var
structure ContAt (w : World) (B b o : Nat) (m : ContM) : Prop where
  init : ValAt w B b o m.init
  var : IntAt w B b (o + 5) m.var
  guard : IntAt w B b (o + 6) m.guard
  resets : IsAt w B b (o + 7) m.resets
  slopes : SsAt 2 SlopeAt w B b (o + 8) m.slopes
structure COpAt (w : World) (B b o : Nat) (s : COpM) : Prop where
  op : StrAt w B b o s.op
  args : IsAt w B b (o + 1) s.args
structure CrossAt (w : World) (B b o : Nat) (s : CrossM) : Prop where
  guard : IntAt w B b o s.guard
  ops : SsAt 2 COpAt w B b (o + 1) s.ops

section
variable {w w' : World} {B b o : Nat}
theorem IntAt.keep {x : Int} (h : IntAt w B b o x) (hb : b < B) (hk : ∀ p : Addr, p.block < B → w'.cell? p = w.cell? p) : IntAt w' B b o x := ⟨(hk _ hb).trans h.1, h.2⟩
theorem StrAt.keep {x : ByteArray} (h : StrAt w B b o x) (hb : b < B) (hk : ∀ p : Addr, p.block < B → w'.cell? p = w.cell? p) : StrAt w' B b o x := ⟨(hk _ hb).trans h.1, h.2⟩
theorem IsAt.keep {x : List Int} (h : IsAt w B b o x) (hb : b < B) (hk : ∀ p : Addr, p.block < B → w'.cell? p = w.cell? p) : IsAt w' B b o x := by
  obtain ⟨A, L, C, h1, h2⟩ := h; exact ⟨A, L, C, (hk _ hb).trans h1, h2.keep hk⟩
theorem UsAt.keep {x : List Nat} (h : UsAt w B b o x) (hb : b < B) (hk : ∀ p : Addr, p.block < B → w'.cell? p = w.cell? p) : UsAt w' B b o x := by
  obtain ⟨A, L, C, h1, h2⟩ := h; exact ⟨A, L, C, (hk _ hb).trans h1, h2.keep hk⟩
theorem SsAt.keep {α : Type} {sz : Nat} {R : World → Nat → Nat → Nat → α → Prop} {x : List α} (h : SsAt sz R w B b o x) (hb : b < B) (hk : ∀ p : Addr, p.block < B → w'.cell? p = w.cell? p) (hR : ∀ b o x, b < B → R w B b o x → R w' B b o x) : SsAt sz R w' B b o x := by
  obtain ⟨A, L, C, h1, h2⟩ := h; exact ⟨A, L, C, (hk _ hb).trans h1, h2.keep hR⟩
theorem ValAt.keep {v : ValM} (h : ValAt w B b o v) (hb : b < B) (hk : ∀ p : Addr, p.block < B → w'.cell? p = w.cell? p) : ValAt w' B b o v :=
  ⟨h.kind.keep hb hk, (hk _ hb).trans h.neg, h.mag.keep hb hk, h.den.keep hb hk, h.name.keep hb hk⟩
theorem FEqAt.keep {v : FEqM} (h : FEqAt w B b o v) (hb : b < B) (hk : ∀ p : Addr, p.block < B → w'.cell? p = w.cell? p) : FEqAt w' B b o v :=
  ⟨h.var.keep hb hk, h.op.keep hb hk, h.args.keep hb hk, h.k.keep hb hk, h.lit.keep hb hk, h.guard.keep hb hk⟩
theorem MemAt.keep {v : MemM} (h : MemAt w B b o v) (hb : b < B) (hk : ∀ p : Addr, p.block < B → w'.cell? p = w.cell? p) : MemAt w' B b o v :=
  ⟨h.init.keep hb hk, h.next.keep hb hk, h.guard.keep hb hk, h.resets.keep hb hk⟩
theorem SlopeAt.keep {v : SlopeM} (h : SlopeAt w B b o v) (hb : b < B) (hk : ∀ p : Addr, p.block < B → w'.cell? p = w.cell? p) : SlopeAt w' B b o v :=
  ⟨h.guard.keep hb hk, h.var.keep hb hk⟩
theorem ContAt.keep {v : ContM} (h : ContAt w B b o v) (hb : b < B) (hk : ∀ p : Addr, p.block < B → w'.cell? p = w.cell? p) : ContAt w' B b o v :=
  ⟨h.init.keep hb hk, h.var.keep hb hk, h.guard.keep hb hk, h.resets.keep hb hk, h.slopes.keep hb hk fun _ _ _ q r => r.keep q hk⟩
theorem COpAt.keep {v : COpM} (h : COpAt w B b o v) (hb : b < B) (hk : ∀ p : Addr, p.block < B → w'.cell? p = w.cell? p) : COpAt w' B b o v :=
  ⟨h.op.keep hb hk, h.args.keep hb hk⟩
theorem CrossAt.keep {v : CrossM} (h : CrossAt w B b o v) (hb : b < B) (hk : ∀ p : Addr, p.block < B → w'.cell? p = w.cell? p) : CrossAt w' B b o v :=
  ⟨h.guard.keep hb hk, h.ops.keep hb hk fun _ _ _ q r => r.keep q hk⟩
end

/-- eight slices that are a flat program, all of it below block B -/
structure FlatV where
  ins : Option Addr × Nat × Nat
  names : Option Addr × Nat × Nat
  outs : Option Addr × Nat × Nat
  eqs : Option Addr × Nat × Nat
  mems : Option Addr × Nat × Nat
  conts : Option Addr × Nat × Nat
  cross : Option Addr × Nat × Nat
  again : Option Addr × Nat × Nat
def sl3 (s : Option Addr × Nat × Nat) : Value := .slice s.1 s.2.1 s.2.2
/-- the value of a flat program -/
def flatV (v : FlatV) : Value := .agg #[sl3 v.ins, sl3 v.names, sl3 v.outs, sl3 v.eqs, sl3 v.mems, sl3 v.conts, sl3 v.cross, sl3 v.again]
structure FlatIs (w : World) (B : Nat) (v : FlatV) (f : FlatM) : Prop where
  ins : SRow 1 StrAt w B v.ins.1 v.ins.2.1 v.ins.2.2 f.ins
  names : SRow 1 StrAt w B v.names.1 v.names.2.1 v.names.2.2 f.names
  outs : IRow w B v.outs.1 v.outs.2.1 v.outs.2.2 f.outs
  eqs : SRow 10 FEqAt w B v.eqs.1 v.eqs.2.1 v.eqs.2.2 f.eqs
  mems : SRow 8 MemAt w B v.mems.1 v.mems.2.1 v.mems.2.2 f.mems
  conts : SRow 9 ContAt w B v.conts.1 v.conts.2.1 v.conts.2.2 f.conts
  cross : SRow 2 CrossAt w B v.cross.1 v.cross.2.1 v.cross.2.2 f.cross
  again : IRow w B v.again.1 v.again.2.1 v.again.2.2 f.again
theorem FlatIs.keep {w w' : World} {B : Nat} {v : FlatV} {f : FlatM} (h : FlatIs w B v f) (hk : ∀ p : Addr, p.block < B → w'.cell? p = w.cell? p) : FlatIs w' B v f :=
  ⟨h.ins.keep fun _ _ _ q r => r.keep q hk, h.names.keep fun _ _ _ q r => r.keep q hk, h.outs.keep hk, h.eqs.keep fun _ _ _ q r => r.keep q hk, h.mems.keep fun _ _ _ q r => r.keep q hk, h.conts.keep fun _ _ _ q r => r.keep q hk, h.cross.keep fun _ _ _ q r => r.keep q hk, h.again.keep hk⟩
theorem FlatIs.below {w w' : World} {B : Nat} {v : FlatV} {f : FlatM} (h : FlatIs w B v f) (hb : Below B w w') : FlatIs w' B v f := h.keep fun _ hp => hb.cell hp

end Go.Proofs.Ytpcpbpinhdbjiaa

namespace Go.Proofs.Ytpcpbpinhdbjiaa
set_option linter.unusedVariables false
set_option linter.unusedSimpArgs false
set_option maxRecDepth 100000
open Go.RowKit

/-- is a number a place of a row of so many? -/
def plB (i : Int) (n : Nat) : Bool := decide (0 ≤ i) && decide (i < (n : Int))
/-- are all? -/
def wiB (l : List Int) (n : Nat) : Bool := l.all fun i => plB i n
/-- a guard: none, or a place -/
def guB (g : Int) (n : Nat) : Bool := decide (g < (n : Int))

def bs (l : List UInt8) : ByteArray := ⟨l.toArray⟩
def opLit : ByteArray := bs [108, 105, 116]
def opIn : ByteArray := bs [105, 110]
def opMem : ByteArray := bs [109, 101, 109]
def opCont : ByteArray := bs [99, 111, 110, 116]
def opFlag : ByteArray := bs [102, 108, 97, 103]
def opsOne : List ByteArray := [bs [99, 111, 112, 121], bs [110, 101, 103], bs [110, 111, 116], bs [102, 108, 111, 111, 114], bs [114, 97, 116]]
def opsSome : List ByteArray := [bs [103, 97, 110, 100], bs [109, 114, 103]]
def opsTwo : List ByteArray := [bs [43], bs [45], bs [42], bs [47], bs [100, 105, 118], bs [109, 111, 100], bs [60], bs [60, 61], bs [62], bs [62, 61], bs [61, 61], bs [33, 61], bs [97, 110, 100], bs [111, 114]]
def opSel : ByteArray := bs [115, 101, 108]

/-- has an operation as many Args as it needs? -/
def enB (op : ByteArray) (n : Nat) : Bool :=
  if op = opLit ∨ op = opIn ∨ op = opMem ∨ op = opCont ∨ op = opFlag then n == 0
  else if opsOne.any (fun x => decide (op = x)) then n == 1
  else if opsSome.any (fun x => decide (op = x)) then decide (1 ≤ n)
  else if opsTwo.any (fun x => decide (op = x)) then n == 2
  else if op = opSel then n == 3
  else false
/-- is K a place of what the operation reads, if it reads something? -/
def kL (op : ByteArray) (k : Int) (li lm lc lx : Nat) : Bool :=
  if op = opIn then plB k li
  else if op = opMem then plB k lm
  else if op = opCont then plB k lc
  else if op = opFlag then plB k lx
  else true
def kB (f : FlatM) (q : FEqM) : Bool := kL q.op q.k f.ins.length f.mems.length f.conts.length f.cross.length
/-- what a memory or a state that is read begins anew by -/
def resL (f : FlatM) (op : ByteArray) (k : Int) : Bool :=
  if op = opMem then wiB ((f.mems[k.toNat]?.map MemM.resets).getD []) f.names.length
  else if op = opCont then wiB ((f.conts[k.toNat]?.map ContM.resets).getD []) f.names.length
  else true
/-- what the answer's right asks of an operation -/
def rgL (f : FlatM) (op : ByteArray) (n : Nat) (k : Int) : Bool := enB op n && kL op k f.ins.length f.mems.length f.conts.length f.cross.length && resL f op k
/-- an equation -/
def eqB (f : FlatM) (q : FEqM) : Bool := guB q.guard f.names.length && wiB q.args f.names.length && enB q.op q.args.length && kB f q
def memB (f : FlatM) (m : MemM) : Bool := plB m.next f.names.length && guB m.guard f.names.length && wiB m.resets f.names.length
def slopeB (f : FlatM) (s : SlopeM) : Bool := guB s.guard f.names.length && plB s.var f.names.length
def contB (f : FlatM) (c : ContM) : Bool := plB c.var f.names.length && guB c.guard f.names.length && wiB c.resets f.names.length && c.slopes.all (slopeB f)

def copVar : ByteArray := bs [118, 97, 114]
def copCont : ByteArray := bs [99, 111, 110, 116]
def copNeg : ByteArray := bs [110, 101, 103]
def copsTwo : List ByteArray := [bs [43], bs [45], bs [47]]
def copMul : ByteArray := bs [42]
def copSel : ByteArray := bs [115, 101, 108]
/-- an operation of a crossing, with so many ahead of it -/
def askL (op : ByteArray) (args : List Int) (i N C : Nat) : Bool :=
  if op = copVar then args.length == 1 && wiB args N
  else if op = copCont then args.length == 1 && wiB args C
  else if op = copNeg then args.length == 1 && wiB args i
  else if copsTwo.any (fun x => decide (op = x)) then args.length == 2 && wiB args i
  else if op = copMul then args.length == 3 && (wiB (args.take 2) i && wiB (args.drop 2) 2)
  else if op = copSel then args.length == 3 && (wiB (args.take 1) N && wiB (args.drop 1) i)
  else false
def askB (f : FlatM) (i : Nat) (o : COpM) : Bool := askL o.op o.args i f.names.length f.conts.length
def asksB (f : FlatM) : Nat → List COpM → Bool
  | _, [] => true
  | i, o :: r => askB f i o && asksB f (i + 1) r
def crossB (f : FlatM) (c : CrossM) : Bool := guB c.guard f.names.length && (decide (0 < c.ops.length) && asksB f 0 c.ops)

/-- 12.4: each variable is told once -/
def onceB (f : FlatM) : Bool := (f.eqs.map FEqM.var).all (fun v => plB v f.names.length) && decide (f.eqs.map FEqM.var).Nodup && (f.eqs.length == f.names.length)
def eqsB (f : FlatM) : Bool := f.eqs.all (eqB f)
def keptB (f : FlatM) : Bool := wiB f.outs f.names.length && wiB f.again f.names.length && f.mems.all (memB f) && f.conts.all (contB f)
def crsB (f : FlatM) : Bool := f.cross.all (crossB f)
def goodB (f : FlatM) : Bool := onceB f && eqsB f && keptB f && crsB f

end Go.Proofs.Ytpcpbpinhdbjiaa

namespace Go.Proofs.Ytpcpbpinhdbjiaa
set_option linter.unusedVariables false
set_option linter.unusedSimpArgs false
set_option maxRecDepth 100000
open Go.ChangeShapes Go.WideShapes Go.ChangeAt Go.RowKit Go.Joins

/-- cells that read as a value of a type -/
def Tr (w : World) (t : TypeId) (cs : List Value) : Prop :=
  ∃ (H : Type) (enc : TypeId × Value → H) (base : Nat) (spare : Nat → Bool) (held : Bool) (fuel : Nat) (x : DataW H × List MemPlace), DataW.trod enc Try.prog w base spare held fuel t cs = some x ∧ ∀ n ∈ x.1.weights Try.prog t, n ≤ reachBytes
theorem weights_all {H : Type} {P : Program} {e : TypeId} : ∀ {l : List (DataW H)} {d : DataW H}, d ∈ l → ∀ n ∈ d.weights P e, n ∈ DataW.weightsAll P e l
  | x :: l, d, h, n, hn => by
    simp only [DataW.weightsAll, List.mem_append]
    rcases List.mem_cons.1 h with rfl | h
    · exact Or.inl hn
    · exact Or.inr (weights_all h n hn)

theorem Tr.int {w : World} {t : TypeId} {k : IntKind} {cs : List Value} (ht : Try.prog.underlying t = some (.int k)) (h : Tr w t cs) : ∃ n, cs = [.int k n] ∧ (Lit.int k n).wf = true := by
  obtain ⟨H, enc, base, spare, held, fuel, x, h, _⟩ := h
  obtain ⟨n, h1, _, h2⟩ := DataW.trod_int ht h
  exact ⟨n, h1, h2⟩
theorem Tr.i64 {w : World} {t : TypeId} {cs : List Value} (ht : Try.prog.underlying t = some (.int .i64)) (h : Tr w t cs) : ∃ n : Int, cs = [.int .i64 n] ∧ -9223372036854775808 ≤ n ∧ n ≤ 9223372036854775807 := by
  obtain ⟨n, h1, w1⟩ := h.int ht
  refine ⟨n, h1, ?_⟩
  simp only [Lit.wf, IntKind.min, IntKind.max, IntKind.signed, IntKind.bits, Bool.and_eq_true, decide_eq_true_eq, if_true] at w1
  omega
theorem Tr.u32 {w : World} {t : TypeId} {cs : List Value} (ht : Try.prog.underlying t = some (.int .u32)) (h : Tr w t cs) : ∃ n : Nat, cs = [.int .u32 (n : Int)] ∧ n < 4294967296 := by
  obtain ⟨n, h1, w1⟩ := h.int ht
  simp [Lit.wf, IntKind.min, IntKind.max, IntKind.signed, IntKind.bits, Bool.and_eq_true, decide_eq_true_eq] at w1
  exact ⟨n.toNat, by rw [h1, Int.toNat_of_nonneg w1.1], by omega⟩
theorem Tr.bool {w : World} {t : TypeId} {cs : List Value} (ht : Try.prog.underlying t = some .bool) (h : Tr w t cs) : ∃ b, cs = [.bool b] := by
  obtain ⟨H, enc, base, spare, held, fuel, x, h, _⟩ := h
  obtain ⟨b, h1, _⟩ := DataW.trod_bool ht h
  exact ⟨b, h1⟩
theorem Tr.str {w : World} {t : TypeId} {cs : List Value} (ht : Try.prog.underlying t = some .string) (h : Tr w t cs) : ∃ s : ByteArray, cs = [.string s] ∧ s.size ≤ maxLen := by
  obtain ⟨H, enc, base, spare, held, fuel, x, h, _⟩ := h
  obtain ⟨b, h1, _, h2⟩ := DataW.trod_string ht h
  exact ⟨b, h1, h2⟩
/-- a struct: its cells, and each field -/
theorem Tr.struct {w : World} {t : TypeId} {fs : Array Field} {cs : List Value} (ht : Try.prog.underlying t = some (.struct fs)) (h : Tr w t cs) :
    cs.length = Try.prog.cellsOf t ∧ ∀ (i : Nat) (f : Field), fs[i]? = some f → Tr w f.type ((cs.drop f.offset).take (Try.prog.cellsOf f.type)) := by
  obtain ⟨H, enc, base, spare, held, fuel, x, h, hz⟩ := h
  obtain ⟨xs, n, _, rfl, h1, h2, h3⟩ := DataW.trod_struct ht h
  refine ⟨h1, fun i f hf => ?_⟩
  have hi : i < xs.length := by rw [h2]; exact (Array.getElem?_eq_some_iff.1 hf).1
  refine ⟨H, enc, base, spare, held, n, _, (h3 i f hf).trans (List.getElem?_eq_getElem hi), fun k hk => hz k ?_⟩
  have hm := DataW.weights_mem_each (P := Try.prog) (ts := fs.toList.map (·.type)) (ds := xs.map (·.1)) (j := i) (t := f.type) (d := xs[i].1) (by rw [List.getElem?_map, Array.getElem?_toList, hf]; rfl) (by rw [List.getElem?_map, List.getElem?_eq_getElem hi]; rfl) k hk
  simp only [DataW.weights, ht]
  exact hm
theorem pick {α : Type} (n : Nat) (Q : Nat → α → Prop) (h : ∀ i, i < n → ∃ x, Q i x) : ∃ xs : List α, xs.length = n ∧ ∀ i x, xs[i]? = some x → Q i x := by
  induction n with
  | zero => exact ⟨[], rfl, fun i x h => by simp at h⟩
  | succ n ih =>
    obtain ⟨xs, h1, h2⟩ := ih fun i hi => h i (by omega)
    obtain ⟨x, hx⟩ := h n (by omega)
    refine ⟨xs ++ [x], by simp [h1], fun i y hy => ?_⟩
    rcases Nat.lt_or_ge i n with q | q
    · rw [List.getElem?_append_left (by omega)] at hy; exact h2 i y hy
    · rw [List.getElem?_append_right (by omega), h1] at hy
      have : i = n := by
        rcases Nat.lt_or_ge n i with r | r
        · rw [List.getElem?_eq_none (by simp; omega)] at hy; cases hy
        · omega
      subst this
      simp at hy; subst hy; exact hx
/-- a slice: a row of cells, each element so many -/
theorem Tr.slice {w : World} {t e : TypeId} {cs : List Value} (sz : Nat) (ht : Try.prog.underlying t = some (.slice e)) (hsz : Try.prog.cellsOf e = sz) (h0 : 0 < sz) (h : Tr w t cs) :
    ∃ (a : Option Addr) (n c : Nat), cs = [.slice a n c] ∧ n ≤ c ∧ c ≤ maxLen ∧ (a = none → c = 0) ∧ n * Try.prog.bytesOf e ≤ reachBytes ∧ ∃ b off, (a = some ⟨b, off, none⟩ ∨ n ≤ 0) ∧ ∀ i, i < n → b < w.heap.size ∧ ∃ ds, (∀ j, j < sz → w.cell? ⟨b, off + i * sz + j, none⟩ = ds[j]?) ∧ ds.length = sz ∧ Tr w e ds := by
  obtain ⟨H, enc, base, spare, held, fuel, x, h, hz⟩ := h
  subst hsz
  rcases Go.Deep.open_slice ht h with ⟨h1, _⟩ | ⟨a, len, cap, m, k, D, Pl, hcs, hb, hl, hm, hmm, hx, hi⟩
  · exact ⟨none, 0, 0, h1, Nat.le_refl _, Nat.zero_le _, fun _ => rfl, by simp, 0, 0, .inr (Nat.le_refl _), fun i hi => by omega⟩
  · subst hx
    simp only [DataW.weights, ht, List.mem_cons, List.mem_append, forall_eq_or_imp] at hz
    obtain ⟨hz0, hz1⟩ := hz
    have hzb : len * Try.prog.bytesOf e ≤ reachBytes := Nat.le_trans (Nat.mul_le_mul_right _ (by simp)) hz0
    refine ⟨some a, len, cap, hcs, hl, hm, (fun h => by cases h), hzb, ?_⟩
    have hlm : len ≤ m := by rw [hmm]; split <;> omega
    by_cases h0' : 0 < len
    · obtain ⟨b, off, spot⟩ := a
      have hspot : spot = none := by
        obtain ⟨ds, h1, h2⟩ := hi 0 (by omega)
        obtain ⟨_, hl1, hc⟩ := World.cells?_some h1
        have := hc 0 h0
        have hd : ds[0]? = some (ds[0]'(by omega)) := List.getElem?_eq_getElem (by omega)
        rw [hd] at this
        simpa [Addr.add] using World.cell?_spot this
      subst hspot
      refine ⟨b, off, .inl rfl, fun i hil => ?_⟩
      obtain ⟨ds, h1, h2⟩ := hi i (by omega)
      obtain ⟨_, hl1, hc⟩ := World.cells?_some h1
      have hc' : ∀ j, j < Try.prog.cellsOf e → w.cell? ⟨b, off + i * Try.prog.cellsOf e + j, none⟩ = ds[j]? := fun j hj => by
        have := hc j hj
        rw [Go.Deep.add_add, Go.WideShapes.add_plain, ← Nat.add_assoc] at this
        exact this
      refine ⟨?_, ds, hc', hl1, H, enc, base, spare, held, k, _, h2, fun q hq => hz1 q (Or.inl (weights_all (List.mem_map.2 ⟨i, List.mem_range.2 hil, rfl⟩) q hq))⟩
      have := hc' 0 h0
      rw [List.getElem?_eq_getElem (by omega : 0 < ds.length)] at this
      exact World.block_lt_of_cell? w ⟨b, _, none⟩ this
    · exact ⟨0, 0, .inr (by omega), fun i hi => by omega⟩
theorem SRow.of_tr {α : Type} {R : World → Nat → Nat → Nat → α → Prop} {w : World} {t e : TypeId} {v : Value} (sz : Nat) (ht : Try.prog.underlying t = some (.slice e)) (hsz : Try.prog.cellsOf e = sz) (h0 : 0 < sz) (h : Tr w t [v])
    (hR : ∀ b o ds, b < w.heap.size → (∀ j, j < sz → w.cell? ⟨b, o + j, none⟩ = ds[j]?) → ds.length = sz → Tr w e ds → ∃ x, R w w.heap.size b o x) : ∃ a n c xs, v = .slice a n c ∧ SRow sz R w w.heap.size a n c xs := by
  obtain ⟨a, n, c, hv, h1, h2, _, _, b, off, h3, h4⟩ := h.slice sz ht hsz h0
  obtain ⟨xs, hl, hx⟩ := pick n (fun i x => b < w.heap.size ∧ R w w.heap.size b (off + i * sz) x) fun i hi => by
    obtain ⟨hb, ds, q1, q2, q3⟩ := h4 i hi
    obtain ⟨x, hx⟩ := hR b (off + i * sz) ds hb q1 q2 q3
    exact ⟨x, hb, hx⟩
  exact ⟨a, n, c, xs, by simpa using hv, hl, h1, h2, b, off, h3, hx⟩
theorem irow_of_tr {w : World} {v : Value} (h : Tr w 23 [v]) : ∃ a n c xs, v = .slice a n c ∧ IRow w w.heap.size a n c xs := by
  obtain ⟨a, n, c, hv, h1, h2, hn, _, b, off, h3, h4⟩ := h.slice 1 Try.underlying23 (by kernel_rfl) (by decide)
  obtain ⟨xs, hl, hx⟩ := pick n (fun i (x : Int) => b < w.heap.size ∧ w.cell? ⟨b, off + i, none⟩ = some (.int .i64 x)) fun i hi => by
    obtain ⟨hb, ds, q1, q2, q3⟩ := h4 i hi
    obtain ⟨x, rfl, hx⟩ := q3.i64 Try.underlying3
    exact ⟨x, hb, by simpa using q1 0 (by decide)⟩
  refine ⟨a, n, c, xs, by simpa using hv, hl, h1, h2, hn, b, off, h3, fun i hi => ?_⟩
  have hx' : xs[i]? = some (xs.getD i 0) := by rw [List.getElem?_eq_getElem (by omega)]; simp [show i < xs.length by omega]
  exact hx i _ hx'
theorem urow_of_tr {w : World} {v : Value} (h : Tr w 44 [v]) : ∃ a n c xs, v = .slice a n c ∧ URow w w.heap.size a n c xs := by
  obtain ⟨a, n, c, hv, h1, h2, hn, hzb, b, off, h3, h4⟩ := h.slice 1 Try.underlying44 (by kernel_rfl) (by decide)
  obtain ⟨xs, hl, hx⟩ := pick n (fun i (x : Nat) => b < w.heap.size ∧ w.cell? ⟨b, off + i, none⟩ = some (.int .u32 (x : Int)) ∧ x < 4294967296) fun i hi => by
    obtain ⟨hb, ds, q1, q2, q3⟩ := h4 i hi
    obtain ⟨x, rfl, hx⟩ := q3.u32 Try.underlying106
    exact ⟨x, hb, by simpa using q1 0 (by decide), hx⟩
  refine ⟨a, n, c, xs, by simpa using hv, hl, h1, h2, hn, fun x hx' => ?_, (by rw [show Try.prog.bytesOf 106 = 4 by kernel_rfl] at hzb; unfold reachBytes at hzb; omega), b, off, h3, fun i hi => ?_⟩
  · obtain ⟨i, hi, e⟩ := List.getElem_of_mem hx'
    exact (hx i x (by rw [List.getElem?_eq_getElem hi, e])).2.2
  · have hx' : xs[i]? = some (xs.getD i 0) := by rw [List.getElem?_eq_getElem (by omega)]; simp [show i < xs.length by omega]
    obtain ⟨q1, q2, _⟩ := hx i _ hx'
    exact ⟨q1, q2⟩

end Go.Proofs.Ytpcpbpinhdbjiaa

namespace Go.Proofs.Ytpcpbpinhdbjiaa
set_option linter.unusedVariables false
set_option linter.unusedSimpArgs false
set_option maxRecDepth 100000
open Go.ChangeShapes Go.WideShapes Go.ChangeAt Go.RowKit Go.Joins

theorem sub_cells {w : World} {b o sz : Nat} {ds : List Value} (hc : ∀ j, j < sz → w.cell? ⟨b, o + j, none⟩ = ds[j]?) (k m : Nat) (h : k + m ≤ sz) : ∀ j, j < m → w.cell? ⟨b, o + k + j, none⟩ = ((ds.drop k).take m)[j]? := fun j hj => by
  rw [List.getElem?_take_of_lt hj, List.getElem?_drop, Nat.add_assoc]
  exact hc (k + j) (by omega)
theorem sub_len {sz : Nat} {ds : List Value} (hl : ds.length = sz) (k m : Nat) (h : k + m ≤ sz) : ((ds.drop k).take m).length = m := by
  rw [List.length_take, List.length_drop]; omega
theorem one_cell {ds : List Value} (hl : ds.length = 1) : ∃ v, ds = [v] := by
  match ds, hl with
  | [v], _ => exact ⟨v, rfl⟩
section
variable {w : World} {b o : Nat} {ds : List Value}
theorem int_came (hb : b < w.heap.size) (hc : ∀ j, j < 1 → w.cell? ⟨b, o + j, none⟩ = ds[j]?) (hl : ds.length = 1) (ht : Tr w 3 ds) : ∃ x, IntAt w w.heap.size b o x := by
  obtain ⟨x, rfl, h1⟩ := ht.i64 Try.underlying3
  exact ⟨x, hc 0 (by decide), h1⟩
theorem str_came (hb : b < w.heap.size) (hc : ∀ j, j < 1 → w.cell? ⟨b, o + j, none⟩ = ds[j]?) (hl : ds.length = 1) (ht : Tr w 9 ds) : ∃ x, StrAt w w.heap.size b o x := by
  obtain ⟨x, rfl, h1⟩ := ht.str Try.underlying9
  exact ⟨x, hc 0 (by decide), h1⟩
theorem bool_came (hb : b < w.heap.size) (hc : ∀ j, j < 1 → w.cell? ⟨b, o + j, none⟩ = ds[j]?) (hl : ds.length = 1) (ht : Tr w 4 ds) : ∃ x, w.cell? ⟨b, o, none⟩ = some (.bool x) := by
  obtain ⟨x, rfl⟩ := ht.bool Try.underlying4
  exact ⟨x, hc 0 (by decide)⟩
theorem is_came (hb : b < w.heap.size) (hc : ∀ j, j < 1 → w.cell? ⟨b, o + j, none⟩ = ds[j]?) (hl : ds.length = 1) (ht : Tr w 23 ds) : ∃ x, IsAt w w.heap.size b o x := by
  obtain ⟨v, rfl⟩ := one_cell hl
  obtain ⟨a, n, c, xs, rfl, h⟩ := irow_of_tr ht
  exact ⟨xs, a, n, c, hc 0 (by decide), h⟩
theorem us_came (hb : b < w.heap.size) (hc : ∀ j, j < 1 → w.cell? ⟨b, o + j, none⟩ = ds[j]?) (hl : ds.length = 1) (ht : Tr w 44 ds) : ∃ x, UsAt w w.heap.size b o x := by
  obtain ⟨v, rfl⟩ := one_cell hl
  obtain ⟨a, n, c, xs, rfl, h⟩ := urow_of_tr ht
  exact ⟨xs, a, n, c, hc 0 (by decide), h⟩
theorem ss_came {α : Type} {R : World → Nat → Nat → Nat → α → Prop} {t e : TypeId} (sz : Nat) (hte : Try.prog.underlying t = some (.slice e)) (hsz : Try.prog.cellsOf e = sz) (h0 : 0 < sz) (hb : b < w.heap.size) (hc : ∀ j, j < 1 → w.cell? ⟨b, o + j, none⟩ = ds[j]?) (hl : ds.length = 1) (ht : Tr w t ds)
    (hR : ∀ b o ds, b < w.heap.size → (∀ j, j < sz → w.cell? ⟨b, o + j, none⟩ = ds[j]?) → ds.length = sz → Tr w e ds → ∃ x, R w w.heap.size b o x) : ∃ x, SsAt sz R w w.heap.size b o x := by
  obtain ⟨v, rfl⟩ := one_cell hl
  obtain ⟨a, n, c, xs, rfl, h⟩ := SRow.of_tr sz hte hsz h0 ht hR
  exact ⟨xs, a, n, c, hc 0 (by decide), h⟩
theorem aint_came (hb : b < w.heap.size) (hc : ∀ j, j < 2 → w.cell? ⟨b, o + j, none⟩ = ds[j]?) (hl : ds.length = 2) (ht : Tr w 46 ds) : ∃ (x : Bool) (y : List Nat), w.cell? ⟨b, o, none⟩ = some (.bool x) ∧ UsAt w w.heap.size b (o + 1) y := by
  have hs := (ht.struct Try.underlying46).2
  have k0 : Tr w 4 ((ds.drop 0).take 1) := hs 0 _ rfl
  obtain ⟨x0, h0⟩ := bool_came hb (sub_cells hc 0 1 (by decide)) (sub_len hl 0 1 (by decide)) k0
  have k1 : Tr w 44 ((ds.drop 1).take 1) := hs 1 _ rfl
  obtain ⟨x1, h1⟩ := us_came hb (sub_cells hc 1 1 (by decide)) (sub_len hl 1 1 (by decide)) k1
  exact ⟨x0, x1, h0, h1⟩
theorem arat_came (hb : b < w.heap.size) (hc : ∀ j, j < 3 → w.cell? ⟨b, o + j, none⟩ = ds[j]?) (hl : ds.length = 3) (ht : Tr w 48 ds) : ∃ (x : Bool) (y z : List Nat), w.cell? ⟨b, o, none⟩ = some (.bool x) ∧ UsAt w w.heap.size b (o + 1) y ∧ UsAt w w.heap.size b (o + 2) z := by
  have hs := (ht.struct Try.underlying48).2
  have k0 : Tr w 46 ((ds.drop 0).take 2) := hs 0 _ rfl
  have k1 : Tr w 44 ((ds.drop 2).take 1) := hs 1 _ rfl
  obtain ⟨x, y, h1, h2⟩ := aint_came hb (sub_cells hc 0 2 (by decide)) (sub_len hl 0 2 (by decide)) k0
  obtain ⟨z, h3⟩ := us_came hb (sub_cells hc 2 1 (by decide)) (sub_len hl 2 1 (by decide)) k1
  exact ⟨x, y, z, h1, h2, h3⟩
theorem val_came (hb : b < w.heap.size) (hc : ∀ j, j < 5 → w.cell? ⟨b, o + j, none⟩ = ds[j]?) (hl : ds.length = 5) (ht : Tr w 50 ds) : ∃ x, ValAt w w.heap.size b o x := by
  have hs := (ht.struct Try.underlying50).2
  have k0 : Tr w 3 ((ds.drop 0).take 1) := hs 0 _ rfl
  have k1 : Tr w 48 ((ds.drop 1).take 3) := hs 1 _ rfl
  have k2 : Tr w 9 ((ds.drop 4).take 1) := hs 2 _ rfl
  obtain ⟨k, h0⟩ := int_came hb (sub_cells hc 0 1 (by decide)) (sub_len hl 0 1 (by decide)) k0
  obtain ⟨x, y, z, h1, h2, h3⟩ := arat_came hb (sub_cells hc 1 3 (by decide)) (sub_len hl 1 3 (by decide)) k1
  obtain ⟨s, h4⟩ := str_came hb (sub_cells hc 4 1 (by decide)) (sub_len hl 4 1 (by decide)) k2
  exact ⟨⟨k, x, y, z, s⟩, h0, h1, h2, h3, h4⟩
theorem feq_came (hb : b < w.heap.size) (hc : ∀ j, j < 10 → w.cell? ⟨b, o + j, none⟩ = ds[j]?) (hl : ds.length = 10) (ht : Tr w 52 ds) : ∃ x, FEqAt w w.heap.size b o x := by
  have hs := (ht.struct Try.underlying52).2
  have k0 : Tr w 3 ((ds.drop 0).take 1) := hs 0 _ rfl
  obtain ⟨x0, h0⟩ := int_came hb (sub_cells hc 0 1 (by decide)) (sub_len hl 0 1 (by decide)) k0
  have k1 : Tr w 9 ((ds.drop 1).take 1) := hs 1 _ rfl
  obtain ⟨x1, h1⟩ := str_came hb (sub_cells hc 1 1 (by decide)) (sub_len hl 1 1 (by decide)) k1
  have k2 : Tr w 23 ((ds.drop 2).take 1) := hs 2 _ rfl
  obtain ⟨x2, h2⟩ := is_came hb (sub_cells hc 2 1 (by decide)) (sub_len hl 2 1 (by decide)) k2
  have k3 : Tr w 3 ((ds.drop 3).take 1) := hs 3 _ rfl
  obtain ⟨x3, h3⟩ := int_came hb (sub_cells hc 3 1 (by decide)) (sub_len hl 3 1 (by decide)) k3
  have k4 : Tr w 50 ((ds.drop 4).take 5) := hs 4 _ rfl
  obtain ⟨x4, h4⟩ := val_came hb (sub_cells hc 4 5 (by decide)) (sub_len hl 4 5 (by decide)) k4
  have k5 : Tr w 3 ((ds.drop 9).take 1) := hs 5 _ rfl
  obtain ⟨x5, h5⟩ := int_came hb (sub_cells hc 9 1 (by decide)) (sub_len hl 9 1 (by decide)) k5
  exact ⟨⟨x0, x1, x2, x3, x4, x5⟩, h0, h1, h2, h3, h4, h5⟩
theorem mem_came (hb : b < w.heap.size) (hc : ∀ j, j < 8 → w.cell? ⟨b, o + j, none⟩ = ds[j]?) (hl : ds.length = 8) (ht : Tr w 55 ds) : ∃ x, MemAt w w.heap.size b o x := by
  have hs := (ht.struct Try.underlying55).2
  have k0 : Tr w 50 ((ds.drop 0).take 5) := hs 0 _ rfl
  obtain ⟨x0, h0⟩ := val_came hb (sub_cells hc 0 5 (by decide)) (sub_len hl 0 5 (by decide)) k0
  have k1 : Tr w 3 ((ds.drop 5).take 1) := hs 1 _ rfl
  obtain ⟨x1, h1⟩ := int_came hb (sub_cells hc 5 1 (by decide)) (sub_len hl 5 1 (by decide)) k1
  have k2 : Tr w 3 ((ds.drop 6).take 1) := hs 2 _ rfl
  obtain ⟨x2, h2⟩ := int_came hb (sub_cells hc 6 1 (by decide)) (sub_len hl 6 1 (by decide)) k2
  have k3 : Tr w 23 ((ds.drop 7).take 1) := hs 3 _ rfl
  obtain ⟨x3, h3⟩ := is_came hb (sub_cells hc 7 1 (by decide)) (sub_len hl 7 1 (by decide)) k3
  exact ⟨⟨x0, x1, x2, x3⟩, h0, h1, h2, h3⟩
theorem slope_came (hb : b < w.heap.size) (hc : ∀ j, j < 2 → w.cell? ⟨b, o + j, none⟩ = ds[j]?) (hl : ds.length = 2) (ht : Tr w 87 ds) : ∃ x, SlopeAt w w.heap.size b o x := by
  have hs := (ht.struct Try.underlying87).2
  have k0 : Tr w 3 ((ds.drop 0).take 1) := hs 0 _ rfl
  obtain ⟨x0, h0⟩ := int_came hb (sub_cells hc 0 1 (by decide)) (sub_len hl 0 1 (by decide)) k0
  have k1 : Tr w 3 ((ds.drop 1).take 1) := hs 1 _ rfl
  obtain ⟨x1, h1⟩ := int_came hb (sub_cells hc 1 1 (by decide)) (sub_len hl 1 1 (by decide)) k1
  exact ⟨⟨x0, x1⟩, h0, h1⟩
theorem cont_came (hb : b < w.heap.size) (hc : ∀ j, j < 9 → w.cell? ⟨b, o + j, none⟩ = ds[j]?) (hl : ds.length = 9) (ht : Tr w 58 ds) : ∃ x, ContAt w w.heap.size b o x := by
  have hs := (ht.struct Try.underlying58).2
  have k0 : Tr w 50 ((ds.drop 0).take 5) := hs 0 _ rfl
  obtain ⟨x0, h0⟩ := val_came hb (sub_cells hc 0 5 (by decide)) (sub_len hl 0 5 (by decide)) k0
  have k1 : Tr w 3 ((ds.drop 5).take 1) := hs 1 _ rfl
  obtain ⟨x1, h1⟩ := int_came hb (sub_cells hc 5 1 (by decide)) (sub_len hl 5 1 (by decide)) k1
  have k2 : Tr w 3 ((ds.drop 6).take 1) := hs 2 _ rfl
  obtain ⟨x2, h2⟩ := int_came hb (sub_cells hc 6 1 (by decide)) (sub_len hl 6 1 (by decide)) k2
  have k3 : Tr w 23 ((ds.drop 7).take 1) := hs 3 _ rfl
  obtain ⟨x3, h3⟩ := is_came hb (sub_cells hc 7 1 (by decide)) (sub_len hl 7 1 (by decide)) k3
  have k4 : Tr w 56 ((ds.drop 8).take 1) := hs 4 _ rfl
  obtain ⟨x4, h4⟩ := ss_came 2 Try.underlying56 (by kernel_rfl) (by decide) hb (sub_cells hc 8 1 (by decide)) (sub_len hl 8 1 (by decide)) k4 (fun _ _ _ => slope_came)
  exact ⟨⟨x0, x1, x2, x3, x4⟩, h0, h1, h2, h3, h4⟩
theorem cop_came (hb : b < w.heap.size) (hc : ∀ j, j < 2 → w.cell? ⟨b, o + j, none⟩ = ds[j]?) (hl : ds.length = 2) (ht : Tr w 63 ds) : ∃ x, COpAt w w.heap.size b o x := by
  have hs := (ht.struct Try.underlying63).2
  have k0 : Tr w 9 ((ds.drop 0).take 1) := hs 0 _ rfl
  obtain ⟨x0, h0⟩ := str_came hb (sub_cells hc 0 1 (by decide)) (sub_len hl 0 1 (by decide)) k0
  have k1 : Tr w 23 ((ds.drop 1).take 1) := hs 1 _ rfl
  obtain ⟨x1, h1⟩ := is_came hb (sub_cells hc 1 1 (by decide)) (sub_len hl 1 1 (by decide)) k1
  exact ⟨⟨x0, x1⟩, h0, h1⟩
theorem cross_came (hb : b < w.heap.size) (hc : ∀ j, j < 2 → w.cell? ⟨b, o + j, none⟩ = ds[j]?) (hl : ds.length = 2) (ht : Tr w 61 ds) : ∃ x, CrossAt w w.heap.size b o x := by
  have hs := (ht.struct Try.underlying61).2
  have k0 : Tr w 3 ((ds.drop 0).take 1) := hs 0 _ rfl
  obtain ⟨x0, h0⟩ := int_came hb (sub_cells hc 0 1 (by decide)) (sub_len hl 0 1 (by decide)) k0
  have k1 : Tr w 59 ((ds.drop 1).take 1) := hs 1 _ rfl
  obtain ⟨x1, h1⟩ := ss_came 2 Try.underlying59 (by kernel_rfl) (by decide) hb (sub_cells hc 1 1 (by decide)) (sub_len hl 1 1 (by decide)) k1 (fun _ _ _ => cop_came)
  exact ⟨⟨x0, x1⟩, h0, h1⟩
end
theorem Tr.one {w : World} {t e : TypeId} {fs : Array Field} {cs : List Value} (h : Tr w t cs) (ht : Try.prog.underlying t = some (.struct fs)) (i : Nat) (f : Field) (hf : fs[i]? = some f) (he : f.type = e) (h1 : Try.prog.cellsOf e = 1) (hi : f.offset < cs.length) : ∃ v, cs[f.offset]? = some v ∧ Tr w e [v] := by
  have := (h.struct ht).2 i f hf
  rw [he, h1] at this
  refine ⟨cs[f.offset], List.getElem?_eq_getElem hi, ?_⟩
  rwa [List.drop_eq_getElem_cons hi] at this
/-- a flat program that came in -/
theorem flat_came {w : World} {cs : List Value} (h : Tr w 29 cs) : ∃ v f, Value.agg cs.toArray = flatV v ∧ FlatIs w w.heap.size v f := by
  have hl : cs.length = 8 := (h.struct Try.underlying29).1.trans (by kernel_rfl)
  obtain ⟨v0, e0, t0⟩ := h.one (e := 22) Try.underlying29 0 _ rfl rfl (by kernel_rfl) (by rw [hl]; decide)
  obtain ⟨v1, e1, t1⟩ := h.one (e := 22) Try.underlying29 1 _ rfl rfl (by kernel_rfl) (by rw [hl]; decide)
  obtain ⟨v2, e2, t2⟩ := h.one (e := 23) Try.underlying29 2 _ rfl rfl (by kernel_rfl) (by rw [hl]; decide)
  obtain ⟨v3, e3, t3⟩ := h.one (e := 24) Try.underlying29 3 _ rfl rfl (by kernel_rfl) (by rw [hl]; decide)
  obtain ⟨v4, e4, t4⟩ := h.one (e := 25) Try.underlying29 4 _ rfl rfl (by kernel_rfl) (by rw [hl]; decide)
  obtain ⟨v5, e5, t5⟩ := h.one (e := 26) Try.underlying29 5 _ rfl rfl (by kernel_rfl) (by rw [hl]; decide)
  obtain ⟨v6, e6, t6⟩ := h.one (e := 27) Try.underlying29 6 _ rfl rfl (by kernel_rfl) (by rw [hl]; decide)
  obtain ⟨v7, e7, t7⟩ := h.one (e := 23) Try.underlying29 7 _ rfl rfl (by kernel_rfl) (by rw [hl]; decide)
  obtain ⟨a0, n0, c0, x0, rfl, r0⟩ := SRow.of_tr (R := StrAt) 1 Try.underlying22 (by kernel_rfl) (by decide) t0 (fun _ _ _ => str_came)
  obtain ⟨a1, n1, c1, x1, rfl, r1⟩ := SRow.of_tr (R := StrAt) 1 Try.underlying22 (by kernel_rfl) (by decide) t1 (fun _ _ _ => str_came)
  obtain ⟨a2, n2, c2, x2, rfl, r2⟩ := irow_of_tr t2
  obtain ⟨a3, n3, c3, x3, rfl, r3⟩ := SRow.of_tr (R := FEqAt) 10 Try.underlying24 (by kernel_rfl) (by decide) t3 (fun _ _ _ => feq_came)
  obtain ⟨a4, n4, c4, x4, rfl, r4⟩ := SRow.of_tr (R := MemAt) 8 Try.underlying25 (by kernel_rfl) (by decide) t4 (fun _ _ _ => mem_came)
  obtain ⟨a5, n5, c5, x5, rfl, r5⟩ := SRow.of_tr (R := ContAt) 9 Try.underlying26 (by kernel_rfl) (by decide) t5 (fun _ _ _ => cont_came)
  obtain ⟨a6, n6, c6, x6, rfl, r6⟩ := SRow.of_tr (R := CrossAt) 2 Try.underlying27 (by kernel_rfl) (by decide) t6 (fun _ _ _ => cross_came)
  obtain ⟨a7, n7, c7, x7, rfl, r7⟩ := irow_of_tr t7
  refine ⟨⟨(a0, n0, c0), (a1, n1, c1), (a2, n2, c2), (a3, n3, c3), (a4, n4, c4), (a5, n5, c5), (a6, n6, c6), (a7, n7, c7)⟩, ⟨x0, x1, x2, x3, x4, x5, x6, x7⟩, ?_, r0, r1, r2, r3, r4, r5, r6, r7⟩
  match cs, hl with
  | [u0, u1, u2, u3, u4, u5, u6, u7], _ =>
    simp at e0 e1 e2 e3 e4 e5 e6 e7
    subst e0 e1 e2 e3 e4 e5 e6 e7
    rfl

end Go.Proofs.Ytpcpbpinhdbjiaa
