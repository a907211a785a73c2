/- How lines that came in read. -/
import Derived.Test.YtmoplgfmngohgaaGreatSvG
import Derived.ProofKit
import Derived.OpenShut
import Derived.ShutString
import Derived.ChangeOld
import Derived.Deep.Slices
import Derived.Deep.Fields
import Derived.Deep.Matrix
import Derived.Lib.SmallJoins
namespace Go.Proofs.YtmoplgfmngohgaaGreat
set_option linter.unusedVariables false
set_option linter.unusedSimpArgs false
set_option maxRecDepth 100000
open Go.ChangeShapes Go.WideShapes Go.ChangeAt Go.RowKit Nums Go.Joins

/-- cells that read as a value of a type -/
def Tr (w : World) (t : TypeId) (cs : List Value) : Prop :=
  ∃ (H : Type) (enc : TypeId × Value → H) (base : Nat) (spare : Nat → Bool) (held : Bool) (fuel : Nat) (x : DataW H × List MemPlace), DataW.trod enc Tryz.prog w base spare held fuel t cs = some x
theorem Tr.u32 {w : World} {t : TypeId} {cs : List Value} (ht : Tryz.prog.underlying t = some (.int .u32)) (h : Tr w t cs) : ∃ n : Nat, cs = [.int .u32 (n : Int)] ∧ n < 4294967296 := by
  obtain ⟨H, enc, base, spare, held, fuel, x, h⟩ := h
  obtain ⟨n, h1, _, w1⟩ := DataW.trod_int ht h
  simp [Lit.wf, IntKind.min, IntKind.max, IntKind.signed, IntKind.bits, Bool.and_eq_true, decide_eq_true_eq] at w1
  exact ⟨n.toNat, by rw [h1, Int.toNat_of_nonneg w1.1], by omega⟩
theorem Tr.bool {w : World} {t : TypeId} {cs : List Value} (ht : Tryz.prog.underlying t = some .bool) (h : Tr w t cs) : ∃ b, cs = [.bool b] := by
  obtain ⟨H, enc, base, spare, held, fuel, x, h⟩ := h
  obtain ⟨b, h1, _⟩ := DataW.trod_bool ht h
  exact ⟨b, h1⟩
/-- a struct: its cells, and each field -/
theorem Tr.struct {w : World} {t : TypeId} {fs : Array Field} {cs : List Value} (ht : Tryz.prog.underlying t = some (.struct fs)) (h : Tr w t cs) :
    cs.length = Tryz.prog.cellsOf t ∧ ∀ (i : Nat) (f : Field), fs[i]? = some f → Tr w f.type ((cs.drop f.offset).take (Tryz.prog.cellsOf f.type)) := by
  obtain ⟨H, enc, base, spare, held, fuel, x, h⟩ := h
  obtain ⟨xs, n, _, rfl, h1, h2, h3⟩ := DataW.trod_struct ht h
  refine ⟨h1, fun i f hf => ?_⟩
  have hi : i < xs.length := by rw [h2]; exact (Array.getElem?_eq_some_iff.1 hf).1
  exact ⟨H, enc, base, spare, held, n, _, (h3 i f hf).trans (List.getElem?_eq_getElem hi)⟩
theorem pickAll {α : Type} (n : Nat) (Q : Nat → α → Prop) (h : ∀ i, i < n → ∃ x, Q i x) : ∃ xs : List α, xs.length = n ∧ ∀ i x, xs[i]? = some x → Q i x := by
  induction n with
  | zero => exact ⟨[], rfl, fun i x h => by simp at h⟩
  | succ n ih =>
    obtain ⟨xs, h1, h2⟩ := ih fun i hi => h i (by omega)
    obtain ⟨x, hx⟩ := h n (by omega)
    refine ⟨xs ++ [x], by simp [h1], fun i y hy => ?_⟩
    rcases Nat.lt_or_ge i n with q | q
    · rw [List.getElem?_append_left (by omega)] at hy; exact h2 i y hy
    · rw [List.getElem?_append_right (by omega), h1] at hy
      have : i = n := by
        rcases Nat.lt_or_ge n i with r | r
        · rw [List.getElem?_eq_none (by simp; omega)] at hy; cases hy
        · omega
      subst this
      simp at hy; subst hy; exact hx
/-- a slice: a row of cells, each element so many -/
theorem Tr.slice {w : World} {t e : TypeId} {cs : List Value} (sz : Nat) (ht : Tryz.prog.underlying t = some (.slice e)) (hsz : Tryz.prog.cellsOf e = sz) (h0 : 0 < sz) (h : Tr w t cs) :
    ∃ (a : Option Addr) (n c : Nat), cs = [.slice a n c] ∧ n ≤ c ∧ c ≤ maxLen ∧ (a = none → c = 0) ∧ ∃ b off, (a = some ⟨b, off, none⟩ ∨ n ≤ 0) ∧ ∀ i, i < n → b < w.heap.size ∧ ∃ ds, (∀ j, j < sz → w.cell? ⟨b, off + i * sz + j, none⟩ = ds[j]?) ∧ ds.length = sz ∧ Tr w e ds := by
  obtain ⟨H, enc, base, spare, held, fuel, x, h⟩ := h
  subst hsz
  rcases Go.Deep.open_slice ht h with ⟨h1, _⟩ | ⟨a, len, cap, m, k, D, Pl, hcs, hb, hl, hm, hmm, hx, hi⟩
  · exact ⟨none, 0, 0, h1, Nat.le_refl _, Nat.zero_le _, fun _ => rfl, 0, 0, .inr (Nat.le_refl _), fun i hi => by omega⟩
  · refine ⟨some a, len, cap, hcs, hl, hm, (fun h => by cases h), ?_⟩
    have hlm : len ≤ m := by rw [hmm]; split <;> omega
    by_cases h0' : 0 < len
    · obtain ⟨b, off, spot⟩ := a
      have hspot : spot = none := by
        obtain ⟨ds, h1, h2⟩ := hi 0 (by omega)
        obtain ⟨_, hl1, hc⟩ := World.cells?_some h1
        have := hc 0 h0
        have hd : ds[0]? = some (ds[0]'(by omega)) := List.getElem?_eq_getElem (by omega)
        rw [hd] at this
        simpa [Addr.add] using World.cell?_spot this
      subst hspot
      refine ⟨b, off, .inl rfl, fun i hil => ?_⟩
      obtain ⟨ds, h1, h2⟩ := hi i (by omega)
      obtain ⟨_, hl1, hc⟩ := World.cells?_some h1
      have hc' : ∀ j, j < Tryz.prog.cellsOf e → w.cell? ⟨b, off + i * Tryz.prog.cellsOf e + j, none⟩ = ds[j]? := fun j hj => by
        have := hc j hj
        rw [Go.Deep.add_add, Go.WideShapes.add_plain, ← Nat.add_assoc] at this
        exact this
      refine ⟨?_, ds, hc', hl1, H, enc, base, spare, held, k, _, h2⟩
      have := hc' 0 h0
      rw [List.getElem?_eq_getElem (by omega : 0 < ds.length)] at this
      exact World.block_lt_of_cell? w ⟨b, _, none⟩ this
    · exact ⟨0, 0, .inr (by omega), fun i hi => by omega⟩
/-- a row of limbs that came in -/
theorem row_of_tr {w : World} {v : Value} (h : Tr w 23 [v]) : ∃ a n c xs, v = .slice a n c ∧ Row w a n c xs := by
  obtain ⟨a, n, c, hv, h1, h2, h2', b, off, h3, h4⟩ := h.slice 1 Tryz.underlying23 (by kernel_rfl) (by decide)
  obtain ⟨xs, hl, hx⟩ := pickAll n (fun i (x : Nat) => b < w.heap.size ∧ w.cell? ⟨b, off + i, none⟩ = some (.int .u32 (x : Int)) ∧ x < 4294967296) fun i hi => by
    obtain ⟨hb, ds, q1, q2, q3⟩ := h4 i hi
    obtain ⟨x, rfl, hx⟩ := q3.u32 Tryz.underlying62
    refine ⟨x, hb, ?_, hx⟩
    have := q1 0 (by decide)
    simpa using this
  refine ⟨a, n, c, xs, by simpa using hv, hl, h1, h2, h2', ?_, b, off, h3, fun i hi => ?_⟩
  · intro x hx'
    obtain ⟨i, hi, e⟩ := List.getElem_of_mem hx'
    exact (hx i x (by rw [List.getElem?_eq_getElem hi, e])).2.2
  · have e : xs[i]? = some (xs.getD i 0) := by rw [List.getD_eq_getElem?_getD, List.getElem?_eq_getElem (by omega)]; rfl
    exact ⟨(hx i _ e).1, (hx i _ e).2.1⟩
theorem cells1 {cs : List Value} (h : cs.length = 1) : ∃ v, cs = [v] := by
  match cs, h with
  | [v], _ => exact ⟨v, rfl⟩
theorem cells3 {cs : List Value} (h : cs.length = 3) : ∃ a b c, cs = [a, b, c] := by
  match cs, h with
  | [a, b, c], _ => exact ⟨a, b, c, rfl⟩
theorem cells7 {cs : List Value} (h : cs.length = 7) : ∃ a b c d e f g, cs = [a, b, c, d, e, f, g] := by
  match cs, h with
  | [a, b, c, d, e, f, g], _ => exact ⟨a, b, c, d, e, f, g, rfl⟩
/-- a number that came in -/
theorem rv_of_tr {w : World} {cs : List Value} (h : Tr w 27 cs) : ∃ (r : RV) (q : Rat), cs = [.bool r.s, .slice r.a r.n r.c, .slice r.b r.m r.d] ∧ r.Is r.n r.m q w := by
  obtain ⟨hl, hs⟩ := h.struct Tryz.underlying27
  rw [show Tryz.prog.cellsOf 27 = 3 by kernel_rfl] at hl
  obtain ⟨a, b, c, rfl⟩ := cells3 hl
  have k0 : Tr w 25 [a, b] := hs 0 _ rfl
  have k1 : Tr w 23 [c] := hs 1 _ rfl
  obtain ⟨-, ht⟩ := k0.struct Tryz.underlying25
  have k2 : Tr w 4 [a] := ht 0 _ rfl
  have k3 : Tr w 23 [b] := ht 1 _ rfl
  obtain ⟨s, hs⟩ := k2.bool Tryz.underlying4
  obtain rfl : a = .bool s := by simpa using hs
  obtain ⟨a1, n1, c1, xs, rfl, h1⟩ := row_of_tr k3
  obtain ⟨a2, n2, c2, ys, rfl, h2⟩ := row_of_tr k1
  exact ⟨⟨s, a1, n1, c1, a2, n2, c2⟩, _, rfl, xs, ys, h1, h2, rfl, Nat.le_refl _, Nat.le_refl _⟩
/-- a line that came in -/
theorem line_of_tr {w : World} {cs : List Value} (h : Tr w 37 cs) : ∃ x : LM, cs = [.bool x.on, .bool x.v.s, .slice x.v.a x.v.n x.v.c, .slice x.v.b x.v.m x.v.d, .bool x.z.s, .slice x.z.a x.z.n x.z.c, .slice x.z.b x.z.m x.z.d] ∧ x.v.Is x.v.n x.v.m x.p w ∧ x.z.Is x.z.n x.z.m x.q w := by
  obtain ⟨hl, hs⟩ := h.struct Tryz.underlying37
  rw [show Tryz.prog.cellsOf 37 = 7 by kernel_rfl] at hl
  obtain ⟨a, b, c, d, e, f, g, rfl⟩ := cells7 hl
  have k0 : Tr w 4 [a] := hs 0 _ rfl
  have k1 : Tr w 27 [b, c, d] := hs 1 _ rfl
  have k2 : Tr w 27 [e, f, g] := hs 2 _ rfl
  obtain ⟨on, ho⟩ := k0.bool Tryz.underlying4
  obtain rfl : a = .bool on := by simpa using ho
  obtain ⟨v, p, hv, h1⟩ := rv_of_tr k1
  obtain ⟨z, q, hz, h2⟩ := rv_of_tr k2
  refine ⟨⟨on, v, z, p, q⟩, ?_, h1, h2⟩
  simp only [List.cons.injEq, and_true] at hv hz
  obtain ⟨rfl, rfl, rfl⟩ := hv
  obtain ⟨rfl, rfl, rfl⟩ := hz
  rfl
/-- rows of lines that came in -/
theorem lrow_of_tr {w : World} {v : Value} (h : Tr w 22 [v]) : ∃ a n c L, v = .slice a n c ∧ LRow w a n c L := by
  obtain ⟨a, n, c, hv, h1, h2, h2', b, off, h3, h4⟩ := h.slice 7 Tryz.underlying22 (by kernel_rfl) (by decide)
  obtain ⟨L, hl, hx⟩ := pickAll n (fun i (x : LM) => b < w.heap.size ∧ LAt w b (off + i * 7) x) fun i hi => by
    obtain ⟨hb, ds, q1, q2, q3⟩ := h4 i hi
    obtain ⟨x, rfl, hv, hz⟩ := line_of_tr q3
    exact ⟨x, hb, q1 0 (by decide), q1 1 (by decide), q1 2 (by decide), q1 3 (by decide), q1 4 (by decide), q1 5 (by decide), q1 6 (by decide), hv, hz⟩
  exact ⟨a, n, c, L, by simpa using hv, hl, h1, h2, b, off, h3, hx⟩

end Go.Proofs.YtmoplgfmngohgaaGreat
