/- How what came in reads: rows of structs. No condition. -/
import Derived.Test.YtcljmfhelgkfaaaFlA
import Derived.ProofKit
import Derived.OpenShut
import Derived.ShutString
import Derived.ChangeOld
import Derived.Deep.Slices
import Derived.SizedLaws
import Derived.Deep.Fields
import Derived.Deep.Matrix
import Derived.Lib.SmallJoins
namespace Go.Proofs.Ytcljmfhelgkfaaa
set_option linter.unusedVariables false
set_option linter.unusedSimpArgs false
set_option maxRecDepth 100000
open Go.ChangeShapes Go.WideShapes Go.ChangeAt Go.RowKit Go.Joins

/-- cells that read as a value of a type -/
def Tr (w : World) (t : TypeId) (cs : List Value) : Prop :=
  ∃ (H : Type) (enc : TypeId × Value → H) (base : Nat) (spare : Nat → Bool) (held : Bool) (fuel : Nat) (x : DataW H × List MemPlace), DataW.trod enc Try.prog w base spare held fuel t cs = some x ∧ ∀ n ∈ x.1.weights Try.prog t, n ≤ reachBytes
theorem weights_all {H : Type} {P : Program} {e : TypeId} : ∀ {l : List (DataW H)} {d : DataW H}, d ∈ l → ∀ n ∈ d.weights P e, n ∈ DataW.weightsAll P e l
  | x :: l, d, h, n, hn => by
    simp only [DataW.weightsAll, List.mem_append]
    rcases List.mem_cons.1 h with rfl | h
    · exact Or.inl hn
    · exact Or.inr (weights_all h n hn)

theorem Tr.int {w : World} {t : TypeId} {k : IntKind} {cs : List Value} (ht : Try.prog.underlying t = some (.int k)) (h : Tr w t cs) : ∃ n, cs = [.int k n] ∧ (Lit.int k n).wf = true := by
  obtain ⟨H, enc, base, spare, held, fuel, x, h, _⟩ := h
  obtain ⟨n, h1, _, h2⟩ := DataW.trod_int ht h
  exact ⟨n, h1, h2⟩
theorem Tr.i64 {w : World} {t : TypeId} {cs : List Value} (ht : Try.prog.underlying t = some (.int .i64)) (h : Tr w t cs) : ∃ n : Int, cs = [.int .i64 n] ∧ -9223372036854775808 ≤ n ∧ n ≤ 9223372036854775807 := by
  obtain ⟨n, h1, w1⟩ := h.int ht
  refine ⟨n, h1, ?_⟩
  simp only [Lit.wf, IntKind.min, IntKind.max, IntKind.signed, IntKind.bits, Bool.and_eq_true, decide_eq_true_eq, if_true] at w1
  omega
theorem Tr.u32 {w : World} {t : TypeId} {cs : List Value} (ht : Try.prog.underlying t = some (.int .u32)) (h : Tr w t cs) : ∃ n : Nat, cs = [.int .u32 (n : Int)] ∧ n < 4294967296 := by
  obtain ⟨n, h1, w1⟩ := h.int ht
  simp [Lit.wf, IntKind.min, IntKind.max, IntKind.signed, IntKind.bits, Bool.and_eq_true, decide_eq_true_eq] at w1
  exact ⟨n.toNat, by rw [h1, Int.toNat_of_nonneg w1.1], by omega⟩
theorem Tr.bool {w : World} {t : TypeId} {cs : List Value} (ht : Try.prog.underlying t = some .bool) (h : Tr w t cs) : ∃ b, cs = [.bool b] := by
  obtain ⟨H, enc, base, spare, held, fuel, x, h, _⟩ := h
  obtain ⟨b, h1, _⟩ := DataW.trod_bool ht h
  exact ⟨b, h1⟩
theorem Tr.str {w : World} {t : TypeId} {cs : List Value} (ht : Try.prog.underlying t = some .string) (h : Tr w t cs) : ∃ s : ByteArray, cs = [.string s] ∧ s.size ≤ maxLen := by
  obtain ⟨H, enc, base, spare, held, fuel, x, h, _⟩ := h
  obtain ⟨b, h1, _, h2⟩ := DataW.trod_string ht h
  exact ⟨b, h1, h2⟩
/-- a struct: its cells, and each field -/
theorem Tr.struct {w : World} {t : TypeId} {fs : Array Field} {cs : List Value} (ht : Try.prog.underlying t = some (.struct fs)) (h : Tr w t cs) :
    cs.length = Try.prog.cellsOf t ∧ ∀ (i : Nat) (f : Field), fs[i]? = some f → Tr w f.type ((cs.drop f.offset).take (Try.prog.cellsOf f.type)) := by
  obtain ⟨H, enc, base, spare, held, fuel, x, h, hz⟩ := h
  obtain ⟨xs, n, _, rfl, h1, h2, h3⟩ := DataW.trod_struct ht h
  refine ⟨h1, fun i f hf => ?_⟩
  have hi : i < xs.length := by rw [h2]; exact (Array.getElem?_eq_some_iff.1 hf).1
  refine ⟨H, enc, base, spare, held, n, _, (h3 i f hf).trans (List.getElem?_eq_getElem hi), fun k hk => hz k ?_⟩
  have hm := DataW.weights_mem_each (P := Try.prog) (ts := fs.toList.map (·.type)) (ds := xs.map (·.1)) (j := i) (t := f.type) (d := xs[i].1) (by rw [List.getElem?_map, Array.getElem?_toList, hf]; rfl) (by rw [List.getElem?_map, List.getElem?_eq_getElem hi]; rfl) k hk
  simp only [DataW.weights, ht]
  exact hm
theorem pick {α : Type} (n : Nat) (Q : Nat → α → Prop) (h : ∀ i, i < n → ∃ x, Q i x) : ∃ xs : List α, xs.length = n ∧ ∀ i x, xs[i]? = some x → Q i x := by
  induction n with
  | zero => exact ⟨[], rfl, fun i x h => by simp at h⟩
  | succ n ih =>
    obtain ⟨xs, h1, h2⟩ := ih fun i hi => h i (by omega)
    obtain ⟨x, hx⟩ := h n (by omega)
    refine ⟨xs ++ [x], by simp [h1], fun i y hy => ?_⟩
    rcases Nat.lt_or_ge i n with q | q
    · rw [List.getElem?_append_left (by omega)] at hy; exact h2 i y hy
    · rw [List.getElem?_append_right (by omega), h1] at hy
      have : i = n := by
        rcases Nat.lt_or_ge n i with r | r
        · rw [List.getElem?_eq_none (by simp; omega)] at hy; cases hy
        · omega
      subst this
      simp at hy; subst hy; exact hx
/-- a slice: a row of cells, each element so many -/
theorem Tr.slice {w : World} {t e : TypeId} {cs : List Value} (sz : Nat) (ht : Try.prog.underlying t = some (.slice e)) (hsz : Try.prog.cellsOf e = sz) (h0 : 0 < sz) (h : Tr w t cs) :
    ∃ (a : Option Addr) (n c : Nat), cs = [.slice a n c] ∧ n ≤ c ∧ c ≤ maxLen ∧ (a = none → c = 0) ∧ n * Try.prog.bytesOf e ≤ reachBytes ∧ ∃ b off, (a = some ⟨b, off, none⟩ ∨ n ≤ 0) ∧ ∀ i, i < n → b < w.heap.size ∧ ∃ ds, (∀ j, j < sz → w.cell? ⟨b, off + i * sz + j, none⟩ = ds[j]?) ∧ ds.length = sz ∧ Tr w e ds := by
  obtain ⟨H, enc, base, spare, held, fuel, x, h, hz⟩ := h
  subst hsz
  rcases Go.Deep.open_slice ht h with ⟨h1, _⟩ | ⟨a, len, cap, m, k, D, Pl, hcs, hb, hl, hm, hmm, hx, hi⟩
  · exact ⟨none, 0, 0, h1, Nat.le_refl _, Nat.zero_le _, fun _ => rfl, by simp, 0, 0, .inr (Nat.le_refl _), fun i hi => by omega⟩
  · subst hx
    simp only [DataW.weights, ht, List.mem_cons, List.mem_append, forall_eq_or_imp] at hz
    obtain ⟨hz0, hz1⟩ := hz
    have hzb : len * Try.prog.bytesOf e ≤ reachBytes := Nat.le_trans (Nat.mul_le_mul_right _ (by simp)) hz0
    refine ⟨some a, len, cap, hcs, hl, hm, (fun h => by cases h), hzb, ?_⟩
    have hlm : len ≤ m := by rw [hmm]; split <;> omega
    by_cases h0' : 0 < len
    · obtain ⟨b, off, spot⟩ := a
      have hspot : spot = none := by
        obtain ⟨ds, h1, h2⟩ := hi 0 (by omega)
        obtain ⟨_, hl1, hc⟩ := World.cells?_some h1
        have := hc 0 h0
        have hd : ds[0]? = some (ds[0]'(by omega)) := List.getElem?_eq_getElem (by omega)
        rw [hd] at this
        simpa [Addr.add] using World.cell?_spot this
      subst hspot
      refine ⟨b, off, .inl rfl, fun i hil => ?_⟩
      obtain ⟨ds, h1, h2⟩ := hi i (by omega)
      obtain ⟨_, hl1, hc⟩ := World.cells?_some h1
      have hc' : ∀ j, j < Try.prog.cellsOf e → w.cell? ⟨b, off + i * Try.prog.cellsOf e + j, none⟩ = ds[j]? := fun j hj => by
        have := hc j hj
        rw [Go.Deep.add_add, Go.WideShapes.add_plain, ← Nat.add_assoc] at this
        exact this
      refine ⟨?_, ds, hc', hl1, H, enc, base, spare, held, k, _, h2, fun q hq => hz1 q (Or.inl (weights_all (List.mem_map.2 ⟨i, List.mem_range.2 hil, rfl⟩) q hq))⟩
      have := hc' 0 h0
      rw [List.getElem?_eq_getElem (by omega : 0 < ds.length)] at this
      exact World.block_lt_of_cell? w ⟨b, _, none⟩ this
    · exact ⟨0, 0, .inr (by omega), fun i hi => by omega⟩
theorem SRow.of_tr {α : Type} {R : World → Nat → Nat → Nat → α → Prop} {w : World} {t e : TypeId} {v : Value} (sz : Nat) (ht : Try.prog.underlying t = some (.slice e)) (hsz : Try.prog.cellsOf e = sz) (h0 : 0 < sz) (h : Tr w t [v])
    (hR : ∀ b o ds, b < w.heap.size → (∀ j, j < sz → w.cell? ⟨b, o + j, none⟩ = ds[j]?) → ds.length = sz → Tr w e ds → ∃ x, R w w.heap.size b o x) : ∃ a n c xs, v = .slice a n c ∧ SRow sz R w w.heap.size a n c xs := by
  obtain ⟨a, n, c, hv, h1, h2, _, _, b, off, h3, h4⟩ := h.slice sz ht hsz h0
  obtain ⟨xs, hl, hx⟩ := pick n (fun i x => b < w.heap.size ∧ R w w.heap.size b (off + i * sz) x) fun i hi => by
    obtain ⟨hb, ds, q1, q2, q3⟩ := h4 i hi
    obtain ⟨x, hx⟩ := hR b (off + i * sz) ds hb q1 q2 q3
    exact ⟨x, hb, hx⟩
  exact ⟨a, n, c, xs, by simpa using hv, hl, h1, h2, b, off, h3, hx⟩
theorem irow_of_tr {w : World} {v : Value} (h : Tr w 29 [v]) : ∃ a n c xs, v = .slice a n c ∧ IRow w w.heap.size a n c xs := by
  obtain ⟨a, n, c, hv, h1, h2, hn, _, b, off, h3, h4⟩ := h.slice 1 Try.underlying29 (by kernel_rfl) (by decide)
  obtain ⟨xs, hl, hx⟩ := pick n (fun i (x : Int) => b < w.heap.size ∧ w.cell? ⟨b, off + i, none⟩ = some (.int .i64 x)) fun i hi => by
    obtain ⟨hb, ds, q1, q2, q3⟩ := h4 i hi
    obtain ⟨x, rfl, hx⟩ := q3.i64 Try.underlying3
    exact ⟨x, hb, by simpa using q1 0 (by decide)⟩
  refine ⟨a, n, c, xs, by simpa using hv, hl, h1, h2, hn, b, off, h3, fun i hi => ?_⟩
  have hx' : xs[i]? = some (xs.getD i 0) := by rw [List.getElem?_eq_getElem (by omega)]; simp [show i < xs.length by omega]
  exact hx i _ hx'
theorem urow_of_tr {w : World} {v : Value} (h : Tr w 44 [v]) : ∃ a n c xs, v = .slice a n c ∧ URow w w.heap.size a n c xs := by
  obtain ⟨a, n, c, hv, h1, h2, hn, hzb, b, off, h3, h4⟩ := h.slice 1 Try.underlying44 (by kernel_rfl) (by decide)
  obtain ⟨xs, hl, hx⟩ := pick n (fun i (x : Nat) => b < w.heap.size ∧ w.cell? ⟨b, off + i, none⟩ = some (.int .u32 (x : Int)) ∧ x < 4294967296) fun i hi => by
    obtain ⟨hb, ds, q1, q2, q3⟩ := h4 i hi
    obtain ⟨x, rfl, hx⟩ := q3.u32 Try.underlying114
    exact ⟨x, hb, by simpa using q1 0 (by decide), hx⟩
  refine ⟨a, n, c, xs, by simpa using hv, hl, h1, h2, hn, fun x hx' => ?_, (by rw [show Try.prog.bytesOf 114 = 4 by kernel_rfl] at hzb; unfold reachBytes at hzb; omega), b, off, h3, fun i hi => ?_⟩
  · obtain ⟨i, hi, e⟩ := List.getElem_of_mem hx'
    exact (hx i x (by rw [List.getElem?_eq_getElem hi, e])).2.2
  · have hx' : xs[i]? = some (xs.getD i 0) := by rw [List.getElem?_eq_getElem (by omega)]; simp [show i < xs.length by omega]
    obtain ⟨q1, q2, _⟩ := hx i _ hx'
    exact ⟨q1, q2⟩

end Go.Proofs.Ytcljmfhelgkfaaa
