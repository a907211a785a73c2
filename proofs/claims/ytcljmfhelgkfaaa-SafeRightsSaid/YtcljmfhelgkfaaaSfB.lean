/- Object code that came in. No condition. -/
import Derived.Test.YtcljmfhelgkfaaaFlC
import Derived.Test.YtcljmfhelgkfaaaSfA
import Derived.ProofKit
import Derived.OpenShut
import Derived.ShutString
import Derived.ChangeOld
import Derived.Lib.SmallJoins
import Derived.SizedLaws
namespace Go.Proofs.Ytcljmfhelgkfaaa
set_option linter.unusedVariables false
set_option linter.unusedSimpArgs false
set_option maxRecDepth 100000
open Go.ChangeShapes Go.WideShapes Go.ChangeAt Go.RowKit Go.Joins

section
variable {w : World} {b o : Nat} {ds : List Value}
theorem ins_came (hb : b < w.heap.size) (hc : ∀ j, j < 11 → w.cell? ⟨b, o + j, none⟩ = ds[j]?) (hl : ds.length = 11) (ht : Tr w 52 ds) : ∃ x, InsAt w w.heap.size b o x := by
  have hs := (ht.struct Try.underlying52).2
  have k0 : Tr w 9 ((ds.drop 0).take 1) := hs 0 _ rfl
  obtain ⟨x0, h0⟩ := str_came hb (sub_cells hc 0 1 (by decide)) (sub_len hl 0 1 (by decide)) k0
  have k1 : Tr w 3 ((ds.drop 1).take 1) := hs 1 _ rfl
  obtain ⟨x1, h1⟩ := int_came hb (sub_cells hc 1 1 (by decide)) (sub_len hl 1 1 (by decide)) k1
  have k2 : Tr w 29 ((ds.drop 2).take 1) := hs 2 _ rfl
  obtain ⟨x2, h2⟩ := is_came hb (sub_cells hc 2 1 (by decide)) (sub_len hl 2 1 (by decide)) k2
  have k3 : Tr w 3 ((ds.drop 3).take 1) := hs 3 _ rfl
  obtain ⟨x3, h3⟩ := int_came hb (sub_cells hc 3 1 (by decide)) (sub_len hl 3 1 (by decide)) k3
  have k4 : Tr w 50 ((ds.drop 4).take 5) := hs 4 _ rfl
  obtain ⟨x4, h4⟩ := val_came hb (sub_cells hc 4 5 (by decide)) (sub_len hl 4 5 (by decide)) k4
  have k5 : Tr w 3 ((ds.drop 9).take 1) := hs 5 _ rfl
  obtain ⟨x5, h5⟩ := int_came hb (sub_cells hc 9 1 (by decide)) (sub_len hl 9 1 (by decide)) k5
  have k6 : Tr w 29 ((ds.drop 10).take 1) := hs 6 _ rfl
  obtain ⟨x6, h6⟩ := is_came hb (sub_cells hc 10 1 (by decide)) (sub_len hl 10 1 (by decide)) k6
  exact ⟨⟨x0, x1, x2, x3, x4, x5, x6⟩, h0, h1, h2, h3, h4, h5, h6⟩
end
/-- object code that came in -/
theorem code_came {w : World} {cs : List Value} (h : Tr w 25 cs) : ∃ c v, Value.agg cs.toArray = codeV c v ∧ CodeIs w w.heap.size c v := by
  have hl : cs.length = 10 := (h.struct Try.underlying25).1.trans (by kernel_rfl)
  obtain ⟨v0, e0, t0⟩ := h.one (e := 3) Try.underlying25 0 _ rfl rfl (by kernel_rfl) (by rw [hl]; decide)
  obtain ⟨v1, e1, t1⟩ := h.one (e := 3) Try.underlying25 1 _ rfl rfl (by kernel_rfl) (by rw [hl]; decide)
  obtain ⟨v2, e2, t2⟩ := h.one (e := 3) Try.underlying25 2 _ rfl rfl (by kernel_rfl) (by rw [hl]; decide)
  obtain ⟨v3, e3, t3⟩ := h.one (e := 3) Try.underlying25 3 _ rfl rfl (by kernel_rfl) (by rw [hl]; decide)
  obtain ⟨v4, e4, t4⟩ := h.one (e := 3) Try.underlying25 4 _ rfl rfl (by kernel_rfl) (by rw [hl]; decide)
  obtain ⟨v5, e5, t5⟩ := h.one (e := 22) Try.underlying25 5 _ rfl rfl (by kernel_rfl) (by rw [hl]; decide)
  obtain ⟨v6, e6, t6⟩ := h.one (e := 22) Try.underlying25 6 _ rfl rfl (by kernel_rfl) (by rw [hl]; decide)
  obtain ⟨v7, e7, t7⟩ := h.one (e := 23) Try.underlying25 7 _ rfl rfl (by kernel_rfl) (by rw [hl]; decide)
  obtain ⟨v8, e8, t8⟩ := h.one (e := 23) Try.underlying25 8 _ rfl rfl (by kernel_rfl) (by rw [hl]; decide)
  obtain ⟨v9, e9, t9⟩ := h.one (e := 23) Try.underlying25 9 _ rfl rfl (by kernel_rfl) (by rw [hl]; decide)
  obtain ⟨n0, q0, r0⟩ := t0.i64 Try.underlying3
  obtain rfl : v0 = .int .i64 n0 := by simpa using q0
  obtain ⟨n1, q1, r1⟩ := t1.i64 Try.underlying3
  obtain rfl : v1 = .int .i64 n1 := by simpa using q1
  obtain ⟨n2, q2, r2⟩ := t2.i64 Try.underlying3
  obtain rfl : v2 = .int .i64 n2 := by simpa using q2
  obtain ⟨n3, q3, r3⟩ := t3.i64 Try.underlying3
  obtain rfl : v3 = .int .i64 n3 := by simpa using q3
  obtain ⟨n4, q4, r4⟩ := t4.i64 Try.underlying3
  obtain rfl : v4 = .int .i64 n4 := by simpa using q4
  obtain ⟨a5, l5, c5, x5, rfl, r5⟩ := SRow.of_tr (R := ValAt) 5 Try.underlying22 (by kernel_rfl) (by decide) t5 (fun _ _ _ => val_came)
  obtain ⟨a6, l6, c6, x6, rfl, r6⟩ := SRow.of_tr (R := ValAt) 5 Try.underlying22 (by kernel_rfl) (by decide) t6 (fun _ _ _ => val_came)
  obtain ⟨a7, l7, c7, x7, rfl, r7⟩ := SRow.of_tr (R := InsAt) 11 Try.underlying23 (by kernel_rfl) (by decide) t7 (fun _ _ _ => ins_came)
  obtain ⟨a8, l8, c8, x8, rfl, r8⟩ := SRow.of_tr (R := InsAt) 11 Try.underlying23 (by kernel_rfl) (by decide) t8 (fun _ _ _ => ins_came)
  obtain ⟨a9, l9, c9, x9, rfl, r9⟩ := SRow.of_tr (R := InsAt) 11 Try.underlying23 (by kernel_rfl) (by decide) t9 (fun _ _ _ => ins_came)
  refine ⟨⟨n0, n1, n2, n3, n4, x5, x6, x7, x8, x9⟩, ⟨(a5, l5, c5), (a6, l6, c6), (a7, l7, c7), (a8, l8, c8), (a9, l9, c9)⟩, ?_, r0, r1, r2, r3, r4, r5, r6, r7, r8, r9⟩
  match cs, hl with
  | [u0, u1, u2, u3, u4, u5, u6, u7, u8, u9], _ =>
    simp at e0 e1 e2 e3 e4 e5 e6 e7 e8 e9
    subst e0 e1 e2 e3 e4 e5 e6 e7 e8 e9
    rfl
theorem code_of_trod {H : Type} {enc : TypeId × Value → H} {r : Reach} {b0 : Nat} {W : World} {v : Value} {d : DataW H} {p : List MemPlace} {base : Nat}
    (hv : Value.okWide Try.prog W r b0 25 v) (h : DataW.Trod enc Try.prog W base (fun _ => true) true 25 v d p) (hz : ∀ n ∈ d.weights Try.prog 25, n ≤ reachBytes) : ∃ c cv, v = codeV c cv ∧ CodeIs W W.heap.size c cv := by
  obtain ⟨cs, rfl, _⟩ := okWide_struct Try.underlying25 hv
  obtain ⟨fuel, hf⟩ := h
  have ht : Tr W 25 cs.toList := ⟨H, enc, base, _, _, fuel, _, by simpa [Value.cells] using hf, hz⟩
  obtain ⟨fv, f, e, hi⟩ := code_came ht
  exact ⟨fv, f, by simpa using e, hi⟩

end Go.Proofs.Ytcljmfhelgkfaaa
