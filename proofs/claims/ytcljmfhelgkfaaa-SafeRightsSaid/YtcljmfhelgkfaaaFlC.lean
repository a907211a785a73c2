/- A flat program that came in. No condition. -/
import Derived.Test.YtcljmfhelgkfaaaFlB
namespace Go.Proofs.Ytcljmfhelgkfaaa
set_option linter.unusedVariables false
set_option linter.unusedSimpArgs false
set_option maxRecDepth 100000
open Go.ChangeShapes Go.WideShapes Go.ChangeAt Go.RowKit Go.Joins

theorem sub_cells {w : World} {b o sz : Nat} {ds : List Value} (hc : ∀ j, j < sz → w.cell? ⟨b, o + j, none⟩ = ds[j]?) (k m : Nat) (h : k + m ≤ sz) : ∀ j, j < m → w.cell? ⟨b, o + k + j, none⟩ = ((ds.drop k).take m)[j]? := fun j hj => by
  rw [List.getElem?_take_of_lt hj, List.getElem?_drop, Nat.add_assoc]
  exact hc (k + j) (by omega)
theorem sub_len {sz : Nat} {ds : List Value} (hl : ds.length = sz) (k m : Nat) (h : k + m ≤ sz) : ((ds.drop k).take m).length = m := by
  rw [List.length_take, List.length_drop]; omega
theorem one_cell {ds : List Value} (hl : ds.length = 1) : ∃ v, ds = [v] := by
  match ds, hl with
  | [v], _ => exact ⟨v, rfl⟩
section
variable {w : World} {b o : Nat} {ds : List Value}
theorem int_came (hb : b < w.heap.size) (hc : ∀ j, j < 1 → w.cell? ⟨b, o + j, none⟩ = ds[j]?) (hl : ds.length = 1) (ht : Tr w 3 ds) : ∃ x, IntAt w w.heap.size b o x := by
  obtain ⟨x, rfl, h1⟩ := ht.i64 Try.underlying3
  exact ⟨x, hc 0 (by decide), h1⟩
theorem str_came (hb : b < w.heap.size) (hc : ∀ j, j < 1 → w.cell? ⟨b, o + j, none⟩ = ds[j]?) (hl : ds.length = 1) (ht : Tr w 9 ds) : ∃ x, StrAt w w.heap.size b o x := by
  obtain ⟨x, rfl, h1⟩ := ht.str Try.underlying9
  exact ⟨x, hc 0 (by decide), h1⟩
theorem bool_came (hb : b < w.heap.size) (hc : ∀ j, j < 1 → w.cell? ⟨b, o + j, none⟩ = ds[j]?) (hl : ds.length = 1) (ht : Tr w 4 ds) : ∃ x, w.cell? ⟨b, o, none⟩ = some (.bool x) := by
  obtain ⟨x, rfl⟩ := ht.bool Try.underlying4
  exact ⟨x, hc 0 (by decide)⟩
theorem is_came (hb : b < w.heap.size) (hc : ∀ j, j < 1 → w.cell? ⟨b, o + j, none⟩ = ds[j]?) (hl : ds.length = 1) (ht : Tr w 29 ds) : ∃ x, IsAt w w.heap.size b o x := by
  obtain ⟨v, rfl⟩ := one_cell hl
  obtain ⟨a, n, c, xs, rfl, h⟩ := irow_of_tr ht
  exact ⟨xs, a, n, c, hc 0 (by decide), h⟩
theorem us_came (hb : b < w.heap.size) (hc : ∀ j, j < 1 → w.cell? ⟨b, o + j, none⟩ = ds[j]?) (hl : ds.length = 1) (ht : Tr w 44 ds) : ∃ x, UsAt w w.heap.size b o x := by
  obtain ⟨v, rfl⟩ := one_cell hl
  obtain ⟨a, n, c, xs, rfl, h⟩ := urow_of_tr ht
  exact ⟨xs, a, n, c, hc 0 (by decide), h⟩
theorem ss_came {α : Type} {R : World → Nat → Nat → Nat → α → Prop} {t e : TypeId} (sz : Nat) (hte : Try.prog.underlying t = some (.slice e)) (hsz : Try.prog.cellsOf e = sz) (h0 : 0 < sz) (hb : b < w.heap.size) (hc : ∀ j, j < 1 → w.cell? ⟨b, o + j, none⟩ = ds[j]?) (hl : ds.length = 1) (ht : Tr w t ds)
    (hR : ∀ b o ds, b < w.heap.size → (∀ j, j < sz → w.cell? ⟨b, o + j, none⟩ = ds[j]?) → ds.length = sz → Tr w e ds → ∃ x, R w w.heap.size b o x) : ∃ x, SsAt sz R w w.heap.size b o x := by
  obtain ⟨v, rfl⟩ := one_cell hl
  obtain ⟨a, n, c, xs, rfl, h⟩ := SRow.of_tr sz hte hsz h0 ht hR
  exact ⟨xs, a, n, c, hc 0 (by decide), h⟩
theorem aint_came (hb : b < w.heap.size) (hc : ∀ j, j < 2 → w.cell? ⟨b, o + j, none⟩ = ds[j]?) (hl : ds.length = 2) (ht : Tr w 46 ds) : ∃ (x : Bool) (y : List Nat), w.cell? ⟨b, o, none⟩ = some (.bool x) ∧ UsAt w w.heap.size b (o + 1) y := by
  have hs := (ht.struct Try.underlying46).2
  have k0 : Tr w 4 ((ds.drop 0).take 1) := hs 0 _ rfl
  obtain ⟨x0, h0⟩ := bool_came hb (sub_cells hc 0 1 (by decide)) (sub_len hl 0 1 (by decide)) k0
  have k1 : Tr w 44 ((ds.drop 1).take 1) := hs 1 _ rfl
  obtain ⟨x1, h1⟩ := us_came hb (sub_cells hc 1 1 (by decide)) (sub_len hl 1 1 (by decide)) k1
  exact ⟨x0, x1, h0, h1⟩
theorem arat_came (hb : b < w.heap.size) (hc : ∀ j, j < 3 → w.cell? ⟨b, o + j, none⟩ = ds[j]?) (hl : ds.length = 3) (ht : Tr w 48 ds) : ∃ (x : Bool) (y z : List Nat), w.cell? ⟨b, o, none⟩ = some (.bool x) ∧ UsAt w w.heap.size b (o + 1) y ∧ UsAt w w.heap.size b (o + 2) z := by
  have hs := (ht.struct Try.underlying48).2
  have k0 : Tr w 46 ((ds.drop 0).take 2) := hs 0 _ rfl
  have k1 : Tr w 44 ((ds.drop 2).take 1) := hs 1 _ rfl
  obtain ⟨x, y, h1, h2⟩ := aint_came hb (sub_cells hc 0 2 (by decide)) (sub_len hl 0 2 (by decide)) k0
  obtain ⟨z, h3⟩ := us_came hb (sub_cells hc 2 1 (by decide)) (sub_len hl 2 1 (by decide)) k1
  exact ⟨x, y, z, h1, h2, h3⟩
theorem val_came (hb : b < w.heap.size) (hc : ∀ j, j < 5 → w.cell? ⟨b, o + j, none⟩ = ds[j]?) (hl : ds.length = 5) (ht : Tr w 50 ds) : ∃ x, ValAt w w.heap.size b o x := by
  have hs := (ht.struct Try.underlying50).2
  have k0 : Tr w 3 ((ds.drop 0).take 1) := hs 0 _ rfl
  have k1 : Tr w 48 ((ds.drop 1).take 3) := hs 1 _ rfl
  have k2 : Tr w 9 ((ds.drop 4).take 1) := hs 2 _ rfl
  obtain ⟨k, h0⟩ := int_came hb (sub_cells hc 0 1 (by decide)) (sub_len hl 0 1 (by decide)) k0
  obtain ⟨x, y, z, h1, h2, h3⟩ := arat_came hb (sub_cells hc 1 3 (by decide)) (sub_len hl 1 3 (by decide)) k1
  obtain ⟨s, h4⟩ := str_came hb (sub_cells hc 4 1 (by decide)) (sub_len hl 4 1 (by decide)) k2
  exact ⟨⟨k, x, y, z, s⟩, h0, h1, h2, h3, h4⟩
theorem feq_came (hb : b < w.heap.size) (hc : ∀ j, j < 10 → w.cell? ⟨b, o + j, none⟩ = ds[j]?) (hl : ds.length = 10) (ht : Tr w 69 ds) : ∃ x, FEqAt w w.heap.size b o x := by
  have hs := (ht.struct Try.underlying69).2
  have k0 : Tr w 3 ((ds.drop 0).take 1) := hs 0 _ rfl
  obtain ⟨x0, h0⟩ := int_came hb (sub_cells hc 0 1 (by decide)) (sub_len hl 0 1 (by decide)) k0
  have k1 : Tr w 9 ((ds.drop 1).take 1) := hs 1 _ rfl
  obtain ⟨x1, h1⟩ := str_came hb (sub_cells hc 1 1 (by decide)) (sub_len hl 1 1 (by decide)) k1
  have k2 : Tr w 29 ((ds.drop 2).take 1) := hs 2 _ rfl
  obtain ⟨x2, h2⟩ := is_came hb (sub_cells hc 2 1 (by decide)) (sub_len hl 2 1 (by decide)) k2
  have k3 : Tr w 3 ((ds.drop 3).take 1) := hs 3 _ rfl
  obtain ⟨x3, h3⟩ := int_came hb (sub_cells hc 3 1 (by decide)) (sub_len hl 3 1 (by decide)) k3
  have k4 : Tr w 50 ((ds.drop 4).take 5) := hs 4 _ rfl
  obtain ⟨x4, h4⟩ := val_came hb (sub_cells hc 4 5 (by decide)) (sub_len hl 4 5 (by decide)) k4
  have k5 : Tr w 3 ((ds.drop 9).take 1) := hs 5 _ rfl
  obtain ⟨x5, h5⟩ := int_came hb (sub_cells hc 9 1 (by decide)) (sub_len hl 9 1 (by decide)) k5
  exact ⟨⟨x0, x1, x2, x3, x4, x5⟩, h0, h1, h2, h3, h4, h5⟩
theorem mem_came (hb : b < w.heap.size) (hc : ∀ j, j < 8 → w.cell? ⟨b, o + j, none⟩ = ds[j]?) (hl : ds.length = 8) (ht : Tr w 72 ds) : ∃ x, MemAt w w.heap.size b o x := by
  have hs := (ht.struct Try.underlying72).2
  have k0 : Tr w 50 ((ds.drop 0).take 5) := hs 0 _ rfl
  obtain ⟨x0, h0⟩ := val_came hb (sub_cells hc 0 5 (by decide)) (sub_len hl 0 5 (by decide)) k0
  have k1 : Tr w 3 ((ds.drop 5).take 1) := hs 1 _ rfl
  obtain ⟨x1, h1⟩ := int_came hb (sub_cells hc 5 1 (by decide)) (sub_len hl 5 1 (by decide)) k1
  have k2 : Tr w 3 ((ds.drop 6).take 1) := hs 2 _ rfl
  obtain ⟨x2, h2⟩ := int_came hb (sub_cells hc 6 1 (by decide)) (sub_len hl 6 1 (by decide)) k2
  have k3 : Tr w 29 ((ds.drop 7).take 1) := hs 3 _ rfl
  obtain ⟨x3, h3⟩ := is_came hb (sub_cells hc 7 1 (by decide)) (sub_len hl 7 1 (by decide)) k3
  exact ⟨⟨x0, x1, x2, x3⟩, h0, h1, h2, h3⟩
theorem slope_came (hb : b < w.heap.size) (hc : ∀ j, j < 2 → w.cell? ⟨b, o + j, none⟩ = ds[j]?) (hl : ds.length = 2) (ht : Tr w 99 ds) : ∃ x, SlopeAt w w.heap.size b o x := by
  have hs := (ht.struct Try.underlying99).2
  have k0 : Tr w 3 ((ds.drop 0).take 1) := hs 0 _ rfl
  obtain ⟨x0, h0⟩ := int_came hb (sub_cells hc 0 1 (by decide)) (sub_len hl 0 1 (by decide)) k0
  have k1 : Tr w 3 ((ds.drop 1).take 1) := hs 1 _ rfl
  obtain ⟨x1, h1⟩ := int_came hb (sub_cells hc 1 1 (by decide)) (sub_len hl 1 1 (by decide)) k1
  exact ⟨⟨x0, x1⟩, h0, h1⟩
theorem cont_came (hb : b < w.heap.size) (hc : ∀ j, j < 9 → w.cell? ⟨b, o + j, none⟩ = ds[j]?) (hl : ds.length = 9) (ht : Tr w 75 ds) : ∃ x, ContAt w w.heap.size b o x := by
  have hs := (ht.struct Try.underlying75).2
  have k0 : Tr w 50 ((ds.drop 0).take 5) := hs 0 _ rfl
  obtain ⟨x0, h0⟩ := val_came hb (sub_cells hc 0 5 (by decide)) (sub_len hl 0 5 (by decide)) k0
  have k1 : Tr w 3 ((ds.drop 5).take 1) := hs 1 _ rfl
  obtain ⟨x1, h1⟩ := int_came hb (sub_cells hc 5 1 (by decide)) (sub_len hl 5 1 (by decide)) k1
  have k2 : Tr w 3 ((ds.drop 6).take 1) := hs 2 _ rfl
  obtain ⟨x2, h2⟩ := int_came hb (sub_cells hc 6 1 (by decide)) (sub_len hl 6 1 (by decide)) k2
  have k3 : Tr w 29 ((ds.drop 7).take 1) := hs 3 _ rfl
  obtain ⟨x3, h3⟩ := is_came hb (sub_cells hc 7 1 (by decide)) (sub_len hl 7 1 (by decide)) k3
  have k4 : Tr w 73 ((ds.drop 8).take 1) := hs 4 _ rfl
  obtain ⟨x4, h4⟩ := ss_came 2 Try.underlying73 (by kernel_rfl) (by decide) hb (sub_cells hc 8 1 (by decide)) (sub_len hl 8 1 (by decide)) k4 (fun _ _ _ => slope_came)
  exact ⟨⟨x0, x1, x2, x3, x4⟩, h0, h1, h2, h3, h4⟩
theorem cop_came (hb : b < w.heap.size) (hc : ∀ j, j < 2 → w.cell? ⟨b, o + j, none⟩ = ds[j]?) (hl : ds.length = 2) (ht : Tr w 80 ds) : ∃ x, COpAt w w.heap.size b o x := by
  have hs := (ht.struct Try.underlying80).2
  have k0 : Tr w 9 ((ds.drop 0).take 1) := hs 0 _ rfl
  obtain ⟨x0, h0⟩ := str_came hb (sub_cells hc 0 1 (by decide)) (sub_len hl 0 1 (by decide)) k0
  have k1 : Tr w 29 ((ds.drop 1).take 1) := hs 1 _ rfl
  obtain ⟨x1, h1⟩ := is_came hb (sub_cells hc 1 1 (by decide)) (sub_len hl 1 1 (by decide)) k1
  exact ⟨⟨x0, x1⟩, h0, h1⟩
theorem cross_came (hb : b < w.heap.size) (hc : ∀ j, j < 2 → w.cell? ⟨b, o + j, none⟩ = ds[j]?) (hl : ds.length = 2) (ht : Tr w 78 ds) : ∃ x, CrossAt w w.heap.size b o x := by
  have hs := (ht.struct Try.underlying78).2
  have k0 : Tr w 3 ((ds.drop 0).take 1) := hs 0 _ rfl
  obtain ⟨x0, h0⟩ := int_came hb (sub_cells hc 0 1 (by decide)) (sub_len hl 0 1 (by decide)) k0
  have k1 : Tr w 76 ((ds.drop 1).take 1) := hs 1 _ rfl
  obtain ⟨x1, h1⟩ := ss_came 2 Try.underlying76 (by kernel_rfl) (by decide) hb (sub_cells hc 1 1 (by decide)) (sub_len hl 1 1 (by decide)) k1 (fun _ _ _ => cop_came)
  exact ⟨⟨x0, x1⟩, h0, h1⟩
end
theorem Tr.one {w : World} {t e : TypeId} {fs : Array Field} {cs : List Value} (h : Tr w t cs) (ht : Try.prog.underlying t = some (.struct fs)) (i : Nat) (f : Field) (hf : fs[i]? = some f) (he : f.type = e) (h1 : Try.prog.cellsOf e = 1) (hi : f.offset < cs.length) : ∃ v, cs[f.offset]? = some v ∧ Tr w e [v] := by
  have := (h.struct ht).2 i f hf
  rw [he, h1] at this
  refine ⟨cs[f.offset], List.getElem?_eq_getElem hi, ?_⟩
  rwa [List.drop_eq_getElem_cons hi] at this
/-- a flat program that came in -/
theorem flat_came {w : World} {cs : List Value} (h : Tr w 35 cs) : ∃ v f, Value.agg cs.toArray = flatV v ∧ FlatIs w w.heap.size v f := by
  have hl : cs.length = 8 := (h.struct Try.underlying35).1.trans (by kernel_rfl)
  obtain ⟨v0, e0, t0⟩ := h.one (e := 28) Try.underlying35 0 _ rfl rfl (by kernel_rfl) (by rw [hl]; decide)
  obtain ⟨v1, e1, t1⟩ := h.one (e := 28) Try.underlying35 1 _ rfl rfl (by kernel_rfl) (by rw [hl]; decide)
  obtain ⟨v2, e2, t2⟩ := h.one (e := 29) Try.underlying35 2 _ rfl rfl (by kernel_rfl) (by rw [hl]; decide)
  obtain ⟨v3, e3, t3⟩ := h.one (e := 30) Try.underlying35 3 _ rfl rfl (by kernel_rfl) (by rw [hl]; decide)
  obtain ⟨v4, e4, t4⟩ := h.one (e := 31) Try.underlying35 4 _ rfl rfl (by kernel_rfl) (by rw [hl]; decide)
  obtain ⟨v5, e5, t5⟩ := h.one (e := 32) Try.underlying35 5 _ rfl rfl (by kernel_rfl) (by rw [hl]; decide)
  obtain ⟨v6, e6, t6⟩ := h.one (e := 33) Try.underlying35 6 _ rfl rfl (by kernel_rfl) (by rw [hl]; decide)
  obtain ⟨v7, e7, t7⟩ := h.one (e := 29) Try.underlying35 7 _ rfl rfl (by kernel_rfl) (by rw [hl]; decide)
  obtain ⟨a0, n0, c0, x0, rfl, r0⟩ := SRow.of_tr (R := StrAt) 1 Try.underlying28 (by kernel_rfl) (by decide) t0 (fun _ _ _ => str_came)
  obtain ⟨a1, n1, c1, x1, rfl, r1⟩ := SRow.of_tr (R := StrAt) 1 Try.underlying28 (by kernel_rfl) (by decide) t1 (fun _ _ _ => str_came)
  obtain ⟨a2, n2, c2, x2, rfl, r2⟩ := irow_of_tr t2
  obtain ⟨a3, n3, c3, x3, rfl, r3⟩ := SRow.of_tr (R := FEqAt) 10 Try.underlying30 (by kernel_rfl) (by decide) t3 (fun _ _ _ => feq_came)
  obtain ⟨a4, n4, c4, x4, rfl, r4⟩ := SRow.of_tr (R := MemAt) 8 Try.underlying31 (by kernel_rfl) (by decide) t4 (fun _ _ _ => mem_came)
  obtain ⟨a5, n5, c5, x5, rfl, r5⟩ := SRow.of_tr (R := ContAt) 9 Try.underlying32 (by kernel_rfl) (by decide) t5 (fun _ _ _ => cont_came)
  obtain ⟨a6, n6, c6, x6, rfl, r6⟩ := SRow.of_tr (R := CrossAt) 2 Try.underlying33 (by kernel_rfl) (by decide) t6 (fun _ _ _ => cross_came)
  obtain ⟨a7, n7, c7, x7, rfl, r7⟩ := irow_of_tr t7
  refine ⟨⟨(a0, n0, c0), (a1, n1, c1), (a2, n2, c2), (a3, n3, c3), (a4, n4, c4), (a5, n5, c5), (a6, n6, c6), (a7, n7, c7)⟩, ⟨x0, x1, x2, x3, x4, x5, x6, x7⟩, ?_, r0, r1, r2, r3, r4, r5, r6, r7⟩
  match cs, hl with
  | [u0, u1, u2, u3, u4, u5, u6, u7], _ =>
    simp at e0 e1 e2 e3 e4 e5 e6 e7
    subst e0 e1 e2 e3 e4 e5 e6 e7
    rfl

end Go.Proofs.Ytcljmfhelgkfaaa
