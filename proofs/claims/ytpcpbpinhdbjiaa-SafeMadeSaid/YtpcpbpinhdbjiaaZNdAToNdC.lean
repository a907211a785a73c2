/- Appending any row of numbers to a row of one s own. No condition but bounds. · What the answer Needs tells. No condition but bounds. · What the answer Needs tells, of any equation. No condition but bounds. -/
import Derived.Test.YtpcpbpinhdbjiaaZFlAToFlC
import Derived.Laws.AppendOwnNone
import Derived.Test.YtpcpbpinhdbjiaaZFlHToFlJ
import Derived.Deep.DeepCutAuto
namespace Go.Proofs.Ytpcpbpinhdbjiaa
set_option linter.unusedVariables false
set_option linter.unusedSimpArgs false
set_option maxRecDepth 100000
open Go.RowKit

/-- append(row, src), the row the call's own, src any row of numbers -/
theorem appendR {w : World} {ops : Array Oper} {rest : List Oper} {o : Oper} {a : Act} {Q : Exit → Act → World → Prop} (hgd : o.guard = none) (s x : Operand) (t : TypeId) (ht : Try.prog.underlying t = some (.slice 3))
    (hop : o.op = .call { callee := .builtin .append, args := #[s, x], argTypes := #[t, t] })
    (B B' : Nat) (v : Value) (xs : List Int) (A : Option Addr) (n c : Nat) (ys : List Int) (hs : a.eval s = v) (hx : a.eval x = .slice A n c) (hown : Own w B v xs) (hr : IRow w B' A n c ys) (hB : B ≤ w.heap.size) (hl : xs.length ≤ 1000000000) (hn : n ≤ 1000000)
    (hK : ∀ v' w', Own w' B v' (xs ++ ys) → Only [v.ownBlock] w w' → (v'.ownBlock = v.ownBlock ∨ ∃ k, v'.ownBlock = some k ∧ w.heap.size ≤ k) → wpList Try.prog ops Q rest (a.put o.dst v') w') :
    wpList Try.prog ops Q (o :: rest) a w := by
  obtain ⟨i0, hi, hz0, hz1, hz2⟩ := info_parts Try.info3
  cases A with
  | none =>
    have hc : c = 0 := hr.2.2.2.1 rfl
    have hn0 : n = 0 := by have := hr.2.1; omega
    subst hc hn0
    have hy : ys = [] := List.length_eq_zero_iff.1 hr.1
    subst hy
    refine wpList_append_own_none hgd s x t hop B 3 i0 1 ht hi v xs.length (xs.map (Value.int .i64)) hs hown hx ?_
    exact hK v w (by rw [List.append_nil]; exact hown) (Only.refl _ _) (.inl rfl)
  | some ad =>
    refine wpList_append_own_at _ hgd s x t hop B 3 i0 (.int .i64 0) 1 8 ht hi hz0 hz1 hz2 rfl (by decide) v xs.length (xs.map (Value.int .i64)) hs hown ad n c (ys.map (Value.int .i64)) hx (by rw [List.length_map, hr.1, Nat.mul_one]) (fun j u hu => ?_) (fun u hu => ?_) (by unfold maxLen; omega) (by omega) hB ?_
    · rw [List.getElem?_map] at hu
      obtain ⟨y, hy, rfl⟩ := Option.map_eq_some_iff.1 hu
      have hj : j < n := by rw [← hr.1]; exact (List.getElem?_eq_some_iff.1 hy).1
      obtain ⟨b, off, e, _, hc⟩ := hr.at_ hj
      injection e with e
      subst e
      rw [Go.WideShapes.add_plain, hc]
      congr 2
      simp [List.getD, hy]
    · rw [List.mem_map] at hu
      obtain ⟨y, _, rfl⟩ := hu
      rfl
    · intro v' w' hown' hgrow _ hat
      refine hK v' w' ?_ (Only.of_grown hgrow (Or.inl (by simp))) ?_
      · unfold Own; simpa [hr.1] using hown'
      · rcases hat with h | h
        · exact Or.inl h
        · exact Or.inr ⟨_, h, Nat.le_refl _⟩
/-- a new row of nothing -/
theorem Own.fresh (w : World) (B : Nat) (hB : B ≤ w.heap.size) : Own (w.alloc (.cells #[] 3)) B (.slice (some ⟨w.heap.size, 0, none⟩) 0 0) [] :=
  ⟨rfl, .inr ⟨w.heap.size, 0, #[], rfl, hB, heap_alloc_new w _, Nat.le_refl _, Nat.zero_le _, rfl, rfl⟩⟩
/-- a row of the call's own stays the only one that has turned -/
theorem Only.own {B : Nat} {v : Value} {xs : List Int} {a b : World} (h : Only [v.ownBlock] a b) (ho : Own a B v xs) (hB : B ≤ a.heap.size) : Below B a b :=
  h.below hB fun j hj => by
    simp at hj
    exact (ho.lt hj.symm).1
/-- the variables that an equation needs -/
def needsL (f : FlatM) (q : FEqM) : List Int :=
  q.args ++ (if 0 ≤ q.guard then [q.guard] else []) ++ (if q.op = opMem then (f.mems[q.k.toNat]?.map MemM.resets).getD [] else []) ++ (if q.op = opCont then (f.conts[q.k.toNat]?.map ContM.resets).getD [] else [])

end Go.Proofs.Ytpcpbpinhdbjiaa

namespace Go.Proofs.Ytpcpbpinhdbjiaa
set_option linter.unusedVariables false
set_option linter.unusedSimpArgs false
set_option maxRecDepth 100000
open Go.RowKit

/-- what Needs tells -/
def NeedsPost (f : FlatM) (q : FEqM) (w : World) (e : Ending) (w' : World) : Prop := ∃ v', e = .returned v' ∧ Own w' w.heap.size v' (needsL f q) ∧ Below w.heap.size w w'
theorem nd_done {f : FlatM} {q : FEqM} {w W1 w' : World} {v' : Value} {xs : List Int} (h1 : Below w.heap.size w W1) (hs : W1.heap.size = w.heap.size + 2) (h2 : Below (w.heap.size + 2) W1 w') (ho : Own w' (w.heap.size + 2) v' xs) (he : needsL f q = xs) : NeedsPost f q w (.returned v') w' :=
  ⟨v', rfl, by rw [he]; exact ho.more (by omega), h1.trans (h2.mono (by omega))⟩

set_option maxHeartbeats 2000000 in
theorem nd_0_0 (q : FEqM) (a m d : Option Addr × Nat × Nat) (v : FlatV) (f : FlatM) (B : Nat) (w : World) (hF : FlatIs w B v f) (hrow : IRow w B a.1 a.2.1 a.2.2 q.args) (hB : B ≤ w.heap.size) (ha : a.2.1 ≤ 1000) (hop : q.op = bs [109, 101, 109]) (hk : plB q.k v.mems.2.1 = true) (hres : ∀ (i : Nat) (x : MemM), f.mems[i]? = some x → x.resets.length ≤ 1000) (hg : q.guard < 0) :
    Calls Try.prog 29 #[flatV v, feqV q a m d] w (NeedsPost f q w) := by
  obtain ⟨var, op, args, k, lit, guard⟩ := q
  obtain ⟨A, n, c⟩ := a
  simp only at hrow ha hg hop hk
  have HEQ : Hid (∀ (x : MemM) (hx : f.mems[k.toNat]? = some x), needsL f ⟨var, op, args, k, lit, guard⟩ = args ++ [] ++ x.resets ++ []) := Lib.hid (by
    intro x hx; subst hop
    unfold needsL opMem opCont
    rw [if_pos rfl, if_neg (show ¬ bs [109, 101, 109] = bs [99, 111, 110, 116] by decide)]; simp [hx, show ¬ 0 ≤ guard by omega])
  have hF1 : FlatIs (w.alloc (.cells (fvs v) 29)) B v f := hF.below ((Below.refl B w).alloc hB _)
  have hW1 : Below w.heap.size w ((w.alloc (.cells (fvs v) 29)).alloc (.cells (qvs ⟨var, op, args, k, lit, guard⟩ (A, n, c) m d) 52)) := ((Below.refl _ _).alloc (Nat.le_refl _) _).alloc (by simp) _
  obtain ⟨W1, hW⟩ : ∃ W1, W1 = (w.alloc (.cells (fvs v) 29)).alloc (.cells (qvs ⟨var, op, args, k, lit, guard⟩ (A, n, c) m d) 52) := ⟨_, rfl⟩
  have hsz : W1.heap.size = w.heap.size + 2 := by rw [hW]; simp
  have HK := Lib.hid (show Blk W1 w.heap.size 29 (fvs v) from by rw [hW]; exact (Blk.new _ _ _).alloc _)
  have HKQ := Lib.hid (show Blk W1 (w.heap.size + 1) 52 (qvs ⟨var, op, args, k, lit, guard⟩ (A, n, c) m d) from by rw [hW]; have := Blk.new (w.alloc (.cells (fvs v) 29)) 52 (qvs ⟨var, op, args, k, lit, guard⟩ (A, n, c) m d); rw [size_alloc] at this; exact this)
  rw [← hW] at hW1
  have HW1 := Lib.hid hW1
  have HF := Lib.hid (hF.below (hW1.mono hB))
  have HR := Lib.hid (hrow.below (hW1.mono hB))
  have HBB := Lib.hid hB
  have HSZ := Lib.hid hsz
  have HB := Lib.hid (show Below (w.heap.size + 2) W1 (W1.alloc (.cells #[] 3)) from (Below.refl _ _).alloc (by omega) _)
  have HO := Lib.hid (show Own (W1.alloc (.cells #[] 3)) (w.heap.size + 2) (.slice (some ⟨W1.heap.size, 0, none⟩) 0 0) [] from Own.fresh W1 _ (by omega))
  have HZ := Lib.hid (show w.heap.size + 2 ≤ (W1.alloc (.cells #[] 3)).heap.size from by rw [size_alloc]; omega)
  have HLA := Lib.hid (hrow.1 : args.length = n)
  unfold fvs qvs at hW
  dsimp only at hW
  clear hF hF1 hrow hB hW1 hsz
  obtain ⟨p0, p1⟩ := plB_yes hk
  obtain ⟨j, rfl⟩ : ∃ j : Nat, k = (j : Int) := ⟨k.toNat, by omega⟩
  have hj : j < v.mems.2.1 := by omega
  obtain ⟨x, hx⟩ := HF.out.mems.ex hj
  obtain ⟨b, off, hab, hlb, hat⟩ := HF.out.mems.at_ hx
  obtain ⟨A3, L3, C3, p3, q3⟩ := hat.resets
  have hlen3 : L3 ≤ 1000 := by rw [← q3.1]; exact hres _ x hx
  have hbw : b < w.heap.size + 2 := Nat.lt_of_lt_of_le hlb (Nat.le_trans HBB.out (by omega))
  have HP3 := Lib.hid p3
  have HQ3 := Lib.hid q3
  have HNE := Lib.hid (HEQ.out x (by simpa using hx))
  have HAB := Lib.hid hab
  clear hx hab hat p3 q3 hres hk HEQ
  subst hop
  unfold bs at hW HNE HKQ ⊢
  unfold feqV flatV sl3
  go_enter Try.func29, Try.ntmps29
  go_upto_region 1 with fail
  rw [← hW]
  clear hW
  obtain ⟨f0, f1, f2, f3, f4, f5, f6, f7⟩ := (HK.out.below HB.out (Nat.lt_succ_of_lt (Nat.lt_succ_self _))).flat
  obtain ⟨e0, e1, e2, e3, e4, e5, e6, e7, e8, e9⟩ := (HKQ.out.below HB.out (Nat.lt_succ_self _)).eq
  have p3 := (HB.out.cell (p := ⟨b, off + j * 8 + 7, none⟩) hbw).trans HP3.out
  rw [HAB.out] at f4
  go_wp2_with (first | (at_builtin; refine appendR rfl _ _ 23 Try.underlying23 rfl (w.heap.size + 2) B _ [] A n c args rfl rfl HO.out (HR.out.below (HB.out.mono (Nat.le_trans HBB.out (by omega)))) HZ.out (by simp) (by omega) ?_; intro v1 w1 hown honly hat; replace HB := Lib.hid (HB.out.trans (honly.own HO.out HZ.out)); replace HO := Lib.hid hown; replace HZ := Lib.hid (Nat.le_trans HZ.out honly.size); clear hown honly hat; obtain ⟨f0, f1, f2, f3, f4, f5, f6, f7⟩ := (HK.out.below HB.out (Nat.lt_succ_of_lt (Nat.lt_succ_self _))).flat; obtain ⟨e0, e1, e2, e3, e4, e5, e6, e7, e8, e9⟩ := (HKQ.out.below HB.out (Nat.lt_succ_self _)).eq; have p3 := (HB.out.cell (p := ⟨b, off + j * 8 + 7, none⟩) hbw).trans HP3.out; rw [HAB.out] at f4) | (at_builtin; refine appendR rfl _ _ 23 Try.underlying23 rfl (w.heap.size + 2) B v1 (([] ++ args)) A3 L3 C3 x.resets rfl rfl HO.out (HQ3.out.below (HB.out.mono (Nat.le_trans HBB.out (by omega)))) HZ.out (by simp [HLA.out]; omega) (by omega) ?_; intro v1 w1 hown honly hat; replace HB := Lib.hid (HB.out.trans (honly.own HO.out HZ.out)); replace HO := Lib.hid hown; replace HZ := Lib.hid (Nat.le_trans HZ.out honly.size); clear hown honly hat; obtain ⟨f0, f1, f2, f3, f4, f5, f6, f7⟩ := (HK.out.below HB.out (Nat.lt_succ_of_lt (Nat.lt_succ_self _))).flat; obtain ⟨e0, e1, e2, e3, e4, e5, e6, e7, e8, e9⟩ := (HKQ.out.below HB.out (Nat.lt_succ_self _)).eq; have p3 := (HB.out.cell (p := ⟨b, off + j * 8 + 7, none⟩) hbw).trans HP3.out; rw [HAB.out] at f4))
  go_ret
  exact nd_done HW1.out HSZ.out HB.out HO.out (by rw [HNE.out]; simp)

set_option maxHeartbeats 2000000 in
theorem nd_0_1 (q : FEqM) (a m d : Option Addr × Nat × Nat) (v : FlatV) (f : FlatM) (B : Nat) (w : World) (hF : FlatIs w B v f) (hrow : IRow w B a.1 a.2.1 a.2.2 q.args) (hB : B ≤ w.heap.size) (ha : a.2.1 ≤ 1000) (hop : q.op = bs [109, 101, 109]) (hk : plB q.k v.mems.2.1 = true) (hres : ∀ (i : Nat) (x : MemM), f.mems[i]? = some x → x.resets.length ≤ 1000) (hg : 0 ≤ q.guard) :
    Calls Try.prog 29 #[flatV v, feqV q a m d] w (NeedsPost f q w) := by
  obtain ⟨var, op, args, k, lit, guard⟩ := q
  obtain ⟨A, n, c⟩ := a
  simp only at hrow ha hg hop hk
  have HEQ : Hid (∀ (x : MemM) (hx : f.mems[k.toNat]? = some x), needsL f ⟨var, op, args, k, lit, guard⟩ = args ++ [guard] ++ x.resets ++ []) := Lib.hid (by
    intro x hx; subst hop
    unfold needsL opMem opCont
    rw [if_pos rfl, if_neg (show ¬ bs [109, 101, 109] = bs [99, 111, 110, 116] by decide)]; simp [hx, hg])
  have hF1 : FlatIs (w.alloc (.cells (fvs v) 29)) B v f := hF.below ((Below.refl B w).alloc hB _)
  have hW1 : Below w.heap.size w ((w.alloc (.cells (fvs v) 29)).alloc (.cells (qvs ⟨var, op, args, k, lit, guard⟩ (A, n, c) m d) 52)) := ((Below.refl _ _).alloc (Nat.le_refl _) _).alloc (by simp) _
  obtain ⟨W1, hW⟩ : ∃ W1, W1 = (w.alloc (.cells (fvs v) 29)).alloc (.cells (qvs ⟨var, op, args, k, lit, guard⟩ (A, n, c) m d) 52) := ⟨_, rfl⟩
  have hsz : W1.heap.size = w.heap.size + 2 := by rw [hW]; simp
  have HK := Lib.hid (show Blk W1 w.heap.size 29 (fvs v) from by rw [hW]; exact (Blk.new _ _ _).alloc _)
  have HKQ := Lib.hid (show Blk W1 (w.heap.size + 1) 52 (qvs ⟨var, op, args, k, lit, guard⟩ (A, n, c) m d) from by rw [hW]; have := Blk.new (w.alloc (.cells (fvs v) 29)) 52 (qvs ⟨var, op, args, k, lit, guard⟩ (A, n, c) m d); rw [size_alloc] at this; exact this)
  rw [← hW] at hW1
  have HW1 := Lib.hid hW1
  have HF := Lib.hid (hF.below (hW1.mono hB))
  have HR := Lib.hid (hrow.below (hW1.mono hB))
  have HBB := Lib.hid hB
  have HSZ := Lib.hid hsz
  have HB := Lib.hid (show Below (w.heap.size + 2) W1 (W1.alloc (.cells #[] 3)) from (Below.refl _ _).alloc (by omega) _)
  have HO := Lib.hid (show Own (W1.alloc (.cells #[] 3)) (w.heap.size + 2) (.slice (some ⟨W1.heap.size, 0, none⟩) 0 0) [] from Own.fresh W1 _ (by omega))
  have HZ := Lib.hid (show w.heap.size + 2 ≤ (W1.alloc (.cells #[] 3)).heap.size from by rw [size_alloc]; omega)
  have HLA := Lib.hid (hrow.1 : args.length = n)
  unfold fvs qvs at hW
  dsimp only at hW
  clear hF hF1 hrow hB hW1 hsz
  obtain ⟨p0, p1⟩ := plB_yes hk
  obtain ⟨j, rfl⟩ : ∃ j : Nat, k = (j : Int) := ⟨k.toNat, by omega⟩
  have hj : j < v.mems.2.1 := by omega
  obtain ⟨x, hx⟩ := HF.out.mems.ex hj
  obtain ⟨b, off, hab, hlb, hat⟩ := HF.out.mems.at_ hx
  obtain ⟨A3, L3, C3, p3, q3⟩ := hat.resets
  have hlen3 : L3 ≤ 1000 := by rw [← q3.1]; exact hres _ x hx
  have hbw : b < w.heap.size + 2 := Nat.lt_of_lt_of_le hlb (Nat.le_trans HBB.out (by omega))
  have HP3 := Lib.hid p3
  have HQ3 := Lib.hid q3
  have HNE := Lib.hid (HEQ.out x (by simpa using hx))
  have HAB := Lib.hid hab
  clear hx hab hat p3 q3 hres hk HEQ
  subst hop
  unfold bs at hW HNE HKQ ⊢
  unfold feqV flatV sl3
  go_enter Try.func29, Try.ntmps29
  go_upto_region 1 with fail
  rw [← hW]
  clear hW
  obtain ⟨f0, f1, f2, f3, f4, f5, f6, f7⟩ := (HK.out.below HB.out (Nat.lt_succ_of_lt (Nat.lt_succ_self _))).flat
  obtain ⟨e0, e1, e2, e3, e4, e5, e6, e7, e8, e9⟩ := (HKQ.out.below HB.out (Nat.lt_succ_self _)).eq
  have p3 := (HB.out.cell (p := ⟨b, off + j * 8 + 7, none⟩) hbw).trans HP3.out
  rw [HAB.out] at f4
  go_wp2_with (first | (at_builtin; refine appendR rfl _ _ 23 Try.underlying23 rfl (w.heap.size + 2) B _ [] A n c args rfl rfl HO.out (HR.out.below (HB.out.mono (Nat.le_trans HBB.out (by omega)))) HZ.out (by simp) (by omega) ?_; intro v1 w1 hown honly hat; replace HB := Lib.hid (HB.out.trans (honly.own HO.out HZ.out)); replace HO := Lib.hid hown; replace HZ := Lib.hid (Nat.le_trans HZ.out honly.size); clear hown honly hat; obtain ⟨f0, f1, f2, f3, f4, f5, f6, f7⟩ := (HK.out.below HB.out (Nat.lt_succ_of_lt (Nat.lt_succ_self _))).flat; obtain ⟨e0, e1, e2, e3, e4, e5, e6, e7, e8, e9⟩ := (HKQ.out.below HB.out (Nat.lt_succ_self _)).eq; have p3 := (HB.out.cell (p := ⟨b, off + j * 8 + 7, none⟩) hbw).trans HP3.out; rw [HAB.out] at f4) | (at_builtin; refine appendI rfl _ _ 23 Try.underlying23 rfl (w.heap.size + 2) v1 ([] ++ args) guard _ rfl rfl HO.out HZ.out (by simp [HLA.out]; omega) ?_; intro v1 w1 hown honly hat; replace HB := Lib.hid (HB.out.trans (honly.own HO.out HZ.out)); replace HO := Lib.hid hown; replace HZ := Lib.hid (Nat.le_trans HZ.out honly.size); clear hown honly hat; obtain ⟨f0, f1, f2, f3, f4, f5, f6, f7⟩ := (HK.out.below HB.out (Nat.lt_succ_of_lt (Nat.lt_succ_self _))).flat; obtain ⟨e0, e1, e2, e3, e4, e5, e6, e7, e8, e9⟩ := (HKQ.out.below HB.out (Nat.lt_succ_self _)).eq; have p3 := (HB.out.cell (p := ⟨b, off + j * 8 + 7, none⟩) hbw).trans HP3.out; rw [HAB.out] at f4) | (at_builtin; refine appendR rfl _ _ 23 Try.underlying23 rfl (w.heap.size + 2) B v1 (([] ++ args) ++ [guard]) A3 L3 C3 x.resets rfl rfl HO.out (HQ3.out.below (HB.out.mono (Nat.le_trans HBB.out (by omega)))) HZ.out (by simp [HLA.out]; omega) (by omega) ?_; intro v1 w1 hown honly hat; replace HB := Lib.hid (HB.out.trans (honly.own HO.out HZ.out)); replace HO := Lib.hid hown; replace HZ := Lib.hid (Nat.le_trans HZ.out honly.size); clear hown honly hat; obtain ⟨f0, f1, f2, f3, f4, f5, f6, f7⟩ := (HK.out.below HB.out (Nat.lt_succ_of_lt (Nat.lt_succ_self _))).flat; obtain ⟨e0, e1, e2, e3, e4, e5, e6, e7, e8, e9⟩ := (HKQ.out.below HB.out (Nat.lt_succ_self _)).eq; have p3 := (HB.out.cell (p := ⟨b, off + j * 8 + 7, none⟩) hbw).trans HP3.out; rw [HAB.out] at f4))
  go_ret
  exact nd_done HW1.out HSZ.out HB.out HO.out (by rw [HNE.out]; simp)

set_option maxHeartbeats 2000000 in
theorem nd_1_0 (q : FEqM) (a m d : Option Addr × Nat × Nat) (v : FlatV) (f : FlatM) (B : Nat) (w : World) (hF : FlatIs w B v f) (hrow : IRow w B a.1 a.2.1 a.2.2 q.args) (hB : B ≤ w.heap.size) (ha : a.2.1 ≤ 1000) (hop : q.op = bs [99, 111, 110, 116]) (hk : plB q.k v.conts.2.1 = true) (hres : ∀ (i : Nat) (x : ContM), f.conts[i]? = some x → x.resets.length ≤ 1000) (hg : q.guard < 0) :
    Calls Try.prog 29 #[flatV v, feqV q a m d] w (NeedsPost f q w) := by
  obtain ⟨var, op, args, k, lit, guard⟩ := q
  obtain ⟨A, n, c⟩ := a
  simp only at hrow ha hg hop hk
  have HEQ : Hid (∀ (x : ContM) (hx : f.conts[k.toNat]? = some x), needsL f ⟨var, op, args, k, lit, guard⟩ = args ++ [] ++ [] ++ x.resets) := Lib.hid (by
    intro x hx; subst hop
    unfold needsL opMem opCont
    rw [if_neg (show ¬ bs [99, 111, 110, 116] = bs [109, 101, 109] by decide), if_pos rfl]; simp [hx, show ¬ 0 ≤ guard by omega])
  have hF1 : FlatIs (w.alloc (.cells (fvs v) 29)) B v f := hF.below ((Below.refl B w).alloc hB _)
  have hW1 : Below w.heap.size w ((w.alloc (.cells (fvs v) 29)).alloc (.cells (qvs ⟨var, op, args, k, lit, guard⟩ (A, n, c) m d) 52)) := ((Below.refl _ _).alloc (Nat.le_refl _) _).alloc (by simp) _
  obtain ⟨W1, hW⟩ : ∃ W1, W1 = (w.alloc (.cells (fvs v) 29)).alloc (.cells (qvs ⟨var, op, args, k, lit, guard⟩ (A, n, c) m d) 52) := ⟨_, rfl⟩
  have hsz : W1.heap.size = w.heap.size + 2 := by rw [hW]; simp
  have HK := Lib.hid (show Blk W1 w.heap.size 29 (fvs v) from by rw [hW]; exact (Blk.new _ _ _).alloc _)
  have HKQ := Lib.hid (show Blk W1 (w.heap.size + 1) 52 (qvs ⟨var, op, args, k, lit, guard⟩ (A, n, c) m d) from by rw [hW]; have := Blk.new (w.alloc (.cells (fvs v) 29)) 52 (qvs ⟨var, op, args, k, lit, guard⟩ (A, n, c) m d); rw [size_alloc] at this; exact this)
  rw [← hW] at hW1
  have HW1 := Lib.hid hW1
  have HF := Lib.hid (hF.below (hW1.mono hB))
  have HR := Lib.hid (hrow.below (hW1.mono hB))
  have HBB := Lib.hid hB
  have HSZ := Lib.hid hsz
  have HB := Lib.hid (show Below (w.heap.size + 2) W1 (W1.alloc (.cells #[] 3)) from (Below.refl _ _).alloc (by omega) _)
  have HO := Lib.hid (show Own (W1.alloc (.cells #[] 3)) (w.heap.size + 2) (.slice (some ⟨W1.heap.size, 0, none⟩) 0 0) [] from Own.fresh W1 _ (by omega))
  have HZ := Lib.hid (show w.heap.size + 2 ≤ (W1.alloc (.cells #[] 3)).heap.size from by rw [size_alloc]; omega)
  have HLA := Lib.hid (hrow.1 : args.length = n)
  unfold fvs qvs at hW
  dsimp only at hW
  clear hF hF1 hrow hB hW1 hsz
  obtain ⟨p0, p1⟩ := plB_yes hk
  obtain ⟨j, rfl⟩ : ∃ j : Nat, k = (j : Int) := ⟨k.toNat, by omega⟩
  have hj : j < v.conts.2.1 := by omega
  obtain ⟨x, hx⟩ := HF.out.conts.ex hj
  obtain ⟨b, off, hab, hlb, hat⟩ := HF.out.conts.at_ hx
  obtain ⟨A3, L3, C3, p3, q3⟩ := hat.resets
  have hlen3 : L3 ≤ 1000 := by rw [← q3.1]; exact hres _ x hx
  have hbw : b < w.heap.size + 2 := Nat.lt_of_lt_of_le hlb (Nat.le_trans HBB.out (by omega))
  have HP3 := Lib.hid p3
  have HQ3 := Lib.hid q3
  have HNE := Lib.hid (HEQ.out x (by simpa using hx))
  have HAB := Lib.hid hab
  clear hx hab hat p3 q3 hres hk HEQ
  subst hop
  unfold bs at hW HNE HKQ ⊢
  unfold feqV flatV sl3
  go_enter Try.func29, Try.ntmps29
  go_upto_region 1 with fail
  rw [← hW]
  clear hW
  obtain ⟨f0, f1, f2, f3, f4, f5, f6, f7⟩ := (HK.out.below HB.out (Nat.lt_succ_of_lt (Nat.lt_succ_self _))).flat
  obtain ⟨e0, e1, e2, e3, e4, e5, e6, e7, e8, e9⟩ := (HKQ.out.below HB.out (Nat.lt_succ_self _)).eq
  have p3 := (HB.out.cell (p := ⟨b, off + j * 9 + 7, none⟩) hbw).trans HP3.out
  rw [HAB.out] at f5
  go_wp2_with (first | (at_builtin; refine appendR rfl _ _ 23 Try.underlying23 rfl (w.heap.size + 2) B _ [] A n c args rfl rfl HO.out (HR.out.below (HB.out.mono (Nat.le_trans HBB.out (by omega)))) HZ.out (by simp) (by omega) ?_; intro v1 w1 hown honly hat; replace HB := Lib.hid (HB.out.trans (honly.own HO.out HZ.out)); replace HO := Lib.hid hown; replace HZ := Lib.hid (Nat.le_trans HZ.out honly.size); clear hown honly hat; obtain ⟨f0, f1, f2, f3, f4, f5, f6, f7⟩ := (HK.out.below HB.out (Nat.lt_succ_of_lt (Nat.lt_succ_self _))).flat; obtain ⟨e0, e1, e2, e3, e4, e5, e6, e7, e8, e9⟩ := (HKQ.out.below HB.out (Nat.lt_succ_self _)).eq; have p3 := (HB.out.cell (p := ⟨b, off + j * 9 + 7, none⟩) hbw).trans HP3.out; rw [HAB.out] at f5) | (at_builtin; refine appendR rfl _ _ 23 Try.underlying23 rfl (w.heap.size + 2) B v1 (([] ++ args)) A3 L3 C3 x.resets rfl rfl HO.out (HQ3.out.below (HB.out.mono (Nat.le_trans HBB.out (by omega)))) HZ.out (by simp [HLA.out]; omega) (by omega) ?_; intro v1 w1 hown honly hat; replace HB := Lib.hid (HB.out.trans (honly.own HO.out HZ.out)); replace HO := Lib.hid hown; replace HZ := Lib.hid (Nat.le_trans HZ.out honly.size); clear hown honly hat; obtain ⟨f0, f1, f2, f3, f4, f5, f6, f7⟩ := (HK.out.below HB.out (Nat.lt_succ_of_lt (Nat.lt_succ_self _))).flat; obtain ⟨e0, e1, e2, e3, e4, e5, e6, e7, e8, e9⟩ := (HKQ.out.below HB.out (Nat.lt_succ_self _)).eq; have p3 := (HB.out.cell (p := ⟨b, off + j * 9 + 7, none⟩) hbw).trans HP3.out; rw [HAB.out] at f5))
  go_ret
  exact nd_done HW1.out HSZ.out HB.out HO.out (by rw [HNE.out]; simp)

set_option maxHeartbeats 2000000 in
theorem nd_1_1 (q : FEqM) (a m d : Option Addr × Nat × Nat) (v : FlatV) (f : FlatM) (B : Nat) (w : World) (hF : FlatIs w B v f) (hrow : IRow w B a.1 a.2.1 a.2.2 q.args) (hB : B ≤ w.heap.size) (ha : a.2.1 ≤ 1000) (hop : q.op = bs [99, 111, 110, 116]) (hk : plB q.k v.conts.2.1 = true) (hres : ∀ (i : Nat) (x : ContM), f.conts[i]? = some x → x.resets.length ≤ 1000) (hg : 0 ≤ q.guard) :
    Calls Try.prog 29 #[flatV v, feqV q a m d] w (NeedsPost f q w) := by
  obtain ⟨var, op, args, k, lit, guard⟩ := q
  obtain ⟨A, n, c⟩ := a
  simp only at hrow ha hg hop hk
  have HEQ : Hid (∀ (x : ContM) (hx : f.conts[k.toNat]? = some x), needsL f ⟨var, op, args, k, lit, guard⟩ = args ++ [guard] ++ [] ++ x.resets) := Lib.hid (by
    intro x hx; subst hop
    unfold needsL opMem opCont
    rw [if_neg (show ¬ bs [99, 111, 110, 116] = bs [109, 101, 109] by decide), if_pos rfl]; simp [hx, hg])
  have hF1 : FlatIs (w.alloc (.cells (fvs v) 29)) B v f := hF.below ((Below.refl B w).alloc hB _)
  have hW1 : Below w.heap.size w ((w.alloc (.cells (fvs v) 29)).alloc (.cells (qvs ⟨var, op, args, k, lit, guard⟩ (A, n, c) m d) 52)) := ((Below.refl _ _).alloc (Nat.le_refl _) _).alloc (by simp) _
  obtain ⟨W1, hW⟩ : ∃ W1, W1 = (w.alloc (.cells (fvs v) 29)).alloc (.cells (qvs ⟨var, op, args, k, lit, guard⟩ (A, n, c) m d) 52) := ⟨_, rfl⟩
  have hsz : W1.heap.size = w.heap.size + 2 := by rw [hW]; simp
  have HK := Lib.hid (show Blk W1 w.heap.size 29 (fvs v) from by rw [hW]; exact (Blk.new _ _ _).alloc _)
  have HKQ := Lib.hid (show Blk W1 (w.heap.size + 1) 52 (qvs ⟨var, op, args, k, lit, guard⟩ (A, n, c) m d) from by rw [hW]; have := Blk.new (w.alloc (.cells (fvs v) 29)) 52 (qvs ⟨var, op, args, k, lit, guard⟩ (A, n, c) m d); rw [size_alloc] at this; exact this)
  rw [← hW] at hW1
  have HW1 := Lib.hid hW1
  have HF := Lib.hid (hF.below (hW1.mono hB))
  have HR := Lib.hid (hrow.below (hW1.mono hB))
  have HBB := Lib.hid hB
  have HSZ := Lib.hid hsz
  have HB := Lib.hid (show Below (w.heap.size + 2) W1 (W1.alloc (.cells #[] 3)) from (Below.refl _ _).alloc (by omega) _)
  have HO := Lib.hid (show Own (W1.alloc (.cells #[] 3)) (w.heap.size + 2) (.slice (some ⟨W1.heap.size, 0, none⟩) 0 0) [] from Own.fresh W1 _ (by omega))
  have HZ := Lib.hid (show w.heap.size + 2 ≤ (W1.alloc (.cells #[] 3)).heap.size from by rw [size_alloc]; omega)
  have HLA := Lib.hid (hrow.1 : args.length = n)
  unfold fvs qvs at hW
  dsimp only at hW
  clear hF hF1 hrow hB hW1 hsz
  obtain ⟨p0, p1⟩ := plB_yes hk
  obtain ⟨j, rfl⟩ : ∃ j : Nat, k = (j : Int) := ⟨k.toNat, by omega⟩
  have hj : j < v.conts.2.1 := by omega
  obtain ⟨x, hx⟩ := HF.out.conts.ex hj
  obtain ⟨b, off, hab, hlb, hat⟩ := HF.out.conts.at_ hx
  obtain ⟨A3, L3, C3, p3, q3⟩ := hat.resets
  have hlen3 : L3 ≤ 1000 := by rw [← q3.1]; exact hres _ x hx
  have hbw : b < w.heap.size + 2 := Nat.lt_of_lt_of_le hlb (Nat.le_trans HBB.out (by omega))
  have HP3 := Lib.hid p3
  have HQ3 := Lib.hid q3
  have HNE := Lib.hid (HEQ.out x (by simpa using hx))
  have HAB := Lib.hid hab
  clear hx hab hat p3 q3 hres hk HEQ
  subst hop
  unfold bs at hW HNE HKQ ⊢
  unfold feqV flatV sl3
  go_enter Try.func29, Try.ntmps29
  go_upto_region 1 with fail
  rw [← hW]
  clear hW
  obtain ⟨f0, f1, f2, f3, f4, f5, f6, f7⟩ := (HK.out.below HB.out (Nat.lt_succ_of_lt (Nat.lt_succ_self _))).flat
  obtain ⟨e0, e1, e2, e3, e4, e5, e6, e7, e8, e9⟩ := (HKQ.out.below HB.out (Nat.lt_succ_self _)).eq
  have p3 := (HB.out.cell (p := ⟨b, off + j * 9 + 7, none⟩) hbw).trans HP3.out
  rw [HAB.out] at f5
  go_wp2_with (first | (at_builtin; refine appendR rfl _ _ 23 Try.underlying23 rfl (w.heap.size + 2) B _ [] A n c args rfl rfl HO.out (HR.out.below (HB.out.mono (Nat.le_trans HBB.out (by omega)))) HZ.out (by simp) (by omega) ?_; intro v1 w1 hown honly hat; replace HB := Lib.hid (HB.out.trans (honly.own HO.out HZ.out)); replace HO := Lib.hid hown; replace HZ := Lib.hid (Nat.le_trans HZ.out honly.size); clear hown honly hat; obtain ⟨f0, f1, f2, f3, f4, f5, f6, f7⟩ := (HK.out.below HB.out (Nat.lt_succ_of_lt (Nat.lt_succ_self _))).flat; obtain ⟨e0, e1, e2, e3, e4, e5, e6, e7, e8, e9⟩ := (HKQ.out.below HB.out (Nat.lt_succ_self _)).eq; have p3 := (HB.out.cell (p := ⟨b, off + j * 9 + 7, none⟩) hbw).trans HP3.out; rw [HAB.out] at f5) | (at_builtin; refine appendI rfl _ _ 23 Try.underlying23 rfl (w.heap.size + 2) v1 ([] ++ args) guard _ rfl rfl HO.out HZ.out (by simp [HLA.out]; omega) ?_; intro v1 w1 hown honly hat; replace HB := Lib.hid (HB.out.trans (honly.own HO.out HZ.out)); replace HO := Lib.hid hown; replace HZ := Lib.hid (Nat.le_trans HZ.out honly.size); clear hown honly hat; obtain ⟨f0, f1, f2, f3, f4, f5, f6, f7⟩ := (HK.out.below HB.out (Nat.lt_succ_of_lt (Nat.lt_succ_self _))).flat; obtain ⟨e0, e1, e2, e3, e4, e5, e6, e7, e8, e9⟩ := (HKQ.out.below HB.out (Nat.lt_succ_self _)).eq; have p3 := (HB.out.cell (p := ⟨b, off + j * 9 + 7, none⟩) hbw).trans HP3.out; rw [HAB.out] at f5) | (at_builtin; refine appendR rfl _ _ 23 Try.underlying23 rfl (w.heap.size + 2) B v1 (([] ++ args) ++ [guard]) A3 L3 C3 x.resets rfl rfl HO.out (HQ3.out.below (HB.out.mono (Nat.le_trans HBB.out (by omega)))) HZ.out (by simp [HLA.out]; omega) (by omega) ?_; intro v1 w1 hown honly hat; replace HB := Lib.hid (HB.out.trans (honly.own HO.out HZ.out)); replace HO := Lib.hid hown; replace HZ := Lib.hid (Nat.le_trans HZ.out honly.size); clear hown honly hat; obtain ⟨f0, f1, f2, f3, f4, f5, f6, f7⟩ := (HK.out.below HB.out (Nat.lt_succ_of_lt (Nat.lt_succ_self _))).flat; obtain ⟨e0, e1, e2, e3, e4, e5, e6, e7, e8, e9⟩ := (HKQ.out.below HB.out (Nat.lt_succ_self _)).eq; have p3 := (HB.out.cell (p := ⟨b, off + j * 9 + 7, none⟩) hbw).trans HP3.out; rw [HAB.out] at f5))
  go_ret
  exact nd_done HW1.out HSZ.out HB.out HO.out (by rw [HNE.out]; simp)

set_option maxHeartbeats 2000000 in
theorem nd_2_0 (q : FEqM) (a m d : Option Addr × Nat × Nat) (v : FlatV) (f : FlatM) (B : Nat) (w : World) (hF : FlatIs w B v f) (hrow : IRow w B a.1 a.2.1 a.2.2 q.args) (hB : B ≤ w.heap.size) (ha : a.2.1 ≤ 1000) (h0 : ¬ q.op = bs [109, 101, 109]) (h1 : ¬ q.op = bs [99, 111, 110, 116]) (hg : q.guard < 0) :
    Calls Try.prog 29 #[flatV v, feqV q a m d] w (NeedsPost f q w) := by
  obtain ⟨var, op, args, k, lit, guard⟩ := q
  obtain ⟨A, n, c⟩ := a
  simp only at hrow ha hg h0 h1
  have HEQ : Hid (needsL f ⟨var, op, args, k, lit, guard⟩ = args ++ [] ++ [] ++ []) := Lib.hid (by
    
    unfold needsL opMem opCont
    rw [if_neg h0, if_neg h1]; simp [show ¬ 0 ≤ guard by omega])
  have hF1 : FlatIs (w.alloc (.cells (fvs v) 29)) B v f := hF.below ((Below.refl B w).alloc hB _)
  have hW1 : Below w.heap.size w ((w.alloc (.cells (fvs v) 29)).alloc (.cells (qvs ⟨var, op, args, k, lit, guard⟩ (A, n, c) m d) 52)) := ((Below.refl _ _).alloc (Nat.le_refl _) _).alloc (by simp) _
  obtain ⟨W1, hW⟩ : ∃ W1, W1 = (w.alloc (.cells (fvs v) 29)).alloc (.cells (qvs ⟨var, op, args, k, lit, guard⟩ (A, n, c) m d) 52) := ⟨_, rfl⟩
  have hsz : W1.heap.size = w.heap.size + 2 := by rw [hW]; simp
  have HK := Lib.hid (show Blk W1 w.heap.size 29 (fvs v) from by rw [hW]; exact (Blk.new _ _ _).alloc _)
  have HKQ := Lib.hid (show Blk W1 (w.heap.size + 1) 52 (qvs ⟨var, op, args, k, lit, guard⟩ (A, n, c) m d) from by rw [hW]; have := Blk.new (w.alloc (.cells (fvs v) 29)) 52 (qvs ⟨var, op, args, k, lit, guard⟩ (A, n, c) m d); rw [size_alloc] at this; exact this)
  rw [← hW] at hW1
  have HW1 := Lib.hid hW1
  have HF := Lib.hid (hF.below (hW1.mono hB))
  have HR := Lib.hid (hrow.below (hW1.mono hB))
  have HBB := Lib.hid hB
  have HSZ := Lib.hid hsz
  have HB := Lib.hid (show Below (w.heap.size + 2) W1 (W1.alloc (.cells #[] 3)) from (Below.refl _ _).alloc (by omega) _)
  have HO := Lib.hid (show Own (W1.alloc (.cells #[] 3)) (w.heap.size + 2) (.slice (some ⟨W1.heap.size, 0, none⟩) 0 0) [] from Own.fresh W1 _ (by omega))
  have HZ := Lib.hid (show w.heap.size + 2 ≤ (W1.alloc (.cells #[] 3)).heap.size from by rw [size_alloc]; omega)
  have HLA := Lib.hid (hrow.1 : args.length = n)
  unfold fvs qvs at hW
  dsimp only at hW
  clear hF hF1 hrow hB hW1 hsz
  have HNE := Lib.hid HEQ.out
  clear HEQ
  have g0 := str_no h0; have g1 := str_no h1; clear h0 h1
  unfold feqV flatV sl3
  go_enter Try.func29, Try.ntmps29
  go_upto_region 1 with fail
  rw [← hW]
  clear hW
  obtain ⟨f0, f1, f2, f3, f4, f5, f6, f7⟩ := (HK.out.below HB.out (Nat.lt_succ_of_lt (Nat.lt_succ_self _))).flat
  obtain ⟨e0, e1, e2, e3, e4, e5, e6, e7, e8, e9⟩ := (HKQ.out.below HB.out (Nat.lt_succ_self _)).eq
  go_wp2_with (first | (at_builtin; refine appendR rfl _ _ 23 Try.underlying23 rfl (w.heap.size + 2) B _ [] A n c args rfl rfl HO.out (HR.out.below (HB.out.mono (Nat.le_trans HBB.out (by omega)))) HZ.out (by simp) (by omega) ?_; intro v1 w1 hown honly hat; replace HB := Lib.hid (HB.out.trans (honly.own HO.out HZ.out)); replace HO := Lib.hid hown; replace HZ := Lib.hid (Nat.le_trans HZ.out honly.size); clear hown honly hat; obtain ⟨f0, f1, f2, f3, f4, f5, f6, f7⟩ := (HK.out.below HB.out (Nat.lt_succ_of_lt (Nat.lt_succ_self _))).flat; obtain ⟨e0, e1, e2, e3, e4, e5, e6, e7, e8, e9⟩ := (HKQ.out.below HB.out (Nat.lt_succ_self _)).eq))
  go_ret
  exact nd_done HW1.out HSZ.out HB.out HO.out (by rw [HNE.out]; simp)

set_option maxHeartbeats 2000000 in
theorem nd_2_1 (q : FEqM) (a m d : Option Addr × Nat × Nat) (v : FlatV) (f : FlatM) (B : Nat) (w : World) (hF : FlatIs w B v f) (hrow : IRow w B a.1 a.2.1 a.2.2 q.args) (hB : B ≤ w.heap.size) (ha : a.2.1 ≤ 1000) (h0 : ¬ q.op = bs [109, 101, 109]) (h1 : ¬ q.op = bs [99, 111, 110, 116]) (hg : 0 ≤ q.guard) :
    Calls Try.prog 29 #[flatV v, feqV q a m d] w (NeedsPost f q w) := by
  obtain ⟨var, op, args, k, lit, guard⟩ := q
  obtain ⟨A, n, c⟩ := a
  simp only at hrow ha hg h0 h1
  have HEQ : Hid (needsL f ⟨var, op, args, k, lit, guard⟩ = args ++ [guard] ++ [] ++ []) := Lib.hid (by
    
    unfold needsL opMem opCont
    rw [if_neg h0, if_neg h1]; simp [hg])
  have hF1 : FlatIs (w.alloc (.cells (fvs v) 29)) B v f := hF.below ((Below.refl B w).alloc hB _)
  have hW1 : Below w.heap.size w ((w.alloc (.cells (fvs v) 29)).alloc (.cells (qvs ⟨var, op, args, k, lit, guard⟩ (A, n, c) m d) 52)) := ((Below.refl _ _).alloc (Nat.le_refl _) _).alloc (by simp) _
  obtain ⟨W1, hW⟩ : ∃ W1, W1 = (w.alloc (.cells (fvs v) 29)).alloc (.cells (qvs ⟨var, op, args, k, lit, guard⟩ (A, n, c) m d) 52) := ⟨_, rfl⟩
  have hsz : W1.heap.size = w.heap.size + 2 := by rw [hW]; simp
  have HK := Lib.hid (show Blk W1 w.heap.size 29 (fvs v) from by rw [hW]; exact (Blk.new _ _ _).alloc _)
  have HKQ := Lib.hid (show Blk W1 (w.heap.size + 1) 52 (qvs ⟨var, op, args, k, lit, guard⟩ (A, n, c) m d) from by rw [hW]; have := Blk.new (w.alloc (.cells (fvs v) 29)) 52 (qvs ⟨var, op, args, k, lit, guard⟩ (A, n, c) m d); rw [size_alloc] at this; exact this)
  rw [← hW] at hW1
  have HW1 := Lib.hid hW1
  have HF := Lib.hid (hF.below (hW1.mono hB))
  have HR := Lib.hid (hrow.below (hW1.mono hB))
  have HBB := Lib.hid hB
  have HSZ := Lib.hid hsz
  have HB := Lib.hid (show Below (w.heap.size + 2) W1 (W1.alloc (.cells #[] 3)) from (Below.refl _ _).alloc (by omega) _)
  have HO := Lib.hid (show Own (W1.alloc (.cells #[] 3)) (w.heap.size + 2) (.slice (some ⟨W1.heap.size, 0, none⟩) 0 0) [] from Own.fresh W1 _ (by omega))
  have HZ := Lib.hid (show w.heap.size + 2 ≤ (W1.alloc (.cells #[] 3)).heap.size from by rw [size_alloc]; omega)
  have HLA := Lib.hid (hrow.1 : args.length = n)
  unfold fvs qvs at hW
  dsimp only at hW
  clear hF hF1 hrow hB hW1 hsz
  have HNE := Lib.hid HEQ.out
  clear HEQ
  have g0 := str_no h0; have g1 := str_no h1; clear h0 h1
  unfold feqV flatV sl3
  go_enter Try.func29, Try.ntmps29
  go_upto_region 1 with fail
  rw [← hW]
  clear hW
  obtain ⟨f0, f1, f2, f3, f4, f5, f6, f7⟩ := (HK.out.below HB.out (Nat.lt_succ_of_lt (Nat.lt_succ_self _))).flat
  obtain ⟨e0, e1, e2, e3, e4, e5, e6, e7, e8, e9⟩ := (HKQ.out.below HB.out (Nat.lt_succ_self _)).eq
  go_wp2_with (first | (at_builtin; refine appendR rfl _ _ 23 Try.underlying23 rfl (w.heap.size + 2) B _ [] A n c args rfl rfl HO.out (HR.out.below (HB.out.mono (Nat.le_trans HBB.out (by omega)))) HZ.out (by simp) (by omega) ?_; intro v1 w1 hown honly hat; replace HB := Lib.hid (HB.out.trans (honly.own HO.out HZ.out)); replace HO := Lib.hid hown; replace HZ := Lib.hid (Nat.le_trans HZ.out honly.size); clear hown honly hat; obtain ⟨f0, f1, f2, f3, f4, f5, f6, f7⟩ := (HK.out.below HB.out (Nat.lt_succ_of_lt (Nat.lt_succ_self _))).flat; obtain ⟨e0, e1, e2, e3, e4, e5, e6, e7, e8, e9⟩ := (HKQ.out.below HB.out (Nat.lt_succ_self _)).eq) | (at_builtin; refine appendI rfl _ _ 23 Try.underlying23 rfl (w.heap.size + 2) v1 ([] ++ args) guard _ rfl rfl HO.out HZ.out (by simp [HLA.out]; omega) ?_; intro v1 w1 hown honly hat; replace HB := Lib.hid (HB.out.trans (honly.own HO.out HZ.out)); replace HO := Lib.hid hown; replace HZ := Lib.hid (Nat.le_trans HZ.out honly.size); clear hown honly hat; obtain ⟨f0, f1, f2, f3, f4, f5, f6, f7⟩ := (HK.out.below HB.out (Nat.lt_succ_of_lt (Nat.lt_succ_self _))).flat; obtain ⟨e0, e1, e2, e3, e4, e5, e6, e7, e8, e9⟩ := (HKQ.out.below HB.out (Nat.lt_succ_self _)).eq))
  go_ret
  exact nd_done HW1.out HSZ.out HB.out HO.out (by rw [HNE.out]; simp)

end Go.Proofs.Ytpcpbpinhdbjiaa

namespace Go.Proofs.Ytpcpbpinhdbjiaa
set_option linter.unusedVariables false
set_option linter.unusedSimpArgs false
set_option maxRecDepth 100000
open Go.RowKit

theorem needs_t (q : FEqM) (a m d : Option Addr × Nat × Nat) (v : FlatV) (f : FlatM) (B : Nat) (w : World) (hF : FlatIs w B v f) (hrow : IRow w B a.1 a.2.1 a.2.2 q.args) (hB : B ≤ w.heap.size) (ha : a.2.1 ≤ 1000)
    (hk : kL q.op q.k v.ins.2.1 v.mems.2.1 v.conts.2.1 v.cross.2.1 = true) (hm : ∀ (i : Nat) (x : MemM), f.mems[i]? = some x → x.resets.length ≤ 1000) (hc : ∀ (i : Nat) (x : ContM), f.conts[i]? = some x → x.resets.length ≤ 1000) :
    Calls Try.prog 29 #[flatV v, feqV q a m d] w (NeedsPost f q w) := by
  by_cases h0 : q.op = bs [109, 101, 109]
  · have hk' : plB q.k v.mems.2.1 = true := by rw [h0] at hk; exact hk
    by_cases hg : 0 ≤ q.guard
    · exact nd_0_1 q a m d v f B w hF hrow hB ha h0 hk' hm hg
    · exact nd_0_0 q a m d v f B w hF hrow hB ha h0 hk' hm (by omega)
  · by_cases h1 : q.op = bs [99, 111, 110, 116]
    · have hk' : plB q.k v.conts.2.1 = true := by rw [h1] at hk; exact hk
      by_cases hg : 0 ≤ q.guard
      · exact nd_1_1 q a m d v f B w hF hrow hB ha h1 hk' hc hg
      · exact nd_1_0 q a m d v f B w hF hrow hB ha h1 hk' hc (by omega)
    · by_cases hg : 0 ≤ q.guard
      · exact nd_2_1 q a m d v f B w hF hrow hB ha h0 h1 hg
      · exact nd_2_0 q a m d v f B w hF hrow hB ha h0 h1 (by omega)
/-- in a good program all that is needed is a place -/
theorem needs_places {f : FlatM} (hg : goodB f = true) {i : Nat} {q : FEqM} (hq : f.eqs[i]? = some q) : ∀ x ∈ needsL f q, plB x f.names.length = true := by
  unfold goodB at hg
  rw [Bool.and_eq_true, Bool.and_eq_true, Bool.and_eq_true] at hg
  obtain ⟨⟨⟨h1, h2⟩, h3⟩, h4⟩ := hg
  have he : eqB f q = true := List.all_eq_true.1 h2 q (List.mem_of_getElem? hq)
  unfold eqB at he
  rw [Bool.and_eq_true, Bool.and_eq_true, Bool.and_eq_true] at he
  obtain ⟨⟨⟨g1, g2⟩, g3⟩, g4⟩ := he
  unfold keptB at h3
  rw [Bool.and_eq_true, Bool.and_eq_true, Bool.and_eq_true] at h3
  obtain ⟨⟨⟨k1, k2⟩, k3⟩, k4⟩ := h3
  intro x hx
  unfold needsL at hx
  rw [List.mem_append, List.mem_append, List.mem_append] at hx
  rcases hx with ((hx | hx) | hx) | hx
  · exact List.all_eq_true.1 g2 x hx
  · by_cases hg0 : 0 ≤ q.guard
    · rw [if_pos hg0] at hx
      simp at hx; subst hx
      unfold plB; simp; exact ⟨hg0, by simpa [guB] using g1⟩
    · rw [if_neg hg0] at hx; simp at hx
  · by_cases ho : q.op = opMem
    · rw [if_pos ho] at hx
      cases hy : f.mems[q.k.toNat]? with
      | none => rw [hy] at hx; simp at hx
      | some y =>
        rw [hy] at hx
        have := List.all_eq_true.1 k3 y (List.mem_of_getElem? hy)
        unfold memB at this
        rw [Bool.and_eq_true] at this
        exact List.all_eq_true.1 this.2 x (by simpa using hx)
    · rw [if_neg ho] at hx; simp at hx
  · by_cases ho : q.op = opCont
    · rw [if_pos ho] at hx
      cases hy : f.conts[q.k.toNat]? with
      | none => rw [hy] at hx; simp at hx
      | some y =>
        rw [hy] at hx
        have := List.all_eq_true.1 k4 y (List.mem_of_getElem? hy)
        unfold contB at this
        rw [Bool.and_eq_true, Bool.and_eq_true] at this
        exact List.all_eq_true.1 this.1.2 x (by simpa using hx)
    · rw [if_neg ho] at hx; simp at hx

end Go.Proofs.Ytpcpbpinhdbjiaa
