/- Right scripts, on plain lists. · append of a whole row. -/
import Derived.Test.YtkcgikoploohkaaGreatDoorZSf5ToSf8
namespace Go.Proofs.YtkcgikoploohkaaGreatDoor
set_option linter.unusedVariables false
set_option linter.unusedSimpArgs false
set_option maxRecDepth 100000
open Go.RowKit Go.Shelf Nums

/-- in a right script the changes' times are in order, and lie within -/
theorem okR_each {h : Rat} {ins : List ByteArray} : ∀ (L : List (Rat × ByteArray × Rat)) (a : Rat), okR h ins a L = true → ∀ (i : Nat) x, L[i]? = some x → a ≤ x.1 ∧ x.1 ≤ h ∧ ∀ j y, j < i → L[j]? = some y → y.1 ≤ x.1
  | [], a, _, i, x, hx => by cases hx
  | z :: L, a, ho, i, x, hx => by
    unfold okR at ho
    rw [Bool.and_eq_true, Bool.and_eq_true, Bool.and_eq_true] at ho
    have h1 := of_decide_eq_true ho.1.1.1
    have h2 := of_decide_eq_true ho.1.1.2
    have ih := okR_each L z.1 ho.2
    cases i with
    | zero =>
      have e : z = x := Option.some.inj hx
      subst e
      exact ⟨h1, h2, fun j y hj => by omega⟩
    | succ i =>
      obtain ⟨k1, k2, k3⟩ := ih i x hx
      refine ⟨by grind, k2, fun j y hj hy => ?_⟩
      cases j with
      | zero =>
        have e : z = y := Option.some.inj hy
        subst e
        exact k1
      | succ j => exact k3 j y (by omega) hy
/-- changes at the horizon, of the inputs, leave it right -/
theorem okR_more {h : Rat} {ins : List ByteArray} : ∀ (L M : List (Rat × ByteArray × Rat)) (a : Rat), a ≤ h → okR h ins a L = true → (∀ x ∈ M, x.1 = h ∧ Lib.containsS ins x.2.1 = true) → okR h ins a (L ++ M) = true
  | [], [], a, _, _, _ => rfl
  | [], x :: M, a, ha, _, hM => by
    obtain ⟨e1, e2⟩ := hM x (List.mem_cons_self ..)
    have ih := okR_more [] M x.1 (by rw [e1]; grind) rfl (fun y hy => hM y (List.mem_cons_of_mem _ hy))
    show okR h ins a (x :: M) = true
    unfold okR
    rw [e2, decide_eq_true (show a ≤ x.1 by rw [e1]; exact ha), decide_eq_true (show x.1 ≤ h by rw [e1]; grind)]
    exact ih
  | z :: L, M, a, ha, ho, hM => by
    unfold okR at ho
    rw [Bool.and_eq_true, Bool.and_eq_true, Bool.and_eq_true] at ho
    have h2 := of_decide_eq_true ho.1.1.2
    have ih := okR_more L M z.1 h2 ho.2 hM
    show okR h ins a (z :: (L ++ M)) = true
    unfold okR
    rw [ho.1.1.1, ho.1.1.2, ho.1.2]
    exact ih

end Go.Proofs.YtkcgikoploohkaaGreatDoor

namespace Go.Proofs.YtkcgikoploohkaaGreatDoor
set_option linter.unusedVariables false
set_option linter.unusedSimpArgs false
set_option maxRecDepth 100000
open Go.RowKit Go.Shelf Nums

/-- the cells of a row of changes -/
theorem CRow.flat {w : World} {b off n c : Nat} {L : List CM} (h : CRow w (some ⟨b, off, none⟩) n c L) : ∀ j u, (flatC L)[j]? = some u → w.cell? ((⟨b, off, none⟩ : Addr).add j) = some u := by
  intro j u hu
  have hj : j < L.length * 7 := by rw [← flatC_len]; exact (List.getElem?_eq_some_iff.1 hu).1
  obtain ⟨x, hx⟩ : ∃ x, L[j / 7]? = some x := ⟨_, List.getElem?_eq_getElem (by omega)⟩
  have hc : x.cs[j % 7]? = some u := by
    rw [← flatC_get L (j / 7) x hx (j % 7) (by omega), show j / 7 * 7 + j % 7 = j by omega]
    exact hu
  obtain ⟨b', off', ha, -, hat⟩ := h.at_ hx
  injection ha with ha
  injection ha with e1 e2
  subst e1; subst e2
  rw [Go.WideShapes.add_plain, show off + j = off + j / 7 * 7 + j % 7 by omega]
  have hm : j % 7 < 7 := Nat.mod_lt _ (by decide)
  obtain ⟨c0, c1, c2, c3, c4, c5, c6, -, -⟩ := hat
  generalize j % 7 = r at hc hm ⊢
  have hr : r = 0 ∨ r = 1 ∨ r = 2 ∨ r = 3 ∨ r = 4 ∨ r = 5 ∨ r = 6 := by omega
  rcases hr with rfl | rfl | rfl | rfl | rfl | rfl | rfl
  · exact c0.trans hc
  · exact c1.trans hc
  · exact c2.trans hc
  · exact c3.trans hc
  · exact c4.trans hc
  · exact c5.trans hc
  · exact c6.trans hc
/-- append(row of none, row...) -/
theorem runR (w : World) (ty : TypeId) (B g0 : Nat) (hg0 : w.heap[g0]? = some (.cells #[] 43 (0, 0))) (a : Option Addr) (n c : Nat) (L : List CM) (hr : CRow w a n c L) (hn : n ≤ 1000) (hB : B ≤ g0) :
    ∃ v' w', (Builtin.append_ #[28, 28] ty #[.slice (some ⟨g0, 0, none⟩) 0 0, .slice a n c]).run Tryz.prog w = .ok v' w' ∧ OwnN w' B v' L ∧ Below w.heap.size w w' := by
  obtain ⟨i0, hi, hz0, hz1, hz2⟩ := info_parts Tryz.infoCh
  have hlt : g0 < w.heap.size := (Array.getElem?_eq_some_iff.1 hg0).1
  have hown0 : w.ownsRow B 43 7 (.slice (some ⟨g0, 0, none⟩) 0 0) 0 [] := ⟨rfl, .inr ⟨g0, 0, #[], rfl, hB, hg0, Nat.le_refl _, by unfold maxLen; decide, rfl, rfl⟩⟩
  have hnl := hr.1
  rcases Nat.eq_zero_or_pos n with h0 | h0
  · subst h0
    obtain rfl := List.eq_nil_of_length_eq_zero hnl
    refine ⟨.slice (some ⟨g0, 0, none⟩) 0 0, w, ?_, ⟨hown0, ?_⟩, Below.refl _ _⟩
    · cases a <;> simp [Builtin.append_, run_underlying Tryz.underlying28, sizeOf, typeInfo, hi, hz0, Builtin.lenOf, Builtin.firstCells, loadCells, loadCellsFrom, storeCells, Sem.run_pure]
    · intro k hk
      obtain rfl : g0 = k := by simpa [Value.ownBlock] using hk
      exact noU_cells hg0 (fun u hu x => by cases hu)
  · obtain ⟨b, off, ha⟩ : ∃ b off, a = some ⟨b, off, none⟩ := by
      obtain ⟨_, _, _, b, off, h4, _⟩ := hr
      exact ⟨b, off, h4.resolve_right (by omega)⟩
    subst ha
    have hf := hr.flat
    have hone : ∀ u ∈ flatC L, u.oneCell' = true := by
      intro u hu
      obtain ⟨x, -, hx⟩ := List.mem_flatMap.1 hu
      exact x.cs_one u hx
    obtain ⟨v', w', h1, h2, h3, h4, h5⟩ := run_append_own_at (P := Tryz.prog) w B 28 ty 43 i0 _ 7 128 Tryz.underlying28 hi hz0 hz1 hz2 rfl (by decide) (.slice (some ⟨g0, 0, none⟩) 0 0) 0 [] hown0 ⟨b, off, none⟩ n c (flatC L) (by rw [flatC_len, hnl]) hf hone (by unfold maxLen; omega) (by omega) (by omega)
    have hgr := run_append_grow (P := Tryz.prog) w 28 ty 43 i0 _ Tryz.underlying28 hi hz0 ⟨g0, 0, none⟩ 0 0 [] (by simp) (by simp) ⟨b, off, none⟩ n c (flatC L) (by rw [hz1, flatC_len, hnl]) hf (by omega) (by omega) (growslice_fits (by omega) (by rw [hz2]; omega))
    rw [h1] at hgr
    injection hgr with e1 e2
    subst e1; subst e2
    refine ⟨_, _, h1, ⟨?_, ?_⟩, ?_⟩
    · unfold OwnC; rw [hnl]; simpa using h2
    · intro k hk
      obtain rfl : w.heap.size = k := by simpa [Value.ownBlock] using hk
      refine noU_cells (heap_alloc_new w.drew _) (fun u hu x => ?_)
      rw [Array.toList_append, Array.toList_append, List.mem_append, List.mem_append] at hu
      rcases hu with (hu | hu) | hu
      · cases hu
      · have hu' : u ∈ flatC L := by simpa using hu
        obtain ⟨y, -, hy⟩ := List.mem_flatMap.1 hu'
        exact noU_cs y u hy x
      · exact noU_zero _ u hu x
    · exact ((Below.refl w.heap.size w).drew).alloc (by simp) _
theorem appendR {w : World} {ops : Array Oper} {rest : List Oper} {o : Oper} {a : Act} {Q : Exit → Act → World → Prop} (hgd : o.guard = none) (s x : Operand)
    (hop : o.op = .call { callee := .builtin .append, args := #[s, x], argTypes := #[28, 28] })
    (B g0 : Nat) (A0 : Option Addr) (n c : Nat) (L : List CM) (hs : a.eval s = .slice (some ⟨g0, 0, none⟩) 0 0) (hx : a.eval x = .slice A0 n c) (hg0 : w.heap[g0]? = some (.cells #[] 43 (0, 0))) (hr : CRow w A0 n c L) (hn : n ≤ 1000) (hB : B ≤ g0)
    (hK : ∀ v' w', OwnN w' B v' L → Below w.heap.size w w' → wpList Tryz.prog ops Q rest (a.put o.dst v') w') :
    wpList Tryz.prog ops Q (o :: rest) a w := by
  refine wpList_plain hgd fun K hK' => ?_
  obtain ⟨v', w', hr', h2, h3⟩ := runR w o.type B g0 hg0 A0 n c L hr hn hB
  unfold Oper.wp execOp
  simp only [hop, resolve, invoke, builtin, Sem.run_bind, Sem.run_pure, Result.andThen_ok, List.map_toArray, List.map_cons, List.map_nil, hs, hx, hr']
  exact hK' _ _ (hK v' w' h2 h3)
/-- append(row, x) in a region that draws, x laid in a block of its own ahead -/
theorem stepCD {w : World} {ops : Array Oper} {o : Oper} {a : Act} {K : Act → World → Prop} {Q : Exit → Act → World → Prop} {E : Prop} {cs : Array Value} (hgd : o.guard = none) (s x : Operand)
    (hop : o.op = .call { callee := .builtin .append, args := #[s, x], argTypes := #[28, 28] })
    (B : Nat) (v : Value) (xs : List CM) (X : CM) (T : TypeId) (H : Nat) (hs : a.eval s = v) (hx : a.eval x = .slice (some ⟨H, 0, none⟩) 1 1) (hH : w.heap.size = H) (hcs : X.cs.toArray = cs) (hown : OwnN w B v xs) (hB : B ≤ H) (hl : xs.length ≤ 100000000)
    (hK : ∀ v' w', OwnN w' B v' (xs ++ [X]) → Only v.ownBlock.toList w w' → (v'.ownBlock = v.ownBlock ∨ ∃ k, v'.ownBlock = some k ∧ H ≤ k) → K (a.put o.dst v') w') :
    if Region.wanted o (yielded ops a.tmps) = true then Oper.wp Tryz.prog o a (w.alloc (.cells cs T)).drew K Q else E := by
  subst hH; subst hcs
  have hwt : Region.wanted o (yielded ops a.tmps) = true := by unfold Region.wanted; rw [hgd]
  rw [if_pos hwt]
  have hb : Below w.heap.size w (w.alloc (.cells X.cs.toArray T)).drew := (below_one w _).drew
  obtain ⟨v', w', hr, h2, h3, h4⟩ := runC (w.alloc (.cells X.cs.toArray T)).drew o.type B v xs X (hown.later hb) w.heap.size (fun j u hu => (cell_ch_new w X T rfl j u (by simpa [flatC] using hu))) (by simp; omega) hl
  unfold Oper.wp execOp
  simp only [hop, resolve, invoke, builtin, Sem.run_bind, Sem.run_pure, Result.andThen_ok, List.map_toArray, List.map_cons, List.map_nil, hs, hx, hr]
  refine hK v' w' h2 ((Only.of_below hb).trans h3) ?_
  rcases h4 with h | ⟨k, h, hk⟩
  · exact Or.inl h
  · exact Or.inr ⟨k, h, by simp at hk; omega⟩
/-- the longer script, as it grows -/
structure RgSt (w0 wr : World) (g : Nat) (v : SV) (h : Rat) (L : List CM) (ins : List ByteArray) (k : Nat) (u : SV) (M : List CM) : Prop where
  s : SBlk wr w0.heap.size v
  t : SBlk wr g u
  e : u.h = v.h ∧ u.cas = v.cas ∧ u.bits = v.bits
  o : OwnN wr w0.heap.size u.sl (L ++ M)
  m : NumsIn (L ++ M) wr
  f : ∀ x ∈ M, x.p = h ∧ Lib.containsS ins x.nm = true ∧ x.t.n ≤ 45 ∧ x.t.m ≤ 45
  n : M.length = k
  k : Below w0.heap.size w0 wr
  vs : Gl wr
  gg : w0.heap.size < g
theorem RgSt.later {w0 wr w' : World} {g k : Nat} {v u : SV} {h : Rat} {L M : List CM} {ins : List ByteArray} (hs : RgSt w0 wr g v h L ins k u M) (hb : Below wr.heap.size wr w') : RgSt w0 w' g v h L ins k u M :=
  ⟨hs.s.later hb, hs.t.later hb, hs.e, hs.o.later hb, hs.m.later hb, hs.f, hs.n, hs.k.trans (hb.mono hs.k.size), hs.vs.later hb, hs.gg⟩
/-- the row is laid anew in the script -/
theorem SBlk.row {w : World} {g : Nat} {u : SV} (h : SBlk w g u) (a : Option Addr) (n c : Nat) : SBlk (w.setCell ⟨g, 5, none⟩ (.slice a n c)) g { u with a := a, n := n, c := c } := Blk.set h 5 _
/-- append(row, x) in a region that draws, in whatever world -/
theorem stepCG {W : World} {ops : Array Oper} {o : Oper} {a : Act} {K : Act → World → Prop} {Q : Exit → Act → World → Prop} {E : Prop} (hgd : o.guard = none) (s x : Operand)
    (hop : o.op = .call { callee := .builtin .append, args := #[s, x], argTypes := #[28, 28] })
    (B : Nat) (v : Value) (xs : List CM) (X : CM) (H : Nat) (hs : a.eval s = v) (hx : a.eval x = .slice (some ⟨H, 0, none⟩) 1 1) (hX : Blk W H 43 X.cs.toArray) (hown : OwnN W B v xs) (hB : B ≤ W.heap.size) (hl : xs.length ≤ 100000000)
    (hK : ∀ v' w', OwnN w' B v' (xs ++ [X]) → Only v.ownBlock.toList W w' → K (a.put o.dst v') w') :
    if Region.wanted o (yielded ops a.tmps) = true then Oper.wp Tryz.prog o a W K Q else E := by
  have hwt : Region.wanted o (yielded ops a.tmps) = true := by unfold Region.wanted; rw [hgd]
  rw [if_pos hwt]
  obtain ⟨v', w', hr, h2, h3, h4⟩ := runC W o.type B v xs X hown H (fun j u hu => by rw [Go.WideShapes.add_plain, Nat.zero_add]; exact hX.cell j (by simpa using hu)) hB hl
  unfold Oper.wp execOp
  simp only [hop, resolve, invoke, builtin, Sem.run_bind, Sem.run_pure, Result.andThen_ok, List.map_toArray, List.map_cons, List.map_nil, hs, hx, hr]
  exact hK v' w' h2 h3
theorem RgSt.step {w0 W w6 : World} {g k : Nat} {v u : SV} {h : Rat} {L M : List CM} {ins : List ByteArray} {X : CM} {a6 : Option Addr} {n6 c6 : Nat} (hs : RgSt w0 W g v h L ins k u M) (h9 : 9 ≤ w0.heap.size) (hown : OwnN w6 w0.heap.size (.slice a6 n6 c6) ((L ++ M) ++ [X])) (honly : Only u.sl.ownBlock.toList W w6) (hx : X.t.Is X.t.n X.t.m X.p W ∧ X.v.Is X.v.n X.v.m X.q W)
    (hp : X.p = h) (hc : Lib.containsS ins X.nm = true) (hl : X.t.n ≤ 45 ∧ X.t.m ≤ 45) : RgSt w0 (w6.setCell ⟨g, 5, none⟩ (.slice a6 n6 c6)) g v h L ins (k + 1) { u with a := a6, n := n6, c := c6 } (M ++ [X]) := by
  have ht : SBlk w6 g u := Blk.only hs.t honly (hs.o.notin hs.t (by decide))
  have hset : Only [g] w6 (w6.setCell ⟨g, 5, none⟩ (.slice a6 n6 c6)) := Only.set (List.mem_singleton.2 rfl) 5 _ _
  have hgg := hs.gg
  have hnu : ∀ i ∈ u.sl.ownBlock.toList, NoU W i := fun i hi => hs.o.2 i (by simpa using hi)
  have hlow : ∀ i ∈ u.sl.ownBlock.toList, w0.heap.size ≤ i := fun i hi => (hs.o.1.lt (by simpa using hi)).1
  have hns : ∀ i ∈ [g], NoU w6 i := fun i hi => by rw [List.mem_singleton] at hi; subst hi; exact ht.noU
  have hall : NumsIn (L ++ (M ++ [X])) W := by
    intro y hy
    rw [← List.append_assoc] at hy
    rcases List.mem_append.1 hy with hy | hy
    · exact hs.m y hy
    · rw [List.mem_singleton] at hy; subst hy; exact hx
  refine ⟨Blk.only (Blk.only hs.s honly (hs.o.notin hs.s (by decide))) hset (by simp; omega), ht.row a6 n6 c6, hs.e, ?_, (hall.only honly hnu).only hset hns, ?_, by rw [List.length_append, hs.n]; rfl, ?_, ?_, hgg⟩
  · have := hown.only hset (fun j hj hm => by rw [List.mem_singleton] at hm; exact hown.ne ht (by decide) j hj hm)
    rw [List.append_assoc] at this
    exact this
  · intro y hy
    rcases List.mem_append.1 hy with hy | hy
    · exact hs.f y hy
    · rw [List.mem_singleton] at hy; subst hy; exact ⟨hp, hc, hl⟩
  · exact (hs.k.trans (honly.below hs.k.size hlow)).trans (hset.below (Nat.le_trans hs.k.size honly.size) (fun j hj => by rw [List.mem_singleton] at hj; omega))
  · exact (hs.vs.only honly (fun i hi => Nat.le_trans h9 (hlow i hi))).only hset (fun i hi => by rw [List.mem_singleton] at hi; omega)
theorem RgSt.start {w0 w3 : World} {g : Nat} {v : SV} {h : Rat} {L : List CM} {ins : List ByteArray} {a3 : Option Addr} {n3 c3 : Nat} (hs : SBlk w3 w0.heap.size v) (ht : SBlk w3 g v) (ho : OwnN w3 w0.heap.size (.slice a3 n3 c3) L) (hm : NumsIn L w3) (hk : Below w0.heap.size w0 w3) (hg : Gl w3) (h9 : 9 ≤ w0.heap.size) (hgg : w0.heap.size < g) :
    RgSt w0 (w3.setCell ⟨g, 5, none⟩ (.slice a3 n3 c3)) g v h L ins 0 { v with a := a3, n := n3, c := c3 } [] := by
  have hset : Only [g] w3 (w3.setCell ⟨g, 5, none⟩ (.slice a3 n3 c3)) := Only.set (List.mem_singleton.2 rfl) 5 _ _
  refine ⟨Blk.only hs hset (by simp; omega), ht.row a3 n3 c3, ⟨rfl, rfl, rfl⟩, ?_, ?_, by simp, rfl, hk.trans (hset.below hk.size (fun j hj => by rw [List.mem_singleton] at hj; omega)), hg.only hset (fun i hi => by rw [List.mem_singleton] at hi; omega), hgg⟩
  · rw [List.append_nil]
    exact ho.only hset (fun j hj hm => by rw [List.mem_singleton] at hm; exact ho.ne ht (by decide) j hj hm)
  · rw [List.append_nil]
    exact hm.only hset (fun i hi => by rw [List.mem_singleton] at hi; subst hi; exact ht.noU)
theorem rgt_more {h : Rat} {v u : SV} {L M : List CM} {ins : List ByteArray} (ho : rgtM ⟨h, v.cas, v.bits, L.map CM.told⟩ ins = true) (e1 : u.cas = v.cas) (e2 : u.bits = v.bits) (hM : ∀ x ∈ M, x.p = h ∧ Lib.containsS ins x.nm = true) : rgtM ⟨h, u.cas, u.bits, (L ++ M).map CM.told⟩ ins = true := by
  unfold rgtM at ho ⊢
  rw [Bool.and_eq_true] at ho ⊢
  rw [e1, e2]
  have h0 : (0 : Rat) ≤ h := by
    have := ho.1
    rw [Bool.and_eq_true, Bool.and_eq_true, Bool.and_eq_true, Bool.and_eq_true] at this
    exact of_decide_eq_true this.1.1.1.1
  refine ⟨ho.1, ?_⟩
  show okR h ins 0 ((L ++ M).map CM.told) = true
  rw [List.map_append]
  refine okR_more _ _ 0 h0 ho.2 (fun y hy => ?_)
  obtain ⟨x, hx, rfl⟩ := List.mem_map.1 hy
  exact hM x hx
theorem rv_one {r : RV} {w w' : World} (h : r.Is 2 1 ((1 : Int) : Rat) w) (hb : Below w.heap.size w w') : r.Is r.n r.m 1 w' := by
  have e1 : ((1 : Int) : Rat) = 1 := rfl
  rw [e1] at h
  exact h.self.later hb
theorem RgSt.is {w0 W : World} {g k : Nat} {v u : SV} {h : Rat} {L M : List CM} {ins : List ByteArray} (hs : RgSt w0 W g v h L ins k u M) (hh : v.h.Is v.h.n v.h.m h w0) : u.Is h (L ++ M) W := by
  obtain ⟨a, c, hv, hr⟩ := hs.o.1.row hs.m
  refine ⟨by rw [hs.e.1]; exact hh.later hs.k, ?_⟩
  unfold SV.sl at hv
  injection hv with e1 e2 e3
  rw [e1, e2, e3]
  exact hr

end Go.Proofs.YtkcgikoploohkaaGreatDoor
