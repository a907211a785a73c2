/- Equations laid by their variables. No condition. · What PlanReads tells of a flat program that lies in memory. No condition. -/
import Derived.Test.YtioebjjnadgdjaaZPlW
import Derived.Deep.DeepCutAuto
import Derived.Deep.RegionHeld3
namespace Go.Proofs.Ytioebjjnadgdjaa
set_option linter.unusedVariables false
set_option linter.unusedSimpArgs false
set_option maxRecDepth 100000
open Go.RowKit Gr

theorem Try.info48 : (Try.prog.info? 48).map (fun i => (i.zero, i.size, i.bytes)) = some (some (.agg #[.int .i64 0, .string ⟨#[]⟩, .slice none 0 0, .int .i64 0, .int .i64 0, .bool false, .slice none 0 0, .slice none 0 0, .string ⟨#[]⟩, .int .i64 0]), 10, 144) := by kernel_rfl
/-- make([]api.FEq, n): so many cells -/
theorem makeE {w : World} {ops : Array Oper} {rest : List Oper} {o : Oper} {a : Act} {Q : Exit → Act → World → Prop}
    (hg : o.guard = none) (l : Operand) (hop : o.op = Op.makeSlice 24 l l) (L : Int) (n : Nat) (hl : a.eval l = .int .i64 L) (hL : L = (n : Int)) (hn : n ≤ 1000000)
    (hK : ∀ w', (∃ cs : List Value, Blk w' w.heap.size 48 cs.toArray ∧ cs.length = n * 10) → Below w.heap.size w w' → wpList Try.prog ops Q rest (a.put o.dst (.slice (some ⟨w.heap.size, 0, none⟩) n n)) w') :
    wpList Try.prog ops Q (o :: rest) a w := by
  refine wpList_plain hg fun K hK' => ?_
  obtain ⟨i, hi, hz0, hz1, hz2⟩ := info_parts Try.info48
  have hr := run_make (P := Try.prog) w 24 48 i _ Try.underlying24 hi hz0 .i64 .i64 n n (by omega) (Int.le_refl _) (by rw [hz2]; omega) (by omega)
  simp only [Int.toNat_natCast] at hr
  subst hL
  unfold Oper.wp
  simp [execOp, hop, hl, hr, Result.andThen]
  refine hK' _ _ (hK _ ⟨(madeCells (Value.agg #[.int .i64 0, .string ⟨#[]⟩, .slice none 0 0, .int .i64 0, .int .i64 0, .bool false, .slice none 0 0, .slice none 0 0, .string ⟨#[]⟩, .int .i64 0]).cells (n * i.size)).toList, ?_, ?_⟩ ((Below.refl _ _).alloc (Nat.le_refl _) _))
  · unfold Blk
    rw [heap_alloc_new]
  · rw [hz1]
    simp [madeCells]
/-- the same equation, elsewhere -/
theorem FEqAt.copy {W W' : World} {B b o b' o' : Nat} {q : FEqM} (h : FEqAt W B b o q) (hc : ∀ t, t < 10 → W'.cell? ⟨b', o' + t, none⟩ = W.cell? ⟨b, o + t, none⟩) (hk : ∀ p : Addr, p.block < B → W'.cell? p = W.cell? p) : FEqAt W' B b' o' q := by
  obtain ⟨A, L, C, a1, a2⟩ := h.args
  obtain ⟨A1, L1, C1, m1, m2⟩ := h.lit.mag
  obtain ⟨A2, L2, C2, d1, d2⟩ := h.lit.den
  exact ⟨⟨(hc 0 (by decide)).trans h.var.1, h.var.2⟩, ⟨(hc 1 (by decide)).trans h.op.1, h.op.2⟩, ⟨A, L, C, (hc 2 (by decide)).trans a1, a2.keep hk⟩, ⟨(hc 3 (by decide)).trans h.k.1, h.k.2⟩,
    ⟨⟨(hc 4 (by decide)).trans h.lit.kind.1, h.lit.kind.2⟩, (hc 5 (by decide)).trans h.lit.neg, ⟨A1, L1, C1, (hc 6 (by decide)).trans m1, m2.keep hk⟩, ⟨A2, L2, C2, (hc 7 (by decide)).trans d1, d2.keep hk⟩, ⟨(hc 8 (by decide)).trans h.lit.name.1, h.lit.name.2⟩⟩,
    ⟨(hc 9 (by decide)).trans h.guard.1, h.guard.2⟩⟩
/-- ten cells laid one behind another -/
def put10 (W : World) (g o : Nat) (x0 x1 x2 x3 x4 x5 x6 x7 x8 x9 : Value) : World :=
  (((((((((W.setCell ⟨g, o, none⟩ x0).setCell ⟨g, o + 1, none⟩ x1).setCell ⟨g, o + 2, none⟩ x2).setCell ⟨g, o + 3, none⟩ x3).setCell ⟨g, o + 4, none⟩ x4).setCell ⟨g, o + 5, none⟩ x5).setCell ⟨g, o + 6, none⟩ x6).setCell ⟨g, o + 7, none⟩ x7).setCell ⟨g, o + 8, none⟩ x8).setCell ⟨g, o + 9, none⟩ x9
def set10 (l : List Value) (o : Nat) (x0 x1 x2 x3 x4 x5 x6 x7 x8 x9 : Value) : List Value :=
  (((((((((l.set o x0).set (o + 1) x1).set (o + 2) x2).set (o + 3) x3).set (o + 4) x4).set (o + 5) x5).set (o + 6) x6).set (o + 7) x7).set (o + 8) x8).set (o + 9) x9
theorem Blk.put10 {W : World} {g T : Nat} {l : List Value} (h : Blk W g T l.toArray) (o : Nat) (x0 x1 x2 x3 x4 x5 x6 x7 x8 x9 : Value) : Blk (put10 W g o x0 x1 x2 x3 x4 x5 x6 x7 x8 x9) g T (set10 l o x0 x1 x2 x3 x4 x5 x6 x7 x8 x9).toArray :=
  (((((((((h.put o x0).put (o + 1) x1).put (o + 2) x2).put (o + 3) x3).put (o + 4) x4).put (o + 5) x5).put (o + 6) x6).put (o + 7) x7).put (o + 8) x8).put (o + 9) x9
theorem set10_len (l : List Value) (o : Nat) (x0 x1 x2 x3 x4 x5 x6 x7 x8 x9 : Value) : (set10 l o x0 x1 x2 x3 x4 x5 x6 x7 x8 x9).length = l.length := by simp [set10]
theorem set10_far (l : List Value) (o p : Nat) (x0 x1 x2 x3 x4 x5 x6 x7 x8 x9 : Value) (h : p < o ∨ o + 10 ≤ p) : (set10 l o x0 x1 x2 x3 x4 x5 x6 x7 x8 x9)[p]? = l[p]? := by
  unfold set10
  rw [List.getElem?_set_ne (by omega), List.getElem?_set_ne (by omega), List.getElem?_set_ne (by omega), List.getElem?_set_ne (by omega), List.getElem?_set_ne (by omega), List.getElem?_set_ne (by omega), List.getElem?_set_ne (by omega), List.getElem?_set_ne (by omega), List.getElem?_set_ne (by omega), List.getElem?_set_ne (by omega)]
theorem set10_at (l : List Value) (o t : Nat) (x0 x1 x2 x3 x4 x5 x6 x7 x8 x9 : Value) (ho : o + 10 ≤ l.length) (ht : t < 10) : (set10 l o x0 x1 x2 x3 x4 x5 x6 x7 x8 x9)[o + t]? = [x0, x1, x2, x3, x4, x5, x6, x7, x8, x9][t]? := by
  have key : ∀ (m : List Value) (p : Nat) (u : Value), p < m.length → (m.set p u)[p]? = some u := fun m p u h => by simp [h]
  unfold set10
  match t, ht with
  | 0, _ => rw [List.getElem?_set_ne (by omega), List.getElem?_set_ne (by omega), List.getElem?_set_ne (by omega), List.getElem?_set_ne (by omega), List.getElem?_set_ne (by omega), List.getElem?_set_ne (by omega), List.getElem?_set_ne (by omega), List.getElem?_set_ne (by omega), List.getElem?_set_ne (by omega)]; exact key _ _ _ (by omega)
  | 1, _ => rw [List.getElem?_set_ne (by omega), List.getElem?_set_ne (by omega), List.getElem?_set_ne (by omega), List.getElem?_set_ne (by omega), List.getElem?_set_ne (by omega), List.getElem?_set_ne (by omega), List.getElem?_set_ne (by omega), List.getElem?_set_ne (by omega)]; exact key _ _ _ (by simp; omega)
  | 2, _ => rw [List.getElem?_set_ne (by omega), List.getElem?_set_ne (by omega), List.getElem?_set_ne (by omega), List.getElem?_set_ne (by omega), List.getElem?_set_ne (by omega), List.getElem?_set_ne (by omega), List.getElem?_set_ne (by omega)]; exact key _ _ _ (by simp; omega)
  | 3, _ => rw [List.getElem?_set_ne (by omega), List.getElem?_set_ne (by omega), List.getElem?_set_ne (by omega), List.getElem?_set_ne (by omega), List.getElem?_set_ne (by omega), List.getElem?_set_ne (by omega)]; exact key _ _ _ (by simp; omega)
  | 4, _ => rw [List.getElem?_set_ne (by omega), List.getElem?_set_ne (by omega), List.getElem?_set_ne (by omega), List.getElem?_set_ne (by omega), List.getElem?_set_ne (by omega)]; exact key _ _ _ (by simp; omega)
  | 5, _ => rw [List.getElem?_set_ne (by omega), List.getElem?_set_ne (by omega), List.getElem?_set_ne (by omega), List.getElem?_set_ne (by omega)]; exact key _ _ _ (by simp; omega)
  | 6, _ => rw [List.getElem?_set_ne (by omega), List.getElem?_set_ne (by omega), List.getElem?_set_ne (by omega)]; exact key _ _ _ (by simp; omega)
  | 7, _ => rw [List.getElem?_set_ne (by omega), List.getElem?_set_ne (by omega)]; exact key _ _ _ (by simp; omega)
  | 8, _ => rw [List.getElem?_set_ne (by omega)]; exact key _ _ _ (by simp; omega)
  | 9, _ => exact key _ _ _ (by simp; omega)
theorem cell_blk {W : World} {g T : Nat} {l : List Value} (h : Blk W g T l.toArray) (p : Nat) : W.cell? ⟨g, p, none⟩ = l[p]? := by
  have := cell_of_row W g p l.toArray T (0, 0) h
  simpa using this
/-- the row of equations by their variables, the first k of them laid -/
def EqR (W : World) (B g n : Nat) (f : FlatM) (k : Nat) : Prop :=
  ∃ cs : List Value, Blk W g 48 cs.toArray ∧ cs.length = n * 10 ∧ ∀ i q, i < k → f.eqs[i]? = some q → FEqAt W B g (q.var.toNat * 10) q
theorem EqR.lt {W : World} {B g n k : Nat} {f : FlatM} (h : EqR W B g n f k) : g < W.heap.size := by obtain ⟨cs, h1, _⟩ := h; exact h1.lt
theorem EqR.below {W W' : World} {B C g n k : Nat} {f : FlatM} (h : EqR W B g n f k) (hb : Below C W W') (hg : g < C) (hB : B ≤ C) : EqR W' B g n f k := by
  obtain ⟨cs, h1, h2, h3⟩ := h
  exact ⟨cs, h1.below hb hg, h2, fun i q hi hq => (h3 i q hi hq).copy (fun t _ => hb.cell (p := ⟨g, _, none⟩) hg) (fun p hp => hb.cell (by omega))⟩
theorem EqR.put {W : World} {B g n k b o j : Nat} {f : FlatM} {q : FEqM} (h : EqR W B g n f k) (hB : B ≤ g) (hq : f.eqs[k]? = some q) (hat : FEqAt W B b o q) (hj : q.var.toNat = j) (hjn : j < n)
    (hd : ∀ i r, i < k → f.eqs[i]? = some r → r.var.toNat ≠ j) {x0 x1 x2 x3 x4 x5 x6 x7 x8 x9 : Value} (hx : ∀ t, t < 10 → W.cell? ⟨b, o + t, none⟩ = [x0, x1, x2, x3, x4, x5, x6, x7, x8, x9][t]?) :
    EqR (put10 W g (j * 10) x0 x1 x2 x3 x4 x5 x6 x7 x8 x9) B g n f (k + 1) := by
  obtain ⟨cs, h1, h2, h3⟩ := h
  have h1' := h1.put10 (j * 10) x0 x1 x2 x3 x4 x5 x6 x7 x8 x9
  have hk : ∀ p : Addr, p.block < B → (put10 W g (j * 10) x0 x1 x2 x3 x4 x5 x6 x7 x8 x9).cell? p = W.cell? p := fun p hp => by
    have hb : Below g W (put10 W g (j * 10) x0 x1 x2 x3 x4 x5 x6 x7 x8 x9) := by
      unfold put10
      exact ((((((((((Below.refl g W).setCell (p := ⟨g, _, none⟩) (Nat.le_refl _) _).setCell (p := ⟨g, _, none⟩) (Nat.le_refl _) _).setCell (p := ⟨g, _, none⟩) (Nat.le_refl _) _).setCell (p := ⟨g, _, none⟩) (Nat.le_refl _) _).setCell (p := ⟨g, _, none⟩) (Nat.le_refl _) _).setCell (p := ⟨g, _, none⟩) (Nat.le_refl _) _).setCell (p := ⟨g, _, none⟩) (Nat.le_refl _) _).setCell (p := ⟨g, _, none⟩) (Nat.le_refl _) _).setCell (p := ⟨g, _, none⟩) (Nat.le_refl _) _).setCell (p := ⟨g, _, none⟩) (Nat.le_refl _) _
    exact hb.cell (by omega)
  refine ⟨_, h1', by rw [set10_len]; exact h2, fun i r hi hr => ?_⟩
  by_cases e : i = k
  · subst e
    rw [hq] at hr
    obtain rfl := Option.some.inj hr
    rw [hj]
    refine hat.copy (fun t ht => ?_) hk
    rw [cell_blk h1', set10_at _ _ _ _ _ _ _ _ _ _ _ _ _ (by omega) ht, hx t ht]
  · have hne := hd i r (by omega) hr
    refine (h3 i r (by omega) hr).copy (fun t ht => ?_) hk
    rw [cell_blk h1', cell_blk h1, set10_far _ _ _ _ _ _ _ _ _ _ _ _ _ (by omega)]
theorem EqR.low {W W' : World} {B g n k : Nat} {f : FlatM} (h : EqR W B g n f k) (hg : W'.heap[g]? = W.heap[g]?) (hk : ∀ p : Addr, p.block < B → W'.cell? p = W.cell? p) : EqR W' B g n f k := by
  obtain ⟨cs, h1, h2, h3⟩ := h
  have h1' : Blk W' g 48 cs.toArray := hg.trans h1
  exact ⟨cs, h1', h2, fun i q hi hq => (h3 i q hi hq).copy (fun t _ => by rw [cell_blk h1', cell_blk h1]) hk⟩
theorem EqR.drew {W : World} {B g n k : Nat} {f : FlatM} (h : EqR W B g n f k) : EqR W.drew B g n f k := h.low rfl fun _ _ => rfl
theorem put10_below {W w0 : World} {g C : Nat} (h : Below C w0 W) (hC : C ≤ g) (o : Nat) (x0 x1 x2 x3 x4 x5 x6 x7 x8 x9 : Value) : Below C w0 (put10 W g o x0 x1 x2 x3 x4 x5 x6 x7 x8 x9) := by
  unfold put10
  exact (((((((((h.setCell (p := ⟨g, _, none⟩) hC _).setCell (p := ⟨g, _, none⟩) hC _).setCell (p := ⟨g, _, none⟩) hC _).setCell (p := ⟨g, _, none⟩) hC _).setCell (p := ⟨g, _, none⟩) hC _).setCell (p := ⟨g, _, none⟩) hC _).setCell (p := ⟨g, _, none⟩) hC _).setCell (p := ⟨g, _, none⟩) hC _).setCell (p := ⟨g, _, none⟩) hC _).setCell (p := ⟨g, _, none⟩) hC _
theorem EqR.start {W : World} {B g n : Nat} {f : FlatM} (h : ∃ cs : List Value, Blk W g 48 cs.toArray ∧ cs.length = n * 10) : EqR W B g n f 0 := by
  obtain ⟨cs, h1, h2⟩ := h
  exact ⟨cs, h1, h2, fun i q hi => by omega⟩

end Go.Proofs.Ytioebjjnadgdjaa

namespace Go.Proofs.Ytioebjjnadgdjaa
set_option linter.unusedVariables false
set_option linter.unusedSimpArgs false
set_option maxRecDepth 100000
open Go.RowKit Gr

theorem nd_E' {G : List (List Int)} {i k : Nat} : ndB G (i : Int) (k : Int) = true ↔ E G i k := by
  unfold ndB E
  simp only [Bool.and_eq_true, decide_eq_true_eq, Int.toNat_natCast]
  constructor
  · rintro ⟨⟨⟨⟨_, h1⟩, _⟩, h2⟩, h3⟩; exact ⟨by omega, by omega, h3⟩
  · rintro ⟨h1, h2, h3⟩; exact ⟨⟨⟨⟨by omega, by omega⟩, by omega⟩, by omega⟩, h3⟩
theorem needs_len {f : FlatM} (hs : SmallF f) {i : Nat} {q : FEqM} (hq : f.eqs[i]? = some q) : (needsL f q).length ≤ 100 := by
  have h1 := hs.args i q hq
  have h2 : ((f.mems[q.k.toNat]?.map MemM.resets).getD []).length ≤ 20 := by
    cases h : f.mems[q.k.toNat]? with
    | none => simp
    | some x => exact hs.resets _ x h
  have h3 : ((f.conts[q.k.toNat]?.map ContM.resets).getD []).length ≤ 20 := by
    cases h : f.conts[q.k.toNat]? with
    | none => simp
    | some x => exact (hs.creset _ x h).1
  have g1 : (if 0 ≤ q.guard then [q.guard] else ([] : List Int)).length ≤ 1 := by split <;> simp
  have g2 : (if q.op = opMem then (f.mems[q.k.toNat]?.map MemM.resets).getD [] else ([] : List Int)).length ≤ 20 := by
    split
    · exact h2
    · simp
  have g3 : (if q.op = opCont then (f.conts[q.k.toNat]?.map ContM.resets).getD [] else ([] : List Int)).length ≤ 20 := by
    split
    · exact h3
    · simp
  unfold needsL
  rw [List.length_append, List.length_append, List.length_append]
  omega
theorem getD_far {α : Type} (l : List α) {i j : Nat} (h : i ≠ j) (u d : α) : (l.set i u).getD j d = l.getD j d := by simp [List.getD, List.getElem?_set, h]
theorem vars_ne {f : FlatM} (hg : goodB f = true) {i k : Nat} {q r : FEqM} (hq : f.eqs[i]? = some q) (hr : f.eqs[k]? = some r) (hik : i ≠ k) : q.var.toNat ≠ r.var.toNat := by
  have p1 := (plB_yes (goodB_eq hg hq).1).1
  have p2 := (plB_yes (goodB_eq hg hr).1).1
  unfold goodB onceB at hg
  rw [Bool.and_eq_true, Bool.and_eq_true, Bool.and_eq_true, Bool.and_eq_true, Bool.and_eq_true] at hg
  have hnd : (f.eqs.map FEqM.var).Nodup := by simpa using hg.1.1.1.1.2
  intro e
  have e' : q.var = r.var := by omega
  refine hik (nd_inj hnd (by simp; exact (List.getElem?_eq_some_iff.1 hq).1) (by simp; exact (List.getElem?_eq_some_iff.1 hr).1) ?_)
  simp [hq, hr, e']
theorem gOf_at {f : FlatM} (hg : goodB f = true) {i : Nat} {q : FEqM} (hq : f.eqs[i]? = some q) : (gOf f).getD q.var.toNat [] = needsL f q := by
  obtain ⟨p0, p1⟩ := plB_yes (goodB_eq hg hq).1
  have key : ∀ k, i < k → k ≤ f.eqs.length → (gTo f k).getD q.var.toNat [] = needsL f q := by
    intro k
    induction k with
    | zero => intro h; omega
    | succ k ih =>
      intro h1 h2
      obtain ⟨r, hr⟩ : ∃ r, f.eqs[k]? = some r := ⟨_, List.getElem?_eq_getElem (by omega)⟩
      rw [gTo_succ hr]
      by_cases e : i = k
      · subst e
        rw [hq] at hr
        obtain rfl := Option.some.inj hr
        have : q.var.toNat < (gTo f i).length := by rw [gTo_len]; omega
        simp [this]
      · have hne := vars_ne hg hq hr e
        have := ih (by omega) (by omega)
        rw [getD_far _ (fun e => hne e.symm), this]
  exact key _ (List.getElem?_eq_some_iff.1 hq).1 (Nat.le_refl _)
/-- each variable has an equation -/
theorem has_eq {f : FlatM} (hg : goodB f = true) {v : Nat} (hv : v < f.names.length) : ∃ (i : Nat) (q : FEqM), f.eqs[i]? = some q ∧ q.var.toNat = v := by
  have hlen := goodB_len hg
  have hall : ∀ x ∈ f.eqs.map FEqM.var, 0 ≤ x ∧ x < (f.names.length : Int) := by
    intro x hx
    obtain ⟨q, hq, rfl⟩ := List.mem_map.1 hx
    obtain ⟨i, hi, e⟩ := List.mem_iff_getElem.1 hq
    exact plB_yes (goodB_eq hg (show f.eqs[i]? = some q by simp [hi, e])).1
  have hg' := hg
  unfold goodB onceB at hg'
  rw [Bool.and_eq_true, Bool.and_eq_true, Bool.and_eq_true, Bool.and_eq_true, Bool.and_eq_true] at hg'
  have hnd : (f.eqs.map FEqM.var).Nodup := by simpa using hg'.1.1.1.1.2
  have hm := mem_of_full (toNat_nd _ hnd fun x hx => (hall x hx).1) (fun x hx => by
    obtain ⟨y, hy, rfl⟩ := List.mem_map.1 hx
    have := hall y hy; omega) (by simp; exact hlen) v hv
  obtain ⟨y, hy, e⟩ := List.mem_map.1 hm
  obtain ⟨q, hq, rfl⟩ := List.mem_map.1 hy
  obtain ⟨i, hi, e2⟩ := List.mem_iff_getElem.1 hq
  exact ⟨i, q, by simp [hi, e2], e⟩
/-- where a variable is needed it still lives -/
theorem last_needed {f : FlatM} {o : List Int} {n i k x : Nat} (ho : Once o n) (hi : i < n) (hk : o.getD k 0 = (x : Int)) (hx : x < n) (hnd : ndB (gOf f) (o.getD i 0) (x : Int) = true) : i ≤ Lpl (laF f o) o k := by
  have h1 : (i : Int) ≤ lastV (gOf f) (endB f) o x := by
    unfold lastV
    by_cases he : (endB f).getD x false = true
    · rw [if_pos he, ho.len]; omega
    · rw [if_neg he]
      exact (lastTo_max (gOf f) o x o.length).2.1 (i : Int) ⟨i, by rw [ho.len]; exact hi, hnd, rfl⟩
  unfold Lpl laF
  rw [hk, Int.toNat_natCast]
  omega
theorem last_end {f : FlatM} {o : List Int} {n k x : Nat} (ho : Once o n) (hk : o.getD k 0 = (x : Int)) (he : (endB f).getD x false = true) : n ≤ Lpl (laF f o) o k := by
  unfold Lpl laF lastV
  rw [hk, Int.toNat_natCast, if_pos he, ho.len]
  simp
/-- what lies in the slots ahead of place i -/
def LiesM (L : Nat → Nat) (o sl mem : List Int) (i : Nat) : Prop := ∀ k, k < i → i ≤ L k → mem.getD (sl.getD (o.getD k 0).toNat 0).toNat 0 = o.getD k 0 + 1
theorem LiesM.step {la : Nat → Nat} {o sl mem : List Int} {n i s u : Nat} (h : LiesM (Lpl la o) o sl mem i) (ha : ApartTo la o sl n) (hsl : ∀ x ∈ sl, 0 ≤ x) (hi : i < n) (hu : o.getD i 0 = (u : Int)) (hs : sl.getD u 0 = (s : Int)) (hsm : s < mem.length) (hlt : ∀ k, k < n → (o.getD k 0).toNat < sl.length) :
    LiesM (Lpl la o) o sl (mem.set s ((u : Int) + 1)) (i + 1) := by
  intro k hk hl
  by_cases e : k = i
  · subst e
    rw [hu, Int.toNat_natCast, hs, Int.toNat_natCast]
    simp [hsm]
  · have h1 := h k (by omega) (by omega)
    have hne : sl.getD (o.getD k 0).toNat 0 ≠ sl.getD (o.getD i 0).toNat 0 := fun q => by
      have := ha i hi k (by omega) q; omega
    rw [hu, Int.toNat_natCast, hs] at hne
    have h0 := hsl _ (getD_mem (hlt k (by omega)))
    have hne2 : s ≠ (sl.getD (o.getD k 0).toNat 0).toNat := by omega
    rw [getD_far _ hne2, h1]

/-- the memory of whoever reads -/
structure PdSt (w5 : World) (gl ge B n S : Nat) (f : FlatM) (L : Nat → Nat) (o xs : List Int) (i : Nat) (mem : List Int) (W : World) : Prop where
  im : IMem W gl mem
  len : mem.length = S
  lies : LiesM L o xs mem i
  eq : EqR W B ge n f f.eqs.length
  old : Below gl w5 W
  lt : gl < ge
  hB : B ≤ gl
theorem PdSt.later {w5 W W' : World} {gl ge B n S i : Nat} {f : FlatM} {L : Nat → Nat} {o xs mem : List Int} (h : PdSt w5 gl ge B n S f L o xs i mem W) (hb : Below W.heap.size W W') : PdSt w5 gl ge B n S f L o xs i mem W' :=
  ⟨h.im.below hb h.im.lt, h.len, h.lies, h.eq.below hb h.eq.lt (Nat.le_trans h.hB (Nat.le_of_lt h.im.lt)), h.old.trans (hb.mono (Nat.le_of_lt h.im.lt)), h.lt, h.hB⟩
theorem PdSt.put {w5 W : World} {gl ge B n S i s : Nat} {x : Int} {f : FlatM} {L : Nat → Nat} {o xs mem : List Int} (h : PdSt w5 gl ge B n S f L o xs i mem W) (hl : LiesM L o xs (mem.set s x) (i + 1)) : PdSt w5 gl ge B n S f L o xs (i + 1) (mem.set s x) (W.setCell ⟨gl, s, none⟩ (.int .i64 x)) :=
  ⟨h.im.set s x, by simp [h.len], hl, h.eq.low (Below.heap_setCell W _ _ ge (by have := h.lt; simp; omega)) (fun p hp => ((Below.refl gl W).setCell (p := ⟨gl, s, none⟩) (Nat.le_refl _) _).cell (by have := h.hB; omega)), h.old.setCell (Nat.le_refl _) _, h.lt, h.hB⟩

set_option maxHeartbeats 4000000 in
theorem planReads_walk (v : FlatV) (f : FlatM) (w : World) (h : FlatIs w w.heap.size v f) : Calls Try.prog 7 #[flatV v] w (LawPost w) := by
  have HL0 := Lib.hid (LwSt.start h)
  have HSM := Lib.hid (small14_t v f w.heap.size _ HL0.out.is HL0.out.hB)
  clear h
  unfold flatV sl3 fvs at HSM
  unfold flatV sl3
  go_enter Try.func7, Try.ntmps7
  go_wp2_with fail
  refine HSM.out.mono ?_
  rintro e w1 ⟨⟨b1, rfl, hs1⟩, hb1⟩
  have HL1 := Lib.hid (HL0.out.later hb1)
  clear hb1
  cases b1 with
  | false =>
    go_wp2
    go_ret
    exact ⟨rfl, HL1.out.old⟩
  | true =>
    obtain ⟨hs, _⟩ := hs1 rfl
    have hsm : v.names.2.1 ≤ 200 := by rw [← HL1.out.is.names.1]; exact hs.names
    have HSF := Lib.hid hs
    clear hs
    obtain ⟨f0, f1, f2, f3, f4, f5, f6, f7⟩ := HL1.out.blk.flat
    cases hg : goodB f with
    | false =>
      have HOF := Lib.hid (of_no v f w.heap.size w1 HL1.out.is HL1.out.hB (by omega) hg)
      unfold flatV sl3 at HOF
      clear hg
      go_wp2_with fail
      refine HOF.out.mono ?_
      rintro e w2 ⟨rfl, hb2⟩
      have HL2 := Lib.hid (HL1.out.later hb2)
      clear hb2 f0 f1 f2 f3 f4 f5 f6 f7
      unfold planV
      have HL3 := Lib.hid (HL2.out.later ((Below.refl w2.heap.size w2).alloc (Nat.le_refl _) (.cells #[.slice none 0 0, .slice none 0 0, .int .i64 0] 32)))
      go_wp2_with (go_at_call 12; refine (awake_t _).mono ?_; rintro e w4 ⟨rfl, hb4⟩)
      go_ret
      exact ⟨rfl, (HL3.out.later hb4).old⟩
    | true =>
      have HGD := Lib.hid hg
      have HOF := Lib.hid (of_t v f w.heap.size w1 HL1.out.is HL1.out.hB hg HSF.out)
      unfold flatV sl3 at HOF
      clear hg
      go_wp2_with fail
      refine HOF.out.mono ?_
      rintro e w2 ⟨ho | ho, hb2⟩
      rotate_left
      · obtain ⟨rfl, _⟩ := ho
        have HL2 := Lib.hid (HL1.out.later hb2)
        clear hb2 f0 f1 f2 f3 f4 f5 f6 f7
        unfold planV
        have HL3 := Lib.hid (HL2.out.later ((Below.refl w2.heap.size w2).alloc (Nat.le_refl _) (.cells #[.slice none 0 0, .slice none 0 0, .int .i64 0] 32)))
        go_wp2_with (go_at_call 12; refine (awake_t _).mono ?_; rintro e w4 ⟨rfl, hb4⟩)
        go_ret
        exact ⟨rfl, (HL3.out.later hb4).old⟩
      · obtain ⟨A, c, g, out, xs, S, rfl, hown, ⟨hmem, hgl⟩, hpl⟩ := ho
        have HGL : Hid ((gOf f).length = v.names.2.1) := Lib.hid (by unfold gOf; rw [gTo_len]; exact HL1.out.is.names.1)
        have hpl0 := hpl
        have HRP := Lib.hid (plan_right HGD.out HGL.out hpl)
        have HXL : Hid (xs.length = v.names.2.1) := Lib.hid (by obtain ⟨sls, hs, _, h2⟩ := hpl.slots; exact h2.1)
        have HSN : Hid (S ≤ 200) := Lib.hid (by
          obtain ⟨sls, hs, h1, _⟩ := hpl.slots
          rw [h1.top, Pl.slots_most h1.greedy (lpl_ge hpl.once)]
          refine Nat.le_trans (Pl.top_le _ _ v.names.2.1 fun i hi => ?_) hsm
          exact Nat.le_trans (List.length_filter_le _ _) (by simp; omega))
        have HL2 := Lib.hid (HL1.out.later hb2)
        have HOW := Lib.hid hown
        have HME := Lib.hid hmem
        clear hb2 f0 f1 f2 f3 f4 f5 f6 f7 hown hmem hgl hpl
        unfold planV
        obtain ⟨W3, hW3⟩ : ∃ W3, W3 = w2.alloc (.cells #[.slice A v.names.2.1 c, .slice (some ⟨g, 0, none⟩) v.names.2.1 v.names.2.1, .int .i64 ((S : Nat) : Int)] 32) := ⟨_, rfl⟩
        have hb3 : Below w2.heap.size w2 W3 := by rw [hW3]; exact (Below.refl _ _).alloc (Nat.le_refl _) _
        have HPB := Lib.hid (show Blk W3 w2.heap.size 32 #[.slice A v.names.2.1 c, .slice (some ⟨g, 0, none⟩) v.names.2.1 v.names.2.1, .int .i64 ((S : Nat) : Int)] from by rw [hW3]; exact Blk.new _ _ _)
        have HL3 := Lib.hid (HL2.out.later hb3)
        have HM3 := Lib.hid (HME.out.below hb3 HME.out.lt)
        have hir := HM3.out.irow (B := W3.heap.size) (c := v.names.2.1) HM3.out.lt (by rw [HXL.out]; exact Nat.le_refl _) (by unfold maxLen; omega)
        rw [HXL.out] at hir
        have HRT := Lib.hid ((refRight_t v f W3.heap.size A (some ⟨g, 0, none⟩) v.names.2.1 c v.names.2.1 v.names.2.1 ((S : Nat) : Int) (ints out) xs W3 (HL3.out.is.more HL3.out.hB) (Nat.le_refl _) (own_row (HOW.out.below hb3 (Nat.le_refl _))) hir HSF.out (by have := HSN.out; omega)).mono fun e w' q => q.tt HRP.out)
        unfold flatV sl3 planV at HRT
        have HON := Lib.hid hpl0.once
        have HRW := Lib.hid (fun W (q : Below W3.heap.size W3 W) => own_row ((HOW.out.below hb3 (Nat.le_refl _)).below q (Nat.le_refl _)))
        have HNN : Hid (f.names.length = v.names.2.1) := Lib.hid HL1.out.is.names.1
        obtain ⟨f0, f1, f2, f3, f4, f5, f6, f7⟩ := HL3.out.blk.flat
        obtain ⟨p0, p1, p2⟩ : W3.cell? ⟨w2.heap.size, 0, none⟩ = some (.slice A v.names.2.1 c) ∧ W3.cell? ⟨w2.heap.size, 1, none⟩ = some (.slice (some ⟨g, 0, none⟩) v.names.2.1 v.names.2.1) ∧ W3.cell? ⟨w2.heap.size, 2, none⟩ = some (.int .i64 ((S : Nat) : Int)) := ⟨HPB.out.cell 0 rfl, HPB.out.cell 1 rfl, HPB.out.cell 2 rfl⟩
        clear hb3 hir hpl0
        go_upto_region 6 with fail
        rw [← hW3]
        clear hW3
        have hS200 := HSN.out
        go_wp2_with (first
          | (go_at_call 14; (with_reducible refine HRT.out.mono ?_); rintro e w5 ⟨rfl, hb5⟩; have HL5 := Lib.hid (HL3.out.later hb5); have HB5 := Lib.hid hb5; have HP5 := Lib.hid (HPB.out.later hb5); clear hb5 f0 f1 f2 f3 f4 f5 f6 f7 p0 p1 p2; obtain ⟨f0, f1, f2, f3, f4, f5, f6, f7⟩ := HL5.out.blk.flat; obtain ⟨p0, p1, p2⟩ : w5.cell? ⟨w2.heap.size, 0, none⟩ = some (.slice A v.names.2.1 c) ∧ w5.cell? ⟨w2.heap.size, 1, none⟩ = some (.slice (some ⟨g, 0, none⟩) v.names.2.1 v.names.2.1) ∧ w5.cell? ⟨w2.heap.size, 2, none⟩ = some (.int .i64 ((S : Nat) : Int)) := ⟨HP5.out.cell 0 rfl, HP5.out.cell 1 rfl, HP5.out.cell 2 rfl⟩)
          | (at_make; refine makeI rfl _ rfl _ S rfl rfl (by omega) ?_))
        intro w6 hm6 hb6
        have HB6 := Lib.hid hb6
        have HM6 := Lib.hid hm6
        have HL6 := Lib.hid (HL5.out.later hb6)
        have HP6 := Lib.hid (HP5.out.later hb6)
        clear hb6 hm6 f0 f1 f2 f3 f4 f5 f6 f7 p0 p1 p2
        obtain ⟨f0, f1, f2, f3, f4, f5, f6, f7⟩ := HL6.out.blk.flat
        obtain ⟨p0, p1, p2⟩ : w6.cell? ⟨w2.heap.size, 0, none⟩ = some (.slice A v.names.2.1 c) ∧ w6.cell? ⟨w2.heap.size, 1, none⟩ = some (.slice (some ⟨g, 0, none⟩) v.names.2.1 v.names.2.1) ∧ w6.cell? ⟨w2.heap.size, 2, none⟩ = some (.int .i64 ((S : Nat) : Int)) := ⟨HP6.out.cell 0 rfl, HP6.out.cell 1 rfl, HP6.out.cell 2 rfl⟩
        go_wp2_with (at_make; refine makeE rfl _ rfl _ v.names.2.1 rfl rfl (by omega) ?_)
        intro w7 cs hcs hcl hb7
        obtain ⟨gl, hgl0⟩ : ∃ gl, gl = w5.heap.size := ⟨_, rfl⟩
        obtain ⟨ge, hge0⟩ : ∃ ge, ge = w6.heap.size := ⟨_, rfl⟩
        rw [← hgl0, ← hge0]
        rw [← hge0] at hcs hb7
        rw [← hgl0] at HM6 HB6
        have hgle : gl < ge := by rw [hge0]; exact HM6.out.lt
        have hBgl : w.heap.size ≤ gl := by rw [hgl0]; exact HL5.out.old.size
        have HBL : Hid (w.heap.size ≤ gl) := Lib.hid hBgl
        have HEQ0 : Hid (EqR w7 w.heap.size ge v.names.2.1 f 0) := Lib.hid (EqR.start ⟨cs, hcs, hcl⟩)
        have HB7 : Hid (Below ge w6 w7) := Lib.hid hb7
        have HB57 : Hid (Below gl w5 w7) := Lib.hid (HB6.out.trans (hb7.mono (Nat.le_of_lt hgle)))
        have HM7 : Hid (IMem w7 gl (List.replicate S 0)) := Lib.hid (HM6.out.below hb7 hgle)
        have HKW : Hid (∀ W, Below gl w5 W → LwSt w v f W ∧ Blk W w2.heap.size 32 #[.slice A v.names.2.1 c, .slice (some ⟨g, 0, none⟩) v.names.2.1 v.names.2.1, .int .i64 ((S : Nat) : Int)] ∧ IRow W W.heap.size A v.names.2.1 c (ints out) ∧ IMem W g xs) := Lib.hid fun W hb => by
          rw [hgl0] at hb
          have hb3 : Below W3.heap.size W3 W := HB5.out.trans (hb.mono HB5.out.size)
          exact ⟨HL5.out.later hb, HP5.out.later hb, HRW.out W hb3, HM3.out.below hb3 HM3.out.lt⟩
        have HGG : Hid (g < gl ∧ w2.heap.size < gl) := Lib.hid (by
          rw [hgl0]
          exact ⟨Nat.lt_of_lt_of_le HM3.out.lt HB5.out.size, HP5.out.lt⟩)
        have HEN : Hid (v.eqs.2.1 = v.names.2.1) := Lib.hid (by rw [← HL1.out.is.eqs.1, ← HL1.out.is.names.1]; exact goodB_len HGD.out)
        have heq200 : v.eqs.2.1 ≤ 200 := by rw [HEN.out]; exact hsm
        have HELN : Hid (f.eqs.length = v.eqs.2.1) := Lib.hid HL1.out.is.eqs.1
        clear hgl0 hcs hcl hb7 f0 f1 f2 f3 f4 f5 f6 f7 p0 p1 p2 hge0 HM6 HB6 HL6 HP6
        go_wp2_with fail
        go_loopw [7] (fun t wr => ∃ k : Nat, k ≤ v.eqs.2.1 ∧ t = .int .i64 k ∧ Hid (EqR wr w.heap.size ge v.names.2.1 f k ∧ Below ge w7 wr)) (fun t _ => v.eqs.2.1 - (intOf t).toNat)
        case atStart => exact ⟨0, Nat.zero_le _, rfl, Lib.hid ⟨HEQ0.out, Below.refl _ _⟩⟩
        case round =>
          obtain ⟨k, hk, rfl, hz⟩ := hrel
          have HZ := hz
          have HBW : Hid (Below gl w5 wr) := Lib.hid (HB57.out.trans (hz.out.2.mono (Nat.le_of_lt hgle)))
          obtain ⟨hlw, hpb, hro, hsm2⟩ := HKW.out _ HBW.out
          obtain ⟨f0, f1, f2, f3, f4, f5, f6, f7⟩ := hlw.blk.flat
          by_cases hlt : k < v.eqs.2.1
          · have his := hlw.is
            obtain ⟨⟨var, op, args, kk, lit, guard⟩, hq⟩ := his.eqs.ex hlt
            obtain ⟨b, off, ha, hbB, hat⟩ := his.eqs.at_ hq
            have HAT := Lib.hid hat
            obtain ⟨a, m, d, hrow, hrm, hrd, e0, e1, e2, e3, e4, e5, e6, e7, e8, e9⟩ := hat.cells
            have HQ := Lib.hid hq
            obtain ⟨p0, p1⟩ := plB_yes (goodB_eq HGD.out hq).1
            rw [HNN.out] at p1
            simp only at p0 p1
            obtain ⟨j, rfl⟩ : ∃ j : Nat, var = (j : Int) := ⟨var.toNat, by omega⟩
            have hj : j < v.names.2.1 := by omega
            have hjI : (j : Int) < (v.names.2.1 : Int) := hj |> Int.ofNat_lt.2
            obtain ⟨cs, hcs, hcl, _⟩ := hz.out.1
            have cc : ∀ t, t < 10 → ∃ u, wr.cell? ⟨ge, j * 10 + t, none⟩ = some u := fun t ht => ⟨_, (cell_blk hcs _).trans (List.getElem?_eq_getElem (by omega))⟩
            have cf : ∀ p, wr.frozen? ⟨ge, p, none⟩ = false := fun p => hcs.free p
            obtain ⟨u0, c0⟩ := cc 0 (by decide)
            obtain ⟨u1, c1⟩ := cc 1 (by decide)
            obtain ⟨u2', c2⟩ := cc 2 (by decide)
            obtain ⟨u3, c3⟩ := cc 3 (by decide)
            obtain ⟨u4, c4⟩ := cc 4 (by decide)
            obtain ⟨u5, c5⟩ := cc 5 (by decide)
            obtain ⟨u6, c6⟩ := cc 6 (by decide)
            obtain ⟨u7, c7⟩ := cc 7 (by decide)
            obtain ⟨u8, c8⟩ := cc 8 (by decide)
            obtain ⟨u9, c9⟩ := cc 9 (by decide)
            rw [Nat.add_zero] at c0
            have k0 := cf (j * 10)
            have k1 := cf (j * 10 + 1)
            have k2 := cf (j * 10 + 2)
            have k3 := cf (j * 10 + 3)
            have k4 := cf (j * 10 + 4)
            have k5 := cf (j * 10 + 5)
            have k6 := cf (j * 10 + 6)
            have k7 := cf (j * 10 + 7)
            have k8 := cf (j * 10 + 8)
            have k9 := cf (j * 10 + 9)
            have HNX : Hid (EqR (put10 wr ge (j * 10) (.int .i64 (j : Int)) (.string op) (.slice a.1 a.2.1 a.2.2) (.int .i64 kk) (.int .i64 lit.kind) (.bool lit.neg) (.slice m.1 m.2.1 m.2.2) (.slice d.1 d.2.1 d.2.2) (.string lit.name) (.int .i64 guard)) w.heap.size ge v.names.2.1 f (k + 1)) := Lib.hid (hz.out.1.put (Nat.le_trans HBL.out (Nat.le_of_lt hgle)) hq hat (by simp) hj (fun i r hi hr => by have := vars_ne HGD.out hr hq (by omega); simpa using this) (fun t ht => by
              match t, ht with
              | 0, _ => exact e0
              | 1, _ => exact e1
              | 2, _ => exact e2
              | 3, _ => exact e3
              | 4, _ => exact e4
              | 5, _ => exact e5
              | 6, _ => exact e6
              | 7, _ => exact e7
              | 8, _ => exact e8
              | 9, _ => exact e9))
            simp only at e0 e1 e2 e3 e4 e5 e6 e7 e8 e9
            have hbw : b < w.heap.size := hbB
            have hbge : b ≠ ge := by have := HBL.out; omega
            rw [ha] at f3 ⊢
            clear hlw hpb hro hsm2 his hq hat hrow hrm hrd cc cf hcs hcl hz
            go_wp2_with fail
            go_region
            go_wp2_with fail
            go_roundw
            case rel => exact ⟨k + 1, by omega, by go_num, Lib.hid ⟨HNX.out.drew, (put10_below HZ.out.2 (Nat.le_refl _) _ _ _ _ _ _ _ _ _ _ _).drew⟩⟩
            case measure => simp [intOf]; omega
          · obtain rfl : k = v.eqs.2.1 := by omega
            obtain ⟨L, hL⟩ : ∃ L, L = Lpl (laF f (ints out)) (ints out) := ⟨_, rfl⟩
            have HLE := Lib.hid hL
            have HST : Hid (PdSt w5 gl ge w.heap.size v.names.2.1 S f L (ints out) xs 0 (List.replicate S 0) wr) := Lib.hid ⟨HM7.out.below hz.out.2 hgle, by simp, fun k hk => by omega, by rw [HELN.out]; exact hz.out.1, HBW.out, hgle, HBL.out⟩
            clear hL hlw hro hsm2 hz HZ
            obtain ⟨p0, p1, p2⟩ : wr.cell? ⟨w2.heap.size, 0, none⟩ = some (.slice A v.names.2.1 c) ∧ wr.cell? ⟨w2.heap.size, 1, none⟩ = some (.slice (some ⟨g, 0, none⟩) v.names.2.1 v.names.2.1) ∧ wr.cell? ⟨w2.heap.size, 2, none⟩ = some (.int .i64 ((S : Nat) : Int)) := ⟨hpb.cell 0 rfl, hpb.cell 1 rfl, hpb.cell 2 rfl⟩
            go_wp2_with fail
            clear f0 f1 f2 f3 f4 f5 f6 f7 p0 p1 p2 hpb
            go_loopw [8] (fun t wr => ∃ i : Nat, i ≤ v.names.2.1 ∧ t = .int .i64 i ∧ Hid (∃ mem, PdSt w5 gl ge w.heap.size v.names.2.1 S f L (ints out) xs i mem wr)) (fun t _ => v.names.2.1 - (intOf t).toNat)
            case atStart => exact ⟨0, Nat.zero_le _, rfl, Lib.hid ⟨_, HST.out⟩⟩
            case round =>
              obtain ⟨i, hi, rfl, hz⟩ := hrel
              obtain ⟨mem, hst⟩ := hz.out
              have HST := Lib.hid hst
              clear hz hst
              obtain ⟨hlw, hpb, hro, hsm2⟩ := HKW.out _ HST.out.old
              have HLW := Lib.hid hlw
              have r0 := hpb.cell 0 rfl
              have r1 := hpb.cell 1 rfl
              have r2 := hpb.cell 2 rfl
              clear hpb
              by_cases hil : i < v.names.2.1
              · have hiI : (i : Int) < (v.names.2.1 : Int) := by omega
                obtain ⟨b, off, ha, hlb, oc⟩ := hro.at_ hil
                obtain ⟨u, hu, hou⟩ := HON.out.get hil
                rw [hou] at oc
                have huI : (u : Int) < (v.names.2.1 : Int) := by omega
                obtain ⟨e, q, hq, hqv⟩ := has_eq HGD.out (v := u) (by rw [HNN.out]; exact hu)
                obtain ⟨cs, hcs, hcl, hall⟩ := HST.out.eq
                have hat := hall e q (List.getElem?_eq_some_iff.1 hq).1 hq
                rw [hqv] at hat
                have hgo := gOf_at HGD.out hq
                rw [hqv] at hgo
                have hkl := (goodB_eq HGD.out hq).2.2.2
                rw [HL1.out.is.ins.1, HL1.out.is.mems.1, HL1.out.is.conts.1, HL1.out.is.cross.1] at hkl
                have hpl := needs_places HGD.out hq
                have hvp := (plB_yes (goodB_eq HGD.out hq).1).1
                obtain ⟨var, op, args, kk, lit, guard⟩ := q
                simp only at hqv hvp
                obtain rfl : var = (u : Int) := by omega
                obtain ⟨a, m, d, hrow, hrm, hrd, e0, e1, e2, e3, e4, e5, e6, e7, e8, e9⟩ := hat.cells
                have hal : a.2.1 ≤ 1000 := by have := HSF.out.args e _ hq; rw [← hrow.1]; simp only at this ⊢; omega
                have HNL : Hid (∀ x ∈ needsL f ⟨(u : Int), op, args, kk, lit, guard⟩, ∃ y : Nat, x = (y : Int) ∧ y < v.names.2.1 ∧ ndB (gOf f) ((ints out).getD i 0) (y : Int) = true) := Lib.hid fun x hx => by
                  obtain ⟨x0, x1⟩ := plB_yes (hpl x hx)
                  rw [HNN.out] at x1
                  refine ⟨x.toNat, by omega, by omega, ?_⟩
                  rw [hou]
                  refine nd_E'.2 ⟨by rw [HGL.out]; exact hu, by rw [HGL.out]; omega, ?_⟩
                  rw [hgo, show ((x.toNat : Nat) : Int) = x by omega]
                  exact hx
                have HLN : Hid ((needsL f ⟨(u : Int), op, args, kk, lit, guard⟩).length ≤ 2000) := Lib.hid (Nat.le_trans (needs_len HSF.out hq) (by omega))
                simp only at e0 e1 e2 e3 e4 e5 e6 e7 e8 e9
                have hwl : w.heap.size < wr.heap.size := HLW.out.blk.lt
                have hgl2 : ge < wr.heap.size := HST.out.eq.lt
                have CR : Hid (Calls Try.prog 16 #[flatV v, feqV ⟨(u : Int), op, args, kk, lit, guard⟩ a m d] wr.drew (NeedsPost f ⟨(u : Int), op, args, kk, lit, guard⟩ wr.drew)) := Lib.hid (needs_t ⟨(u : Int), op, args, kk, lit, guard⟩ a m d v f w.heap.size wr.drew (HLW.out.is.below (Below.refl _ _).drew) (hrow.below (Below.refl _ _).drew) (Nat.le_of_lt hwl) hal hkl (fun i x hx => Nat.le_trans (HSF.out.resets i x hx) (by omega)) (fun i x hx => Nat.le_trans (HSF.out.creset i x hx).1 (by omega)))
                unfold flatV feqV sl3 at CR
                dsimp only at CR
                obtain ⟨f0, f1, f2, f3, f4, f5, f6, f7⟩ := HLW.out.blk.flat
                have HF18 : Hid ((fun w' => w'.cell? ⟨w.heap.size, 0, none⟩ = some (.slice v.ins.1 v.ins.2.1 v.ins.2.2) ∧ w'.cell? ⟨w.heap.size, 1, none⟩ = some (.slice v.names.1 v.names.2.1 v.names.2.2) ∧ w'.cell? ⟨w.heap.size, 2, none⟩ = some (.slice v.outs.1 v.outs.2.1 v.outs.2.2) ∧ w'.cell? ⟨w.heap.size, 3, none⟩ = some (.slice v.eqs.1 v.eqs.2.1 v.eqs.2.2) ∧ w'.cell? ⟨w.heap.size, 4, none⟩ = some (.slice v.mems.1 v.mems.2.1 v.mems.2.2) ∧ w'.cell? ⟨w.heap.size, 5, none⟩ = some (.slice v.conts.1 v.conts.2.1 v.conts.2.2) ∧ w'.cell? ⟨w.heap.size, 6, none⟩ = some (.slice v.cross.1 v.cross.2.1 v.cross.2.2) ∧ w'.cell? ⟨w.heap.size, 7, none⟩ = some (.slice v.again.1 v.again.2.1 v.again.2.2) ∧ w'.cell? ⟨ge, u * 10, none⟩ = some (.int .i64 (u : Int)) ∧ w'.cell? ⟨ge, u * 10 + 1, none⟩ = some (.string op) ∧ w'.cell? ⟨ge, u * 10 + 2, none⟩ = some (.slice a.1 a.2.1 a.2.2) ∧ w'.cell? ⟨ge, u * 10 + 3, none⟩ = some (.int .i64 kk) ∧ w'.cell? ⟨ge, u * 10 + 4, none⟩ = some (.int .i64 lit.kind) ∧ w'.cell? ⟨ge, u * 10 + 5, none⟩ = some (.bool lit.neg) ∧ w'.cell? ⟨ge, u * 10 + 6, none⟩ = some (.slice m.1 m.2.1 m.2.2) ∧ w'.cell? ⟨ge, u * 10 + 7, none⟩ = some (.slice d.1 d.2.1 d.2.2) ∧ w'.cell? ⟨ge, u * 10 + 8, none⟩ = some (.string lit.name) ∧ w'.cell? ⟨ge, u * 10 + 9, none⟩ = some (.int .i64 guard)) wr.drew) := Lib.hid ⟨f0, f1, f2, f3, f4, f5, f6, f7, e0, e1, e2, e3, e4, e5, e6, e7, e8, e9⟩
                rw [ha] at r0
                have HAA := Lib.hid ha
                clear hlw hro hsm2 hcs hcl hall hat hq hgo hkl hpl hrow hrm hrd hal hvp hqv f0 f1 f2 f3 f4 f5 f6 f7 e0 e1 e2 e3 e4 e5 e6 e7 e8 e9 ha
                go_wp2_with fail
                go_region_held3 (fun w' => w'.cell? ⟨w.heap.size, 0, none⟩ = some (.slice v.ins.1 v.ins.2.1 v.ins.2.2) ∧ w'.cell? ⟨w.heap.size, 1, none⟩ = some (.slice v.names.1 v.names.2.1 v.names.2.2) ∧ w'.cell? ⟨w.heap.size, 2, none⟩ = some (.slice v.outs.1 v.outs.2.1 v.outs.2.2) ∧ w'.cell? ⟨w.heap.size, 3, none⟩ = some (.slice v.eqs.1 v.eqs.2.1 v.eqs.2.2) ∧ w'.cell? ⟨w.heap.size, 4, none⟩ = some (.slice v.mems.1 v.mems.2.1 v.mems.2.2) ∧ w'.cell? ⟨w.heap.size, 5, none⟩ = some (.slice v.conts.1 v.conts.2.1 v.conts.2.2) ∧ w'.cell? ⟨w.heap.size, 6, none⟩ = some (.slice v.cross.1 v.cross.2.1 v.cross.2.2) ∧ w'.cell? ⟨w.heap.size, 7, none⟩ = some (.slice v.again.1 v.again.2.1 v.again.2.2) ∧ w'.cell? ⟨ge, u * 10, none⟩ = some (.int .i64 (u : Int)) ∧ w'.cell? ⟨ge, u * 10 + 1, none⟩ = some (.string op) ∧ w'.cell? ⟨ge, u * 10 + 2, none⟩ = some (.slice a.1 a.2.1 a.2.2) ∧ w'.cell? ⟨ge, u * 10 + 3, none⟩ = some (.int .i64 kk) ∧ w'.cell? ⟨ge, u * 10 + 4, none⟩ = some (.int .i64 lit.kind) ∧ w'.cell? ⟨ge, u * 10 + 5, none⟩ = some (.bool lit.neg) ∧ w'.cell? ⟨ge, u * 10 + 6, none⟩ = some (.slice m.1 m.2.1 m.2.2) ∧ w'.cell? ⟨ge, u * 10 + 7, none⟩ = some (.slice d.1 d.2.1 d.2.2) ∧ w'.cell? ⟨ge, u * 10 + 8, none⟩ = some (.string lit.name) ∧ w'.cell? ⟨ge, u * 10 + 9, none⟩ = some (.int .i64 guard)) (exact HF18.out) ((go_at_call 16; (with_reducible refine CR.out.mono ?_); rintro e w8 ⟨v3, rfl, hown, hb8⟩; replace HF18 := Lib.hid (keep18 HF18.out hb8 hgl2 hwl); obtain ⟨a4, c4, hv4⟩ := hown.len; subst hv4; have HOW8 := Lib.hid hown; have HB8 := Lib.hid ((Below.refl wr.heap.size wr).drew.trans hb8); clear hown hb8))
                have HST8 := Lib.hid (HST.out.later HB8.out)
                clear HF18 CR HLW r0 r1 r2 oc
                obtain ⟨NL, hNL⟩ : ∃ NL, NL = needsL f ⟨(u : Int), op, args, kk, lit, guard⟩ := ⟨_, rfl⟩
                rw [← hNL] at HOW8 HNL HLN ⊢
                obtain ⟨n4, hn4⟩ : ∃ n4, n4 = NL.length := ⟨_, rfl⟩
                rw [← hn4] at HOW8 HLN ⊢
                have HN4 := Lib.hid hn4
                have hn4l := HLN.out
                have HSU := Lib.hid (HRP.out.slots.2 _ (getD_mem (show u < xs.length by rw [HXL.out]; exact hu)))
                obtain ⟨su, hsu⟩ : ∃ su : Nat, xs.getD u 0 = (su : Int) := ⟨(xs.getD u 0).toNat, by have := HSU.out; omega⟩
                have hsuS : su < S := by have := HSU.out; rw [hsu] at this; omega
                have HSUE := Lib.hid hsu
                have HOU := Lib.hid hou
                clear hNL hn4 hsu hou
                go_wp2
                go_loopw [11] (fun t wr => ∃ k : Nat, k ≤ n4 ∧ t = .int .i64 k ∧ Hid (Below w8.heap.size w8 wr)) (fun t _ => n4 - (intOf t).toNat)
                case atStart => exact ⟨0, Nat.zero_le _, rfl, Lib.hid (Below.refl _ _)⟩
                case round =>
                  obtain ⟨k, hk, rfl, hb9⟩ := hrel
                  have HST9 := Lib.hid (HST8.out.later hb9.out)
                  obtain ⟨hlw, hpb, hro, hsm2⟩ := HKW.out _ HST9.out.old
                  have r0 := hpb.cell 0 rfl
                  have r1 := hpb.cell 1 rfl
                  have r2 := hpb.cell 2 rfl
                  by_cases hkl : k < n4
                  · have hkI : (k : Int) < (n4 : Int) := by omega
                    have hrw := own_row (HOW8.out.below hb9.out (Nat.le_refl _))
                    obtain ⟨b4, off4, ha4, hlb4, nc⟩ := hrw.at_ hkl
                    obtain ⟨y, hy, hyn, hnd⟩ := HNL.out _ (getD_mem (show k < NL.length by rw [← HN4.out]; exact hkl))
                    rw [hy] at nc
                    have hyI : (y : Int) < (v.names.2.1 : Int) := by omega
                    have hsy := HRP.out.slots.2 _ (getD_mem (show y < xs.length by rw [HXL.out]; exact hyn))
                    obtain ⟨sy, hsye⟩ : ∃ sy : Nat, xs.getD y 0 = (sy : Int) := ⟨(xs.getD y 0).toNat, by omega⟩
                    have hsyS : (sy : Int) < (S : Int) := by rw [hsye] at hsy; omega
                    have xc := hsm2.cell y (by rw [HXL.out]; exact hyn)
                    rw [hsye] at xc
                    have mc := HST9.out.im.cell sy (by rw [HST9.out.len]; omega)
                    have hmem : mem.getD sy 0 = (y : Int) + 1 := by
                      obtain ⟨j, hj, hpj, hoj⟩ := HON.out.plc hyn
                      have hbe := HRP.out.behind u hu y hyn (by rw [← HOU.out]; exact hnd)
                      rw [hpj, ← HOU.out, HON.out.plc_get hil] at hbe
                      have hll := last_needed HON.out hil hoj hyn hnd
                      have := HST9.out.lies j (by omega) (by rw [HLE.out]; exact hll)
                      rw [hoj, Int.toNat_natCast, hsye, Int.toNat_natCast] at this
                      exact this
                    rw [hmem] at mc
                    subst ha4
                    clear hlw hpb hro hsm2 hrw hy hnd hsy hsye hmem hlb4
                    go_wp2_with fail
                    go_quiet (fail)
                    go_wp2
                    go_roundw
                    case rel => exact ⟨k + 1, by omega, by go_num, Lib.hid (below_drewN hb9.out)⟩
                    case measure => simp [intOf]; omega
                  · obtain rfl : k = n4 := by omega
                    have xc := hsm2.cell u (by rw [HXL.out]; exact hu)
                    rw [HSUE.out] at xc
                    have mc := HST9.out.im.cell su (by rw [HST9.out.len]; exact hsuS)
                    have mf := HST9.out.im.free su
                    have hsuI : (su : Int) < (S : Int) := by omega
                    have HPU : Hid (PdSt w5 gl ge w.heap.size v.names.2.1 S f L (ints out) xs (i + 1) (mem.set su ((u : Int) + 1)) (wr.setCell ⟨gl, su, none⟩ (.int .i64 ((u : Int) + 1)))) := Lib.hid (HST9.out.put (by
                      have h1 := HST9.out.lies
                      rw [HLE.out] at h1 ⊢
                      exact h1.step HRP.out.apart (fun x hx => (HRP.out.slots.2 x hx).1) hil HOU.out HSUE.out (by rw [HST9.out.len]; exact hsuS) (fun k hk => by
                        obtain ⟨z, hz, ez⟩ := HON.out.get hk
                        rw [ez, Int.toNat_natCast, HXL.out]; exact hz)))
                    clear hlw hpb hro hsm2
                    go_wp2_with fail
                    go_roundw
                    case rel => exact ⟨i + 1, by omega, by go_num, Lib.hid ⟨_, HPU.out⟩⟩
                    case measure => simp [intOf]; omega
              · obtain rfl : i = v.names.2.1 := by omega
                have CE := Lib.hid (end14_t v f w.heap.size wr hlw.is hlw.hB HGD.out HSF.out)
                unfold flatV sl3 at CE
                obtain ⟨f0, f1, f2, f3, f4, f5, f6, f7⟩ := HLW.out.blk.flat
                clear hlw hro hsm2
                go_wp2_with (go_at_call 17; (with_reducible refine CE.out.mono ?_); rintro e w8 ⟨g8, rfl, hbm, hg8, hb8⟩)
                rw [HNN.out]
                have HBM := Lib.hid hbm
                have HEL : Hid ((endB f).length = v.names.2.1) := Lib.hid (by rw [endB_get]; exact HNN.out)
                have HST8 := Lib.hid (HST.out.later hb8)
                clear hbm hb8 f0 f1 f2 f3 f4 f5 f6 f7 r0 r1 r2
                go_loopw [13] (fun t wr => ∃ y : Nat, y ≤ v.names.2.1 ∧ t = .int .i64 y ∧ Hid (Below w8.heap.size w8 wr)) (fun t _ => v.names.2.1 - (intOf t).toNat)
                case atStart => exact ⟨0, Nat.zero_le _, rfl, Lib.hid (Below.refl _ _)⟩
                case round =>
                  obtain ⟨y, hy, rfl, hb9⟩ := hrel
                  have HST9 := Lib.hid (HST8.out.later hb9.out)
                  obtain ⟨hlw, hpb, hro, hsm2⟩ := HKW.out _ HST9.out.old
                  have HL9 := Lib.hid hlw
                  have r0 := hpb.cell 0 rfl
                  have r1 := hpb.cell 1 rfl
                  have r2 := hpb.cell 2 rfl
                  by_cases hyn : y < v.names.2.1
                  · have hyI : (y : Int) < (v.names.2.1 : Int) := by omega
                    have ec := (HBM.out.below hb9.out HBM.out.lt).cell y (by rw [HEL.out]; exact hyn)
                    cases hz : (endB f).getD y false with
                    | false =>
                      rw [hz] at ec
                      clear hlw hpb hro hsm2 hz
                      go_wp2_with fail
                      go_roundw
                      case rel => exact ⟨y + 1, by omega, by go_num, hb9⟩
                      case measure => simp [intOf]; omega
                    | true =>
                      rw [hz] at ec
                      have hsy := HRP.out.slots.2 _ (getD_mem (show y < xs.length by rw [HXL.out]; exact hyn))
                      obtain ⟨sy, hsye⟩ : ∃ sy : Nat, xs.getD y 0 = (sy : Int) := ⟨(xs.getD y 0).toNat, by omega⟩
                      have hsyS : (sy : Int) < (S : Int) := by rw [hsye] at hsy; omega
                      have xc := hsm2.cell y (by rw [HXL.out]; exact hyn)
                      rw [hsye] at xc
                      have mc := HST9.out.im.cell sy (by rw [HST9.out.len]; omega)
                      have hmem : mem.getD sy 0 = (y : Int) + 1 := by
                        obtain ⟨j, hj, hpj, hoj⟩ := HON.out.plc hyn
                        have hll := last_end HON.out hoj hz
                        have := HST9.out.lies j (by omega) (by rw [HLE.out]; exact hll)
                        rw [hoj, Int.toNat_natCast, hsye, Int.toNat_natCast] at this
                        exact this
                      rw [hmem] at mc
                      clear hlw hpb hro hsm2 hz hsy hsye hmem
                      go_wp2_with fail
                      go_roundw
                      case rel => exact ⟨y + 1, by omega, by go_num, hb9⟩
                      case measure => simp [intOf]; omega
                  · obtain rfl : y = v.names.2.1 := by omega
                    clear hlw hpb hro hsm2
                    go_wp2_with (go_at_call 12; (with_reducible refine (awake_t _).mono ?_); rintro e wz ⟨rfl, hbz⟩; have HLZ := Lib.hid (HL9.out.later hbz); clear hbz)
                    go_ret
                    exact ⟨rfl, HLZ.out.old⟩

end Go.Proofs.Ytioebjjnadgdjaa
