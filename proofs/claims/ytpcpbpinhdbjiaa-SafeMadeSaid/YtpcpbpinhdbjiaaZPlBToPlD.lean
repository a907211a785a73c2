/- Appending rows within a region that draws its order; the variables that are needed behind all, as a plain list. No condition but bounds. · The variables that are needed behind all, as plain lists. No condition. -/
import Derived.Test.YtpcpbpinhdbjiaaZFlHToFlJ
import Derived.Test.YtpcpbpinhdbjiaaZNdAToNdC
import Derived.Deep.RegionHeld3
import Derived.Test.YtpcpbpinhdbjiaaZFlD
namespace Go.Proofs.Ytpcpbpinhdbjiaa
set_option linter.unusedVariables false
set_option linter.unusedSimpArgs false
set_option maxRecDepth 100000
open Go.RowKit

/-- append(row, src) as a step of a region that draws: the row the call's own, src any row of numbers -/
theorem stepR {w : World} {ops : Array Oper} {o : Oper} {a : Act} {K : Act → World → Prop} {Q : Exit → Act → World → Prop} {E : Prop} (hgd : o.guard = none) (s x : Operand) (t : TypeId) (ht : Try.prog.underlying t = some (.slice 3))
    (hop : o.op = .call { callee := .builtin .append, args := #[s, x], argTypes := #[t, t] })
    (B B' : Nat) (v : Value) (xs : List Int) (A : Option Addr) (n c : Nat) (ys : List Int) (hs : a.eval s = v) (hx : a.eval x = .slice A n c) (hown : Own w B v xs) (hr : IRow w B' A n c ys) (hB : B ≤ w.heap.size) (hl : xs.length ≤ 1000000000) (hn : n ≤ 1000000)
    (hK : ∀ v' w', Own w' B v' (xs ++ ys) → Only [v.ownBlock] w w' → (v'.ownBlock = v.ownBlock ∨ ∃ k, v'.ownBlock = some k ∧ w.heap.size ≤ k) → K (a.put o.dst v') w') :
    if Region.wanted o (yielded ops a.tmps) = true then Oper.wp Try.prog o a w K Q else E := by
  have hw : Region.wanted o (yielded ops a.tmps) = true := by simp [Region.wanted, hgd]
  rw [if_pos hw]
  obtain ⟨i0, hi, hz0, hz1, hz2⟩ := info_parts Try.info3
  cases A with
  | none =>
    have hc : c = 0 := hr.2.2.2.1 rfl
    have hn0 : n = 0 := by have := hr.2.1; omega
    subst hc hn0
    have hy : ys = [] := List.length_eq_zero_iff.1 hr.1
    subst hy
    have hrun := run_append_owned_none (P := Try.prog) (w := w) B t o.type 3 i0 1 ht hi v xs.length (xs.map (Value.int .i64)) hown
    unfold Oper.wp
    simp [execOp, hop, resolve, invoke, builtin, hs, hx, hrun, Result.andThen]
    exact hK v w (by rw [List.append_nil]; exact hown) (Only.refl _ _) (.inl rfl)
  | some ad =>
    obtain ⟨v', w', hr', h2, h3, h4, h5⟩ := run_append_own_at (P := Try.prog) w B t o.type 3 i0 (.int .i64 0) 1 8 ht hi hz0 hz1 hz2 rfl (by decide) v xs.length (xs.map (Value.int .i64)) hown ad n c (ys.map (Value.int .i64)) (by rw [List.length_map, hr.1, Nat.mul_one]) (fun j u hu => by
      rw [List.getElem?_map] at hu
      obtain ⟨y, hy, rfl⟩ := Option.map_eq_some_iff.1 hu
      have hj : j < n := by rw [← hr.1]; exact (List.getElem?_eq_some_iff.1 hy).1
      obtain ⟨b, off, e, _, hc⟩ := hr.at_ hj
      injection e with e
      subst e
      rw [Go.WideShapes.add_plain, hc]
      congr 2
      simp [List.getD, hy]) (fun u hu => by
      rw [List.mem_map] at hu
      obtain ⟨y, _, rfl⟩ := hu
      rfl) (by unfold maxLen; omega) (by omega) hB
    unfold Oper.wp execOp
    simp only [hop, resolve, invoke, builtin, Sem.run_bind, Sem.run_pure, Result.andThen_ok, List.map_toArray, List.map_cons, List.map_nil, hs, hx, hr']
    refine hK v' w' ?_ (Only.of_grown h3 (Or.inl (by simp))) ?_
    · unfold Own; simpa [hr.1] using h2
    · rcases h5 with h | h
      · exact Or.inl h
      · exact Or.inr ⟨_, h, Nat.le_refl _⟩
/-- a new row of two numbers, of one -/
theorem irow2 (w : World) (x y : Int) (T : TypeId) : IRow (w.alloc (.cells #[.int .i64 x, .int .i64 y] T)) (w.heap.size + 1) (some ⟨w.heap.size, 0, none⟩) 2 2 [x, y] :=
  ⟨rfl, Nat.le_refl _, by unfold maxLen; omega, (fun h => by cases h), w.heap.size, 0, .inl rfl, fun i hi => ⟨Nat.lt_succ_self _, by
    rw [Nat.zero_add, cell_of_row _ w.heap.size i #[.int .i64 x, .int .i64 y] T (0, 0) (heap_alloc_new w _)]
    match i, hi with
    | 0, _ => rfl
    | 1, _ => rfl⟩⟩
theorem irow1 (w : World) (x : Int) (T : TypeId) : IRow (w.alloc (.cells #[.int .i64 x] T)) (w.heap.size + 1) (some ⟨w.heap.size, 0, none⟩) 1 1 [x] :=
  ⟨rfl, Nat.le_refl _, by unfold maxLen; omega, (fun h => by cases h), w.heap.size, 0, .inl rfl, fun i hi => ⟨Nat.lt_succ_self _, by
    rw [Nat.zero_add, cell_of_row _ w.heap.size i #[.int .i64 x] T (0, 0) (heap_alloc_new w _)]
    match i, hi with
    | 0, _ => rfl⟩⟩
theorem irow2h (w : World) {H : Nat} (hH : w.heap.size = H) (x y : Int) (T : TypeId) : IRow (w.alloc (.cells #[.int .i64 x, .int .i64 y] T)) (H + 1) (some ⟨H, 0, none⟩) 2 2 [x, y] := by subst hH; exact irow2 w x y T
theorem Own.grow1 {w : World} {B : Nat} {v : Value} {xs : List Int} (h : Own w B v xs) (o : Obj) : Own (w.alloc o) B v xs := h.below ((Below.refl _ _).alloc (Nat.le_refl _) o) (Nat.le_refl _)
theorem Own.drew {w : World} {B : Nat} {v : Value} {xs : List Int} (h : Own w B v xs) : Own w.drew B v xs := h.below (Below.refl w.heap.size w).drew (Nat.le_refl _)

/-- the variables that are needed behind all -/
def memE (m : MemM) : List Int := [m.next, m.guard] ++ m.resets
def slopesE (l : List SlopeM) : List Int := l.flatMap fun s => [s.guard, s.var]
def contE (c : ContM) : List Int := [c.var, c.guard] ++ c.resets ++ slopesE c.slopes
def copE (o : COpM) : List Int := if o.op = copVar ∨ o.op = copSel then [o.args.getD 0 0] else []
def copsE (l : List COpM) : List Int := l.flatMap copE
def crossE (c : CrossM) : List Int := [c.guard] ++ copsE c.ops
def outsE (f : FlatM) : List Int := f.outs ++ f.again
def memsE (f : FlatM) (k : Nat) : List Int := (f.mems.take k).flatMap memE
def contsE (f : FlatM) (k : Nat) : List Int := (f.conts.take k).flatMap contE
def crosE (f : FlatM) (k : Nat) : List Int := (f.cross.take k).flatMap crossE
def endL (f : FlatM) : List Int := outsE f ++ memsE f f.mems.length ++ contsE f f.conts.length ++ crosE f f.cross.length
theorem flat_succ {α : Type} {g : α → List Int} {l : List α} {k : Nat} {x : α} (hx : l[k]? = some x) : (l.take (k + 1)).flatMap g = (l.take k).flatMap g ++ g x := by
  rw [List.take_add_one, hx]; simp
theorem flat_len {α : Type} {g : α → List Int} (M : Nat) : ∀ (l : List α), (∀ (i : Nat) (x : α), l[i]? = some x → (g x).length ≤ M) → (l.flatMap g).length ≤ l.length * M
  | [], _ => by simp
  | x :: l, h => by
    have h1 := h 0 x rfl
    have h2 := flat_len M l (fun i y hy => h (i + 1) y (by simpa using hy))
    simp only [List.flatMap_cons, List.length_append, List.length_cons]
    rw [Nat.add_mul]; omega
theorem flat_len_take {α : Type} {g : α → List Int} (M k : Nat) (l : List α) (h : ∀ (i : Nat) (x : α), l[i]? = some x → (g x).length ≤ M) : ((l.take k).flatMap g).length ≤ l.length * M := by
  have := flat_len (g := g) M (l.take k) (fun i x hx => h i x (by
    rw [List.getElem?_take] at hx
    split at hx
    · exact hx
    · cases hx))
  exact Nat.le_trans this (Nat.mul_le_mul_right _ (by simp; omega))

end Go.Proofs.Ytpcpbpinhdbjiaa

namespace Go.Proofs.Ytpcpbpinhdbjiaa
set_option linter.unusedVariables false
set_option linter.unusedSimpArgs false
set_option maxRecDepth 100000
open Go.RowKit

theorem asksB_mem {f : FlatM} : ∀ (l : List COpM) (i k : Nat) (o : COpM), l[k]? = some o → asksB f i l = true → askB f (i + k) o = true := by
  intro l
  induction l with
  | nil => intro i k o h; simp at h
  | cons a l ih =>
    intro i k o h ha
    unfold asksB at ha
    rw [Bool.and_eq_true] at ha
    cases k with
    | zero => simp at h; subst h; exact ha.1
    | succ k => have := ih (i + 1) k o (by simpa using h) ha.2; rwa [show i + 1 + k = i + (k + 1) by omega] at this
theorem goodB_parts {f : FlatM} (hg : goodB f = true) : (∀ x ∈ f.outs, plB x f.names.length = true) ∧ (∀ x ∈ f.again, plB x f.names.length = true) ∧ (∀ m ∈ f.mems, memB f m = true) ∧ (∀ c ∈ f.conts, contB f c = true) ∧ (∀ c ∈ f.cross, crossB f c = true) := by
  unfold goodB at hg
  rw [Bool.and_eq_true, Bool.and_eq_true, Bool.and_eq_true] at hg
  obtain ⟨⟨⟨h1, h2⟩, h3⟩, h4⟩ := hg
  unfold keptB at h3
  rw [Bool.and_eq_true, Bool.and_eq_true, Bool.and_eq_true] at h3
  obtain ⟨⟨⟨k1, k2⟩, k3⟩, k4⟩ := h3
  exact ⟨List.all_eq_true.1 k1, List.all_eq_true.1 k2, List.all_eq_true.1 k3, List.all_eq_true.1 k4, List.all_eq_true.1 h4⟩
/-- an operation of a crossing of a good program that asks a variable has one -/
theorem good_cop {f : FlatM} (hg : goodB f = true) {i j : Nat} {x : CrossM} {y : COpM} (hx : f.cross[i]? = some x) (hy : x.ops[j]? = some y) (ho : y.op = copVar ∨ y.op = copSel) : 0 < y.args.length ∧ plB (y.args.getD 0 0) f.names.length = true := by
  have h1 := (goodB_parts hg).2.2.2.2 x (List.mem_of_getElem? hx)
  unfold crossB at h1
  rw [Bool.and_eq_true, Bool.and_eq_true] at h1
  have h2 := asksB_mem x.ops 0 j y hy h1.2.2
  unfold askB askL at h2
  have e1 : copVar ≠ copCont := by decide
  rcases ho with h | h
  · rw [if_pos h, Bool.and_eq_true] at h2
    have hl : y.args.length = 1 := by simpa using h2.1
    refine ⟨by omega, ?_⟩
    have := List.all_eq_true.1 h2.2 (y.args.getD 0 0) (by simp [hl])
    exact this
  · rw [h] at h2
    have h2' : (y.args.length == 3 && (wiB (y.args.take 1) f.names.length && wiB (y.args.drop 1) (0 + j))) = true := h2
    rw [Bool.and_eq_true, Bool.and_eq_true] at h2'
    have hl : y.args.length = 3 := by simpa using h2'.1
    refine ⟨by omega, ?_⟩
    refine List.all_eq_true.1 h2'.2.1 (y.args.getD 0 0) ?_
    match hargs : y.args, hl with
    | a :: l, _ => simp
theorem guB_lt {g : Int} {n : Nat} (h : guB g n = true) : g < (n : Int) := by simpa [guB] using h
/-- all that is needed behind all is below the number of variables -/
theorem endL_lt {f : FlatM} (hg : goodB f = true) : ∀ x ∈ endL f, x < (f.names.length : Int) := by
  obtain ⟨p1, p2, p3, p4, p5⟩ := goodB_parts hg
  have wi : ∀ {l : List Int}, wiB l f.names.length = true → ∀ x ∈ l, x < (f.names.length : Int) := fun h x hx => (plB_yes (List.all_eq_true.1 h x hx)).2
  intro x hx
  unfold endL outsE memsE contsE crosE at hx
  rw [List.mem_append, List.mem_append, List.mem_append, List.mem_append] at hx
  rcases hx with (((hx | hx) | hx) | hx) | hx
  · exact (plB_yes (p1 x hx)).2
  · exact (plB_yes (p2 x hx)).2
  · obtain ⟨m, hm, hx⟩ := List.mem_flatMap.1 hx
    have h := p3 m (List.mem_of_mem_take hm)
    unfold memB at h
    rw [Bool.and_eq_true, Bool.and_eq_true] at h
    unfold memE at hx
    rw [List.mem_append] at hx
    rcases hx with hx | hx
    · simp at hx
      rcases hx with rfl | rfl
      · exact (plB_yes h.1.1).2
      · exact guB_lt h.1.2
    · exact wi h.2 x hx
  · obtain ⟨c, hc, hx⟩ := List.mem_flatMap.1 hx
    have h := p4 c (List.mem_of_mem_take hc)
    unfold contB at h
    rw [Bool.and_eq_true, Bool.and_eq_true, Bool.and_eq_true] at h
    unfold contE at hx
    rw [List.mem_append, List.mem_append] at hx
    rcases hx with (hx | hx) | hx
    · simp at hx
      rcases hx with rfl | rfl
      · exact (plB_yes h.1.1.1).2
      · exact guB_lt h.1.1.2
    · exact wi h.1.2 x hx
    · obtain ⟨s, hs, hx⟩ := List.mem_flatMap.1 hx
      have h2 := List.all_eq_true.1 h.2 s hs
      unfold slopeB at h2
      rw [Bool.and_eq_true] at h2
      simp at hx
      rcases hx with rfl | rfl
      · exact guB_lt h2.1
      · exact (plB_yes h2.2).2
  · obtain ⟨c, hc, hx⟩ := List.mem_flatMap.1 hx
    obtain ⟨i, hi⟩ := List.mem_iff_getElem?.1 (List.mem_of_mem_take hc)
    have h := p5 c (List.mem_of_mem_take hc)
    unfold crossB at h
    rw [Bool.and_eq_true] at h
    unfold crossE at hx
    rw [List.mem_append] at hx
    rcases hx with hx | hx
    · simp at hx; subst hx; exact guB_lt h.1
    · obtain ⟨o, ho, hx⟩ := List.mem_flatMap.1 hx
      obtain ⟨j, hj⟩ := List.mem_iff_getElem?.1 ho
      unfold copE at hx
      by_cases hop : o.op = copVar ∨ o.op = copSel
      · rw [if_pos hop] at hx
        simp at hx
        have := (good_cop hg hi hj hop).2
        rw [show x = o.args.getD 0 0 by simpa using hx]
        exact (plB_yes this).2
      · rw [if_neg hop] at hx; simp at hx
/-- the marks of those that are needed behind all -/
def endB (f : FlatM) : List Bool := (List.range f.names.length).map fun (v : Nat) => decide ((v : Int) ∈ endL f)
def EMarks (N : Nat) (l : List Int) (k : Nat) (bs : List Bool) : Prop := bs.length = N ∧ ∀ j, j < N → bs.getD j false = decide ((j : Int) ∈ l.take k)
theorem EMarks.start (N : Nat) (l : List Int) : EMarks N l 0 (List.replicate N false) := ⟨by simp, fun j hj => by simp [hj]⟩
theorem EMarks.step {N : Nat} {l : List Int} {k : Nat} {x : Int} {bs : List Bool} (h : EMarks N l k bs) (hx : l[k]? = some x) (j : Nat) (e : x = (j : Int)) : EMarks N l (k + 1) (bs.set j true) := by
  refine ⟨by rw [List.length_set]; exact h.1, fun i hi => ?_⟩
  rw [List.take_add_one, hx]
  by_cases hij : i = j
  · subst hij
    have : (bs.set i true).getD i false = true := by simp [h.1, hi]
    rw [this, eq_comm, decide_eq_true_eq, e]; simp
  · have : (bs.set j true).getD i false = bs.getD i false := by simp [List.getElem?_set, Ne.symm hij]
    rw [this, h.2 i hi, decide_eq_decide, List.mem_append]
    constructor
    · exact .inl
    · rintro (h | h)
      · exact h
      · simp at h; omega
theorem EMarks.skip {N : Nat} {l : List Int} {k : Nat} {x : Int} {bs : List Bool} (h : EMarks N l k bs) (hx : l[k]? = some x) (e : x < 0) : EMarks N l (k + 1) bs := by
  refine ⟨h.1, fun i hi => ?_⟩
  rw [List.take_add_one, hx, h.2 i hi, decide_eq_decide, List.mem_append]
  constructor
  · exact .inl
  · rintro (h | h)
    · exact h
    · simp at h; omega
theorem EMarks.done {f : FlatM} {n : Nat} {bs : List Bool} (h : EMarks f.names.length (endL f) n bs) (hn : (endL f).length = n) : bs = endB f := by
  apply List.ext_getElem?
  intro i
  unfold endB
  by_cases hi : i < f.names.length
  · have := h.2 i hi
    rw [List.take_of_length_le (by omega)] at this
    have hb : i < bs.length := by rw [h.1]; exact hi
    rw [List.getElem?_eq_getElem hb, List.getElem?_map, List.getElem?_range hi]
    simp [List.getD, List.getElem?_eq_getElem hb] at this
    simp [this]
  · rw [List.getElem?_eq_none (by rw [h.1]; omega), List.getElem?_eq_none (by simp; omega)]
/-- what the answer End tells -/
def EndPost (f : FlatM) (w : World) (e : Ending) (w' : World) : Prop :=
  ∃ g, e = .returned (.slice (some ⟨g, 0, none⟩) f.names.length f.names.length) ∧ BMem w' g (endB f) ∧ w.heap.size ≤ g ∧ Below w.heap.size w w'

end Go.Proofs.Ytpcpbpinhdbjiaa
