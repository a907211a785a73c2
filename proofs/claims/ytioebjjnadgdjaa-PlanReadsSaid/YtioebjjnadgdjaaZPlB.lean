/- Appending rows within a region that draws its order; the variables that are needed behind all, as a plain list. No condition but bounds. -/
import Derived.Test.YtioebjjnadgdjaaZFlHToFlJ
import Derived.Test.YtioebjjnadgdjaaZNdAToNdC
import Derived.Deep.RegionHeld3
namespace Go.Proofs.Ytioebjjnadgdjaa
set_option linter.unusedVariables false
set_option linter.unusedSimpArgs false
set_option maxRecDepth 100000
open Go.RowKit

/-- append(row, src) as a step of a region that draws: the row the call's own, src any row of numbers -/
theorem stepR {w : World} {ops : Array Oper} {o : Oper} {a : Act} {K : Act → World → Prop} {Q : Exit → Act → World → Prop} {E : Prop} (hgd : o.guard = none) (s x : Operand) (t : TypeId) (ht : Try.prog.underlying t = some (.slice 3))
    (hop : o.op = .call { callee := .builtin .append, args := #[s, x], argTypes := #[t, t] })
    (B B' : Nat) (v : Value) (xs : List Int) (A : Option Addr) (n c : Nat) (ys : List Int) (hs : a.eval s = v) (hx : a.eval x = .slice A n c) (hown : Own w B v xs) (hr : IRow w B' A n c ys) (hB : B ≤ w.heap.size) (hl : xs.length ≤ 1000000000) (hn : n ≤ 1000000)
    (hK : ∀ v' w', Own w' B v' (xs ++ ys) → Only [v.ownBlock] w w' → (v'.ownBlock = v.ownBlock ∨ ∃ k, v'.ownBlock = some k ∧ w.heap.size ≤ k) → K (a.put o.dst v') w') :
    if Region.wanted o (yielded ops a.tmps) = true then Oper.wp Try.prog o a w K Q else E := by
  have hw : Region.wanted o (yielded ops a.tmps) = true := by simp [Region.wanted, hgd]
  rw [if_pos hw]
  obtain ⟨i0, hi, hz0, hz1, hz2⟩ := info_parts Try.info3
  cases A with
  | none =>
    have hc : c = 0 := hr.2.2.2.1 rfl
    have hn0 : n = 0 := by have := hr.2.1; omega
    subst hc hn0
    have hy : ys = [] := List.length_eq_zero_iff.1 hr.1
    subst hy
    have hrun := run_append_owned_none (P := Try.prog) (w := w) B t o.type 3 i0 1 ht hi v xs.length (xs.map (Value.int .i64)) hown
    unfold Oper.wp
    simp [execOp, hop, resolve, invoke, builtin, hs, hx, hrun, Result.andThen]
    exact hK v w (by rw [List.append_nil]; exact hown) (Only.refl _ _) (.inl rfl)
  | some ad =>
    obtain ⟨v', w', hr', h2, h3, h4, h5⟩ := run_append_own_at (P := Try.prog) w B t o.type 3 i0 (.int .i64 0) 1 8 ht hi hz0 hz1 hz2 rfl (by decide) v xs.length (xs.map (Value.int .i64)) hown ad n c (ys.map (Value.int .i64)) (by rw [List.length_map, hr.1, Nat.mul_one]) (fun j u hu => by
      rw [List.getElem?_map] at hu
      obtain ⟨y, hy, rfl⟩ := Option.map_eq_some_iff.1 hu
      have hj : j < n := by rw [← hr.1]; exact (List.getElem?_eq_some_iff.1 hy).1
      obtain ⟨b, off, e, _, hc⟩ := hr.at_ hj
      injection e with e
      subst e
      rw [Go.WideShapes.add_plain, hc]
      congr 2
      simp [List.getD, hy]) (fun u hu => by
      rw [List.mem_map] at hu
      obtain ⟨y, _, rfl⟩ := hu
      rfl) (by unfold maxLen; omega) (by omega) hB
    unfold Oper.wp execOp
    simp only [hop, resolve, invoke, builtin, Sem.run_bind, Sem.run_pure, Result.andThen_ok, List.map_toArray, List.map_cons, List.map_nil, hs, hx, hr']
    refine hK v' w' ?_ (Only.of_grown h3 (Or.inl (by simp))) ?_
    · unfold Own; simpa [hr.1] using h2
    · rcases h5 with h | h
      · exact Or.inl h
      · exact Or.inr ⟨_, h, Nat.le_refl _⟩
/-- a new row of two numbers, of one -/
theorem irow2 (w : World) (x y : Int) (T : TypeId) : IRow (w.alloc (.cells #[.int .i64 x, .int .i64 y] T)) (w.heap.size + 1) (some ⟨w.heap.size, 0, none⟩) 2 2 [x, y] :=
  ⟨rfl, Nat.le_refl _, by unfold maxLen; omega, (fun h => by cases h), w.heap.size, 0, .inl rfl, fun i hi => ⟨Nat.lt_succ_self _, by
    rw [Nat.zero_add, cell_of_row _ w.heap.size i #[.int .i64 x, .int .i64 y] T (0, 0) (heap_alloc_new w _)]
    match i, hi with
    | 0, _ => rfl
    | 1, _ => rfl⟩⟩
theorem irow1 (w : World) (x : Int) (T : TypeId) : IRow (w.alloc (.cells #[.int .i64 x] T)) (w.heap.size + 1) (some ⟨w.heap.size, 0, none⟩) 1 1 [x] :=
  ⟨rfl, Nat.le_refl _, by unfold maxLen; omega, (fun h => by cases h), w.heap.size, 0, .inl rfl, fun i hi => ⟨Nat.lt_succ_self _, by
    rw [Nat.zero_add, cell_of_row _ w.heap.size i #[.int .i64 x] T (0, 0) (heap_alloc_new w _)]
    match i, hi with
    | 0, _ => rfl⟩⟩
theorem irow2h (w : World) {H : Nat} (hH : w.heap.size = H) (x y : Int) (T : TypeId) : IRow (w.alloc (.cells #[.int .i64 x, .int .i64 y] T)) (H + 1) (some ⟨H, 0, none⟩) 2 2 [x, y] := by subst hH; exact irow2 w x y T
theorem Own.grow1 {w : World} {B : Nat} {v : Value} {xs : List Int} (h : Own w B v xs) (o : Obj) : Own (w.alloc o) B v xs := h.below ((Below.refl _ _).alloc (Nat.le_refl _) o) (Nat.le_refl _)
theorem Own.drew {w : World} {B : Nat} {v : Value} {xs : List Int} (h : Own w B v xs) : Own w.drew B v xs := h.below (Below.refl w.heap.size w).drew (Nat.le_refl _)

/-- the variables that are needed behind all -/
def memE (m : MemM) : List Int := [m.next, m.guard] ++ m.resets
def slopesE (l : List SlopeM) : List Int := l.flatMap fun s => [s.guard, s.var]
def contE (c : ContM) : List Int := [c.var, c.guard] ++ c.resets ++ slopesE c.slopes
def copE (o : COpM) : List Int := if o.op = copVar ∨ o.op = copSel then [o.args.getD 0 0] else []
def copsE (l : List COpM) : List Int := l.flatMap copE
def crossE (c : CrossM) : List Int := [c.guard] ++ copsE c.ops
def outsE (f : FlatM) : List Int := f.outs ++ f.again
def memsE (f : FlatM) (k : Nat) : List Int := (f.mems.take k).flatMap memE
def contsE (f : FlatM) (k : Nat) : List Int := (f.conts.take k).flatMap contE
def crosE (f : FlatM) (k : Nat) : List Int := (f.cross.take k).flatMap crossE
def endL (f : FlatM) : List Int := outsE f ++ memsE f f.mems.length ++ contsE f f.conts.length ++ crosE f f.cross.length
theorem flat_succ {α : Type} {g : α → List Int} {l : List α} {k : Nat} {x : α} (hx : l[k]? = some x) : (l.take (k + 1)).flatMap g = (l.take k).flatMap g ++ g x := by
  rw [List.take_add_one, hx]; simp
theorem flat_len {α : Type} {g : α → List Int} (M : Nat) : ∀ (l : List α), (∀ (i : Nat) (x : α), l[i]? = some x → (g x).length ≤ M) → (l.flatMap g).length ≤ l.length * M
  | [], _ => by simp
  | x :: l, h => by
    have h1 := h 0 x rfl
    have h2 := flat_len M l (fun i y hy => h (i + 1) y (by simpa using hy))
    simp only [List.flatMap_cons, List.length_append, List.length_cons]
    rw [Nat.add_mul]; omega
theorem flat_len_take {α : Type} {g : α → List Int} (M k : Nat) (l : List α) (h : ∀ (i : Nat) (x : α), l[i]? = some x → (g x).length ≤ M) : ((l.take k).flatMap g).length ≤ l.length * M := by
  have := flat_len (g := g) M (l.take k) (fun i x hx => h i x (by
    rw [List.getElem?_take] at hx
    split at hx
    · exact hx
    · cases hx))
  exact Nat.le_trans this (Nat.mul_le_mul_right _ (by simp; omega))

end Go.Proofs.Ytioebjjnadgdjaa
