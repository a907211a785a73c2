/- What it says that a slice of numbers, and a slice of such slices, lie in memory below a block; what a call leaves alone. No condition. -/
import Derived.Test.YtpcpbpinhdbjiaaRows
import Derived.WalkKit
import Derived.Lib.Hide
import Derived.WalkSpells
import Derived.WalkLawsBesides
import Derived.Laws.CopyOwn
import Derived.Maps.AppendAt
import Derived.Laws.OwnMore
import Derived.BigRegion
import Derived.Deep.QuietTactic
import Derived.BigQuiet
import Derived.Outline
namespace Go.Proofs.Ytpcpbpinhdbjiaa
set_option linter.unusedVariables false
set_option linter.unusedSimpArgs false
set_option maxRecDepth 100000
open Go.RowKit


/-- A slice (a, n, c) reads as the numbers xs, and lies below block B. -/
def IRow (w : World) (B : Nat) (a : Option Addr) (n c : Nat) (xs : List Int) : Prop :=
  xs.length = n ∧ n ≤ c ∧ c ≤ maxLen ∧ (a = none → c = 0) ∧ ∃ b off, (a = some ⟨b, off, none⟩ ∨ n ≤ 0) ∧ ∀ i, i < n → b < B ∧ w.cell? ⟨b, off + i, none⟩ = some (.int .i64 (xs.getD i 0))

/-- A slice (a, n, c) reads as the rows G, and all of it lies below block B. -/
def GRow (w : World) (B : Nat) (a : Option Addr) (n c : Nat) (G : List (List Int)) : Prop :=
  G.length = n ∧ n ≤ c ∧ c ≤ maxLen ∧ ∃ b off, (a = some ⟨b, off, none⟩ ∨ n ≤ 0) ∧ ∀ i, i < n → b < B ∧ ∃ A L C, w.cell? ⟨b, off + i, none⟩ = some (.slice A L C) ∧ IRow w B A L C (G.getD i [])

theorem IRow.keep {w w' : World} {B : Nat} {a : Option Addr} {n c : Nat} {xs : List Int} (h : IRow w B a n c xs) (hk : ∀ p : Addr, p.block < B → w'.cell? p = w.cell? p) : IRow w' B a n c xs := by
  obtain ⟨h1, h2, h3, hn, b, off, h6, h7⟩ := h
  exact ⟨h1, h2, h3, hn, b, off, h6, fun i hi => ⟨(h7 i hi).1, (hk ⟨b, off + i, none⟩ (h7 i hi).1).trans (h7 i hi).2⟩⟩

theorem IRow.more {w : World} {B B' : Nat} {a : Option Addr} {n c : Nat} {xs : List Int} (h : IRow w B a n c xs) (hB : B ≤ B') : IRow w B' a n c xs := by
  obtain ⟨h1, h2, h3, hn, b, off, h6, h7⟩ := h
  exact ⟨h1, h2, h3, hn, b, off, h6, fun i hi => ⟨Nat.lt_of_lt_of_le (h7 i hi).1 hB, (h7 i hi).2⟩⟩

theorem IRow.at_ {w : World} {B : Nat} {a : Option Addr} {n c : Nat} {xs : List Int} (h : IRow w B a n c xs) {i : Nat} (hi : i < n) :
    ∃ b off, a = some ⟨b, off, none⟩ ∧ b < B ∧ w.cell? ⟨b, off + i, none⟩ = some (.int .i64 (xs.getD i 0)) := by
  obtain ⟨h1, h2, h3, hn, b, off, h6, h7⟩ := h
  exact ⟨b, off, h6.resolve_right (by omega), h7 i hi⟩

theorem IRow.len_le {w : World} {B : Nat} {a : Option Addr} {n c : Nat} {xs : List Int} (h : IRow w B a n c xs) : n ≤ maxLen := Nat.le_trans h.2.1 h.2.2.1

theorem IRow.nil (w : World) (B : Nat) : IRow w B none 0 0 [] :=
  ⟨rfl, Nat.le_refl _, Nat.zero_le _, (fun _ => rfl), 0, 0, Or.inr (Nat.le_refl _), fun i hi => by omega⟩

theorem GRow.keep {w w' : World} {B : Nat} {a : Option Addr} {n c : Nat} {G : List (List Int)} (h : GRow w B a n c G) (hk : ∀ p : Addr, p.block < B → w'.cell? p = w.cell? p) : GRow w' B a n c G := by
  obtain ⟨h1, h2, h3, b, off, h6, h7⟩ := h
  refine ⟨h1, h2, h3, b, off, h6, fun i hi => ⟨(h7 i hi).1, ?_⟩⟩
  obtain ⟨A, L, C, hc, hr⟩ := (h7 i hi).2
  exact ⟨A, L, C, (hk ⟨b, off + i, none⟩ (h7 i hi).1).trans hc, hr.keep hk⟩

theorem GRow.more {w : World} {B B' : Nat} {a : Option Addr} {n c : Nat} {G : List (List Int)} (h : GRow w B a n c G) (hB : B ≤ B') : GRow w B' a n c G := by
  obtain ⟨h1, h2, h3, b, off, h6, h7⟩ := h
  refine ⟨h1, h2, h3, b, off, h6, fun i hi => ⟨Nat.lt_of_lt_of_le (h7 i hi).1 hB, ?_⟩⟩
  obtain ⟨A, L, C, hc, hr⟩ := (h7 i hi).2
  exact ⟨A, L, C, hc, hr.more hB⟩

theorem GRow.at_ {w : World} {B : Nat} {a : Option Addr} {n c : Nat} {G : List (List Int)} (h : GRow w B a n c G) {i : Nat} (hi : i < n) :
    ∃ b off A L C, a = some ⟨b, off, none⟩ ∧ b < B ∧ w.cell? ⟨b, off + i, none⟩ = some (.slice A L C) ∧ IRow w B A L C (G.getD i []) := by
  obtain ⟨h1, h2, h3, b, off, h6, h7⟩ := h
  obtain ⟨hb, A, L, C, hc, hr⟩ := h7 i hi
  exact ⟨b, off, A, L, C, h6.resolve_right (by omega), hb, hc, hr⟩

theorem GRow.len_le {w : World} {B : Nat} {a : Option Addr} {n c : Nat} {G : List (List Int)} (h : GRow w B a n c G) : n ≤ maxLen := Nat.le_trans h.2.1 h.2.2.1

theorem IRow.below {w w' : World} {B : Nat} {a : Option Addr} {n c : Nat} {xs : List Int} (h : IRow w B a n c xs) (hb : Below B w w') : IRow w' B a n c xs := h.keep fun _ hp => hb.cell hp
theorem GRow.below {w w' : World} {B : Nat} {a : Option Addr} {n c : Nat} {G : List (List Int)} (h : GRow w B a n c G) (hb : Below B w w') : GRow w' B a n c G := h.keep fun _ hp => hb.cell hp

/-- What lay in w lies in w', but for the blocks that S names. -/
structure Only (S : List (Option Nat)) (w w' : World) : Prop where
  os : w'.os = w.os
  tape : w'.tape = w.tape
  output : w'.output = w.output
  size : w.heap.size ≤ w'.heap.size
  block : ∀ k, k < w.heap.size → some k ∉ S → w'.heap[k]? = w.heap[k]?

theorem Only.refl (S : List (Option Nat)) (w : World) : Only S w w := ⟨rfl, rfl, rfl, Nat.le_refl _, fun _ _ _ => rfl⟩
theorem Only.trans {S : List (Option Nat)} {a b c : World} (h : Only S a b) (k : Only S b c) : Only S a c :=
  ⟨k.os.trans h.os, k.tape.trans h.tape, k.output.trans h.output, Nat.le_trans h.size k.size, fun i hi hne => (k.block i (Nat.lt_of_lt_of_le hi h.size) hne).trans (h.block i hi hne)⟩
/-- The second step may change what is new to the first, too. -/
theorem Only.andThen {S S' : List (Option Nat)} {a b c : World} (h : Only S a b) (k : Only S' b c) (hs : ∀ j, some j ∈ S' → j < a.heap.size → some j ∈ S) : Only S a c :=
  ⟨k.os.trans h.os, k.tape.trans h.tape, k.output.trans h.output, Nat.le_trans h.size k.size, fun i hi hne => (k.block i (Nat.lt_of_lt_of_le hi h.size) (fun e => hne (hs i e hi))).trans (h.block i hi hne)⟩
theorem Only.of_below {S : List (Option Nat)} {a b : World} (h : Below a.heap.size a b) : Only S a b := ⟨h.os, h.tape, h.output, h.size, fun i hi _ => h.block i hi⟩
theorem Only.of_grown {S : List (Option Nat)} {a b : World} {row : Option Nat} (h : a.grownBy b row) (hr : row ∈ S ∨ row = none) : Only S a b :=
  ⟨h.os, h.tape, h.output, h.size, fun i hi hne => h.block i hi (fun e => hr.elim (fun q => hne (e ▸ q)) (fun q => by rw [q] at e; cases e))⟩
theorem Only.below {S : List (Option Nat)} {B : Nat} {a b : World} (h : Only S a b) (hB : B ≤ a.heap.size) (hS : ∀ j, some j ∈ S → B ≤ j) : Below B a b :=
  ⟨h.os, h.tape, h.output, h.size, fun i hi => h.block i (Nat.lt_of_lt_of_le hi hB) (fun e => by have := hS i e; omega)⟩
theorem Only.set {S : List (Option Nat)} {g : Nat} (hg : some g ∈ S) (o : Nat) (w : World) (u : Value) : Only S w (w.setCell ⟨g, o, none⟩ u) :=
  ⟨rfl, rfl, rfl, by simp [World.setCell], fun i hi hne => Below.heap_setCell w _ u i (by rintro rfl; exact hne hg)⟩
theorem Only.alloc {S : List (Option Nat)} {a w : World} (h : Only S a w) (o : Obj) : Only S a (w.alloc o) :=
  h.trans (Only.of_below ((Below.refl _ _).alloc (Nat.le_refl _) o))
theorem Only.drew {S : List (Option Nat)} {a w : World} (h : Only S a w) : Only S a w.drew := ⟨h.os, h.tape, h.output, h.size, h.block⟩
theorem Only.cell {S : List (Option Nat)} {a b : World} (h : Only S a b) {p : Addr} (hp : p.block < a.heap.size) (hS : some p.block ∉ S) : b.cell? p = a.cell? p := World.cell?_of_block (w := a) (h.block p.block hp hS)
theorem Only.frozen {S : List (Option Nat)} {a b : World} (h : Only S a b) {p : Addr} (hp : p.block < a.heap.size) (hS : some p.block ∉ S) : b.frozen? p = a.frozen? p := World.frozen?_of_block (w := a) (h.block p.block hp hS)
theorem Only.weak {S S' : List (Option Nat)} {a b : World} (h : Only S a b) (hs : ∀ j, some j ∈ S → some j ∈ S') : Only S' a b := ⟨h.os, h.tape, h.output, h.size, fun i hi hne => h.block i hi (fun e => hne (hs i e))⟩
theorem Only.keepsBelow {S : List (Option Nat)} {B : Nat} {z a b : World} (hz : Below B z a) (h : Only S a b) (hB : B ≤ a.heap.size) (hS : ∀ j, some j ∈ S → B ≤ j) : Below B z b := hz.trans (h.below hB hS)

/-- Block g holds the numbers xs, all of it, none frozen. -/
def IMem (w : World) (g : Nat) (xs : List Int) : Prop := w.heap[g]? = some (.cells (xs.map (Value.int .i64)).toArray 3 (0, 0))
/-- Block g holds the answers xs. -/
def BMem (w : World) (g : Nat) (xs : List Bool) : Prop := w.heap[g]? = some (.cells (xs.map Value.bool).toArray 4 (0, 0))

section
variable {w w' : World} {g : Nat} {xs : List Int} {bs : List Bool}
theorem IMem.lt (h : IMem w g xs) : g < w.heap.size := (Array.getElem?_eq_some_iff.1 h).1
theorem IMem.cell (h : IMem w g xs) (i : Nat) (hi : i < xs.length) : w.cell? ⟨g, i, none⟩ = some (.int .i64 (xs.getD i 0)) := by
  rw [cell_of_row w g i _ 3 (0, 0) h]; simp [hi]
theorem IMem.free (h : IMem w g xs) (i : Nat) : w.frozen? ⟨g, i, none⟩ = false := frozen_of_row w g i _ 3 h
theorem IMem.set (h : IMem w g xs) (i : Nat) (u : Int) : IMem (w.setCell ⟨g, i, none⟩ (.int .i64 u)) g (xs.set i u) := by
  have := heap_setCell_same w g i _ 3 (.int .i64 u) h
  unfold IMem
  rw [this]
  congr 2
  rw [List.setIfInBounds_toArray, List.map_set]
theorem IMem.keep (h : IMem w g xs) (e : w'.heap[g]? = w.heap[g]?) : IMem w' g xs := by unfold IMem; rw [e]; exact h
theorem IMem.below {B : Nat} (h : IMem w g xs) (hb : Below B w w') (hg : g < B) : IMem w' g xs := h.keep (hb.block g hg)
theorem IMem.only {S : List (Option Nat)} (h : IMem w g xs) (hb : Only S w w') (hg : some g ∉ S) : IMem w' g xs := h.keep (hb.block g h.lt hg)
theorem IMem.alloc (h : IMem w g xs) (o : Obj) : IMem (w.alloc o) g xs := h.keep (Below.heap_alloc w o g h.lt)
theorem IMem.setOther (h : IMem w g xs) {p : Addr} (hp : g ≠ p.block) (u : Value) : IMem (w.setCell p u) g xs := h.keep (Below.heap_setCell w p u g hp)
theorem IMem.irow (h : IMem w g xs) {B c : Nat} (hB : g < B) (hc : xs.length ≤ c) (hm : c ≤ maxLen) : IRow w B (some ⟨g, 0, none⟩) xs.length c xs :=
  ⟨rfl, hc, hm, (fun h => by cases h), g, 0, Or.inl rfl, fun i hi => ⟨hB, by rw [Nat.zero_add]; exact h.cell i hi⟩⟩
theorem BMem.lt (h : BMem w g bs) : g < w.heap.size := (Array.getElem?_eq_some_iff.1 h).1
theorem BMem.cell (h : BMem w g bs) (i : Nat) (hi : i < bs.length) : w.cell? ⟨g, i, none⟩ = some (.bool (bs.getD i false)) := by
  rw [cell_of_row w g i _ 4 (0, 0) h]; simp [hi]
theorem BMem.free (h : BMem w g bs) (i : Nat) : w.frozen? ⟨g, i, none⟩ = false := frozen_of_row w g i _ 4 h
theorem BMem.set (h : BMem w g bs) (i : Nat) (u : Bool) : BMem (w.setCell ⟨g, i, none⟩ (.bool u)) g (bs.set i u) := by
  have := heap_setCell_same w g i _ 4 (.bool u) h
  unfold BMem
  rw [this]
  congr 2
  rw [List.setIfInBounds_toArray, List.map_set]
theorem BMem.keep (h : BMem w g bs) (e : w'.heap[g]? = w.heap[g]?) : BMem w' g bs := by unfold BMem; rw [e]; exact h
theorem BMem.below {B : Nat} (h : BMem w g bs) (hb : Below B w w') (hg : g < B) : BMem w' g bs := h.keep (hb.block g hg)
theorem BMem.only {S : List (Option Nat)} (h : BMem w g bs) (hb : Only S w w') (hg : some g ∉ S) : BMem w' g bs := h.keep (hb.block g h.lt hg)
theorem BMem.alloc (h : BMem w g bs) (o : Obj) : BMem (w.alloc o) g bs := h.keep (Below.heap_alloc w o g h.lt)
theorem BMem.setOther (h : BMem w g bs) {p : Addr} (hp : g ≠ p.block) (u : Value) : BMem (w.setCell p u) g bs := h.keep (Below.heap_setCell w p u g hp)
end

theorem Try.info3 : (Try.prog.info? 3).map (fun i => (i.zero, i.size, i.bytes)) = some (some (.int .i64 0), 1, 8) := by kernel_rfl
theorem Try.info4 : (Try.prog.info? 4).map (fun i => (i.zero, i.size, i.bytes)) = some (some (.bool false), 1, 1) := by kernel_rfl
theorem Try.info23 : (Try.prog.info? 23).map (fun i => (i.zero, i.size, i.bytes)) = some (some (.slice none 0 0), 1, 24) := by kernel_rfl

theorem ret_bool {p q : Bool} (h : p = q) : Ending.returned (.bool p) = .returned (.bool q) := by rw [h]

/-- make([]int, n) -/
theorem makeI {w : World} {ops : Array Oper} {rest : List Oper} {o : Oper} {a : Act} {Q : Exit → Act → World → Prop}
    (hg : o.guard = none) (l : Operand) (hop : o.op = Op.makeSlice 23 l l) (L : Int) (n : Nat) (hl : a.eval l = .int .i64 L) (hL : L = (n : Int)) (hn : n ≤ 1000000000)
    (hK : ∀ w', IMem w' w.heap.size (List.replicate n 0) → Below w.heap.size w w' → wpList Try.prog ops Q rest (a.put o.dst (.slice (some ⟨w.heap.size, 0, none⟩) n n)) w') :
    wpList Try.prog ops Q (o :: rest) a w := by
  refine wpList_plain hg fun K hK' => ?_
  obtain ⟨i, hi, hz0, hz1, hz2⟩ := info_parts Try.info3
  have hr := run_make (P := Try.prog) w 23 3 i (.int .i64 0) Try.underlying23 hi hz0 .i64 .i64 n n (by omega) (Int.le_refl _) (by rw [hz2]; omega) (by omega)
  simp only [Int.toNat_natCast] at hr
  subst hL
  unfold Oper.wp
  simp [execOp, hop, hl, hr, Result.andThen]
  refine hK' _ _ (hK _ ?_ ((Below.refl _ _).alloc (Nat.le_refl _) _))
  unfold IMem
  rw [heap_alloc_new]
  congr 2
  rw [hz1, Nat.mul_one]
  apply Array.ext'
  show (madeCells #[Value.int .i64 0] n).toList = _
  rw [toList_madeCells_one]
  simp

/-- make([]bool, n) -/
theorem makeB {w : World} {ops : Array Oper} {rest : List Oper} {o : Oper} {a : Act} {Q : Exit → Act → World → Prop}
    (hg : o.guard = none) (l : Operand) (hop : o.op = Op.makeSlice 78 l l) (L : Int) (n : Nat) (hl : a.eval l = .int .i64 L) (hL : L = (n : Int)) (hn : n ≤ 1000000000)
    (hK : ∀ w', BMem w' w.heap.size (List.replicate n false) → Below w.heap.size w w' → wpList Try.prog ops Q rest (a.put o.dst (.slice (some ⟨w.heap.size, 0, none⟩) n n)) w') :
    wpList Try.prog ops Q (o :: rest) a w := by
  refine wpList_plain hg fun K hK' => ?_
  obtain ⟨i, hi, hz0, hz1, hz2⟩ := info_parts Try.info4
  have hr := run_make (P := Try.prog) w 78 4 i (.bool false) Try.underlying78 hi hz0 .i64 .i64 n n (by omega) (Int.le_refl _) (by rw [hz2]; omega) (by omega)
  simp only [Int.toNat_natCast] at hr
  subst hL
  unfold Oper.wp
  simp [execOp, hop, hl, hr, Result.andThen]
  refine hK' _ _ (hK _ ?_ ((Below.refl _ _).alloc (Nat.le_refl _) _))
  unfold BMem
  rw [heap_alloc_new]
  congr 2
  rw [hz1, Nat.mul_one]
  apply Array.ext'
  show (madeCells #[Value.bool false] n).toList = _
  rw [toList_madeCells_one]
  simp

/-- a row of numbers that the call owns -/
def Own (w : World) (B : Nat) (v : Value) (xs : List Int) : Prop := w.ownsRow B 3 1 v xs.length (xs.map (Value.int .i64))

theorem Own.len {w : World} {B : Nat} {v : Value} {xs : List Int} (h : Own w B v xs) : ∃ a c, v = .slice a xs.length c := by
  rcases h.2 with ⟨rfl, h0⟩ | ⟨g, cap, cur, rfl, _⟩
  · exact ⟨none, 0, by rw [h0]⟩
  · exact ⟨_, cap, rfl⟩

theorem Own.irow {w : World} {B : Nat} {v : Value} {xs : List Int} (h : Own w B v xs) : ∃ a c, v = .slice a xs.length c ∧ IRow w w.heap.size a xs.length c xs := by
  rcases h.2 with ⟨rfl, h0⟩ | ⟨g, cap, cur, rfl, _, hg, hnc, hcm, _⟩
  · refine ⟨none, 0, by rw [h0], rfl, by omega, Nat.zero_le _, (fun _ => rfl), 0, 0, Or.inr (by omega), fun i hi => by omega⟩
  · refine ⟨_, cap, rfl, rfl, hnc, hcm, (fun h => by cases h), g, 0, Or.inl rfl, fun i hi => ⟨(Array.getElem?_eq_some_iff.1 hg).1, ?_⟩⟩
    have := h.cells (g := g) rfl i (.int .i64 (xs.getD i 0)) (by simp [hi])
    rw [Nat.zero_add]
    have e : (⟨g, 0, none⟩ : Addr).add i = ⟨g, i, none⟩ := by unfold Addr.add; split <;> simp_all
    rw [e] at this
    exact this

theorem Own.keep {w w' : World} {B : Nat} {v : Value} {xs : List Int} (h : Own w B v xs) (hk : ∀ k, v.ownBlock = some k → w'.heap[k]? = w.heap[k]?) : Own w' B v xs := by
  refine ⟨h.1, ?_⟩
  rcases h.2 with h0 | ⟨g, cap, cur, rfl, hb, hg, hr⟩
  · exact Or.inl h0
  · exact Or.inr ⟨g, cap, cur, rfl, hb, (hk g rfl).trans hg, hr⟩

theorem Own.lt {w : World} {B : Nat} {v : Value} {xs : List Int} (h : Own w B v xs) {k : Nat} (hk : v.ownBlock = some k) : B ≤ k ∧ k < w.heap.size := World.ownsRow.lt h k hk
theorem Own.only {S : List (Option Nat)} {w w' : World} {B : Nat} {v : Value} {xs : List Int} (h : Own w B v xs) (hb : Only S w w') (hv : ∀ k, v.ownBlock = some k → some k ∉ S) : Own w' B v xs :=
  h.keep fun k hk => hb.block k (h.lt hk).2 (hv k hk)
theorem Own.below {w w' : World} {B B' : Nat} {v : Value} {xs : List Int} (h : Own w B v xs) (hb : Below B' w w') (hB : w.heap.size ≤ B') : Own w' B v xs :=
  h.keep fun k hk => hb.block k (Nat.lt_of_lt_of_le (h.lt hk).2 hB)
theorem Own.more {w : World} {B B' : Nat} {v : Value} {xs : List Int} (h : Own w B v xs) (hB : B' ≤ B) : Own w B' v xs := by
  refine ⟨h.1, ?_⟩
  rcases h.2 with h0 | ⟨g, cap, cur, rfl, hb, hr⟩
  · exact Or.inl h0
  · exact Or.inr ⟨g, cap, cur, rfl, Nat.le_trans hB hb, hr⟩
theorem Own.nil (w : World) (B : Nat) : Own w B (.slice none 0 0) [] := World.ownsRow_nil w B 3 1

/-- append(row, x), the row the call's own, x laid in a block of its own ahead -/
theorem appendI {w : World} {ops : Array Oper} {rest : List Oper} {o : Oper} {a : Act} {Q : Exit → Act → World → Prop} (hgd : o.guard = none) (s x : Operand) (t : TypeId) (ht : Try.prog.underlying t = some (.slice 3))
    (hop : o.op = .call { callee := .builtin .append, args := #[s, x], argTypes := #[t, t] })
    (B : Nat) (v : Value) (xs : List Int) (X : Int) (T : TypeId) (hs : a.eval s = v) (hx : a.eval x = .slice (some ⟨w.heap.size, 0, none⟩) 1 1) (hown : Own w B v xs) (hB : B ≤ w.heap.size) (hl : xs.length ≤ 1000000000)
    (hK : ∀ v' w', Own w' B v' (xs ++ [X]) → Only [v.ownBlock] w w' → (v'.ownBlock = v.ownBlock ∨ ∃ k, v'.ownBlock = some k ∧ w.heap.size ≤ k) → wpList Try.prog ops Q rest (a.put o.dst v') w') :
    wpList Try.prog ops Q (o :: rest) a (w.alloc (.cells #[.int .i64 X] T)) := by
  obtain ⟨i0, hi, hz0, hz1, hz2⟩ := info_parts Try.info3
  refine wpList_append_own_at _ hgd s x t hop B 3 i0 (.int .i64 0) 1 8 ht hi hz0 hz1 hz2 rfl (by decide) v xs.length (xs.map (Value.int .i64)) hs (World.ownsRow.alloc hown _) ⟨w.heap.size, 0, none⟩ 1 1 [.int .i64 X] hx rfl (cell_one_new _ _ _) (by intro u hu; simp at hu; subst hu; rfl) (by unfold maxLen; omega) (by omega) (by simp; omega) ?_
  intro v' w' hown' hgrow _ hat
  refine hK v' w' ?_ ((Only.refl _ w |>.alloc _).trans (Only.of_grown hgrow (Or.inl (by simp)))) ?_
  · unfold Own; simpa using hown'
  · rcases hat with h | h
    · exact Or.inl h
    · exact Or.inr ⟨_, h, by simp⟩

/-- the same, where the new block's number is spelled otherwise -/
theorem appendH {w : World} {ops : Array Oper} {rest : List Oper} {o : Oper} {a : Act} {Q : Exit → Act → World → Prop} (hgd : o.guard = none) (s x : Operand) (t : TypeId) (ht : Try.prog.underlying t = some (.slice 3))
    (hop : o.op = .call { callee := .builtin .append, args := #[s, x], argTypes := #[t, t] })
    (B : Nat) (v : Value) (xs : List Int) (X : Int) (T : TypeId) (H : Nat) (hs : a.eval s = v) (hx : a.eval x = .slice (some ⟨H, 0, none⟩) 1 1) (hH : w.heap.size = H) (hown : Own w B v xs) (hB : B ≤ H) (hl : xs.length ≤ 1000000000)
    (hK : ∀ v' w', Own w' B v' (xs ++ [X]) → Only [v.ownBlock] w w' → (v'.ownBlock = v.ownBlock ∨ ∃ k, v'.ownBlock = some k ∧ H ≤ k) → wpList Try.prog ops Q rest (a.put o.dst v') w') :
    wpList Try.prog ops Q (o :: rest) a (w.alloc (.cells #[.int .i64 X] T)) := by
  subst hH
  exact appendI hgd s x t ht hop B v xs X T hs hx hown hB hl hK


end Go.Proofs.Ytpcpbpinhdbjiaa
