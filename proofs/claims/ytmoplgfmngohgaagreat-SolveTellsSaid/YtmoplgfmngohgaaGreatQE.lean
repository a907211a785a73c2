/- What divide tells. -/
import Derived.Test.YtmoplgfmngohgaaGreatQC
import Derived.Deep.DeepCutAuto
import Derived.Deep.RegionHeld3
import Derived.RegionTactic
import Derived.ChangeAlike
import Derived.Test.YtmoplgfmngohgaaGreatQA
namespace Go.Proofs.YtmoplgfmngohgaaGreat
set_option linter.unusedVariables false
set_option linter.unusedSimpArgs false
set_option maxRecDepth 100000
open Go.RowKit Nums

/-- quotient and rest of Num by Den -/
def DivideK (k l : Nat) (q : Rat) (w : World) (e : Ending) (w' : World) : Prop :=
  ∃ (R : Int) (a : Option Addr) (n c : Nat) (b : Option Addr) (m d : Nat), e = .returned (.tuple #[.agg #[.bool (decide (q.floor < 0)), .slice a n c], .agg #[.bool (decide (R < 0)), .slice b m d]]) ∧ n ≤ k ∧ m ≤ l ∧ Row w' a n c (limbs q.floor.natAbs) ∧ Row w' b m d (limbs R.natAbs) ∧ (sgn R = 0 ↔ q.den = 1) ∧ Below w.heap.size w w'

theorem len_fdiv2 {X Y : Int} {k : Nat} (h : (limbs X.natAbs).length ≤ k) (hk : 1 ≤ k) (hY : Y ≠ 0) : (limbs (X.fdiv Y).natAbs).length ≤ k + 1 := by
  refine len_le (natAbs_fdiv X Y hY) (len_add h ?_)
  rw [limbs_one 1 (by omega) (by omega)]; exact hk

def Cut2 (K J : Nat) (w : World) (F R : Int) (g4 g5 : Nat) (wx : World) : Prop :=
  g4 ≠ g5 ∧ w.heap.size + 2 < g4 ∧ w.heap.size + 2 < g5 ∧ ∃ aq mq cq ar mr cr, Box wx g4 (.bool (decide (F < 0))) (.slice aq mq cq) ∧ Box wx g5 (.bool (decide (R < 0))) (.slice ar mr cr) ∧ mq ≤ K ∧ mr ≤ J ∧ Row wx aq mq cq (limbs F.natAbs) ∧ Row wx ar mr cr (limbs R.natAbs) ∧ Box wx (w.heap.size + 1) (.bool false) (.slice none 0 0) ∧ Box wx (w.heap.size + 2) (.bool false) (.slice none 0 0) ∧ Below w.heap.size w wx

end Go.Proofs.YtmoplgfmngohgaaGreat
/- What Floor, Whole and Print tell. -/
namespace Go.Proofs.YtmoplgfmngohgaaGreat
set_option linter.unusedVariables false
set_option linter.unusedSimpArgs false
set_option maxRecDepth 100000
open Go.RowKit Nums

theorem numOf_lt (l : List UInt8) (h : Digs l) : numOf l < 10 ^ l.length := by
  rw [← dval_reverse]
  have hd : Digs l.reverse := fun c hc => h c (List.mem_reverse.1 hc)
  have hl : l.reverse.length = l.length := by simp
  rw [← hl]
  generalize l.reverse = r at hd
  induction r with
  | nil => simp [dval]
  | cons c r ih =>
    have h2 := digs_cons.1 hd
    have := ih h2.2
    simp only [dval, List.length_cons, Nat.pow_succ]
    omega

theorem pow_room (n m : Nat) (h0 : 0 < m) (h : n ≤ 6 * m) : (10 : Nat) ^ n < 4294967296 ^ m := by
  have h1 : (10 : Nat) ^ n ≤ 10 ^ (6 * m) := Nat.pow_le_pow_right (by omega) h
  rw [Nat.pow_mul] at h1
  exact Nat.lt_of_le_of_lt h1 (Nat.pow_lt_pow_left (by omega) (by omega))

theorem len_numOf (s : ByteArray) (k : Nat) (hd : allDig s) (hk : 0 < k) (hl : s.size ≤ 6 * k) : (limbs (numOf s.data.toList)).length ≤ k := by
  apply limbs_len
  have h1 := numOf_lt _ (digs_list s hd)
  have h2 : s.data.toList.length ≤ 6 * k := by simpa using hl
  have h3 := pow_room s.data.toList.length k hk h2
  exact Nat.lt_trans h1 h3

theorem signed_dec (A : Int) : Signed (decI A) (decide (A < 0)) (decStr A.natAbs) := by
  by_cases h : A < 0
  · refine Or.inl ⟨by simpa using h, ?_⟩
    rw [decI, if_pos h, ByteArray.data_append, Array.toList_append]
    rfl
  · refine Or.inr ⟨by simpa using h, by rw [decI, if_neg h], ?_⟩
    rw [decI, if_neg h]
    intro e
    have hd := digs_list _ (allDig_dec A.natAbs)
    have hm := List.mem_of_mem_head? (Option.mem_def.2 e)
    have := hd _ hm
    exact absurd this.1 (by decide)

theorem dec_len {N k : Nat} (h : (limbs N).length ≤ 12) (hk : 116 ≤ k) : (decStr N).size ≤ k := by
  refine size_dec_le N k (by omega) (Nat.lt_of_lt_of_le (Nat.lt_of_lt_of_le (lt_pow_len N) (Nat.pow_le_pow_right (by omega) h)) ?_)
  exact Nat.le_trans (by decide) (Nat.pow_le_pow_right (by omega) hk)

theorem decI_len {Z : Int} (h : (limbs Z.natAbs).length ≤ 12) : (decI Z).size ≤ 117 := by
  have := dec_len (k := 116) h (by omega)
  unfold decI; split
  · rw [ByteArray.size_append]; show 1 + _ ≤ _; omega
  · omega

/-- a number's text -/
def ratStr (q : Rat) : ByteArray := if q.den = 1 then decI q.num else decI q.num ++ (⟨#[47]⟩ ++ decStr q.den)

theorem decStr_one : decStr 1 = ⟨#[49]⟩ := dec_digit 1 49 (by omega) (by omega) rfl

theorem toList_ne {V : ByteArray} (h : V ≠ ⟨#[49]⟩) : V.toList ≠ [49] := by
  intro e
  apply h
  rw [Lib.toList_data] at e
  cases V with
  | mk d => exact congrArg ByteArray.mk (Array.toList_inj.1 e)

theorem decStr_inj {m n : Nat} (h : decStr m = decStr n) : m = n := by
  rw [← numOf_dec m, h, numOf_dec]

end Go.Proofs.YtmoplgfmngohgaaGreat
/- What parseParts tells. -/
namespace Go.Proofs.YtmoplgfmngohgaaGreat
set_option linter.unusedVariables false
set_option linter.unusedSimpArgs false
set_option maxRecDepth 100000
open Go.RowKit Nums

def AnyI (E : Int) (w : World) (e : Ending) (w' : World) : Prop := ∃ s a n c, e = .returned (.tuple #[.agg #[.bool s, .slice a n c], .int .i64 E]) ∧ Below w.heap.size w w'
def AnyN (F : Int) (w : World) (e : Ending) (w' : World) : Prop := ∃ a n c, e = .returned (.tuple #[.slice a n c, .int .i64 F]) ∧ Below w.heap.size w w'
def ParseNK (k N : Nat) (w : World) (e : Ending) (w' : World) : Prop := ∃ a m, e = .returned (.tuple #[.slice a m m, .int .i64 0]) ∧ m ≤ k ∧ Row w' a m m (limbs N) ∧ Below w.heap.size w w'
def PartsK (k j : Nat) (Z : Int) (N : Nat) (w : World) (e : Ending) (w' : World) : Prop :=
  ∃ a n c b m d, e = .returned (.tuple #[.agg #[.bool (decide (Z < 0)), .slice a n c], .slice b m d, .int .i64 0]) ∧ n ≤ k ∧ m ≤ j ∧ Row w' a n c (limbs Z.natAbs) ∧ Row w' b m d (limbs N) ∧ Below w.heap.size w w'
def PartsErr (G : Int) (w : World) (e : Ending) (w' : World) : Prop := e = .returned (.tuple #[.agg #[.bool false, .slice none 0 0], .slice none 0 0, .int .i64 G]) ∧ Below w.heap.size w w'

end Go.Proofs.YtmoplgfmngohgaaGreat
/- What strings.Cut tells of a text and one byte; powers of ten. -/
namespace Go.Proofs.YtmoplgfmngohgaaGreat
set_option linter.unusedVariables false
set_option linter.unusedSimpArgs false
set_option maxRecDepth 100000
open Go.RowKit Nums

/-- s is h, the byte c, t; c does not stand in h -/
def Split (s : ByteArray) (c : UInt8) (h t : ByteArray) : Prop := s.data.toList = h.data.toList ++ c :: t.data.toList ∧ c ∉ h.data.toList

theorem splits_any (s : ByteArray) (c : UInt8) : c ∉ s.data.toList ∨ ∃ h t, Split s c h t := by
  have key : ∀ l : List UInt8, c ∉ l ∨ ∃ h t : List UInt8, l = h ++ c :: t ∧ c ∉ h := by
    intro l
    induction l with
    | nil => exact Or.inl (by simp)
    | cons x l ih =>
      by_cases e : c = x
      · exact Or.inr ⟨[], l, by simp [e], by simp⟩
      · rcases ih with ih | ⟨h, t, h1, h2⟩
        · exact Or.inl (by simp [e, ih])
        · exact Or.inr ⟨x :: h, t, by simp [h1], by simp [e, h2]⟩
  rcases key s.data.toList with h | ⟨h, t, h1, h2⟩
  · exact Or.inl h
  · exact Or.inr ⟨⟨h.toArray⟩, ⟨t.toArray⟩, by simpa using h1, by simpa using h2⟩

theorem indexByte_miss {l : List UInt8} {c : UInt8} (h : c ∉ l) : Lib.indexByte l c = -1 := by
  induction l with
  | nil => rfl
  | cons x l ih =>
    simp only [List.mem_cons, not_or] at h
    rw [Lib.indexByte, ih h.2]
    have hx : (x == c) = false := by rw [beq_eq_false_iff_ne]; exact fun e => h.1 e.symm
    rw [hx]
    rfl

theorem indexByte_hit {h t : List UInt8} {c : UInt8} (hc : c ∉ h) : Lib.indexByte (h ++ c :: t) c = (h.length : Int) := by
  induction h with
  | nil => simp [Lib.indexByte]
  | cons x l ih =>
    simp only [List.mem_cons, not_or] at hc
    have e := ih hc.2
    rw [List.cons_append, Lib.indexByte, e]
    have hx : (x == c) = false := by rw [beq_eq_false_iff_ne]; exact fun e => hc.1 e.symm
    have hl : ((l.length : Int) == -1) = false := by rw [beq_eq_false_iff_ne]; omega
    rw [hx, hl]
    simp

theorem Split.size {s h t : ByteArray} {c : UInt8} (H : Split s c h t) : s.size = h.size + 1 + t.size := by
  have := congrArg List.length H.1
  rw [List.length_append, List.length_cons] at this
  rw [Lib.size_eq s, Lib.size_eq h, Lib.size_eq t]; omega

theorem Split.head {s h t : ByteArray} {c : UInt8} (H : Split s c h t) : s.extract 0 h.size = h := by
  apply ByteArray.ext; apply Array.toList_inj.1
  rw [ByteArray.data_extract, Array.toList_extract, H.1, Lib.size_eq h]
  simp

theorem Split.tail {s h t : ByteArray} {c : UInt8} (H : Split s c h t) : s.extract (h.size + 1) s.size = t := by
  apply ByteArray.ext; apply Array.toList_inj.1
  rw [H.size, ByteArray.data_extract, Array.toList_extract, H.1, List.extract_eq_take_drop, show h.data.toList ++ c :: t.data.toList = (h.data.toList ++ [c]) ++ t.data.toList by simp, List.drop_left' (by rw [Lib.size_eq h]; simp)]
  exact List.take_of_length_le (by rw [Lib.size_eq t]; omega)

/-- n nines -/
def nines (n : Nat) : ByteArray := ⟨(Lib.repeatL [57] n).toArray⟩
theorem nines_list (n : Nat) : (nines n).data.toList = List.replicate n 57 := by
  show (Lib.repeatL [57] n).toArray.toList = _
  have := Lib.repeatL_replicate 57 1 n
  rw [Nat.mul_one] at this
  simpa using this
theorem nines_size (n : Nat) : (nines n).size = n := by rw [Lib.size_eq, nines_list]; simp
theorem nines_dig (n : Nat) : allDig (nines n) := by
  apply allDig_of
  rw [nines_list]
  simp
theorem nines_num (n : Nat) : numOf (List.replicate n 57) + 1 = 10 ^ n := by
  induction n with
  | zero => rfl
  | succ n ih =>
    rw [List.replicate_succ', numOf_snoc, Nat.pow_succ]
    have : (57 : UInt8).toNat - 48 = 9 := by decide
    omega

end Go.Proofs.YtmoplgfmngohgaaGreat
/- What the closure of Parse cuts; Parse of a text with / or a point, out of what its parts tell. -/
namespace Go.Proofs.YtmoplgfmngohgaaGreat
set_option linter.unusedVariables false
set_option linter.unusedSimpArgs false
set_option maxRecDepth 100000
open Go.RowKit Nums

/-- Block g holds one value, free. -/
def Uno (w : World) (g : Nat) (v : Value) : Prop := w.cell? ⟨g, 0, none⟩ = some v ∧ w.frozen? ⟨g, 0, none⟩ = false ∧ g < w.heap.size
theorem Uno.later {g : Nat} {w w' : World} {v : Value} (h : Uno w g v) (hb : Below w.heap.size w w') : Uno w' g v :=
  ⟨(hb.cell (p := ⟨g, 0, none⟩) h.2.2).trans h.1, (hb.frozen (p := ⟨g, 0, none⟩) h.2.2).trans h.2.1, Nat.lt_of_lt_of_le h.2.2 hb.size⟩
theorem uno_new (w : World) (v : Value) (t : Nat) : Uno (w.alloc (.cells #[v] t)) w.heap.size v := by
  have h := heap_alloc_new w (.cells #[v] t)
  refine ⟨?_, ?_, by simp⟩
  · rw [cell_of_row _ _ _ #[v] t (0, 0) h]; rfl
  · exact frozen_of_row _ _ _ #[v] t h
theorem uno_newE {w : World} {g : Nat} {v : Value} {t : Nat} (h : g = w.heap.size) : Uno (w.alloc (.cells #[v] t)) g v := h ▸ uno_new w v t
theorem Uno.alloc {g : Nat} {w : World} {v : Value} (h : Uno w g v) (o : Obj) : Uno (w.alloc o) g v := h.later (below_one w o)
theorem Uno.put {w : World} {g : Nat} {v : Value} (h : Uno w g v) (p : Value) : Uno (w.setCell ⟨g, 0, none⟩ p) g p := ⟨cell_here h.1, by simpa using h.2.1, by simpa using h.2.2⟩
theorem Uno.far {w : World} {g g' o : Nat} {v : Value} (h : Uno w g v) (hg : g' ≠ g) (p : Value) : Uno (w.setCell ⟨g', o, none⟩ p) g v :=
  ⟨by rw [cell_other (by simp [hg.symm])]; exact h.1, by simpa using h.2.1, by simpa using h.2.2⟩
theorem Tri.farS {w : World} {g g' o : Nat} {u v x : Value} (h : Tri w g u v x) (hg : g' ≠ g) (p : Value) : Tri (w.setCell ⟨g', o, none⟩ p) g u v x := by
  obtain ⟨h0, h1, h2, h3, h4, h5, h6⟩ := h
  exact ⟨by rw [cell_other (by simp [hg.symm])]; exact h0, by rw [cell_other (by simp [hg.symm])]; exact h1, by rw [cell_other (by simp [hg.symm])]; exact h2, by simpa using h3, by simpa using h4, by simpa using h5, by simpa using h6⟩
theorem Box.set0 {w : World} {g : Nat} {u v : Value} (h : Box w g u v) (p : Value) : Box (w.setCell ⟨g, 0, none⟩ p) g p v := by
  obtain ⟨h0, h1, h2, h3, h4⟩ := h
  exact ⟨cell_here h0, by rw [cell_other (by simp)]; exact h1, by simpa using h2, by simpa using h3, by simpa using h4⟩
theorem Box.set1 {w : World} {g : Nat} {u v : Value} (h : Box w g u v) (p : Value) : Box (w.setCell ⟨g, 1, none⟩ p) g u p := by
  obtain ⟨h0, h1, h2, h3, h4⟩ := h
  exact ⟨by rw [cell_other (by simp)]; exact h0, cell_here h1, by simpa using h2, by simpa using h3, by simpa using h4⟩

def Shape := Bool → Nat → Nat → List Nat → List Nat → Prop
/-- a number of some shape, and an error's number -/
def RatRes (E : Int) (P : Shape) (w : World) (e : Ending) (w' : World) : Prop :=
  ∃ s a n c b m d xs ys, e = .returned (.tuple #[.agg #[.bool s, .slice a n c, .slice b m d], .int .i64 E]) ∧ P s n m xs ys ∧ Row w' a n c xs ∧ Row w' b m d ys ∧ Below w.heap.size w w'
def ToldAs (K J : Nat) (q : Rat) : Shape := fun s n m xs ys => s = decide (q.num < 0) ∧ n ≤ K ∧ m ≤ J ∧ xs = limbs q.num.natAbs ∧ ys = limbs q.den
def NoneAs : Shape := fun s n m xs ys => s = false ∧ n = 0 ∧ m = 0 ∧ xs = [] ∧ ys = []

theorem ratRes_ok {K J : Nat} {q : Rat} {w : World} {e : Ending} {w' : World} (h : RatOk K J q w e w') : RatRes 0 (ToldAs K J q) w e w' := by
  obtain ⟨a, n, c, b, m, d, rfl, hn, hm, h1, h2, hb⟩ := h
  exact ⟨_, a, n, c, b, m, d, _, _, rfl, ⟨rfl, hn, hm, rfl, rfl⟩, h1, h2, hb⟩
theorem ratRes_err {E : Int} {w : World} {e : Ending} {w' : World} (h : RatErr E w e w') : RatRes E NoneAs w e w' := by
  obtain ⟨rfl, hb⟩ := h
  exact ⟨_, _, _, _, _, _, _, _, _, rfl, ⟨rfl, rfl, rfl, rfl, rfl⟩, row_nil _, row_nil _, hb⟩

def CutsTo (g2 g3 : Nat) (f : Bool) (h t : ByteArray) (w : World) (e : Ending) (w' : World) : Prop :=
  e = .returned (.bool f) ∧ ∃ W, Below w.heap.size w W ∧ w' = (W.setCell ⟨g2, 0, none⟩ (.string h)).setCell ⟨g3, 0, none⟩ (.string t)

end Go.Proofs.YtmoplgfmngohgaaGreat
