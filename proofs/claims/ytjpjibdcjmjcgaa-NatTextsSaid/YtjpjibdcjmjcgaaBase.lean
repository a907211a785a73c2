/- What it says that a slice of 32-bit numbers lies in memory and reads as a row; small facts on it. No condition. -/
import Derived.Test.YtjpjibdcjmjcgaaRows
import Derived.Test.YtjpjibdcjmjcgaaNums
import Derived.WalkKit
import Derived.Lib.Hide
import Derived.WalkSpells
import Derived.WalkLawsBesides
namespace Go.Proofs.Ytjpjibdcjmjcgaa
open Go.RowKit Nums

/-- A slice (a, n, c) reads as the row xs of numbers below 2^32. -/
def Row (w : World) (a : Option Addr) (n c : Nat) (xs : List Nat) : Prop :=
  xs.length = n ∧ n ≤ c ∧ c ≤ maxLen ∧ (a = none → c = 0) ∧ Small xs ∧
  ∃ b off, (a = some ⟨b, off, none⟩ ∨ n ≤ 0) ∧ ∀ i, i < n → b < w.heap.size ∧ w.cell? ⟨b, off + i, none⟩ = some (.int .u32 (xs.getD i 0 : Nat))

theorem row_nil (w : World) : Row w none 0 0 [] :=
  ⟨rfl, Nat.le_refl _, Nat.zero_le _, fun _ => rfl, (fun x hx => by cases hx), 0, 0, Or.inr (Nat.le_refl _), fun i hi => by omega⟩

theorem row_below {B : Nat} {w w' : World} {a : Option Addr} {n c : Nat} {xs : List Nat} (hB : w.heap.size ≤ B) (hb : Below B w w') (h : Row w a n c xs) : Row w' a n c xs := by
  obtain ⟨h1, h2, h3, h4, h5, b, off, h6, h7⟩ := h
  refine ⟨h1, h2, h3, h4, h5, b, off, h6, fun i hi => ⟨?_, ?_⟩⟩
  · exact Nat.lt_of_lt_of_le (h7 i hi).1 hb.size
  · rw [hb.cell (p := ⟨b, off + i, none⟩) (Nat.lt_of_lt_of_le (h7 i hi).1 hB)]; exact (h7 i hi).2

/-- The first k of a row. -/
theorem row_take {w : World} {a : Option Addr} {n c : Nat} {xs : List Nat} (h : Row w a n c xs) (k c' : Nat) (hk : k ≤ n) (hkc : k ≤ c') (hc : c' ≤ c) : Row w a k c' (xs.take k) := by
  obtain ⟨h1, h2, h3, h4, h5, b, off, h6, h7⟩ := h
  refine ⟨by simp; omega, hkc, by omega, fun e => by have := h4 e; omega, small_take h5 k, b, off, ?_, fun i hi => ⟨(h7 i (by omega)).1, ?_⟩⟩
  · rcases h6 with h6 | h6
    · exact Or.inl h6
    · exact Or.inr (by omega)
  · rw [(h7 i (by omega)).2]
    congr 3
    simp [List.getElem?_take, hi]

/-- A cell of a row, read in a later world. -/
theorem cells_at {w wr : World} {b off n : Nat} {xs : List Nat} (h : ∀ i, i < n → b < w.heap.size ∧ w.cell? ⟨b, off + i, none⟩ = some (.int .u32 (xs.getD i 0 : Nat))) (hb : Below w.heap.size w wr) (i : Nat) (hi : i < n) :
    wr.cell? ⟨b, off + i, none⟩ = some (.int .u32 (xs.getD i 0 : Nat)) := by
  rw [hb.cell (p := ⟨b, off + i, none⟩) (h i hi).1]; exact (h i hi).2

theorem ret_slice {a : Option Addr} {n m c d : Nat} (h : n = m) (h' : c = d) : Ending.returned (.slice a n c) = .returned (.slice a m d) := by rw [h, h']

theorem ret_bool {p q : Bool} (h : p = q) : Ending.returned (.bool p) = .returned (.bool q) := by rw [h]

theorem few_any (a0 a1 : Option Addr) (n0 c0 n1 c1 : Nat) (w : World) (h0 : n0 ≤ maxLen) (h1 : n1 ≤ maxLen) :
    Calls Try.prog 10 #[.slice a0 n0 c0, .slice a1 n1 c1] w fun e w' => e = .returned (.bool (decide (n0 ≤ 12 ∧ n1 ≤ 12))) ∧ w = w' := by
  unfold maxLen at h0 h1
  by_cases hn : n0 ≤ 12
  · go_enter Try.func10, Try.ntmps10
    go_wp2
    go_ret
    exact ⟨ret_bool (by rw [decide_eq_decide]; omega), rfl⟩
  · go_enter Try.func10, Try.ntmps10
    go_wp2
    go_ret
    exact ⟨ret_bool (by simp [hn]), rfl⟩

/-- What cut tells: the first m of what it was handed, where m is what is left without noughts at the end. -/
def CutPost (a : Option Addr) (xs : List Nat) (w : World) (e : Ending) (w' : World) : Prop :=
  (∃ a' m, e = .returned (.slice a' m m) ∧ m = tl xs ∧ ((m = 0 ∧ a' = none) ∨ (0 < m ∧ a' = a))) ∧ w = w'

set_option maxHeartbeats 400000 in
theorem cut_any (a : Option Addr) (n c : Nat) (xs : List Nat) (w : World) (hr : Row w a n c xs) (hn : n ≤ 1000000000) :
    Calls Try.prog 33 #[.slice a n c] w (CutPost a xs w) := by
  obtain ⟨hl, hnc, hcm, hnone, hsm, b, off, hor, hc⟩ := hr
  have H1 := Lib.hid hl; clear hl
  have hK : ∀ k : Nat, k ≤ n → (∀ i, k ≤ i → xs.getD i 0 = 0) → (k = 0 ∨ xs.getD (k - 1) 0 ≠ 0) → k = tl xs := fun k h1 h2 h3 => (tl_unique xs k (by rw [H1.out]; exact h1) h2 h3).symm
  have hZ : ∀ i, n ≤ i → xs.getD i 0 = 0 := fun i hi => getD_ge xs i (by rw [H1.out]; exact hi)
  have HK := Lib.hid hK; clear hK
  have HZ := Lib.hid hZ; clear hZ
  have HC := Lib.hid hc; clear hc
  have HN := Lib.hid hnone; clear hnone
  unfold maxLen at hcm
  rcases hor with rfl | hn0
  all_goals
    go_enter Try.func33, Try.ntmps33
    go_wp2
    go_loop [3] (fun t => ∃ k : Nat, k ≤ n ∧ t = .int .i64 k ∧ Hid (∀ i, k ≤ i → xs.getD i 0 = 0)) (fun t => (intOf t).toNat)
    case atStart => exact ⟨n, Nat.le_refl _, rfl, HZ⟩
    case round =>
      obtain ⟨k, hk, rfl, hz⟩ := hrel
      by_cases hk0 : 0 < k
      · first
        | (exfalso; omega)
        | (have hcell := (HC.out (k - 1) (by omega)).2
           have e : ((k : Int) - 1).toNat = k - 1 := by omega
           by_cases hx : xs.getD (k - 1) 0 = 0
           · have hx' : (((xs.getD (k - 1) 0 : Nat) : Int) == 0) = true := by rw [beq_iff_eq]; omega
             have hx'' : (((xs[k - 1]?.getD 0 : Nat) : Int) == 0) = true := by simpa using hx'
             have HX := Lib.hid hx; clear hx
             go_wp2
             go_round
             case rel => exact ⟨k - 1, by omega, by go_num, fun i hi => if h : i = k - 1 then by rw [h]; exact HX.out else hz.out i (by omega)⟩
             case measure => simp [intOf]; omega
           · have hx' : (((xs.getD (k - 1) 0 : Nat) : Int) == 0) = false := by rw [beq_eq_false_iff_ne]; omega
             have hx'' : (((xs[k - 1]?.getD 0 : Nat) : Int) == 0) = false := by simpa using hx'
             have HX := Lib.hid hx; clear hx
             go_wp2
             go_ret
             exact ⟨⟨_, k, rfl, HK.out k hk hz.out (Or.inr HX.out), Or.inr ⟨hk0, rfl⟩⟩, rfl⟩)
      · go_wp2
        go_ret
        exact ⟨⟨none, 0, rfl, HK.out 0 (by omega) (fun i hi => hz.out i (by omega)) (Or.inl rfl), Or.inl ⟨rfl, rfl⟩⟩, rfl⟩

theorem cut_row (a : Option Addr) (n c : Nat) (xs : List Nat) (w : World) (hr : Row w a n c xs) (hn : n ≤ 1000000000) :
    Calls Try.prog 33 #[.slice a n c] w fun e w' => ∃ a' m, e = .returned (.slice a' m m) ∧ m = tl xs ∧ m ≤ n ∧ Row w a' m m (xs.take m) ∧ ((m = 0 ∧ a' = none) ∨ (0 < m ∧ a' = a)) ∧ w = w' := by
  refine (cut_any a n c xs w hr hn).mono ?_
  rintro e w' ⟨⟨a', m, rfl, hm, ha⟩, rfl⟩
  have h1 : m ≤ n := by have := tl_le xs; have := hr.1; omega
  refine ⟨a', m, rfl, hm, h1, ?_, ha, rfl⟩
  rcases ha with ⟨h0, rfl⟩ | ⟨h0, rfl⟩
  · subst h0; simpa using row_nil w
  · exact row_take hr m m h1 (Nat.le_refl _) (by have := hr.2.1; omega)

/-- cut, in the words of the number that is read. -/
theorem cut_num (a : Option Addr) (n c : Nat) (xs : List Nat) (w : World) (hr : Row w a n c xs) (hn : n ≤ 1000000000) :
    Calls Try.prog 33 #[.slice a n c] w fun e w' => ∃ a' m, e = .returned (.slice a' m m) ∧ m = (limbs (val xs)).length ∧ m ≤ n ∧ Row w a' m m (limbs (val xs)) ∧ ((m = 0 ∧ a' = none) ∨ (0 < m ∧ a' = a)) ∧ w = w' := by
  have hs := hr.2.2.2.2.1
  refine (cut_row a n c xs w hr hn).mono ?_
  rintro e w' ⟨a', m, rfl, hm, hmn, hrow, hor, rfl⟩
  refine ⟨a', m, rfl, by rw [hm, tl_eq xs hs], hmn, ?_, hor, rfl⟩
  rw [hm, limbs_take xs hs] at hrow
  rw [hm]
  exact hrow

end Go.Proofs.Ytjpjibdcjmjcgaa
