/- The calls of nat in the words of the numbers that they are handed; how long their answers are. -/
import Derived.Test.YtjpjibdcjmjcgaaLaw
namespace Go.Proofs.Ytjpjibdcjmjcgaa
open Go.RowKit Nums

theorem len_of {X k : Nat} (h : X < 4294967296 ^ k) : (limbs X).length ≤ k := limbs_len X k h

theorem len_add {X Y k : Nat} (hX : (limbs X).length ≤ k) (hY : (limbs Y).length ≤ k) : (limbs (X + Y)).length ≤ k + 1 := by
  apply limbs_len
  have h1 := Nat.lt_of_lt_of_le (lt_pow_len X) (Nat.pow_le_pow_right (show 0 < 4294967296 by omega) hX)
  have h2 := Nat.lt_of_lt_of_le (lt_pow_len Y) (Nat.pow_le_pow_right (show 0 < 4294967296 by omega) hY)
  rw [Nat.pow_succ]
  omega

theorem len_mul {X Y k l : Nat} (hX : (limbs X).length ≤ k) (hY : (limbs Y).length ≤ l) : (limbs (X * Y)).length ≤ k + l := by
  apply limbs_len
  have h1 := Nat.lt_of_lt_of_le (lt_pow_len X) (Nat.pow_le_pow_right (show 0 < 4294967296 by omega) hX)
  have h2 := Nat.lt_of_lt_of_le (lt_pow_len Y) (Nat.pow_le_pow_right (show 0 < 4294967296 by omega) hY)
  rw [Nat.pow_add]
  exact Nat.mul_lt_mul'' h1 h2

theorem len_le {X Y k : Nat} (h : X ≤ Y) (hY : (limbs Y).length ≤ k) : (limbs X).length ≤ k := Nat.le_trans (limbs_len_mono h) hY

theorem row_len {w : World} {a : Option Addr} {n c : Nat} {X : Nat} (h : Row w a n c (limbs X)) : (limbs X).length = n := h.1

theorem row_len' {w : World} {a : Option Addr} {n c k : Nat} {xs : List Nat} (h : Row w a n c xs) (hn : n ≤ k) : (limbs (val xs)).length ≤ k := len_of (val_pow h hn)

section
variable {w : World} {a b : Option Addr} {n c m d : Nat} {xs ys : List Nat} {X Y N k : Nat}

/-- as Num, with a bound on the length -/
def NumK (k N : Nat) (w : World) (e : Ending) (w' : World) : Prop := ∃ a' m, e = .returned (.slice a' m m) ∧ m ≤ k ∧ Row w' a' m m (limbs N) ∧ Below w.heap.size w w'

theorem numK {e : Ending} {w' : World} (h : Num N w e w') (hk : (limbs N).length ≤ k) : NumK k N w e w' := by
  obtain ⟨a', m, h1, h2, h3, h4⟩ := h
  exact ⟨a', m, h1, by omega, h3, h4⟩

theorem addN (k N : Nat) (h0 : Row w a n c xs) (h1 : Row w b m d ys) (hX : val xs = X) (hY : val ys = Y) (hn : n ≤ 100) (hm : m ≤ 100) (hN : X + Y = N) (hk : (limbs N).length ≤ k) : Calls Try.prog 14 #[.slice a n c, .slice b m d] w (NumK k N w) := by
  subst hX; subst hY; subst hN
  exact (add_any a b n c m d xs ys w h0 h1 (by omega) (by omega)).mono fun e w' h => numK h hk

theorem mulN (k N : Nat) (h0 : Row w a n c xs) (h1 : Row w b m d ys) (hX : val xs = X) (hY : val ys = Y) (hn : n ≤ 100) (hm : m ≤ 100) (hN : X * Y = N) (hk : (limbs N).length ≤ k) : Calls Try.prog 16 #[.slice a n c, .slice b m d] w (NumK k N w) := by
  subst hX; subst hY; subst hN
  exact (mul_any a b n c m d xs ys w h0 h1 (by omega) (by omega)).mono fun e w' h => numK h hk

theorem trimN (k N : Nat) (h0 : Row w a n c xs) (hn : n ≤ 100) (hN : val xs = N) (hk : (limbs N).length ≤ k) : Calls Try.prog 22 #[.slice a n c] w (NumK k N w) := by
  subst hN
  refine (trim_any a n c xs w h0 (by omega)).mono ?_
  rintro e w' ⟨a', m, h1, h2, h3, h4, h5⟩
  exact ⟨a', m, h1, by omega, h4, h5⟩

theorem subN (k N : Nat) (h0 : Row w a n c xs) (h1 : Row w b m d ys) (hX : val xs = X) (hY : val ys = Y) (hn : n ≤ 100) (hm : m ≤ 100) (hle : Y ≤ X) (hN : X - Y = N) (hk : (limbs N).length ≤ k) : Calls Try.prog 11 #[.slice a n c, .slice b m d] w fun e w' => ∃ a' m, e = .returned (.tuple #[.slice a' m m, .int .i64 0]) ∧ m ≤ k ∧ Row w' a' m m (limbs N) ∧ Below w.heap.size w w' := by
  subst hX; subst hY; subst hN
  refine (sub_ge a b n c m d xs ys w h0 h1 (by omega) (by omega) hle).mono ?_
  rintro e w' ⟨a', m, h1, h2, h3, h4⟩
  exact ⟨a', m, h1, by omega, h3, h4⟩

theorem sameN (h0 : Row w a n c xs) (h1 : Row w b m d ys) (h : xs = ys) (hn : n ≤ 100) : Calls Try.prog 13 #[.slice a n c, .slice b m d] w fun e w' => e = .returned (.bool true) ∧ Below w.heap.size w w' := by
  subst h
  exact same_any a b n c m d xs w h0 h1 (by omega)
end
end Go.Proofs.Ytjpjibdcjmjcgaa
