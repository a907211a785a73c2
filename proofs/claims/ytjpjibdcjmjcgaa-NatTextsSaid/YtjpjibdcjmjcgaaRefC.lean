/- The calls of the document's answer in the words of the numbers that they are handed. -/
import Derived.Test.YtjpjibdcjmjcgaaRefM
import Derived.Test.YtjpjibdcjmjcgaaCalc
namespace Go.Proofs.Ytjpjibdcjmjcgaa
open Go.RowKit Nums
section
variable {w : World} {a b : Option Addr} {n c m d : Nat} {xs ys : List Nat} {X Y N k : Nat}

def NumCK (k N : Nat) (w : World) (e : Ending) (w' : World) : Prop := ∃ a' m c, e = .returned (.slice a' m c) ∧ m ≤ k ∧ Row w' a' m c (limbs N) ∧ Below w.heap.size w w'

theorem numCK {e : Ending} {w' : World} (h : NumC N w e w') (hk : (limbs N).length ≤ k) : NumCK k N w e w' := by
  obtain ⟨a', m, c, h1, h2, h3, h4⟩ := h
  exact ⟨a', m, c, h1, by omega, h3, h4⟩

theorem raddN (k N : Nat) (h0 : Row w a n c xs) (h1 : Row w b m d ys) (hX : val xs = X) (hY : val ys = Y) (hn : n ≤ 100) (hm : m ≤ 100) (hN : X + Y = N) (hk : (limbs N).length ≤ k) : Calls Try.prog 15 #[.slice a n c, .slice b m d] w (NumCK k N w) := by
  subst hX; subst hY; subst hN
  exact (radd_any a b n c m d xs ys w h0 h1 (by omega) (by omega)).mono fun e w' h => numCK h hk

theorem rmulN (k N : Nat) (h0 : Row w a n c xs) (h1 : Row w b m d ys) (hX : val xs = X) (hY : val ys = Y) (hn : n ≤ 100) (hm : m ≤ 100) (hN : X * Y = N) (hk : (limbs N).length ≤ k) : Calls Try.prog 17 #[.slice a n c, .slice b m d] w (NumCK k N w) := by
  subst hX; subst hY; subst hN
  exact (rmul_any a b n c m d xs ys w h0 h1 (by omega) (by omega)).mono fun e w' h => numCK h hk

theorem rtrimN (k N : Nat) (h0 : Row w a n c xs) (hn : n ≤ 100) (hN : val xs = N) (hk : (limbs N).length ≤ k) : Calls Try.prog 23 #[.slice a n c] w (NumCK k N w) := by
  subst hN
  exact (rtrim_any a n c xs w h0 (by omega)).mono fun e w' h => numCK h hk

theorem rsubN (k N : Nat) (h0 : Row w a n c xs) (h1 : Row w b m d ys) (hX : val xs = X) (hY : val ys = Y) (hn : n ≤ 100) (hm : m ≤ 100) (hle : Y ≤ X) (hN : X - Y = N) (hk : (limbs N).length ≤ k) : Calls Try.prog 12 #[.slice a n c, .slice b m d] w fun e w' => ∃ a' m c, e = .returned (.tuple #[.slice a' m c, .int .i64 0]) ∧ m ≤ k ∧ Row w' a' m c (limbs N) ∧ Below w.heap.size w w' := by
  subst hX; subst hY; subst hN
  refine (rsub_ge a b n c m d xs ys w h0 h1 (by omega) (by omega) hle).mono ?_
  rintro e w' ⟨a', m, c, h1, h2, h3, h4⟩
  exact ⟨a', m, c, h1, by omega, h3, h4⟩

theorem cmpN (R : Int) (h0 : Row w a n c xs) (h1 : Row w b m d ys) (hn : n ≤ 100) (hm : m ≤ 100) (hR : cmpv (val xs) (val ys) = R) : Calls Try.prog 18 #[.slice a n c, .slice b m d] w fun e w' => e = .returned (.int .i64 R) ∧ Below w.heap.size w w' := by
  subst hR
  exact cmp_any a b n c m d xs ys w h0 h1 (by omega) (by omega)

theorem rcmpN (R : Int) (h0 : Row w a n c xs) (h1 : Row w b m d ys) (hn : n ≤ 100) (hm : m ≤ 100) (hR : cmpv (val xs) (val ys) = R) : Calls Try.prog 19 #[.slice a n c, .slice b m d] w fun e w' => e = .returned (.int .i64 R) ∧ Below w.heap.size w w' := by
  subst hR
  exact rcmp_any a b n c m d xs ys w h0 h1 (by omega) (by omega)

theorem bitsN (T : Nat) (h0 : Row w a n c xs) (hn : n ≤ 100) (hT : (bitsOf (val xs)).length = T) : Calls Try.prog 20 #[.slice a n c] w fun e w' => e = .returned (.int .i64 (T : Int)) ∧ Below w.heap.size w w' := by
  subst hT
  exact (bits_any a n c xs w h0 (by omega)).mono fun e w' ⟨h1, h2⟩ => ⟨h1, by subst h2; exact Below.refl _ _⟩

theorem rbitsN (T : Nat) (h0 : Row w a n c xs) (hn : n ≤ 100) (hT : (bitsOf (val xs)).length = T) : Calls Try.prog 21 #[.slice a n c] w fun e w' => e = .returned (.int .i64 (T : Int)) ∧ Below w.heap.size w w' := by
  subst hT
  exact rbits_any a n c xs w h0 (by omega)
end
end Go.Proofs.Ytjpjibdcjmjcgaa
