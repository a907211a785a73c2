/- What divide tells, of any number and any but 0. -/
import Derived.Test.YtjpjibdcjmjcgaaLong
import Derived.Test.YtjpjibdcjmjcgaaCalc
namespace Go.Proofs.Ytjpjibdcjmjcgaa
open Go.RowKit Nums

set_option maxHeartbeats 1000000 in
theorem divide_big (a0 a1 : Option Addr) (n0 m : Nat) (A B : Nat) (w : World) (h0 : Row w a0 n0 n0 (limbs A)) (h1 : Row w a1 (m + 2) (m + 2) (limbs B)) (hn0 : n0 ≤ 100000000) (hge : B ≤ A) :
    Calls Try.prog 44 #[.slice a0 n0 n0, .slice a1 (m + 2) (m + 2)] w (QR A B w) := by
  have hle : m + 2 ≤ n0 := by rw [← h1.1, ← h0.1]; exact limbs_len_mono hge
  have H0 := Lib.hid h0; clear h0
  have H1 := Lib.hid h1; clear h1
  have HG := Lib.hid hge; clear hge
  have hmz : (((m : Int) + 2) == 1) = false := by rw [beq_eq_false_iff_ne]; omega
  go_enter Try.func44, Try.ntmps44
  go_wp2_with fail
  refine (cmp_ge a0 _ n0 n0 (m + 2) (m + 2) _ _ w H0.out H1.out (by omega) (by omega) (by rw [val_limbs, val_limbs]; exact HG.out)).mono ?_
  rintro e w1 ⟨⟨r, rfl, hr0⟩, hb⟩
  have HB := Lib.hid hb; clear hb
  go_wp2_with fail
  refine (divide_long a0 a1 n0 m A B w1 (row_below (Nat.le_refl _) HB.out H0.out) (row_below (Nat.le_refl _) HB.out H1.out) hn0 hle).mono ?_
  rintro e w' ⟨q', mq', r', mr', rfl, h1, h2, h3, h4, h5⟩
  have K1 := Lib.hid h1; clear h1
  have K2 := Lib.hid h2; clear h2
  have K3 := Lib.hid h3; clear h3
  have K4 := Lib.hid h4; clear h4
  have K5 := Lib.hid h5; clear h5
  go_wp2
  go_ret2
  exact ⟨q', mq', r', mr', rfl, K1.out, K2.out, K3.out, K4.out, HB.out.trans (K5.out.mono HB.out.size)⟩

theorem divides_all (A B : Nat) (hB : 0 < B) : Divides A B := by
  intro a0 a1 n0 n1 w h0 h1 hn0 hn1
  rcases Nat.lt_or_ge A B with h | h
  · exact divide_less a0 a1 n0 n1 A B w h0 h1 hn0 hn1 h
  · rcases (by omega : n1 = 0 ∨ n1 = 1 ∨ 2 ≤ n1) with e | e | e
    · exfalso
      have := h1.1
      rw [e] at this
      have := length_limbs_zero.1 this
      omega
    · exact divide_short a0 a1 n0 n1 A B w h0 h1 hn0 e h
    · obtain ⟨m, rfl⟩ : ∃ m, n1 = m + 2 := ⟨n1 - 2, by omega⟩
      exact divide_big a0 a1 n0 m A B w h0 h1 hn0 h

section
variable {w : World} {a b : Option Addr} {n c m d : Nat} {xs ys : List Nat} {X Y N k : Nat}

theorem divN (k l : Nat) (h0 : Row w a n c xs) (h1 : Row w b m d ys) (hX : val xs = X) (hY : val ys = Y) (hn : n ≤ 100) (hm : m ≤ 100) (hY0 : 0 < Y) (hk : (limbs (X / Y)).length ≤ k) (hl : (limbs (X % Y)).length ≤ l) :
    Calls Try.prog 25 #[.slice a n c, .slice b m d] w fun e w' => ∃ q mq r mr, e = .returned (.tuple #[.slice q mq mq, .slice r mr mr, .int .i64 0]) ∧ mq ≤ k ∧ mr ≤ l ∧ Row w' q mq mq (limbs (X / Y)) ∧ Row w' r mr mr (limbs (X % Y)) ∧ Below w.heap.size w w' := by
  subst hX; subst hY
  refine (div_of a b n c m d xs ys w h0 h1 (by omega) (by omega) hY0 (divides_all _ _ hY0)).mono ?_
  rintro e w' ⟨q, mq, r, mr, h1, h2, h3, h4, h5, h6⟩
  exact ⟨q, mq, r, mr, h1, by omega, by omega, h3, h5, h6⟩

theorem gcdN (k : Nat) (h0 : Row w a n c xs) (h1 : Row w b m d ys) (hX : val xs = X) (hY : val ys = Y) (hn : n ≤ 100) (hm : m ≤ 100) (hN : Nat.gcd X Y = N) (hk : (limbs N).length ≤ k) : Calls Try.prog 27 #[.slice a n c, .slice b m d] w (NumK k N w) := by
  subst hX; subst hY; subst hN
  exact (gcd_of 100 (by omega) a b n c m d xs ys w h0 h1 hn hm (fun A B hB _ _ _ => divides_all A B hB)).mono fun e w' h => numK h hk
end
end Go.Proofs.Ytjpjibdcjmjcgaa
