/- What Div and Gcd tell, once it is known what divide tells. -/
import Derived.Test.YtjpjibdcjmjcgaaDivS
import Derived.Deep.LoopGhost
namespace Go.Proofs.Ytjpjibdcjmjcgaa
open Go.RowKit Nums

/-- quotient and rest of A by B, and no error -/
def QR3 (A B : Nat) (w : World) (e : Ending) (w' : World) : Prop :=
  ∃ q mq r mr, e = .returned (.tuple #[.slice q mq mq, .slice r mr mr, .int .i64 0]) ∧ mq = (limbs (A / B)).length ∧ Row w' q mq mq (limbs (A / B)) ∧ mr = (limbs (A % B)).length ∧ Row w' r mr mr (limbs (A % B)) ∧ Below w.heap.size w w'

/-- divide tells quotient and rest, of A by B -/
def Divides (A B : Nat) : Prop := ∀ (a0 a1 : Option Addr) (n0 n1 : Nat) (w : World), Row w a0 n0 n0 (limbs A) → Row w a1 n1 n1 (limbs B) → n0 ≤ 100000000 → n1 ≤ 100000000 → Calls Try.prog 44 #[.slice a0 n0 n0, .slice a1 n1 n1] w (QR A B w)

set_option maxHeartbeats 1000000 in
theorem div_zero (a0 a1 : Option Addr) (n0 c0 n1 c1 : Nat) (xs ys : List Nat) (w : World) (h0 : Row w a0 n0 c0 xs) (h1 : Row w a1 n1 c1 ys) (hn0 : n0 ≤ 100000000) (hn1 : n1 ≤ 100000000) (hz : val ys = 0) :
    Calls Try.prog 25 #[.slice a0 n0 c0, .slice a1 n1 c1] w fun e w' => e = .returned (.tuple #[.slice none 0 0, .slice none 0 0, .int .i64 3]) ∧ w = w' := by
  have H0 := Lib.hid h0; clear h0
  have H1 := Lib.hid h1; clear h1
  have HZ := Lib.hid hz; clear hz
  go_enter Try.func25, Try.ntmps25
  go_wp2_with fail
  refine (cut_num a0 n0 c0 xs w H0.out (by omega)).mono ?_
  rintro e w' ⟨p, mp, rfl, -, -, -, -, rfl⟩
  go_wp2_with fail
  refine (cut_num a1 n1 c1 ys w H1.out (by omega)).mono ?_
  rintro e w' ⟨q, mq, rfl, hm1, hmn1, hrow1, -, rfl⟩
  rw [HZ.out, limbs_zero] at hm1
  have hm1' : mq = 0 := hm1
  clear hm1 hrow1
  subst hm1'
  go_wp2
  go_ret3
  exact ⟨rfl, rfl⟩

set_option maxHeartbeats 1000000 in
theorem div_of (a0 a1 : Option Addr) (n0 c0 n1 c1 : Nat) (xs ys : List Nat) (w : World) (h0 : Row w a0 n0 c0 xs) (h1 : Row w a1 n1 c1 ys) (hn0 : n0 ≤ 100000000) (hn1 : n1 ≤ 100000000) (hz : 0 < val ys) (hd : Divides (val xs) (val ys)) :
    Calls Try.prog 25 #[.slice a0 n0 c0, .slice a1 n1 c1] w (QR3 (val xs) (val ys) w) := by
  have H0 := Lib.hid h0; clear h0
  have H1 := Lib.hid h1; clear h1
  have HD := Lib.hid hd; clear hd
  have HP : Hid (0 < (limbs (val ys)).length) := by
    rcases Nat.eq_zero_or_pos (limbs (val ys)).length with h | h
    · have := length_limbs_zero.1 h; exact absurd this (by omega)
    · exact h
  have HZ := Lib.hid hz; clear hz
  go_enter Try.func25, Try.ntmps25
  go_wp2_with fail
  refine (cut_num a0 n0 c0 xs w H0.out (by omega)).mono ?_
  rintro e w' ⟨p, mp, rfl, hm0, hmn0, hrow0, -, rfl⟩
  have HR0 := Lib.hid hrow0; clear hrow0 hm0
  go_wp2_with fail
  refine (cut_num a1 n1 c1 ys w H1.out (by omega)).mono ?_
  rintro e w' ⟨q, mq, rfl, hm1, hmn1, hrow1, -, rfl⟩
  have hmq : 0 < mq := by rw [hm1]; exact HP.out
  have HR1 := Lib.hid hrow1; clear hrow1 hm1
  have hmz : ((mq : Int) == 0) = false := by rw [beq_eq_false_iff_ne]; omega
  go_wp2_with fail
  refine (HD.out p q mp mq w HR0.out HR1.out (by omega) (by omega)).mono ?_
  rintro e w' ⟨q', mq', r', mr', rfl, h1, h2, h3, h4, h5⟩
  have K1 := Lib.hid h1; clear h1
  have K2 := Lib.hid h2; clear h2
  have K3 := Lib.hid h3; clear h3
  have K4 := Lib.hid h4; clear h4
  have K5 := Lib.hid h5; clear h5
  go_wp2
  go_ret3
  exact ⟨q', mq', r', mr', rfl, K1.out, K2.out, K3.out, K4.out, K5.out⟩

theorem word_lt (xs : List Nat) (hs : Small xs) (hl : xs.length ≤ 2) : val xs < 18446744073709551616 := by
  have h2 := val_lt xs hs
  have h4 : 4294967296 ^ xs.length ≤ 4294967296 ^ 2 := Nat.pow_le_pow_right (by omega) hl
  omega

set_option maxHeartbeats 2000000 in
theorem gcd_of (M : Nat) (hM : M ≤ 100000000) (a0 a1 : Option Addr) (n0 c0 n1 c1 : Nat) (xs ys : List Nat) (w : World) (h0 : Row w a0 n0 c0 xs) (h1 : Row w a1 n1 c1 ys) (hn0 : n0 ≤ M) (hn1 : n1 ≤ M)
    (hd : ∀ A B, 0 < B → (limbs A).length ≤ M → (limbs B).length ≤ M → (2 < (limbs A).length ∨ 2 < (limbs B).length) → Divides A B) :
    Calls Try.prog 27 #[.slice a0 n0 c0, .slice a1 n1 c1] w (Num (Nat.gcd (val xs) (val ys)) w) := by
  have H0 := Lib.hid h0; clear h0
  have H1 := Lib.hid h1; clear h1
  have HD := Lib.hid hd; clear hd
  go_enter Try.func27, Try.ntmps27
  go_wp2_with fail
  refine (cut_num a0 n0 c0 xs w H0.out (by omega)).mono ?_
  rintro e w' ⟨p, mp, rfl, hm0, hmn0, hrow0, -, rfl⟩
  have HR0 := Lib.hid hrow0; clear hrow0 hm0
  go_wp2_with fail
  refine (cut_num a1 n1 c1 ys w H1.out (by omega)).mono ?_
  rintro e w' ⟨q, mq, rfl, hm1, hmn1, hrow1, -, rfl⟩
  have HR1 := Lib.hid hrow1; clear hrow1 hm1
  obtain ⟨G, hG⟩ : ∃ G, G = Nat.gcd (val xs) (val ys) := ⟨_, rfl⟩
  have HG := Lib.hid hG; clear hG
  go_wp2
  go_loopg [0, 1] (val ys) (fun B u v wr => ∃ (A : Nat) (a b : Option Addr) (m n : Nat), u = .slice a m m ∧ v = .slice b n n ∧ m ≤ M ∧ n ≤ M ∧ Hid (Row wr a m m (limbs A) ∧ Row wr b n n (limbs B) ∧ G = Nat.gcd A B) ∧ Below w.heap.size w wr)
  case atStart => exact ⟨val xs, p, q, mp, mq, rfl, rfl, by omega, by omega, ⟨HR0.out, HR1.out, HG.out⟩, Below.refl _ _⟩
  case round =>
    obtain ⟨A, a, b, m, n, rfl, rfl, hm, hn, HZ, hbr⟩ := hrel
    have HLm : Hid ((limbs A).length = m) := HZ.out.1.1
    have HLn : Hid ((limbs gk).length = n) := HZ.out.2.1.1
    by_cases hn0 : 0 < n
    · have HB0 : Hid (0 < gk) := by
        rcases Nat.eq_zero_or_pos gk with h | h
        · exfalso; have := HLn.out; rw [h, limbs_zero] at this; simp at this; omega
        · exact h
      by_cases hlong : 2 < m ∨ 2 < n
      · have HDV : Hid (Divides A gk) := HD.out A gk HB0.out (by rw [HLm.out]; exact hm) (by rw [HLn.out]; exact hn) (by rw [HLm.out, HLn.out]; exact hlong)
        have hcases : 2 < m ∨ (m ≤ 2 ∧ 2 < n) := by omega
        clear hlong
        rcases hcases with h2 | ⟨h2, h3⟩
        all_goals
          go_wp2_with fail
          refine (HDV.out a b m n wr HZ.out.1 HZ.out.2.1 (by omega) (by omega)).mono ?_
          rintro e w' ⟨q', mq', r', mr', rfl, k1, k2, k3, k4, k5⟩
          have K3 := Lib.hid k3; clear k3
          have K4 := Lib.hid k4; clear k4
          have K5 := Lib.hid k5; clear k5 k1 k2
          have hmr : mr' ≤ M := by
            have h1 := limbs_len_mono (Nat.le_of_lt (Nat.mod_lt A HB0.out))
            have h2 := HLn.out
            have h3 := K3.out
            omega
          go_wp2
          go_roundg (A % gk)
          case measure => exact Nat.mod_lt _ HB0.out
          case rel => exact ⟨gk, b, r', n, mr', rfl, rfl, hn, hmr, ⟨row_below (Nat.le_refl _) K5.out HZ.out.2.1, K4.out, by rw [HZ.out.2.2, Nat.gcd_comm, Nat.gcd_rec, Nat.gcd_comm]⟩, hbr.trans (K5.out.mono hbr.size)⟩
      · have hm2 : m ≤ 2 := by omega
        have hn2 : n ≤ 2 := by omega
        clear hlong
        have hnz : ((n : Int) == 0) = false := by rw [beq_eq_false_iff_ne]; omega
        go_wp2_with fail
        refine (word_any a m m (limbs A) wr HZ.out.1 hm2).mono ?_
        rintro e w' ⟨rfl, rfl⟩
        go_wp2_with fail
        refine (word_any b n n (limbs gk) wr HZ.out.2.1 hn2).mono ?_
        rintro e w' ⟨rfl, rfl⟩
        have HX : Hid (val (limbs A) < 18446744073709551616) := word_lt _ (small_limbs A) (by rw [HLm.out]; exact hm2)
        have HY : Hid (val (limbs gk) < 18446744073709551616) := word_lt _ (small_limbs gk) (by rw [HLn.out]; exact hn2)
        have HGG : Hid (G = Nat.gcd (val (limbs A)) (val (limbs gk))) := by rw [val_limbs, val_limbs]; exact HZ.out.2.2
        obtain ⟨X, hX⟩ : ∃ X, X = val (limbs A) := ⟨_, rfl⟩
        obtain ⟨Y, hY⟩ : ∃ Y, Y = val (limbs gk) := ⟨_, rfl⟩
        rw [← hX] at HX HGG ⊢
        rw [← hY] at HY HGG ⊢
        clear hX hY
        obtain ⟨wo, rfl⟩ : ∃ wo : World, wo = wr := ⟨_, rfl⟩
        go_wp2
        go_loopg [7, 8] Y (fun y u v wr => ∃ x : Nat, u = .int .u64 (x : Int) ∧ v = .int .u64 (y : Int) ∧ Hid (x < 18446744073709551616 ∧ y < 18446744073709551616 ∧ G = Nat.gcd x y) ∧ Below w.heap.size w wr)
        case atStart => exact ⟨X, rfl, rfl, ⟨HX.out, HY.out, HGG.out⟩, hbr⟩
        case round =>
          obtain ⟨x, rfl, rfl, HW, hbw⟩ := hrel
          obtain ⟨yv, rfl⟩ : ∃ y, y = gk := ⟨_, rfl⟩
          by_cases hy0 : 0 < yv
          · have hy1 : (1 : Int) ≤ (yv : Int) := by omega
            go_wp2
            go_quiet (fail)
            go_wp2
            go_roundg (x % yv)
            case measure => exact Nat.mod_lt _ hy0
            case rel => exact ⟨yv, rfl, congrArg (Value.int .u64) (by simp), ⟨HW.out.2.1, Nat.lt_trans (Nat.mod_lt _ hy0) HW.out.2.1, by rw [HW.out.2.2, Nat.gcd_comm, Nat.gcd_rec, Nat.gcd_comm]⟩, below_drewN hbw _⟩
          · obtain rfl : yv = 0 := by omega
            have HGX : Hid (G = x) := by have := HW.out.2.2; rw [Nat.gcd_zero_right] at this; exact this
            have HX1 := Lib.hid HW.out.1
            go_wp2_with fail
            refine (split_any _ x wr rfl HX1.out).mono ?_
            rintro e w' ⟨a', m', rfl, hm', hrow, hb⟩
            have HM := Lib.hid hm'; clear hm'
            have HROW := Lib.hid hrow; clear hrow
            have HB := Lib.hid hb; clear hb
            go_wp2
            go_ret
            rw [← HG.out, HGX.out]
            exact ⟨a', m', rfl, HM.out, HROW.out, hbw.trans (HB.out.mono hbw.size)⟩
    · obtain rfl : n = 0 := by omega
      have hG0 : gk = 0 := length_limbs_zero.1 HLn.out
      have HGA : Hid (G = A) := by have := HZ.out.2.2; rw [hG0, Nat.gcd_zero_right] at this; exact this
      clear hG0
      go_wp2_with fail
      refine (told_any a m m (limbs A) wr HZ.out.1 (by omega)).mono ?_
      rintro e w' ⟨⟨a', m', rfl, hm', hmn', hrow, -⟩, hb2⟩
      have hml : m' = (limbs A).length := by rw [hm', tl_limbs]
      rw [hml, List.take_length] at hrow
      rw [← hml] at hrow
      have HM := Lib.hid hml; clear hml hm'
      have HROW := Lib.hid hrow; clear hrow
      have HB2 := Lib.hid hb2; clear hb2
      go_wp2
      go_ret
      rw [← HG.out, HGA.out]
      exact ⟨a', m', rfl, HM.out, HROW.out, hbr.trans (HB2.out.mono hbr.size)⟩
end Go.Proofs.Ytjpjibdcjmjcgaa
