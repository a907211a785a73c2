/- What the document's answer's Div and Gcd tell. -/
import Derived.Test.YtjpjibdcjmjcgaaRefD
import Derived.Deep.LoopGhost
namespace Go.Proofs.Ytjpjibdcjmjcgaa
open Go.RowKit Nums

theorem bits_none {N : Nat} (h : (bitsOf N).length = 0) : N = 0 := by
  have h1 := List.length_eq_zero_iff.1 h
  have h2 := bval_bits N
  rw [h1] at h2
  exact h2.symm

set_option maxHeartbeats 1000000 in
theorem rdiv_zero (a b : Option Addr) (n c m d : Nat) (xs ys : List Nat) (w : World) (h0 : Row w a n c xs) (h1 : Row w b m d ys) (hn : n ≤ 1000) (hm : m ≤ 1000) (hz : val ys = 0) :
    Calls Try.prog 26 #[.slice a n c, .slice b m d] w fun e w' => e = .returned (.tuple #[.slice none 0 0, .slice none 0 0, .int .i64 3]) ∧ Below w.heap.size w w' := by
  have H0 := Lib.hid h0; clear h0
  have H1 := Lib.hid h1; clear h1
  have HZ := Lib.hid hz; clear hz
  go_enter Try.func26, Try.ntmps26
  go_wp2_with fail
  refine (of_any a n c xs w H0.out (by omega)).mono ?_
  rintro e w1 ⟨va, ma, ca, rfl, hma, hra, hb1⟩
  have HB1 := Lib.hid hb1; clear hb1 hra hma
  go_wp2_with fail
  refine (of_any b m d ys w1 (row_below (Nat.le_refl _) HB1.out H1.out) (by omega)).mono ?_
  rw [HZ.out]
  rintro e w2 ⟨vb, mb, cb, rfl, hmb, hrb, hb2⟩
  rw [bits_zero] at hmb
  have hmb0 : mb = 0 := hmb
  have HB2 := Lib.hid (HB1.out.trans (hb2.mono HB1.out.size)); clear hb2 hrb hmb
  subst hmb0
  go_wp2
  go_ret3
  exact ⟨rfl, HB2.out⟩

def RQR (k l X Y : Nat) (w : World) (e : Ending) (w' : World) : Prop :=
  ∃ q mq cq r mr cr, e = .returned (.tuple #[.slice q mq cq, .slice r mr cr, .int .i64 0]) ∧ mq ≤ k ∧ mr ≤ l ∧ Row w' q mq cq (limbs (X / Y)) ∧ Row w' r mr cr (limbs (X % Y)) ∧ Below w.heap.size w w'

set_option maxHeartbeats 1000000 in
theorem rdivN {w : World} {a b : Option Addr} {n c m d : Nat} {xs ys : List Nat} {X Y : Nat} (k l : Nat) (h0 : Row w a n c xs) (h1 : Row w b m d ys) (hX : val xs = X) (hY : val ys = Y) (hn : n ≤ 100) (hm : m ≤ 100) (hY0 : 0 < Y) (hk : (limbs (X / Y)).length ≤ k) (hl : (limbs (X % Y)).length ≤ l) :
    Calls Try.prog 26 #[.slice a n c, .slice b m d] w (RQR k l X Y w) := by
  have LX := Lib.hid (bits_le h0)
  have LY := Lib.hid (bits_le h1)
  have H0 := Lib.hid h0; clear h0
  have H1 := Lib.hid h1; clear h1
  rw [hX] at LX
  rw [hY] at LY
  have HX := Lib.hid hX; clear hX
  have HY := Lib.hid hY; clear hY
  have HY0 := Lib.hid hY0; clear hY0
  have HK := Lib.hid hk; clear hk
  have HL := Lib.hid hl; clear hl
  go_enter Try.func26, Try.ntmps26
  go_wp2_with fail
  refine (of_any a n c xs w H0.out (by omega)).mono ?_
  rw [HX.out]
  rintro e w1 ⟨va, ma, ca, rfl, hma, hra, hb1⟩
  have hmab : ma ≤ 32000 := by have := LX.out; omega
  have HRA := Lib.hid hra; clear hra hma
  have HB1 := Lib.hid hb1; clear hb1
  go_wp2_with fail
  refine (of_any b m d ys w1 (row_below (Nat.le_refl _) HB1.out H1.out) (by omega)).mono ?_
  rw [HY.out]
  rintro e w2 ⟨vb, mb, cb, rfl, hmb, hrb, hb2⟩
  have hmbb : mb ≤ 32000 := by have := LY.out; omega
  have hmb0 : 0 < mb := by
    rcases Nat.eq_zero_or_pos mb with h | h
    · exfalso; rw [h] at hmb; have := bits_none hmb.symm; have := HY0.out; omega
    · exact h
  have hmbz : ((mb : Int) == 0) = false := by rw [beq_eq_false_iff_ne]; omega
  have HRB := Lib.hid hrb; clear hrb hmb
  replace HRA := Lib.hid (brow_below (Nat.le_refl _) hb2 HRA.out)
  have HB2 := Lib.hid (HB1.out.trans (hb2.mono HB1.out.size)); clear hb2
  go_wp2_with fail
  refine (bdiv_any va vb ma ca mb cb X Y w2 HRA.out HRB.out (by omega) (by omega) HY0.out).mono ?_
  rintro e w3 ⟨q, mq, cq, r, mr, cr, rfl, hmq, hmr, hq, hr, hb3⟩
  have hmqb : mq ≤ 32000 := by have h1 := bits_mono (Nat.div_le_self X Y); have h2 := LX.out; omega
  have hmrb : mr ≤ 32000 := by have h1 := bits_mono (Nat.mod_le X Y); have h2 := LX.out; omega
  have HQ := Lib.hid hq; clear hq hmq
  have HR := Lib.hid hr; clear hr hmr
  have HB3 := Lib.hid (HB2.out.trans (hb3.mono HB2.out.size)); clear hb3
  go_wp2_with fail
  refine (limbs_any q mq cq _ w3 HQ.out (by omega)).mono ?_
  rw [bval_bits]
  rintro e w4 ⟨vt, mt, ct, rfl, hmt, hrt, hb4⟩
  have HMT := Lib.hid hmt; clear hmt
  have HRT := Lib.hid hrt; clear hrt
  have HR4 := Lib.hid (brow_below (Nat.le_refl _) hb4 HR.out)
  have HB4 := Lib.hid (HB3.out.trans (hb4.mono HB3.out.size)); clear hb4
  go_wp2_with fail
  refine (limbs_any r mr cr _ w4 HR4.out (by omega)).mono ?_
  rw [bval_bits]
  rintro e w5 ⟨vu, mu, cu, rfl, hmu, hru, hb5⟩
  have HMU := Lib.hid hmu; clear hmu
  have HRU := Lib.hid hru; clear hru
  have HRT5 := Lib.hid (row_below (Nat.le_refl _) hb5 HRT.out)
  have HB5 := Lib.hid (HB4.out.trans (hb5.mono HB4.out.size)); clear hb5
  go_wp2
  go_ret3
  exact ⟨vt, mt, ct, vu, mu, cu, rfl, by rw [HMT.out]; exact HK.out, by rw [HMU.out]; exact HL.out, HRT5.out, HRU.out, HB5.out⟩

set_option maxHeartbeats 2000000 in
theorem rgcdN {w : World} {a b : Option Addr} {n c m d : Nat} {xs ys : List Nat} {X Y G : Nat} (k : Nat) (h0 : Row w a n c xs) (h1 : Row w b m d ys) (hX : val xs = X) (hY : val ys = Y) (hn : n ≤ 100) (hm : m ≤ 100) (hG : Nat.gcd X Y = G) (hk : (limbs G).length ≤ k) :
    Calls Try.prog 28 #[.slice a n c, .slice b m d] w (NumCK k G w) := by
  have LX := Lib.hid (bits_le h0)
  have LY := Lib.hid (bits_le h1)
  have H0 := Lib.hid h0; clear h0
  have H1 := Lib.hid h1; clear h1
  rw [hX] at LX
  rw [hY] at LY
  have HX := Lib.hid hX; clear hX
  have HY := Lib.hid hY; clear hY
  have HK := Lib.hid hk; clear hk
  have HG := Lib.hid hG; clear hG
  go_enter Try.func28, Try.ntmps28
  go_wp2_with fail
  refine (of_any a n c xs w H0.out (by omega)).mono ?_
  rw [HX.out]
  rintro e w1 ⟨va, ma, ca, rfl, hma, hra, hb1⟩
  have hmab : ma ≤ 32000 := by have := LX.out; omega
  have HRA := Lib.hid hra; clear hra hma
  have HB1 := Lib.hid hb1; clear hb1
  go_wp2_with fail
  refine (of_any b m d ys w1 (row_below (Nat.le_refl _) HB1.out H1.out) (by omega)).mono ?_
  rw [HY.out]
  rintro e w2 ⟨vb, mb, cb, rfl, hmb, hrb, hb2⟩
  have hmbb : mb ≤ 32000 := by have := LY.out; omega
  have HRB := Lib.hid hrb; clear hrb hmb
  replace HRA := Lib.hid (brow_below (Nat.le_refl _) hb2 HRA.out)
  have HB2 := Lib.hid (HB1.out.trans (hb2.mono HB1.out.size)); clear hb2
  go_wp2
  go_loopg [5, 6] Y (fun y u v wr => ∃ (x : Nat) (ao : Option Addr) (mo co : Nat) (bo : Option Addr) (no eo : Nat), u = .slice ao mo co ∧ v = .slice bo no eo ∧ mo ≤ 32000 ∧ no ≤ 32000 ∧ Hid (BRow wr ao mo co (bitsOf x) ∧ BRow wr bo no eo (bitsOf y) ∧ Nat.gcd x y = G) ∧ Below w.heap.size w wr)
  case atStart => exact ⟨X, va, ma, ca, vb, mb, cb, rfl, rfl, hmab, hmbb, ⟨HRA.out, HRB.out, HG.out⟩, HB2.out⟩
  case round =>
    obtain ⟨x, ao, mo, co, bo, no, eo, rfl, rfl, hmo, hno, HW, hbw⟩ := hrel
    obtain ⟨y, rfl⟩ : ∃ y, y = gk := ⟨_, rfl⟩
    by_cases hn0 : 0 < no
    · have HY0 : Hid (0 < y) := by
        rcases Nat.eq_zero_or_pos y with h | h
        · exfalso; have := HW.out.2.1.1; rw [h, bits_zero] at this; have h3 : 0 = no := this; omega
        · exact h
      go_wp2_with fail
      refine (bdiv_any ao bo mo co no eo x y wr HW.out.1 HW.out.2.1 (by omega) (by omega) HY0.out).mono ?_
      rintro e w3 ⟨q, mq, cq, r, mr, cr, rfl, hmq, hmr, hq, hr, hb3⟩
      have hmrb : mr ≤ 32000 := by
        have h1 := bits_mono (Nat.le_of_lt (Nat.mod_lt x HY0.out))
        have h2 := HW.out.2.1.1
        omega
      clear hmq hmr hq
      have HR := Lib.hid hr; clear hr
      have HBY := Lib.hid (brow_below (Nat.le_refl _) hb3 HW.out.2.1)
      have HB3 := Lib.hid (hbw.trans (hb3.mono hbw.size)); clear hb3
      go_wp2
      go_roundg (x % y)
      case measure => exact Nat.mod_lt _ HY0.out
      case rel => exact ⟨y, bo, no, eo, r, mr, cr, rfl, rfl, hno, hmrb, ⟨HBY.out, HR.out, by rw [← HW.out.2.2, Nat.gcd_comm x y, Nat.gcd_rec y x, Nat.gcd_comm]⟩, HB3.out⟩
    · obtain rfl : no = 0 := by omega
      have HE : Hid (x = G) := by
        have h1 := bits_none HW.out.2.1.1
        have h2 := HW.out.2.2
        rw [h1, Nat.gcd_zero_right] at h2
        exact h2
      go_wp2_with fail
      refine (limbs_any ao mo co _ wr HW.out.1 (by omega)).mono ?_
      rw [bval_bits, HE.out]
      rintro e w4 ⟨vt, mt, ct, rfl, hmt, hrt, hb4⟩
      have HMT := Lib.hid hmt; clear hmt
      have HRT := Lib.hid hrt; clear hrt
      have HB4 := Lib.hid (hbw.trans (hb4.mono hbw.size)); clear hb4
      go_wp2
      go_ret
      exact ⟨vt, mt, ct, rfl, by rw [HMT.out]; exact HK.out, HRT.out, HB4.out⟩
end Go.Proofs.Ytjpjibdcjmjcgaa
