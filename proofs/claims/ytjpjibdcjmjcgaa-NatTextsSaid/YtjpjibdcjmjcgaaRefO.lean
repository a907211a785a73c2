/- What the document's answer's Add, Sub, Cmp, Bits tell. -/
import Derived.Test.YtjpjibdcjmjcgaaRefT
namespace Go.Proofs.Ytjpjibdcjmjcgaa
open Go.RowKit Nums

theorem bits_le {w : World} {a : Option Addr} {n c : Nat} {xs : List Nat} (h : Row w a n c xs) : (bitsOf (val xs)).length ≤ 32 * n := by
  apply bits_len
  have := val_lt xs h.2.2.2.2.1
  rw [h.1, pow32] at this
  exact this

theorem bits_mono {a b : Nat} (h : a ≤ b) : (bitsOf a).length ≤ (bitsOf b).length := by
  apply bits_len
  have h1 := bval_lt (bitsOf b)
  rw [bval_bits] at h1
  omega

theorem bits_add {a b k : Nat} (ha : (bitsOf a).length ≤ k) (hb : (bitsOf b).length ≤ k) : (bitsOf (a + b)).length ≤ k + 1 := by
  apply bits_len
  have h1 := bval_lt (bitsOf a)
  have h2 := bval_lt (bitsOf b)
  rw [bval_bits] at h1 h2
  have h3 := Nat.pow_le_pow_right (n := 2) (by omega) ha
  have h4 := Nat.pow_le_pow_right (n := 2) (by omega) hb
  rw [Nat.pow_succ]
  omega

set_option maxHeartbeats 2000000 in
theorem rsub_lt (a b : Option Addr) (n c m d : Nat) (xs ys : List Nat) (w : World) (h0 : Row w a n c xs) (h1 : Row w b m d ys) (hn : n ≤ 1000) (hm : m ≤ 1000) (hlt : val xs < val ys) :
    Calls Try.prog 12 #[.slice a n c, .slice b m d] w fun e w' => e = .returned (.tuple #[.slice none 0 0, .int .i64 1]) ∧ Below w.heap.size w w' := by
  have LX := Lib.hid (bits_le h0)
  have LY := Lib.hid (bits_le h1)
  have H0 := Lib.hid h0; clear h0
  have H1 := Lib.hid h1; clear h1
  have HL := Lib.hid hlt; clear hlt
  go_enter Try.func12, Try.ntmps12
  go_wp2_with fail
  refine (of_any a n c xs w H0.out (by omega)).mono ?_
  rintro e w1 ⟨va, ma, ca, rfl, hma, hra, hb1⟩
  have hmab : ma ≤ 32000 := by have := LX.out; omega
  have HRA := Lib.hid hra; clear hra hma
  have HB1 := Lib.hid hb1; clear hb1
  go_wp2_with fail
  refine (of_any b m d ys w1 (row_below (Nat.le_refl _) HB1.out H1.out) (by omega)).mono ?_
  rintro e w2 ⟨vb, mb, cb, rfl, hmb, hrb, hb2⟩
  have hmbb : mb ≤ 32000 := by have := LY.out; omega
  have HRB := Lib.hid hrb; clear hrb hmb
  replace HRA := Lib.hid (brow_below (Nat.le_refl _) hb2 HRA.out)
  have HB2 := Lib.hid (HB1.out.trans (hb2.mono HB1.out.size)); clear hb2
  go_wp2_with fail
  refine (bcmp_any va vb ma ca mb cb _ _ w2 HRA.out HRB.out (by omega) (by omega)).mono ?_
  rw [bval_bits, bval_bits, cmpv, if_pos HL.out]
  rintro e w' ⟨rfl, rfl⟩
  go_wp2
  go_ret2
  exact ⟨rfl, HB2.out⟩

set_option maxHeartbeats 2000000 in
theorem rsub_ge (a b : Option Addr) (n c m d : Nat) (xs ys : List Nat) (w : World) (h0 : Row w a n c xs) (h1 : Row w b m d ys) (hn : n ≤ 1000) (hm : m ≤ 1000) (hge : val ys ≤ val xs) :
    Calls Try.prog 12 #[.slice a n c, .slice b m d] w fun e w' => ∃ a' m c, e = .returned (.tuple #[.slice a' m c, .int .i64 0]) ∧ m = (limbs (val xs - val ys)).length ∧ Row w' a' m c (limbs (val xs - val ys)) ∧ Below w.heap.size w w' := by
  have LX := Lib.hid (bits_le h0)
  have LY := Lib.hid (bits_le h1)
  have H0 := Lib.hid h0; clear h0
  have H1 := Lib.hid h1; clear h1
  have HL := Lib.hid hge; clear hge
  have HC : Hid (∃ r : Int, cmpv (val xs) (val ys) = r ∧ 0 ≤ r) := ⟨_, rfl, by rw [cmpv, if_neg (by have := HL.out; omega)]; split <;> omega⟩
  go_enter Try.func12, Try.ntmps12
  go_wp2_with fail
  refine (of_any a n c xs w H0.out (by omega)).mono ?_
  rintro e w1 ⟨va, ma, ca, rfl, hma, hra, hb1⟩
  have HMA := Lib.hid hma
  have hmab : ma ≤ 32000 := by have := LX.out; omega
  have HRA := Lib.hid hra; clear hra hma
  have HB1 := Lib.hid hb1; clear hb1
  go_wp2_with fail
  refine (of_any b m d ys w1 (row_below (Nat.le_refl _) HB1.out H1.out) (by omega)).mono ?_
  rintro e w2 ⟨vb, mb, cb, rfl, hmb, hrb, hb2⟩
  have HMB := Lib.hid hmb
  have hmbb : mb ≤ 32000 := by have := LY.out; omega
  have HRB := Lib.hid hrb; clear hrb hmb
  replace HRA := Lib.hid (brow_below (Nat.le_refl _) hb2 HRA.out)
  have HB2 := Lib.hid (HB1.out.trans (hb2.mono HB1.out.size)); clear hb2
  obtain ⟨r, hr, hr0⟩ := HC.out
  have HR := Lib.hid hr; clear hr
  go_wp2_with fail
  refine (bcmp_any va vb ma ca mb cb _ _ w2 HRA.out HRB.out (by omega) (by omega)).mono ?_
  rw [bval_bits, bval_bits, HR.out]
  rintro e w' ⟨rfl, rfl⟩
  go_wp2_with fail
  refine (bsub_any va vb ma ca mb cb _ _ w2 HRA.out HRB.out (by omega) (by rw [HMA.out, HMB.out]; exact bits_mono HL.out) (by rw [bval_bits, bval_bits]; exact HL.out)).mono ?_
  rw [bval_bits, bval_bits]
  rintro e w3 ⟨vs, ms, cs, rfl, hms, hrs, hb3⟩
  have hmsb : ms ≤ 32000 := by have h1 := bits_mono (Nat.sub_le (val xs) (val ys)); have h2 := LX.out; omega
  have HRS := Lib.hid hrs; clear hrs hms
  have HB3 := Lib.hid (HB2.out.trans (hb3.mono HB2.out.size)); clear hb3
  go_wp2_with fail
  refine (limbs_any vs ms cs _ w3 HRS.out (by omega)).mono ?_
  rw [bval_bits]
  rintro e w4 ⟨vt, mt, ct, rfl, hmt, hrt, hb4⟩
  have HMT := Lib.hid hmt; clear hmt
  have HRT := Lib.hid hrt; clear hrt
  have HB4 := Lib.hid (HB3.out.trans (hb4.mono HB3.out.size)); clear hb4
  go_wp2
  go_ret2
  exact ⟨vt, mt, ct, rfl, HMT.out, HRT.out, HB4.out⟩

set_option maxHeartbeats 2000000 in
theorem rcmp_any (a b : Option Addr) (n c m d : Nat) (xs ys : List Nat) (w : World) (h0 : Row w a n c xs) (h1 : Row w b m d ys) (hn : n ≤ 1000) (hm : m ≤ 1000) :
    Calls Try.prog 19 #[.slice a n c, .slice b m d] w (CmpPost (val xs) (val ys) w) := by
  have LX := Lib.hid (bits_le h0)
  have LY := Lib.hid (bits_le h1)
  have H0 := Lib.hid h0; clear h0
  have H1 := Lib.hid h1; clear h1
  go_enter Try.func19, Try.ntmps19
  go_wp2_with fail
  refine (of_any a n c xs w H0.out (by omega)).mono ?_
  rintro e w1 ⟨va, ma, ca, rfl, hma, hra, hb1⟩
  have hmab : ma ≤ 32000 := by have := LX.out; omega
  have HRA := Lib.hid hra; clear hra hma
  have HB1 := Lib.hid hb1; clear hb1
  go_wp2_with fail
  refine (of_any b m d ys w1 (row_below (Nat.le_refl _) HB1.out H1.out) (by omega)).mono ?_
  rintro e w2 ⟨vb, mb, cb, rfl, hmb, hrb, hb2⟩
  have hmbb : mb ≤ 32000 := by have := LY.out; omega
  have HRB := Lib.hid hrb; clear hrb hmb
  replace HRA := Lib.hid (brow_below (Nat.le_refl _) hb2 HRA.out)
  have HB2 := Lib.hid (HB1.out.trans (hb2.mono HB1.out.size)); clear hb2
  go_wp2_with fail
  refine (bcmp_any va vb ma ca mb cb _ _ w2 HRA.out HRB.out (by omega) (by omega)).mono ?_
  rw [bval_bits, bval_bits]
  rintro e w' ⟨rfl, rfl⟩
  go_wp2
  go_ret
  exact ⟨rfl, HB2.out⟩

set_option maxHeartbeats 2000000 in
theorem radd_any (a b : Option Addr) (n c m d : Nat) (xs ys : List Nat) (w : World) (h0 : Row w a n c xs) (h1 : Row w b m d ys) (hn : n ≤ 1000) (hm : m ≤ 1000) :
    Calls Try.prog 15 #[.slice a n c, .slice b m d] w (NumC (val xs + val ys) w) := by
  have LX := Lib.hid (bits_le h0)
  have LY := Lib.hid (bits_le h1)
  have H0 := Lib.hid h0; clear h0
  have H1 := Lib.hid h1; clear h1
  go_enter Try.func15, Try.ntmps15
  go_wp2_with fail
  refine (short_any a n c xs w H0.out (by omega)).mono ?_
  rintro e w' ⟨⟨u, p, rfl, hu, hp⟩, rfl⟩
  have HP := Lib.hid hp; clear hp
  go_wp2_with fail
  refine (short_any b m d ys w H1.out (by omega)).mono ?_
  rintro e w' ⟨⟨v, q, rfl, hv, hq⟩, rfl⟩
  have HQ := Lib.hid hq; clear hq
  by_cases hpq : p = true ∧ q = true
  · obtain ⟨rfl, rfl⟩ := hpq
    have HU := Lib.hid (HP.out rfl)
    have HV := Lib.hid (HQ.out rfl)
    go_wp2_with fail
    refine (rlimbs_any _ (u + v) w (by omega) (by omega)).mono ?_
    rw [HU.out, HV.out]
    rintro e w4 ⟨vt, mt, ct, rfl, hmt, hrt, hb4⟩
    have HMT := Lib.hid hmt; clear hmt
    have HRT := Lib.hid hrt; clear hrt
    have HB4 := Lib.hid hb4; clear hb4
    go_wp2
    go_ret
    exact ⟨vt, mt, ct, rfl, HMT.out, HRT.out, HB4.out⟩
  · have hpq2 : p = false ∨ (p = true ∧ q = false) := by
      cases p <;> cases q <;> simp at hpq ⊢
    clear hpq
    rcases hpq2 with rfl | ⟨rfl, rfl⟩
    all_goals
      go_wp2_with fail
      refine (of_any a n c xs w H0.out (by omega)).mono ?_
      rintro e w1 ⟨va, ma, ca, rfl, hma, hra, hb1⟩
      have HMA := Lib.hid hma
      have hmab : ma ≤ 32000 := by have := LX.out; omega
      have HRA := Lib.hid hra; clear hra hma
      have HB1 := Lib.hid hb1; clear hb1
      go_wp2_with fail
      refine (of_any b m d ys w1 (row_below (Nat.le_refl _) HB1.out H1.out) (by omega)).mono ?_
      rintro e w2 ⟨vb, mb, cb, rfl, hmb, hrb, hb2⟩
      have HMB := Lib.hid hmb
      have hmbb : mb ≤ 32000 := by have := LY.out; omega
      have HRB := Lib.hid hrb; clear hrb hmb
      replace HRA := Lib.hid (brow_below (Nat.le_refl _) hb2 HRA.out)
      have HB2 := Lib.hid (HB1.out.trans (hb2.mono HB1.out.size)); clear hb2
      go_wp2_with fail
      refine (badd_any va vb ma ca mb cb _ _ w2 HRA.out HRB.out (by omega) (by omega)).mono ?_
      rw [bval_bits, bval_bits]
      rintro e w3 ⟨vs, ms, cs, rfl, hms, hrs, hb3⟩
      have hmsb : ms ≤ 32001 := by rw [hms]; exact bits_add (by rw [← HMA.out]; exact hmab) (by rw [← HMB.out]; exact hmbb)
      have HRS := Lib.hid hrs; clear hrs hms
      have HB3 := Lib.hid (HB2.out.trans (hb3.mono HB2.out.size)); clear hb3
      go_wp2_with fail
      refine (limbs_any vs ms cs _ w3 HRS.out (by omega)).mono ?_
      rw [bval_bits]
      rintro e w4 ⟨vt, mt, ct, rfl, hmt, hrt, hb4⟩
      have HMT := Lib.hid hmt; clear hmt
      have HRT := Lib.hid hrt; clear hrt
      have HB4 := Lib.hid (HB3.out.trans (hb4.mono HB3.out.size)); clear hb4
      go_wp2
      go_ret
      exact ⟨vt, mt, ct, rfl, HMT.out, HRT.out, HB4.out⟩

set_option maxHeartbeats 1000000 in
theorem rbits_any (a : Option Addr) (n c : Nat) (xs : List Nat) (w : World) (h0 : Row w a n c xs) (hn : n ≤ 1000) :
    Calls Try.prog 21 #[.slice a n c] w fun e w' => e = .returned (.int .i64 ((bitsOf (val xs)).length : Nat)) ∧ Below w.heap.size w w' := by
  have H0 := Lib.hid h0; clear h0
  go_enter Try.func21, Try.ntmps21
  go_wp2_with fail
  refine (of_any a n c xs w H0.out (by omega)).mono ?_
  rintro e w1 ⟨va, ma, ca, rfl, hma, hra, hb1⟩
  have HMA := Lib.hid hma; clear hma hra
  have HB1 := Lib.hid hb1; clear hb1
  go_wp2
  go_ret
  exact ⟨by rw [← HMA.out]; exact rfl, HB1.out⟩
end Go.Proofs.Ytjpjibdcjmjcgaa
