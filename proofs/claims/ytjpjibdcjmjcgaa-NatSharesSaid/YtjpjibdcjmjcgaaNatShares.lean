/- Proved: for any three rows of numbers the law NatShares returns true and changes nothing that it was handed. No condition. -/
import Derived.Test.YtjpjibdcjmjcgaaCalc
import Derived.Test.YtjpjibdcjmjcgaaDivide
namespace Go.Proofs.Ytjpjibdcjmjcgaa
open Go.ChangeShapes Go.WideShapes Go.ChangeAt Go.RowKit Nums
open Go.ChangeMaps (open_string shut_string)
set_option linter.unusedVariables false

theorem len_gcd {a b k : Nat} (ha : (limbs a).length ≤ k) (hb : (limbs b).length ≤ k) : (limbs (Nat.gcd a b)).length ≤ k := by
  rcases Nat.eq_zero_or_pos a with h | h
  · subst h; rw [Nat.gcd_zero_left]; exact hb
  · exact len_le (Nat.gcd_le_left b h) ha

theorem mod_gcd_left (a b : Nat) : a % Nat.gcd a b = 0 := Nat.mod_eq_zero_of_dvd (Nat.gcd_dvd_left a b)
theorem mod_gcd_right (a b : Nat) : b % Nat.gcd a b = 0 := Nat.mod_eq_zero_of_dvd (Nat.gcd_dvd_right a b)
theorem gcd_mod (x y z : Nat) : Nat.gcd (x * z) (y * z) % z = 0 := Nat.mod_eq_zero_of_dvd (Nat.dvd_gcd (Nat.dvd_mul_left z x) (Nat.dvd_mul_left z y))
theorem len_zero {k : Nat} (h : k = 0) : (limbs k).length ≤ 0 := by rw [h, limbs_zero]; exact Nat.le_refl _

set_option maxHeartbeats 4000000 in
theorem natShares_zero (a0 : Option Addr) (n0 c0 : Nat) (xs : List Nat) (a1 : Option Addr) (n1 c1 : Nat) (ys : List Nat) (a2 : Option Addr) (n2 c2 : Nat) (zs : List Nat) (w : World) (r0 : Row w a0 n0 c0 xs) (r1 : Row w a1 n1 c1 ys) (r2 : Row w a2 n2 c2 zs) (b0 : n0 ≤ 12) (b1 : n1 ≤ 12) (b2 : n2 ≤ 12) (hz : val xs * val zs = 0 ∧ val ys * val zs = 0) :
    Calls Try.prog 8 #[.slice a0 n0 c0, .slice a1 n1 c1, .slice a2 n2 c2] w fun e w' => e = .returned (.bool true) ∧ Below w.heap.size w w' := by
  have LX := Lib.hid (row_len' r0 b0)
  have LY := Lib.hid (row_len' r1 b1)
  have LZ := Lib.hid (row_len' r2 b2)
  have R0 := Lib.hid r0; clear r0
  have R1 := Lib.hid r1; clear r1
  have R2 := Lib.hid r2; clear r2
  obtain ⟨X, hX⟩ : ∃ X, X = val xs := ⟨_, rfl⟩
  obtain ⟨Y, hY⟩ : ∃ Y, Y = val ys := ⟨_, rfl⟩
  obtain ⟨Z, hZ⟩ : ∃ Z, Z = val zs := ⟨_, rfl⟩
  rw [← hX] at LX hz
  rw [← hY] at LY hz
  rw [← hZ] at LZ hz
  have VX := Lib.hid hX.symm; clear hX
  have VY := Lib.hid hY.symm; clear hY
  have VZ := Lib.hid hZ.symm; clear hZ
  have HZ0 := Lib.hid hz; clear hz
  have HB := Lib.hid (Below.refl w.heap.size w)
  go_enter Try.func8, Try.ntmps8
  go_wp2_with fail
  refine (few_yes a0 a1 n0 c0 n1 c1 w b0 b1).mono ?_
  rintro e w' ⟨rfl, rfl⟩
  go_wp2_with fail
  refine (few_yes a2 none n2 c2 0 0 w b2 (by omega)).mono ?_
  rintro e w' ⟨rfl, rfl⟩
  go_wp2_with fail
  refine (mulN 24 (X * Z) R0.out R2.out VX.out VZ.out (by omega) (by omega) rfl (len_mul LX.out LZ.out)).mono ?_
  rintro e w1 ⟨vP, mP, rfl, bP, hr, hb⟩
  have RP := Lib.hid hr; clear hr
  replace R0 := Lib.hid (row_below (Nat.le_refl _) hb R0.out)
  replace R1 := Lib.hid (row_below (Nat.le_refl _) hb R1.out)
  replace R2 := Lib.hid (row_below (Nat.le_refl _) hb R2.out)
  replace HB := Lib.hid (HB.out.trans (hb.mono HB.out.size))
  clear hb
  go_wp2_with fail
  refine (mulN 24 (Y * Z) R1.out R2.out VY.out VZ.out (by omega) (by omega) rfl (len_mul LY.out LZ.out)).mono ?_
  rintro e w2 ⟨vQ, mQ, rfl, bQ, hr, hb⟩
  have RQ := Lib.hid hr; clear hr
  replace R0 := Lib.hid (row_below (Nat.le_refl _) hb R0.out)
  replace R1 := Lib.hid (row_below (Nat.le_refl _) hb R1.out)
  replace R2 := Lib.hid (row_below (Nat.le_refl _) hb R2.out)
  replace RP := Lib.hid (row_below (Nat.le_refl _) hb RP.out)
  replace HB := Lib.hid (HB.out.trans (hb.mono HB.out.size))
  clear hb
  go_wp2_with fail
  refine (gcdN (N := 0) 0 RP.out RQ.out (val_limbs _) (val_limbs _) (by omega) (by omega) (by rw [HZ0.out.1, HZ0.out.2]; rfl) (len_zero rfl)).mono ?_
  rintro e w3 ⟨vG, mG, rfl, bG, hr, hb⟩
  have RG := Lib.hid hr; clear hr
  replace RP := Lib.hid (row_below (Nat.le_refl _) hb RP.out)
  replace RQ := Lib.hid (row_below (Nat.le_refl _) hb RQ.out)
  replace HB := Lib.hid (HB.out.trans (hb.mono HB.out.size))
  clear hb
  obtain rfl : mG = 0 := by omega
  go_wp2_with fail
  refine (trimN 0 0 RP.out (by omega) (by rw [val_limbs, HZ0.out.1]) (len_zero rfl)).mono ?_
  rintro e w4 ⟨vT, mT, rfl, bT, hr, hb⟩
  have RT := Lib.hid hr; clear hr
  replace RP := Lib.hid (row_below (Nat.le_refl _) hb RP.out)
  replace RQ := Lib.hid (row_below (Nat.le_refl _) hb RQ.out)
  replace HB := Lib.hid (HB.out.trans (hb.mono HB.out.size))
  clear hb
  obtain rfl : mT = 0 := by omega
  go_wp2_with fail
  refine (trimN 0 0 RQ.out (by omega) (by rw [val_limbs, HZ0.out.2]) (len_zero rfl)).mono ?_
  rintro e w5 ⟨vU, mU, rfl, bU, hr, hb⟩
  have RU := Lib.hid hr; clear hr
  replace RQ := Lib.hid (row_below (Nat.le_refl _) hb RQ.out)
  replace HB := Lib.hid (HB.out.trans (hb.mono HB.out.size))
  clear hb
  obtain rfl : mU = 0 := by omega
  go_wp2_with fail
  refine (awake_any _).mono ?_
  rintro e w6 ⟨rfl, hb⟩
  replace HB := Lib.hid (HB.out.trans (hb.mono HB.out.size))
  clear hb
  go_wp2
  go_ret
  exact ⟨rfl, HB.out⟩

set_option maxHeartbeats 4000000 in
theorem natShares_pos (a0 : Option Addr) (n0 c0 : Nat) (xs : List Nat) (a1 : Option Addr) (n1 c1 : Nat) (ys : List Nat) (a2 : Option Addr) (n2 c2 : Nat) (zs : List Nat) (w : World) (r0 : Row w a0 n0 c0 xs) (r1 : Row w a1 n1 c1 ys) (r2 : Row w a2 n2 c2 zs) (b0 : n0 ≤ 12) (b1 : n1 ≤ 12) (b2 : n2 ≤ 12) (hz : 0 < Nat.gcd (val xs * val zs) (val ys * val zs) ∧ 0 < val zs) :
    Calls Try.prog 8 #[.slice a0 n0 c0, .slice a1 n1 c1, .slice a2 n2 c2] w fun e w' => e = .returned (.bool true) ∧ Below w.heap.size w w' := by
  have LX := Lib.hid (row_len' r0 b0)
  have LY := Lib.hid (row_len' r1 b1)
  have LZ := Lib.hid (row_len' r2 b2)
  have R0 := Lib.hid r0; clear r0
  have R1 := Lib.hid r1; clear r1
  have R2 := Lib.hid r2; clear r2
  obtain ⟨X, hX⟩ : ∃ X, X = val xs := ⟨_, rfl⟩
  obtain ⟨Y, hY⟩ : ∃ Y, Y = val ys := ⟨_, rfl⟩
  obtain ⟨Z, hZ⟩ : ∃ Z, Z = val zs := ⟨_, rfl⟩
  rw [← hX] at LX hz
  rw [← hY] at LY hz
  rw [← hZ] at LZ hz
  have VX := Lib.hid hX.symm; clear hX
  have VY := Lib.hid hY.symm; clear hY
  have VZ := Lib.hid hZ.symm; clear hZ
  have HZ0 := Lib.hid hz; clear hz
  have HB := Lib.hid (Below.refl w.heap.size w)
  go_enter Try.func8, Try.ntmps8
  go_wp2_with fail
  refine (few_yes a0 a1 n0 c0 n1 c1 w b0 b1).mono ?_
  rintro e w' ⟨rfl, rfl⟩
  go_wp2_with fail
  refine (few_yes a2 none n2 c2 0 0 w b2 (by omega)).mono ?_
  rintro e w' ⟨rfl, rfl⟩
  have LP := Lib.hid (len_mul LX.out LZ.out)
  have LQ := Lib.hid (len_mul LY.out LZ.out)
  have LG := Lib.hid (len_gcd LP.out LQ.out)
  go_wp2_with fail
  refine (mulN 24 (X * Z) R0.out R2.out VX.out VZ.out (by omega) (by omega) rfl (len_mul LX.out LZ.out)).mono ?_
  rintro e w1 ⟨vP, mP, rfl, bP, hr, hb⟩
  have RP := Lib.hid hr; clear hr
  replace R0 := Lib.hid (row_below (Nat.le_refl _) hb R0.out)
  replace R1 := Lib.hid (row_below (Nat.le_refl _) hb R1.out)
  replace R2 := Lib.hid (row_below (Nat.le_refl _) hb R2.out)
  replace HB := Lib.hid (HB.out.trans (hb.mono HB.out.size))
  clear hb
  go_wp2_with fail
  refine (mulN 24 (Y * Z) R1.out R2.out VY.out VZ.out (by omega) (by omega) rfl (len_mul LY.out LZ.out)).mono ?_
  rintro e w2 ⟨vQ, mQ, rfl, bQ, hr, hb⟩
  have RQ := Lib.hid hr; clear hr
  replace R0 := Lib.hid (row_below (Nat.le_refl _) hb R0.out)
  replace R1 := Lib.hid (row_below (Nat.le_refl _) hb R1.out)
  replace R2 := Lib.hid (row_below (Nat.le_refl _) hb R2.out)
  replace RP := Lib.hid (row_below (Nat.le_refl _) hb RP.out)
  replace HB := Lib.hid (HB.out.trans (hb.mono HB.out.size))
  clear hb
  go_wp2_with fail
  refine (gcdN (N := Nat.gcd (X * Z) (Y * Z)) 24 RP.out RQ.out (val_limbs _) (val_limbs _) (by omega) (by omega) rfl LG.out).mono ?_
  rintro e w3 ⟨vG, mG, rfl, bG, hr, hb⟩
  have RG := Lib.hid hr; clear hr
  replace R2 := Lib.hid (row_below (Nat.le_refl _) hb R2.out)
  replace RP := Lib.hid (row_below (Nat.le_refl _) hb RP.out)
  replace RQ := Lib.hid (row_below (Nat.le_refl _) hb RQ.out)
  replace HB := Lib.hid (HB.out.trans (hb.mono HB.out.size))
  clear hb
  have hmG : 0 < mG := by
    rcases Nat.eq_zero_or_pos mG with h | h
    · exfalso
      have h1 := RG.out.1
      rw [h] at h1
      have h2 := length_limbs_zero.1 h1
      have h3 := HZ0.out.1
      omega
    · exact h
  have hmGi : ((mG : Int) == 0) = false := by rw [beq_eq_false_iff_ne]; omega
  go_wp2_with fail
  refine (divN 24 0 RP.out RG.out (val_limbs _) (val_limbs _) (by omega) (by omega) HZ0.out.1 (len_le (Nat.div_le_self _ _) LP.out) (len_zero (mod_gcd_left _ _))).mono ?_
  rintro e w4 ⟨vq1, mq1, vr1, mr1, rfl, bq1, br1, -, -, hb⟩
  replace R2 := Lib.hid (row_below (Nat.le_refl _) hb R2.out)
  replace RP := Lib.hid (row_below (Nat.le_refl _) hb RP.out)
  replace RQ := Lib.hid (row_below (Nat.le_refl _) hb RQ.out)
  replace RG := Lib.hid (row_below (Nat.le_refl _) hb RG.out)
  replace HB := Lib.hid (HB.out.trans (hb.mono HB.out.size))
  clear hb
  obtain rfl : mr1 = 0 := by omega
  go_wp2_with fail
  refine (divN 24 0 RQ.out RG.out (val_limbs _) (val_limbs _) (by omega) (by omega) HZ0.out.1 (len_le (Nat.div_le_self _ _) LQ.out) (len_zero (mod_gcd_right _ _))).mono ?_
  rintro e w5 ⟨vq2, mq2, vr2, mr2, rfl, bq2, br2, -, -, hb⟩
  replace R2 := Lib.hid (row_below (Nat.le_refl _) hb R2.out)
  replace RP := Lib.hid (row_below (Nat.le_refl _) hb RP.out)
  replace RQ := Lib.hid (row_below (Nat.le_refl _) hb RQ.out)
  replace RG := Lib.hid (row_below (Nat.le_refl _) hb RG.out)
  replace HB := Lib.hid (HB.out.trans (hb.mono HB.out.size))
  clear hb
  obtain rfl : mr2 = 0 := by omega
  go_wp2_with fail
  refine (divN 24 0 RG.out R2.out (val_limbs _) VZ.out (by omega) (by omega) HZ0.out.2 (len_le (Nat.div_le_self _ _) LG.out) (len_zero (gcd_mod _ _ _))).mono ?_
  rintro e w6 ⟨vq3, mq3, vr3, mr3, rfl, bq3, br3, -, -, hb⟩
  replace R2 := Lib.hid (row_below (Nat.le_refl _) hb R2.out)
  replace RP := Lib.hid (row_below (Nat.le_refl _) hb RP.out)
  replace RQ := Lib.hid (row_below (Nat.le_refl _) hb RQ.out)
  replace RG := Lib.hid (row_below (Nat.le_refl _) hb RG.out)
  replace HB := Lib.hid (HB.out.trans (hb.mono HB.out.size))
  clear hb
  obtain rfl : mr3 = 0 := by omega
  go_wp2_with fail
  refine (gcdN (N := Nat.gcd (X * Z) (Y * Z)) 24 RQ.out RP.out (val_limbs _) (val_limbs _) (by omega) (by omega) (Nat.gcd_comm _ _) LG.out).mono ?_
  rintro e w7 ⟨vH, mH, rfl, bH, hr, hb⟩
  have RH := Lib.hid hr; clear hr
  replace R2 := Lib.hid (row_below (Nat.le_refl _) hb R2.out)
  replace RP := Lib.hid (row_below (Nat.le_refl _) hb RP.out)
  replace RQ := Lib.hid (row_below (Nat.le_refl _) hb RQ.out)
  replace RG := Lib.hid (row_below (Nat.le_refl _) hb RG.out)
  replace HB := Lib.hid (HB.out.trans (hb.mono HB.out.size))
  clear hb
  go_wp2_with fail
  refine (sameN RH.out RG.out rfl (by omega)).mono ?_
  rintro e w8 ⟨rfl, hb⟩
  replace R2 := Lib.hid (row_below (Nat.le_refl _) hb R2.out)
  replace RP := Lib.hid (row_below (Nat.le_refl _) hb RP.out)
  replace RQ := Lib.hid (row_below (Nat.le_refl _) hb RQ.out)
  replace RG := Lib.hid (row_below (Nat.le_refl _) hb RG.out)
  replace RH := Lib.hid (row_below (Nat.le_refl _) hb RH.out)
  replace HB := Lib.hid (HB.out.trans (hb.mono HB.out.size))
  clear hb
  go_wp2_with fail
  refine (awake_any _).mono ?_
  rintro e w9 ⟨rfl, hb⟩
  replace HB := Lib.hid (HB.out.trans (hb.mono HB.out.size))
  clear hb
  go_wp2
  go_ret
  exact ⟨rfl, HB.out⟩

set_option maxHeartbeats 1000000 in
theorem natShares_out (a0 : Option Addr) (n0 c0 : Nat) (a1 : Option Addr) (n1 c1 : Nat) (a2 : Option Addr) (n2 c2 : Nat) (w : World) (b0 : n0 ≤ maxLen) (b1 : n1 ≤ maxLen) (b2 : n2 ≤ maxLen) (h : ¬ (n0 ≤ 12 ∧ n1 ≤ 12) ∨ (n0 ≤ 12 ∧ n1 ≤ 12 ∧ ¬ n2 ≤ 12)) :
    Calls Try.prog 8 #[.slice a0 n0 c0, .slice a1 n1 c1, .slice a2 n2 c2] w fun e w' => e = .returned (.bool true) ∧ Below w.heap.size w w' := by
  rcases h with h | ⟨h0, h1, h2⟩
  · have H := Lib.hid h; clear h
    have B0 := Lib.hid b0; clear b0
    have B1 := Lib.hid b1; clear b1
    go_enter Try.func8, Try.ntmps8
    go_wp2_with fail
    refine (few_no a0 a1 n0 c0 n1 c1 w B0.out B1.out H.out).mono ?_
    rintro e w' ⟨rfl, rfl⟩
    go_wp2
    go_ret
    exact ⟨rfl, Below.refl _ _⟩
  · have B2 := Lib.hid b2; clear b2
    clear b0 b1
    go_enter Try.func8, Try.ntmps8
    go_wp2_with fail
    refine (few_yes a0 a1 n0 c0 n1 c1 w h0 h1).mono ?_
    rintro e w' ⟨rfl, rfl⟩
    go_wp2_with fail
    refine (few_no a2 none n2 c2 0 0 w B2.out (Nat.zero_le _) (fun h => h2 h.1)).mono ?_
    rintro e w' ⟨rfl, rfl⟩
    go_wp2
    go_ret
    exact ⟨rfl, Below.refl _ _⟩

theorem natShares_walk (a0 : Option Addr) (len0 cap0 : Nat) (z0 : List Int) (a1 : Option Addr) (len1 cap1 : Nat) (z1 : List Int) (a2 : Option Addr) (len2 cap2 : Nat) (z2 : List Int) (w : World) (w0 : IsRow .u32 w a0 len0 cap0 z0) (w1 : IsRow .u32 w a1 len1 cap1 z1) (w2 : IsRow .u32 w a2 len2 cap2 z2) :
    Calls Try.prog 8 #[.slice a0 len0 cap0, .slice a1 len1 cap1, .slice a2 len2 cap2] w fun e w' => e = .returned (.bool true) ∧ Below w.heap.size w w' := by
  obtain ⟨xs, r0⟩ := row_of_isrow w0
  obtain ⟨ys, r1⟩ := row_of_isrow w1
  obtain ⟨zs, r2⟩ := row_of_isrow w2
  clear w0 w1 w2
  by_cases h : len0 ≤ 12 ∧ len1 ≤ 12
  · by_cases h2 : len2 ≤ 12
    · rcases Nat.eq_zero_or_pos (Nat.gcd (val xs * val zs) (val ys * val zs)) with hz | hz
      · exact natShares_zero a0 _ cap0 xs a1 _ cap1 ys a2 _ cap2 zs w r0 r1 r2 h.1 h.2 h2 ⟨Nat.eq_zero_of_gcd_eq_zero_left hz, Nat.eq_zero_of_gcd_eq_zero_right hz⟩
      · refine natShares_pos a0 _ cap0 xs a1 _ cap1 ys a2 _ cap2 zs w r0 r1 r2 h.1 h.2 h2 ⟨hz, ?_⟩
        rcases Nat.eq_zero_or_pos (val zs) with h0 | h0
        · rw [h0] at hz; simp at hz
        · exact h0
    · exact natShares_out a0 _ cap0 a1 _ cap1 a2 _ cap2 w r0.len_le r1.len_le r2.len_le (Or.inr ⟨h.1, h.2, h2⟩)
  · exact natShares_out a0 _ cap0 a1 _ cap1 a2 _ cap2 w r0.len_le r1.len_le r2.len_le (Or.inl h)

set_option maxRecDepth 100000 in
theorem natShares_lifted (os : Os) (started : os.Started) (H : Type) (enc : TypeId × Value → H) :
    ReturnsInHanded {} Try.checked os 8 .any (Rows.natSharesSpec.pre6 enc Try.prog Try.f8 Rows.natSharesRow.domain false) (Rows.natSharesSpec.post enc Try.prog Try.f8 false true false false) := by
  refine returnsInHanded_of_change (C := Try.checked) Try.ownKnob started (by kernel_rfl) Try.func8
    (ChangeSpec.witness6 (enc := enc) (C := Try.checked) false ⟨#[], #[.slice none 0 0, .slice none 0 0, .slice none 0 0], []⟩ 8 (by kernel_rfl) (by kernel_rfl) (by kernel_rfl) (by kernel_rfl)) ?_
  intro W base args ds gs before hval0 hW hcnd _
  have hval : ∀ (j : Nat) t v, Try.f8.params[j]? = some t → args[j]? = some v → Value.okWide Try.prog W .any base t v := hval0
  have hW' := hW
  obtain ⟨p, q, hA0, hV, rfl, hfz, hnd⟩ := hW
  have hA : DataW.TrodAll enc Try.prog W 0 (fun _ => true) true Try.f8.params.toList args.toList ds p := hA0
  rw [Try.params8] at hA hval
  obtain ⟨v0, vs0, d0, ds0, p0, q0, hargs, rfl, rfl, h0, r0⟩ := trodAll_cons hA
  obtain ⟨v1, vs1, d1, ds1, p1, q1, rfl, rfl, rfl, h1, r1⟩ := trodAll_cons r0
  obtain ⟨v2, vs2, d2, ds2, p2, q2, rfl, rfl, rfl, h2, r2⟩ := trodAll_cons r1
  obtain ⟨rfl, rfl, rfl⟩ := trodAll_nil r2
  obtain rfl : args = #[v0, v1, v2] := by cases args; simp_all
  obtain ⟨rfl, rfl⟩ := trodVars_none hV
  obtain ⟨a0, len0, cap0, rfl⟩ := okWide_slice Try.underlying22 (hval 0 22 v0 rfl rfl)
  have k0 := h0
  have lt0 : ∀ x ∈ p0, x.block < W.heap.size := by obtain ⟨m, hm⟩ := k0; exact DataW.trod_lt m _ _ _ hm
  obtain ⟨z0, w0⟩ : ∃ zs, IsRow .u32 W a0 len0 cap0 zs := by
    obtain ⟨fuel, hf⟩ := h0
    rcases open_ints Try.underlying22 Try.underlying38 (by kernel_rfl) hf with ⟨hcs, _⟩ | ⟨x, l, c, zs, hcs, _, hl, hm, hz, _, hcell, hwz⟩
    · simp [Value.cells] at hcs
      obtain ⟨rfl, rfl, rfl⟩ := hcs
      exact ⟨[], .inl ⟨rfl, rfl, rfl, rfl⟩⟩
    · simp [Value.cells] at hcs
      obtain ⟨rfl, rfl, rfl⟩ := hcs
      exact ⟨zs, .inr ⟨_, rfl, hl, hm, by simpa using hz, hcell, hwz⟩⟩
  obtain ⟨a1, len1, cap1, rfl⟩ := okWide_slice Try.underlying22 (hval 1 22 v1 rfl rfl)
  have k1 := h1
  have lt1 : ∀ x ∈ p1, x.block < W.heap.size := by obtain ⟨m, hm⟩ := k1; exact DataW.trod_lt m _ _ _ hm
  obtain ⟨z1, w1⟩ : ∃ zs, IsRow .u32 W a1 len1 cap1 zs := by
    obtain ⟨fuel, hf⟩ := h1
    rcases open_ints Try.underlying22 Try.underlying38 (by kernel_rfl) hf with ⟨hcs, _⟩ | ⟨x, l, c, zs, hcs, _, hl, hm, hz, _, hcell, hwz⟩
    · simp [Value.cells] at hcs
      obtain ⟨rfl, rfl, rfl⟩ := hcs
      exact ⟨[], .inl ⟨rfl, rfl, rfl, rfl⟩⟩
    · simp [Value.cells] at hcs
      obtain ⟨rfl, rfl, rfl⟩ := hcs
      exact ⟨zs, .inr ⟨_, rfl, hl, hm, by simpa using hz, hcell, hwz⟩⟩
  obtain ⟨a2, len2, cap2, rfl⟩ := okWide_slice Try.underlying22 (hval 2 22 v2 rfl rfl)
  have k2 := h2
  have lt2 : ∀ x ∈ p2, x.block < W.heap.size := by obtain ⟨m, hm⟩ := k2; exact DataW.trod_lt m _ _ _ hm
  obtain ⟨z2, w2⟩ : ∃ zs, IsRow .u32 W a2 len2 cap2 zs := by
    obtain ⟨fuel, hf⟩ := h2
    rcases open_ints Try.underlying22 Try.underlying38 (by kernel_rfl) hf with ⟨hcs, _⟩ | ⟨x, l, c, zs, hcs, _, hl, hm, hz, _, hcell, hwz⟩
    · simp [Value.cells] at hcs
      obtain ⟨rfl, rfl, rfl⟩ := hcs
      exact ⟨[], .inl ⟨rfl, rfl, rfl, rfl⟩⟩
    · simp [Value.cells] at hcs
      obtain ⟨rfl, rfl, rfl⟩ := hcs
      exact ⟨zs, .inr ⟨_, rfl, hl, hm, by simpa using hz, hcell, hwz⟩⟩
  clear hA0 hval0
  refine (natShares_walk a0 len0 cap0 z0 a1 len1 cap1 z1 a2 len2 cap2 z2 W w0 w1 w2).mono fun e W' ⟨he, bel⟩ => ?_
  subst he
  exact ⟨_, rfl, _, _, _, [], _, [], hW', trodAll_mk1 (shut_bool Try.underlying4 _), (trodAll_cons_mk (Below.trod Try.laidOut (by kernel_rfl) (of_decide_eq_true (by kernel_rfl)) k0 bel lt0) (trodAll_cons_mk (Below.trod Try.laidOut (by kernel_rfl) (of_decide_eq_true (by kernel_rfl)) k1 bel lt1) (trodAll_cons_mk (Below.trod Try.laidOut (by kernel_rfl) (of_decide_eq_true (by kernel_rfl)) k2 bel lt2) trodAll_mk0))), rfl, bel.frame _, fun h => by cases h⟩

theorem natShares_over : Rows.natSharesRow.holds Try.pinned (OpenSpec.ofChange Rows.natSharesSpec) :=
  OpenClaim.holds_of_wide 8 Try.f8 rfl rfl rfl rfl rfl rfl rfl ⟨rfl, rfl, rfl, rfl, rfl⟩ rfl rfl rfl rfl rfl (by kernel_rfl) Try.func8 (by kernel_rfl)
    (of_decide_eq_true (by kernel_rfl)) (by unfold Func.isWrapper; first | (rw [if_pos (by decide +kernel)]; kernel_rfl) | (rw [if_neg (by decide +kernel)]; exact ⟨rfl, rfl⟩))
    (fun os started H enc _ => natShares_lifted os started H enc)

theorem natShares_holds : Rows.NatSharesSaid := natShares_over
#print axioms natShares_holds
end Go.Proofs.Ytjpjibdcjmjcgaa
