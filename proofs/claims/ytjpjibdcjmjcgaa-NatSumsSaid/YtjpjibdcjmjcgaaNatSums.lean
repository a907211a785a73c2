/- Proved: for any two rows of numbers the law NatSums returns true and changes nothing that it was handed. No condition. -/
import Derived.Test.YtjpjibdcjmjcgaaCalc
import Derived.Test.YtjpjibdcjmjcgaaRefC
namespace Go.Proofs.Ytjpjibdcjmjcgaa
open Go.ChangeShapes Go.WideShapes Go.ChangeAt Go.RowKit Nums
open Go.ChangeMaps (open_string shut_string)
set_option linter.unusedVariables false

set_option maxHeartbeats 4000000 in
theorem natSums_lt (a0 : Option Addr) (n0 c0 : Nat) (xs : List Nat) (a1 : Option Addr) (n1 c1 : Nat) (ys : List Nat) (w : World) (r0 : Row w a0 n0 c0 xs) (r1 : Row w a1 n1 c1 ys) (b0 : n0 ≤ 12) (b1 : n1 ≤ 12) (hz : val xs < val ys) :
    Calls Try.prog 3 #[.slice a0 n0 c0, .slice a1 n1 c1] w fun e w' => e = .returned (.bool true) ∧ Below w.heap.size w w' := by
  have LX := Lib.hid (row_len' r0 b0)
  have LY := Lib.hid (row_len' r1 b1)
  have R0 := Lib.hid r0; clear r0
  have R1 := Lib.hid r1; clear r1
  obtain ⟨C, hC⟩ : ∃ C, cmpv (val xs) (val ys) = C := ⟨_, rfl⟩
  obtain ⟨T, hT⟩ : ∃ T, (bitsOf (val xs)).length = T := ⟨_, rfl⟩
  have HC := Lib.hid hC; clear hC
  have HT := Lib.hid hT; clear hT
  obtain ⟨X, hX⟩ : ∃ X, X = val xs := ⟨_, rfl⟩
  obtain ⟨Y, hY⟩ : ∃ Y, Y = val ys := ⟨_, rfl⟩
  rw [← hX] at LX hz
  rw [← hY] at LY hz
  have VX := Lib.hid hX.symm; clear hX
  have VY := Lib.hid hY.symm; clear hY
  have HZ0 := Lib.hid hz; clear hz
  have HB := Lib.hid (Below.refl w.heap.size w)
  go_enter Try.func3, Try.ntmps3
  go_wp2_with fail
  refine (few_yes a0 a1 n0 c0 n1 c1 w b0 b1).mono ?_
  rintro e w' ⟨rfl, rfl⟩
  go_wp2_with fail
  refine (sub_lt a0 a1 n0 c0 n1 c1 xs ys _ R0.out R1.out (by omega) (by omega) (by rw [VX.out, VY.out]; exact HZ0.out)).mono ?_
  rintro e w1 ⟨rfl, hb⟩
  replace R0 := Lib.hid (row_below (Nat.le_refl _) hb R0.out)
  replace R1 := Lib.hid (row_below (Nat.le_refl _) hb R1.out)
  replace HB := Lib.hid (HB.out.trans (hb.mono HB.out.size))
  clear hb
  go_wp2_with fail
  refine (rsub_lt a0 a1 n0 c0 n1 c1 xs ys _ R0.out R1.out (by omega) (by omega) (by rw [VX.out, VY.out]; exact HZ0.out)).mono ?_
  rintro e w2 ⟨rfl, hb⟩
  replace R0 := Lib.hid (row_below (Nat.le_refl _) hb R0.out)
  replace R1 := Lib.hid (row_below (Nat.le_refl _) hb R1.out)
  replace HB := Lib.hid (HB.out.trans (hb.mono HB.out.size))
  clear hb
  go_wp2_with fail
  refine (addN 13 (X + Y) R0.out R1.out VX.out VY.out (by omega) (by omega) rfl (len_add LX.out LY.out)).mono ?_
  rintro e w3 ⟨vA, mA, rfl, bA, hr, hb⟩
  have RA := Lib.hid hr; clear hr
  replace R0 := Lib.hid (row_below (Nat.le_refl _) hb R0.out)
  replace R1 := Lib.hid (row_below (Nat.le_refl _) hb R1.out)
  replace HB := Lib.hid (HB.out.trans (hb.mono HB.out.size))
  clear hb
  go_wp2_with fail
  refine (raddN 13 (X + Y) R0.out R1.out VX.out VY.out (by omega) (by omega) rfl (len_add LX.out LY.out)).mono ?_
  rintro e w4 ⟨vB, mB, kB, rfl, bB, hr, hb⟩
  have RB := Lib.hid hr; clear hr
  replace R0 := Lib.hid (row_below (Nat.le_refl _) hb R0.out)
  replace R1 := Lib.hid (row_below (Nat.le_refl _) hb R1.out)
  replace RA := Lib.hid (row_below (Nat.le_refl _) hb RA.out)
  replace HB := Lib.hid (HB.out.trans (hb.mono HB.out.size))
  clear hb
  go_wp2_with fail
  refine (sameN RA.out RB.out rfl (by omega)).mono ?_
  rintro e w5 ⟨rfl, hb⟩
  replace R0 := Lib.hid (row_below (Nat.le_refl _) hb R0.out)
  replace R1 := Lib.hid (row_below (Nat.le_refl _) hb R1.out)
  replace RA := Lib.hid (row_below (Nat.le_refl _) hb RA.out)
  replace RB := Lib.hid (row_below (Nat.le_refl _) hb RB.out)
  replace HB := Lib.hid (HB.out.trans (hb.mono HB.out.size))
  clear hb
  go_wp2_with fail
  refine (mulN 24 (X * Y) R0.out R1.out VX.out VY.out (by omega) (by omega) rfl (len_mul LX.out LY.out)).mono ?_
  rintro e w6 ⟨vE, mE, rfl, bE, hr, hb⟩
  have RE := Lib.hid hr; clear hr
  replace R0 := Lib.hid (row_below (Nat.le_refl _) hb R0.out)
  replace R1 := Lib.hid (row_below (Nat.le_refl _) hb R1.out)
  replace HB := Lib.hid (HB.out.trans (hb.mono HB.out.size))
  clear hb
  go_wp2_with fail
  refine (rmulN 24 (X * Y) R0.out R1.out VX.out VY.out (by omega) (by omega) rfl (len_mul LX.out LY.out)).mono ?_
  rintro e w7 ⟨vF, mF, kF, rfl, bF, hr, hb⟩
  have RF := Lib.hid hr; clear hr
  replace R0 := Lib.hid (row_below (Nat.le_refl _) hb R0.out)
  replace R1 := Lib.hid (row_below (Nat.le_refl _) hb R1.out)
  replace RE := Lib.hid (row_below (Nat.le_refl _) hb RE.out)
  replace HB := Lib.hid (HB.out.trans (hb.mono HB.out.size))
  clear hb
  go_wp2_with fail
  refine (sameN RE.out RF.out rfl (by omega)).mono ?_
  rintro e w8 ⟨rfl, hb⟩
  replace R0 := Lib.hid (row_below (Nat.le_refl _) hb R0.out)
  replace R1 := Lib.hid (row_below (Nat.le_refl _) hb R1.out)
  replace RE := Lib.hid (row_below (Nat.le_refl _) hb RE.out)
  replace RF := Lib.hid (row_below (Nat.le_refl _) hb RF.out)
  replace HB := Lib.hid (HB.out.trans (hb.mono HB.out.size))
  clear hb
  go_wp2_with fail
  refine (sameN (row_nil _) (row_nil _) rfl (by omega)).mono ?_
  rintro e w9 ⟨rfl, hb⟩
  replace R0 := Lib.hid (row_below (Nat.le_refl _) hb R0.out)
  replace R1 := Lib.hid (row_below (Nat.le_refl _) hb R1.out)
  replace HB := Lib.hid (HB.out.trans (hb.mono HB.out.size))
  clear hb
  go_wp2_with fail
  refine (cmpN C R0.out R1.out (by omega) (by omega) HC.out).mono ?_
  rintro e w10 ⟨rfl, hb⟩
  replace R0 := Lib.hid (row_below (Nat.le_refl _) hb R0.out)
  replace R1 := Lib.hid (row_below (Nat.le_refl _) hb R1.out)
  replace HB := Lib.hid (HB.out.trans (hb.mono HB.out.size))
  clear hb
  go_wp2_with fail
  refine (rcmpN C R0.out R1.out (by omega) (by omega) HC.out).mono ?_
  rintro e w11 ⟨rfl, hb⟩
  replace R0 := Lib.hid (row_below (Nat.le_refl _) hb R0.out)
  replace R1 := Lib.hid (row_below (Nat.le_refl _) hb R1.out)
  replace HB := Lib.hid (HB.out.trans (hb.mono HB.out.size))
  clear hb
  go_wp2_with fail
  refine (bitsN T R0.out (by omega) HT.out).mono ?_
  rintro e w12 ⟨rfl, hb⟩
  replace R0 := Lib.hid (row_below (Nat.le_refl _) hb R0.out)
  replace R1 := Lib.hid (row_below (Nat.le_refl _) hb R1.out)
  replace HB := Lib.hid (HB.out.trans (hb.mono HB.out.size))
  clear hb
  go_wp2_with fail
  refine (rbitsN T R0.out (by omega) HT.out).mono ?_
  rintro e w13 ⟨rfl, hb⟩
  replace R0 := Lib.hid (row_below (Nat.le_refl _) hb R0.out)
  replace R1 := Lib.hid (row_below (Nat.le_refl _) hb R1.out)
  replace HB := Lib.hid (HB.out.trans (hb.mono HB.out.size))
  clear hb
  go_wp2_with fail
  refine (trimN 12 X R0.out (by omega) VX.out LX.out).mono ?_
  rintro e w14 ⟨vG, mG, rfl, bG, hr, hb⟩
  have RG := Lib.hid hr; clear hr
  replace R0 := Lib.hid (row_below (Nat.le_refl _) hb R0.out)
  replace R1 := Lib.hid (row_below (Nat.le_refl _) hb R1.out)
  replace HB := Lib.hid (HB.out.trans (hb.mono HB.out.size))
  clear hb
  go_wp2_with fail
  refine (rtrimN 12 X R0.out (by omega) VX.out LX.out).mono ?_
  rintro e w15 ⟨vH, mH, kH, rfl, bH, hr, hb⟩
  have RH := Lib.hid hr; clear hr
  replace R0 := Lib.hid (row_below (Nat.le_refl _) hb R0.out)
  replace R1 := Lib.hid (row_below (Nat.le_refl _) hb R1.out)
  replace RG := Lib.hid (row_below (Nat.le_refl _) hb RG.out)
  replace HB := Lib.hid (HB.out.trans (hb.mono HB.out.size))
  clear hb
  go_wp2_with fail
  refine (sameN RG.out RH.out rfl (by omega)).mono ?_
  rintro e w16 ⟨rfl, hb⟩
  replace R0 := Lib.hid (row_below (Nat.le_refl _) hb R0.out)
  replace R1 := Lib.hid (row_below (Nat.le_refl _) hb R1.out)
  replace RG := Lib.hid (row_below (Nat.le_refl _) hb RG.out)
  replace RH := Lib.hid (row_below (Nat.le_refl _) hb RH.out)
  replace HB := Lib.hid (HB.out.trans (hb.mono HB.out.size))
  clear hb
  go_wp2_with fail
  refine (awake_any _).mono ?_
  rintro e w17 ⟨rfl, hb⟩
  replace HB := Lib.hid (HB.out.trans (hb.mono HB.out.size))
  clear hb
  go_wp2
  go_ret
  exact ⟨rfl, HB.out⟩

set_option maxHeartbeats 4000000 in
theorem natSums_ge (a0 : Option Addr) (n0 c0 : Nat) (xs : List Nat) (a1 : Option Addr) (n1 c1 : Nat) (ys : List Nat) (w : World) (r0 : Row w a0 n0 c0 xs) (r1 : Row w a1 n1 c1 ys) (b0 : n0 ≤ 12) (b1 : n1 ≤ 12) (hz : val ys ≤ val xs) :
    Calls Try.prog 3 #[.slice a0 n0 c0, .slice a1 n1 c1] w fun e w' => e = .returned (.bool true) ∧ Below w.heap.size w w' := by
  have LX := Lib.hid (row_len' r0 b0)
  have LY := Lib.hid (row_len' r1 b1)
  have R0 := Lib.hid r0; clear r0
  have R1 := Lib.hid r1; clear r1
  obtain ⟨C, hC⟩ : ∃ C, cmpv (val xs) (val ys) = C := ⟨_, rfl⟩
  obtain ⟨T, hT⟩ : ∃ T, (bitsOf (val xs)).length = T := ⟨_, rfl⟩
  have HC := Lib.hid hC; clear hC
  have HT := Lib.hid hT; clear hT
  obtain ⟨X, hX⟩ : ∃ X, X = val xs := ⟨_, rfl⟩
  obtain ⟨Y, hY⟩ : ∃ Y, Y = val ys := ⟨_, rfl⟩
  rw [← hX] at LX hz
  rw [← hY] at LY hz
  have VX := Lib.hid hX.symm; clear hX
  have VY := Lib.hid hY.symm; clear hY
  have HZ0 := Lib.hid hz; clear hz
  have HB := Lib.hid (Below.refl w.heap.size w)
  go_enter Try.func3, Try.ntmps3
  go_wp2_with fail
  refine (few_yes a0 a1 n0 c0 n1 c1 w b0 b1).mono ?_
  rintro e w' ⟨rfl, rfl⟩
  have LS := Lib.hid (len_le (Nat.sub_le X Y) LX.out)
  go_wp2_with fail
  refine (subN 12 (X - Y) R0.out R1.out VX.out VY.out (by omega) (by omega) HZ0.out rfl LS.out).mono ?_
  rintro e w1 ⟨vS, mS, rfl, bS, hr, hb⟩
  have RS := Lib.hid hr; clear hr
  replace R0 := Lib.hid (row_below (Nat.le_refl _) hb R0.out)
  replace R1 := Lib.hid (row_below (Nat.le_refl _) hb R1.out)
  replace HB := Lib.hid (HB.out.trans (hb.mono HB.out.size))
  clear hb
  go_wp2_with fail
  refine (rsubN 12 (X - Y) R0.out R1.out VX.out VY.out (by omega) (by omega) HZ0.out rfl LS.out).mono ?_
  rintro e w2 ⟨vT, mT, kT, rfl, bT, hr, hb⟩
  have RT := Lib.hid hr; clear hr
  replace R0 := Lib.hid (row_below (Nat.le_refl _) hb R0.out)
  replace R1 := Lib.hid (row_below (Nat.le_refl _) hb R1.out)
  replace RS := Lib.hid (row_below (Nat.le_refl _) hb RS.out)
  replace HB := Lib.hid (HB.out.trans (hb.mono HB.out.size))
  clear hb
  go_wp2_with fail
  refine (addN 13 (X + Y) R0.out R1.out VX.out VY.out (by omega) (by omega) rfl (len_add LX.out LY.out)).mono ?_
  rintro e w3 ⟨vA, mA, rfl, bA, hr, hb⟩
  have RA := Lib.hid hr; clear hr
  replace R0 := Lib.hid (row_below (Nat.le_refl _) hb R0.out)
  replace R1 := Lib.hid (row_below (Nat.le_refl _) hb R1.out)
  replace RS := Lib.hid (row_below (Nat.le_refl _) hb RS.out)
  replace RT := Lib.hid (row_below (Nat.le_refl _) hb RT.out)
  replace HB := Lib.hid (HB.out.trans (hb.mono HB.out.size))
  clear hb
  go_wp2_with fail
  refine (raddN 13 (X + Y) R0.out R1.out VX.out VY.out (by omega) (by omega) rfl (len_add LX.out LY.out)).mono ?_
  rintro e w4 ⟨vB, mB, kB, rfl, bB, hr, hb⟩
  have RB := Lib.hid hr; clear hr
  replace R0 := Lib.hid (row_below (Nat.le_refl _) hb R0.out)
  replace R1 := Lib.hid (row_below (Nat.le_refl _) hb R1.out)
  replace RS := Lib.hid (row_below (Nat.le_refl _) hb RS.out)
  replace RT := Lib.hid (row_below (Nat.le_refl _) hb RT.out)
  replace RA := Lib.hid (row_below (Nat.le_refl _) hb RA.out)
  replace HB := Lib.hid (HB.out.trans (hb.mono HB.out.size))
  clear hb
  go_wp2_with fail
  refine (sameN RA.out RB.out rfl (by omega)).mono ?_
  rintro e w5 ⟨rfl, hb⟩
  replace R0 := Lib.hid (row_below (Nat.le_refl _) hb R0.out)
  replace R1 := Lib.hid (row_below (Nat.le_refl _) hb R1.out)
  replace RS := Lib.hid (row_below (Nat.le_refl _) hb RS.out)
  replace RT := Lib.hid (row_below (Nat.le_refl _) hb RT.out)
  replace RA := Lib.hid (row_below (Nat.le_refl _) hb RA.out)
  replace RB := Lib.hid (row_below (Nat.le_refl _) hb RB.out)
  replace HB := Lib.hid (HB.out.trans (hb.mono HB.out.size))
  clear hb
  go_wp2_with fail
  refine (mulN 24 (X * Y) R0.out R1.out VX.out VY.out (by omega) (by omega) rfl (len_mul LX.out LY.out)).mono ?_
  rintro e w6 ⟨vE, mE, rfl, bE, hr, hb⟩
  have RE := Lib.hid hr; clear hr
  replace R0 := Lib.hid (row_below (Nat.le_refl _) hb R0.out)
  replace R1 := Lib.hid (row_below (Nat.le_refl _) hb R1.out)
  replace RS := Lib.hid (row_below (Nat.le_refl _) hb RS.out)
  replace RT := Lib.hid (row_below (Nat.le_refl _) hb RT.out)
  replace HB := Lib.hid (HB.out.trans (hb.mono HB.out.size))
  clear hb
  go_wp2_with fail
  refine (rmulN 24 (X * Y) R0.out R1.out VX.out VY.out (by omega) (by omega) rfl (len_mul LX.out LY.out)).mono ?_
  rintro e w7 ⟨vF, mF, kF, rfl, bF, hr, hb⟩
  have RF := Lib.hid hr; clear hr
  replace R0 := Lib.hid (row_below (Nat.le_refl _) hb R0.out)
  replace R1 := Lib.hid (row_below (Nat.le_refl _) hb R1.out)
  replace RS := Lib.hid (row_below (Nat.le_refl _) hb RS.out)
  replace RT := Lib.hid (row_below (Nat.le_refl _) hb RT.out)
  replace RE := Lib.hid (row_below (Nat.le_refl _) hb RE.out)
  replace HB := Lib.hid (HB.out.trans (hb.mono HB.out.size))
  clear hb
  go_wp2_with fail
  refine (sameN RE.out RF.out rfl (by omega)).mono ?_
  rintro e w8 ⟨rfl, hb⟩
  replace R0 := Lib.hid (row_below (Nat.le_refl _) hb R0.out)
  replace R1 := Lib.hid (row_below (Nat.le_refl _) hb R1.out)
  replace RS := Lib.hid (row_below (Nat.le_refl _) hb RS.out)
  replace RT := Lib.hid (row_below (Nat.le_refl _) hb RT.out)
  replace RE := Lib.hid (row_below (Nat.le_refl _) hb RE.out)
  replace RF := Lib.hid (row_below (Nat.le_refl _) hb RF.out)
  replace HB := Lib.hid (HB.out.trans (hb.mono HB.out.size))
  clear hb
  go_wp2_with fail
  refine (sameN RS.out RT.out rfl (by omega)).mono ?_
  rintro e w9 ⟨rfl, hb⟩
  replace R0 := Lib.hid (row_below (Nat.le_refl _) hb R0.out)
  replace R1 := Lib.hid (row_below (Nat.le_refl _) hb R1.out)
  replace RS := Lib.hid (row_below (Nat.le_refl _) hb RS.out)
  replace RT := Lib.hid (row_below (Nat.le_refl _) hb RT.out)
  replace HB := Lib.hid (HB.out.trans (hb.mono HB.out.size))
  clear hb
  go_wp2_with fail
  refine (cmpN C R0.out R1.out (by omega) (by omega) HC.out).mono ?_
  rintro e w10 ⟨rfl, hb⟩
  replace R0 := Lib.hid (row_below (Nat.le_refl _) hb R0.out)
  replace R1 := Lib.hid (row_below (Nat.le_refl _) hb R1.out)
  replace HB := Lib.hid (HB.out.trans (hb.mono HB.out.size))
  clear hb
  go_wp2_with fail
  refine (rcmpN C R0.out R1.out (by omega) (by omega) HC.out).mono ?_
  rintro e w11 ⟨rfl, hb⟩
  replace R0 := Lib.hid (row_below (Nat.le_refl _) hb R0.out)
  replace R1 := Lib.hid (row_below (Nat.le_refl _) hb R1.out)
  replace HB := Lib.hid (HB.out.trans (hb.mono HB.out.size))
  clear hb
  go_wp2_with fail
  refine (bitsN T R0.out (by omega) HT.out).mono ?_
  rintro e w12 ⟨rfl, hb⟩
  replace R0 := Lib.hid (row_below (Nat.le_refl _) hb R0.out)
  replace R1 := Lib.hid (row_below (Nat.le_refl _) hb R1.out)
  replace HB := Lib.hid (HB.out.trans (hb.mono HB.out.size))
  clear hb
  go_wp2_with fail
  refine (rbitsN T R0.out (by omega) HT.out).mono ?_
  rintro e w13 ⟨rfl, hb⟩
  replace R0 := Lib.hid (row_below (Nat.le_refl _) hb R0.out)
  replace R1 := Lib.hid (row_below (Nat.le_refl _) hb R1.out)
  replace HB := Lib.hid (HB.out.trans (hb.mono HB.out.size))
  clear hb
  go_wp2_with fail
  refine (trimN 12 X R0.out (by omega) VX.out LX.out).mono ?_
  rintro e w14 ⟨vG, mG, rfl, bG, hr, hb⟩
  have RG := Lib.hid hr; clear hr
  replace R0 := Lib.hid (row_below (Nat.le_refl _) hb R0.out)
  replace R1 := Lib.hid (row_below (Nat.le_refl _) hb R1.out)
  replace HB := Lib.hid (HB.out.trans (hb.mono HB.out.size))
  clear hb
  go_wp2_with fail
  refine (rtrimN 12 X R0.out (by omega) VX.out LX.out).mono ?_
  rintro e w15 ⟨vH, mH, kH, rfl, bH, hr, hb⟩
  have RH := Lib.hid hr; clear hr
  replace R0 := Lib.hid (row_below (Nat.le_refl _) hb R0.out)
  replace R1 := Lib.hid (row_below (Nat.le_refl _) hb R1.out)
  replace RG := Lib.hid (row_below (Nat.le_refl _) hb RG.out)
  replace HB := Lib.hid (HB.out.trans (hb.mono HB.out.size))
  clear hb
  go_wp2_with fail
  refine (sameN RG.out RH.out rfl (by omega)).mono ?_
  rintro e w16 ⟨rfl, hb⟩
  replace R0 := Lib.hid (row_below (Nat.le_refl _) hb R0.out)
  replace R1 := Lib.hid (row_below (Nat.le_refl _) hb R1.out)
  replace RG := Lib.hid (row_below (Nat.le_refl _) hb RG.out)
  replace RH := Lib.hid (row_below (Nat.le_refl _) hb RH.out)
  replace HB := Lib.hid (HB.out.trans (hb.mono HB.out.size))
  clear hb
  go_wp2_with fail
  refine (awake_any _).mono ?_
  rintro e w17 ⟨rfl, hb⟩
  replace HB := Lib.hid (HB.out.trans (hb.mono HB.out.size))
  clear hb
  go_wp2
  go_ret
  exact ⟨rfl, HB.out⟩

set_option maxHeartbeats 1000000 in
theorem natSums_out (a0 : Option Addr) (n0 c0 : Nat) (a1 : Option Addr) (n1 c1 : Nat) (w : World) (b0 : n0 ≤ maxLen) (b1 : n1 ≤ maxLen) (h : ¬ (n0 ≤ 12 ∧ n1 ≤ 12)) :
    Calls Try.prog 3 #[.slice a0 n0 c0, .slice a1 n1 c1] w fun e w' => e = .returned (.bool true) ∧ Below w.heap.size w w' := by
  have H := Lib.hid h; clear h
  have B0 := Lib.hid b0; clear b0
  have B1 := Lib.hid b1; clear b1
  go_enter Try.func3, Try.ntmps3
  go_wp2_with fail
  refine (few_no a0 a1 n0 c0 n1 c1 w B0.out B1.out H.out).mono ?_
  rintro e w' ⟨rfl, rfl⟩
  go_wp2
  go_ret
  exact ⟨rfl, Below.refl _ _⟩

theorem natSums_walk (a0 : Option Addr) (len0 cap0 : Nat) (z0 : List Int) (a1 : Option Addr) (len1 cap1 : Nat) (z1 : List Int) (w : World) (w0 : IsRow .u32 w a0 len0 cap0 z0) (w1 : IsRow .u32 w a1 len1 cap1 z1) :
    Calls Try.prog 3 #[.slice a0 len0 cap0, .slice a1 len1 cap1] w fun e w' => e = .returned (.bool true) ∧ Below w.heap.size w w' := by
  obtain ⟨xs, r0⟩ := row_of_isrow w0
  obtain ⟨ys, r1⟩ := row_of_isrow w1
  clear w0 w1
  by_cases h : len0 ≤ 12 ∧ len1 ≤ 12
  · rcases Nat.lt_or_ge (val xs) (val ys) with hz | hz
    · exact natSums_lt a0 _ cap0 xs a1 _ cap1 ys w r0 r1 h.1 h.2 hz
    · exact natSums_ge a0 _ cap0 xs a1 _ cap1 ys w r0 r1 h.1 h.2 hz
  · exact natSums_out a0 _ cap0 a1 _ cap1 w r0.len_le r1.len_le h

set_option maxRecDepth 100000 in
theorem natSums_lifted (os : Os) (started : os.Started) (H : Type) (enc : TypeId × Value → H) :
    ReturnsInHanded {} Try.checked os 3 .any (Rows.natSumsSpec.pre6 enc Try.prog Try.f3 Rows.natSumsRow.domain false) (Rows.natSumsSpec.post enc Try.prog Try.f3 false true false false) := by
  refine returnsInHanded_of_change (C := Try.checked) Try.ownKnob started (by kernel_rfl) Try.func3
    (ChangeSpec.witness6 (enc := enc) (C := Try.checked) false ⟨#[], #[.slice none 0 0, .slice none 0 0], []⟩ 8 (by kernel_rfl) (by kernel_rfl) (by kernel_rfl) (by kernel_rfl)) ?_
  intro W base args ds gs before hval0 hW hcnd _
  have hval : ∀ (j : Nat) t v, Try.f3.params[j]? = some t → args[j]? = some v → Value.okWide Try.prog W .any base t v := hval0
  have hW' := hW
  obtain ⟨p, q, hA0, hV, rfl, hfz, hnd⟩ := hW
  have hA : DataW.TrodAll enc Try.prog W 0 (fun _ => true) true Try.f3.params.toList args.toList ds p := hA0
  rw [Try.params3] at hA hval
  obtain ⟨v0, vs0, d0, ds0, p0, q0, hargs, rfl, rfl, h0, r0⟩ := trodAll_cons hA
  obtain ⟨v1, vs1, d1, ds1, p1, q1, rfl, rfl, rfl, h1, r1⟩ := trodAll_cons r0
  obtain ⟨rfl, rfl, rfl⟩ := trodAll_nil r1
  obtain rfl : args = #[v0, v1] := by cases args; simp_all
  obtain ⟨rfl, rfl⟩ := trodVars_none hV
  obtain ⟨a0, len0, cap0, rfl⟩ := okWide_slice Try.underlying22 (hval 0 22 v0 rfl rfl)
  have k0 := h0
  have lt0 : ∀ x ∈ p0, x.block < W.heap.size := by obtain ⟨m, hm⟩ := k0; exact DataW.trod_lt m _ _ _ hm
  obtain ⟨z0, w0⟩ : ∃ zs, IsRow .u32 W a0 len0 cap0 zs := by
    obtain ⟨fuel, hf⟩ := h0
    rcases open_ints Try.underlying22 Try.underlying38 (by kernel_rfl) hf with ⟨hcs, _⟩ | ⟨x, l, c, zs, hcs, _, hl, hm, hz, _, hcell, hwz⟩
    · simp [Value.cells] at hcs
      obtain ⟨rfl, rfl, rfl⟩ := hcs
      exact ⟨[], .inl ⟨rfl, rfl, rfl, rfl⟩⟩
    · simp [Value.cells] at hcs
      obtain ⟨rfl, rfl, rfl⟩ := hcs
      exact ⟨zs, .inr ⟨_, rfl, hl, hm, by simpa using hz, hcell, hwz⟩⟩
  obtain ⟨a1, len1, cap1, rfl⟩ := okWide_slice Try.underlying22 (hval 1 22 v1 rfl rfl)
  have k1 := h1
  have lt1 : ∀ x ∈ p1, x.block < W.heap.size := by obtain ⟨m, hm⟩ := k1; exact DataW.trod_lt m _ _ _ hm
  obtain ⟨z1, w1⟩ : ∃ zs, IsRow .u32 W a1 len1 cap1 zs := by
    obtain ⟨fuel, hf⟩ := h1
    rcases open_ints Try.underlying22 Try.underlying38 (by kernel_rfl) hf with ⟨hcs, _⟩ | ⟨x, l, c, zs, hcs, _, hl, hm, hz, _, hcell, hwz⟩
    · simp [Value.cells] at hcs
      obtain ⟨rfl, rfl, rfl⟩ := hcs
      exact ⟨[], .inl ⟨rfl, rfl, rfl, rfl⟩⟩
    · simp [Value.cells] at hcs
      obtain ⟨rfl, rfl, rfl⟩ := hcs
      exact ⟨zs, .inr ⟨_, rfl, hl, hm, by simpa using hz, hcell, hwz⟩⟩
  clear hA0 hval0
  refine (natSums_walk a0 len0 cap0 z0 a1 len1 cap1 z1 W w0 w1).mono fun e W' ⟨he, bel⟩ => ?_
  subst he
  exact ⟨_, rfl, _, _, _, [], _, [], hW', trodAll_mk1 (shut_bool Try.underlying4 _), (trodAll_cons_mk (Below.trod Try.laidOut (by kernel_rfl) (of_decide_eq_true (by kernel_rfl)) k0 bel lt0) (trodAll_cons_mk (Below.trod Try.laidOut (by kernel_rfl) (of_decide_eq_true (by kernel_rfl)) k1 bel lt1) trodAll_mk0)), rfl, bel.frame _, fun h => by cases h⟩

theorem natSums_over : Rows.natSumsRow.holds Try.pinned (OpenSpec.ofChange Rows.natSumsSpec) :=
  OpenClaim.holds_of_wide 3 Try.f3 rfl rfl rfl rfl rfl rfl rfl ⟨rfl, rfl, rfl, rfl, rfl⟩ rfl rfl rfl rfl rfl (by kernel_rfl) Try.func3 (by kernel_rfl)
    (of_decide_eq_true (by kernel_rfl)) (by unfold Func.isWrapper; first | (rw [if_pos (by decide +kernel)]; kernel_rfl) | (rw [if_neg (by decide +kernel)]; exact ⟨rfl, rfl⟩))
    (fun os started H enc _ => natSums_lifted os started H enc)

theorem natSums_holds : Rows.NatSumsSaid := natSums_over
#print axioms natSums_holds
end Go.Proofs.Ytjpjibdcjmjcgaa
