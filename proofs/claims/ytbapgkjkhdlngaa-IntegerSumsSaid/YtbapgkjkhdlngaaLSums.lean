/- IntegerSums: sums, differences, products, opposites, order and sign are the document's. No condition. -/
import Derived.Test.YtbapgkjkhdlngaaIC
import Derived.Test.YtbapgkjkhdlngaaID
namespace Go.Proofs.Ytbapgkjkhdlngaa
open Go.ChangeShapes Go.WideShapes Go.ChangeAt Go.RowKit Nums
open Go.ChangeMaps (open_string shut_string)
set_option linter.unusedVariables false

set_option maxRecDepth 100000 in
set_option maxHeartbeats 16000000 in
theorem integerSums_in (s0 s1 : Bool) (a0 a1 : Option Addr) (n0 c0 n1 c1 : Nat) (xs ys : List Nat) (w : World) (r0 : Row w a0 n0 c0 xs) (r1 : Row w a1 n1 c1 ys) (b0 : n0 ≤ 10) (b1 : n1 ≤ 10) :
    Calls Try.prog 3 #[.agg #[.bool s0, .slice a0 n0 c0], .agg #[.bool s1, .slice a1 n1 c1]] w fun e w' => e = .returned (.bool true) ∧ Below w.heap.size w w' := by
  obtain ⟨A, hA⟩ : ∃ A, sv s0 (val xs) = A := ⟨_, rfl⟩
  obtain ⟨B, hB⟩ : ∃ B, sv s1 (val ys) = B := ⟨_, rfl⟩
  have LA := Lib.hid (lenZ_raw r0 b0 hA)
  have LB := Lib.hid (lenZ_raw r1 b1 hB)
  obtain ⟨P, eP⟩ : ∃ Z, A + B = Z := ⟨_, rfl⟩
  obtain ⟨D, eD⟩ : ∃ Z, A - B = Z := ⟨_, rfl⟩
  obtain ⟨M, eM⟩ : ∃ Z, A * B = Z := ⟨_, rfl⟩
  obtain ⟨U, eU⟩ : ∃ Z, -A = Z := ⟨_, rfl⟩
  obtain ⟨N, eN⟩ : ∃ Z, cmpZ A B = Z := ⟨_, rfl⟩
  obtain ⟨S, eS⟩ : ∃ Z, sgn A = Z := ⟨_, rfl⟩
  have EP := Lib.hid eP; clear eP
  have ED := Lib.hid eD; clear eD
  have EM := Lib.hid eM; clear eM
  have EU := Lib.hid eU; clear eU
  have EN := Lib.hid eN; clear eN
  have ES := Lib.hid eS; clear eS
  have VA := Lib.hid hA; clear hA
  have VB := Lib.hid hB; clear hB
  have XX := box_two w (.bool s0) (.slice a0 n0 c0) (.bool s1) (.slice a1 n1 c1)
  have XA := Lib.hid XX.1
  have XB := Lib.hid XX.2; clear XX
  have HB := Lib.hid (below_two w (.cells #[.bool s0, .slice a0 n0 c0] 24) (.cells #[.bool s1, .slice a1 n1 c1] 24))
  have RA := Lib.hid (r0.later HB.out)
  have RB := Lib.hid (r1.later HB.out)
  clear r0 r1
  go_enter Try.func3, Try.ntmps3
  go_wp2_with fail
  refine (fewI_yes b0 b1).mono ?_
  rintro e w1 ⟨rfl, hb⟩
  replace XA := Lib.hid (XA.out.later hb)
  replace XB := Lib.hid (XB.out.later hb)
  replace RA := Lib.hid (RA.out.later hb)
  replace RB := Lib.hid (RB.out.later hb)
  replace HB := Lib.hid (bthen HB.out hb); clear hb
  obtain ⟨kXA0, kXA1, -, -, -⟩ := XA.out
  obtain ⟨kXB0, kXB1, -, -, -⟩ := XB.out
  go_wp2_with fail
  clear kXA0 kXA1 kXB0 kXB1
  replace XA := Lib.hid XA.out.drew
  replace XB := Lib.hid XB.out.drew
  replace RA := Lib.hid RA.out.drew
  replace RB := Lib.hid RB.out.drew
  replace HB := Lib.hid HB.out.drew
  obtain ⟨kXA0, kXA1, -, -, -⟩ := XA.out
  obtain ⟨kXB0, kXB1, -, -, -⟩ := XB.out
  go_region_held3 (fun w' => w'.cell? ⟨w.heap.size, 0, none⟩ = some (.bool s0) ∧ w'.cell? ⟨w.heap.size, 1, none⟩ = some (.slice a0 n0 c0) ∧ w'.cell? ⟨w.heap.size + 1, 0, none⟩ = some (.bool s1) ∧ w'.cell? ⟨w.heap.size + 1, 1, none⟩ = some (.slice a1 n1 c1))
    (first | (refine ⟨?_, ?_, ?_, ?_⟩ <;> assumption) | (go_keep; done))
    (first
      | (have mk := G19; clear mk
         rw [if_pos (by rfl)]
         go_simp
         go_at_call 26
         refine (awake_any _).mono ?_
         rintro e w20 ⟨rfl, hb⟩
         replace XA := Lib.hid (XA.out.later hb)
         replace XB := Lib.hid (XB.out.later hb)
         clear kXA0 kXA1 kXB0 kXB1
         obtain ⟨kXA0, kXA1, -, -, -⟩ := XA.out
         obtain ⟨kXB0, kXB1, -, -, -⟩ := XB.out
         replace HB := Lib.hid (bthen HB.out hb); clear hb
         have G20 : Hid True := trivial
         try go_wp2_with fail)
      | (have mk := G18; clear mk
         rw [if_pos (by rfl)]
         go_simp
         go_at_call 25
         refine (rsignI S RA.out VA.out (by omega) ES.out).mono ?_
         rintro e w19 ⟨rfl, hb⟩
         clear RA
         replace XA := Lib.hid (XA.out.later hb)
         replace XB := Lib.hid (XB.out.later hb)
         clear kXA0 kXA1 kXB0 kXB1
         obtain ⟨kXA0, kXA1, -, -, -⟩ := XA.out
         obtain ⟨kXB0, kXB1, -, -, -⟩ := XB.out
         replace HB := Lib.hid (bthen HB.out hb); clear hb
         have G19 : Hid True := trivial
         try go_wp2_with fail)
      | (have mk := G17; clear mk
         rw [if_pos (by rfl)]
         go_simp
         go_at_call 24
         refine (signI S RA.out VA.out (by omega) ES.out).mono ?_
         rintro e w18 ⟨rfl, hb⟩
         replace RA := Lib.hid (RA.out.later hb)
         replace XA := Lib.hid (XA.out.later hb)
         replace XB := Lib.hid (XB.out.later hb)
         clear kXA0 kXA1 kXB0 kXB1
         obtain ⟨kXA0, kXA1, -, -, -⟩ := XA.out
         obtain ⟨kXB0, kXB1, -, -, -⟩ := XB.out
         replace HB := Lib.hid (bthen HB.out hb); clear hb
         have G18 : Hid True := trivial
         try go_wp2_with fail)
      | (have mk := G16; clear mk
         rw [if_pos (by rfl)]
         go_simp
         go_at_call 23
         refine (rcmpI N RA.out RB.out VA.out VB.out (by omega) (by omega) EN.out).mono ?_
         rintro e w17 ⟨rfl, hb⟩
         clear RB
         replace RA := Lib.hid (RA.out.later hb)
         replace XA := Lib.hid (XA.out.later hb)
         replace XB := Lib.hid (XB.out.later hb)
         clear kXA0 kXA1 kXB0 kXB1
         obtain ⟨kXA0, kXA1, -, -, -⟩ := XA.out
         obtain ⟨kXB0, kXB1, -, -, -⟩ := XB.out
         replace HB := Lib.hid (bthen HB.out hb); clear hb
         have G17 : Hid True := trivial
         try go_wp2_with fail)
      | (have mk := G15; clear mk
         rw [if_pos (by rfl)]
         go_simp
         go_at_call 22
         refine (cmpI N RA.out RB.out VA.out VB.out (by omega) (by omega) EN.out).mono ?_
         rintro e w16 ⟨rfl, hb⟩
         replace RA := Lib.hid (RA.out.later hb)
         replace RB := Lib.hid (RB.out.later hb)
         replace XA := Lib.hid (XA.out.later hb)
         replace XB := Lib.hid (XB.out.later hb)
         clear kXA0 kXA1 kXB0 kXB1
         obtain ⟨kXA0, kXA1, -, -, -⟩ := XA.out
         obtain ⟨kXB0, kXB1, -, -, -⟩ := XB.out
         replace HB := Lib.hid (bthen HB.out hb); clear hb
         have G16 : Hid True := trivial
         try go_wp2_with fail)
      | (have mk := G14; clear mk
         rw [if_pos (by rfl)]
         go_simp
         go_at_call 11
         refine (sameZ Ru1.out Ru2.out rfl (by omega)).mono ?_
         rintro e w15 ⟨rfl, hb⟩
         clear Ru1
         clear Ru2
         replace RA := Lib.hid (RA.out.later hb)
         replace RB := Lib.hid (RB.out.later hb)
         replace XA := Lib.hid (XA.out.later hb)
         replace XB := Lib.hid (XB.out.later hb)
         clear kXA0 kXA1 kXB0 kXB1
         obtain ⟨kXA0, kXA1, -, -, -⟩ := XA.out
         obtain ⟨kXB0, kXB1, -, -, -⟩ := XB.out
         replace HB := Lib.hid (bthen HB.out hb); clear hb
         have G15 : Hid True := trivial
         try go_wp2_with fail)
      | (have mk := G13; clear mk
         rw [if_pos (by rfl)]
         go_simp
         go_at_call 21
         refine (rnegI 10 U RA.out VA.out (by omega) EU.out (lenZ_neg LA.out EU.out)).mono ?_
         rintro e w14 ⟨au2, mu2, cu2, rfl, bu2, hr, hb⟩
         have Ru2 := Lib.hid hr; clear hr
         replace RA := Lib.hid (RA.out.later hb)
         replace RB := Lib.hid (RB.out.later hb)
         replace Ru1 := Lib.hid (Ru1.out.later hb)
         replace XA := Lib.hid (XA.out.later hb)
         replace XB := Lib.hid (XB.out.later hb)
         clear kXA0 kXA1 kXB0 kXB1
         obtain ⟨kXA0, kXA1, -, -, -⟩ := XA.out
         obtain ⟨kXB0, kXB1, -, -, -⟩ := XB.out
         replace HB := Lib.hid (bthen HB.out hb); clear hb
         have G14 : Hid True := trivial
         try go_wp2_with fail)
      | (have mk := G12; clear mk
         rw [if_pos (by rfl)]
         go_simp
         go_at_call 20
         refine (negI 10 U RA.out VA.out (by omega) EU.out (lenZ_neg LA.out EU.out)).mono ?_
         rintro e w13 ⟨au1, mu1, cu1, rfl, bu1, hr, hb⟩
         have Ru1 := Lib.hid hr; clear hr
         replace RA := Lib.hid (RA.out.later hb)
         replace RB := Lib.hid (RB.out.later hb)
         replace XA := Lib.hid (XA.out.later hb)
         replace XB := Lib.hid (XB.out.later hb)
         clear kXA0 kXA1 kXB0 kXB1
         obtain ⟨kXA0, kXA1, -, -, -⟩ := XA.out
         obtain ⟨kXB0, kXB1, -, -, -⟩ := XB.out
         replace HB := Lib.hid (bthen HB.out hb); clear hb
         have G13 : Hid True := trivial
         try go_wp2_with fail)
      | (have mk := G11; clear mk
         rw [if_pos (by rfl)]
         go_simp
         go_at_call 11
         refine (sameZ Rp3.out Rq3.out rfl (by omega)).mono ?_
         rintro e w12 ⟨rfl, hb⟩
         clear Rp3
         clear Rq3
         replace RA := Lib.hid (RA.out.later hb)
         replace RB := Lib.hid (RB.out.later hb)
         replace XA := Lib.hid (XA.out.later hb)
         replace XB := Lib.hid (XB.out.later hb)
         clear kXA0 kXA1 kXB0 kXB1
         obtain ⟨kXA0, kXA1, -, -, -⟩ := XA.out
         obtain ⟨kXB0, kXB1, -, -, -⟩ := XB.out
         replace HB := Lib.hid (bthen HB.out hb); clear hb
         have G12 : Hid True := trivial
         try go_wp2_with fail)
      | (have mk := G10; clear mk
         rw [if_pos (by rfl)]
         go_simp
         go_at_call 19
         refine (rmulI 20 M RA.out RB.out VA.out VB.out (by omega) (by omega) EM.out (lenZ_mul LA.out LB.out EM.out) (by omega)).mono ?_
         rintro e w11 ⟨aq3, mq3, cq3, rfl, bq3, hr, hb⟩
         have Rq3 := Lib.hid hr; clear hr
         replace RA := Lib.hid (RA.out.later hb)
         replace RB := Lib.hid (RB.out.later hb)
         replace Rp3 := Lib.hid (Rp3.out.later hb)
         replace XA := Lib.hid (XA.out.later hb)
         replace XB := Lib.hid (XB.out.later hb)
         clear kXA0 kXA1 kXB0 kXB1
         obtain ⟨kXA0, kXA1, -, -, -⟩ := XA.out
         obtain ⟨kXB0, kXB1, -, -, -⟩ := XB.out
         replace HB := Lib.hid (bthen HB.out hb); clear hb
         have G11 : Hid True := trivial
         try go_wp2_with fail)
      | (have mk := G9; clear mk
         rw [if_pos (by rfl)]
         go_simp
         go_at_call 18
         refine (mulI 20 M RA.out RB.out VA.out VB.out (by omega) (by omega) EM.out (lenZ_mul LA.out LB.out EM.out)).mono ?_
         rintro e w10 ⟨ap3, mp3, cp3, rfl, bp3, hr, hb⟩
         have Rp3 := Lib.hid hr; clear hr
         replace RA := Lib.hid (RA.out.later hb)
         replace RB := Lib.hid (RB.out.later hb)
         replace XA := Lib.hid (XA.out.later hb)
         replace XB := Lib.hid (XB.out.later hb)
         clear kXA0 kXA1 kXB0 kXB1
         obtain ⟨kXA0, kXA1, -, -, -⟩ := XA.out
         obtain ⟨kXB0, kXB1, -, -, -⟩ := XB.out
         replace HB := Lib.hid (bthen HB.out hb); clear hb
         have G10 : Hid True := trivial
         try go_wp2_with fail)
      | (have mk := G8; clear mk
         rw [if_pos (by rfl)]
         go_simp
         go_at_call 11
         refine (sameZ Rp2.out Rq2.out rfl (by omega)).mono ?_
         rintro e w9 ⟨rfl, hb⟩
         clear Rp2
         clear Rq2
         replace RA := Lib.hid (RA.out.later hb)
         replace RB := Lib.hid (RB.out.later hb)
         replace XA := Lib.hid (XA.out.later hb)
         replace XB := Lib.hid (XB.out.later hb)
         clear kXA0 kXA1 kXB0 kXB1
         obtain ⟨kXA0, kXA1, -, -, -⟩ := XA.out
         obtain ⟨kXB0, kXB1, -, -, -⟩ := XB.out
         replace HB := Lib.hid (bthen HB.out hb); clear hb
         have G9 : Hid True := trivial
         try go_wp2_with fail)
      | (have mk := G7; clear mk
         rw [if_pos (by rfl)]
         go_simp
         go_at_call 17
         refine (rsubI 11 D RA.out RB.out VA.out VB.out (by omega) (by omega) ED.out (lenZ_sub LA.out LB.out ED.out) (by omega)).mono ?_
         rintro e w8 ⟨aq2, mq2, cq2, rfl, bq2, hr, hb⟩
         have Rq2 := Lib.hid hr; clear hr
         replace RA := Lib.hid (RA.out.later hb)
         replace RB := Lib.hid (RB.out.later hb)
         replace Rp2 := Lib.hid (Rp2.out.later hb)
         replace XA := Lib.hid (XA.out.later hb)
         replace XB := Lib.hid (XB.out.later hb)
         clear kXA0 kXA1 kXB0 kXB1
         obtain ⟨kXA0, kXA1, -, -, -⟩ := XA.out
         obtain ⟨kXB0, kXB1, -, -, -⟩ := XB.out
         replace HB := Lib.hid (bthen HB.out hb); clear hb
         have G8 : Hid True := trivial
         try go_wp2_with fail)
      | (have mk := G6; clear mk
         rw [if_pos (by rfl)]
         go_simp
         go_at_call 16
         refine (subI 11 D RA.out RB.out VA.out VB.out (by omega) (by omega) ED.out (lenZ_sub LA.out LB.out ED.out)).mono ?_
         rintro e w7 ⟨ap2, mp2, cp2, rfl, bp2, hr, hb⟩
         have Rp2 := Lib.hid hr; clear hr
         replace RA := Lib.hid (RA.out.later hb)
         replace RB := Lib.hid (RB.out.later hb)
         replace XA := Lib.hid (XA.out.later hb)
         replace XB := Lib.hid (XB.out.later hb)
         clear kXA0 kXA1 kXB0 kXB1
         obtain ⟨kXA0, kXA1, -, -, -⟩ := XA.out
         obtain ⟨kXB0, kXB1, -, -, -⟩ := XB.out
         replace HB := Lib.hid (bthen HB.out hb); clear hb
         have G7 : Hid True := trivial
         try go_wp2_with fail)
      | (have mk := G5; clear mk
         rw [if_pos (by rfl)]
         go_simp
         go_at_call 11
         refine (sameZ Rp1.out Rq1.out rfl (by omega)).mono ?_
         rintro e w6 ⟨rfl, hb⟩
         clear Rp1
         clear Rq1
         replace RA := Lib.hid (RA.out.later hb)
         replace RB := Lib.hid (RB.out.later hb)
         replace XA := Lib.hid (XA.out.later hb)
         replace XB := Lib.hid (XB.out.later hb)
         clear kXA0 kXA1 kXB0 kXB1
         obtain ⟨kXA0, kXA1, -, -, -⟩ := XA.out
         obtain ⟨kXB0, kXB1, -, -, -⟩ := XB.out
         replace HB := Lib.hid (bthen HB.out hb); clear hb
         have G6 : Hid True := trivial
         try go_wp2_with fail)
      | (have mk := G4; clear mk
         rw [if_pos (by rfl)]
         go_simp
         go_at_call 15
         refine (raddI 11 P RA.out RB.out VA.out VB.out (by omega) (by omega) EP.out (lenZ_add LA.out LB.out EP.out) (by omega)).mono ?_
         rintro e w5 ⟨aq1, mq1, cq1, rfl, bq1, hr, hb⟩
         have Rq1 := Lib.hid hr; clear hr
         replace RA := Lib.hid (RA.out.later hb)
         replace RB := Lib.hid (RB.out.later hb)
         replace Rp1 := Lib.hid (Rp1.out.later hb)
         replace XA := Lib.hid (XA.out.later hb)
         replace XB := Lib.hid (XB.out.later hb)
         clear kXA0 kXA1 kXB0 kXB1
         obtain ⟨kXA0, kXA1, -, -, -⟩ := XA.out
         obtain ⟨kXB0, kXB1, -, -, -⟩ := XB.out
         replace HB := Lib.hid (bthen HB.out hb); clear hb
         have G5 : Hid True := trivial
         try go_wp2_with fail)
      | (have mk := G3; clear mk
         rw [if_pos (by rfl)]
         go_simp
         go_at_call 14
         refine (addI 11 P RA.out RB.out VA.out VB.out (by omega) (by omega) EP.out (lenZ_add LA.out LB.out EP.out)).mono ?_
         rintro e w4 ⟨ap1, mp1, cp1, rfl, bp1, hr, hb⟩
         have Rp1 := Lib.hid hr; clear hr
         replace RA := Lib.hid (RA.out.later hb)
         replace RB := Lib.hid (RB.out.later hb)
         replace XA := Lib.hid (XA.out.later hb)
         replace XB := Lib.hid (XB.out.later hb)
         clear kXA0 kXA1 kXB0 kXB1
         obtain ⟨kXA0, kXA1, -, -, -⟩ := XA.out
         obtain ⟨kXB0, kXB1, -, -, -⟩ := XB.out
         replace HB := Lib.hid (bthen HB.out hb); clear hb
         have G4 : Hid True := trivial
         try go_wp2_with fail)
      | (have mk := G2; clear mk
         rw [if_pos (by rfl)]
         go_simp
         go_at_call 11
         refine (sameZ Rx1.out Rx2.out rfl (by omega)).mono ?_
         rintro e w3 ⟨rfl, hb⟩
         clear Rx1
         clear Rx2
         replace RA := Lib.hid (RA.out.later hb)
         replace RB := Lib.hid (RB.out.later hb)
         replace XA := Lib.hid (XA.out.later hb)
         replace XB := Lib.hid (XB.out.later hb)
         clear kXA0 kXA1 kXB0 kXB1
         obtain ⟨kXA0, kXA1, -, -, -⟩ := XA.out
         obtain ⟨kXB0, kXB1, -, -, -⟩ := XB.out
         replace HB := Lib.hid (bthen HB.out hb); clear hb
         have G3 : Hid True := trivial
         try go_wp2_with fail)
      | (have mk := G1; clear mk
         rw [if_pos (by rfl)]
         go_simp
         go_at_call 13
         refine (rnormI 10 A RA.out VA.out (by omega) LA.out).mono ?_
         rintro e w2 ⟨ax2, mx2, cx2, rfl, bx2, hr, hb⟩
         have Rx2 := Lib.hid hr; clear hr
         replace RA := Lib.hid (RA.out.later hb)
         replace RB := Lib.hid (RB.out.later hb)
         replace Rx1 := Lib.hid (Rx1.out.later hb)
         replace XA := Lib.hid (XA.out.later hb)
         replace XB := Lib.hid (XB.out.later hb)
         clear kXA0 kXA1 kXB0 kXB1
         obtain ⟨kXA0, kXA1, -, -, -⟩ := XA.out
         obtain ⟨kXB0, kXB1, -, -, -⟩ := XB.out
         replace HB := Lib.hid (bthen HB.out hb); clear hb
         have G2 : Hid True := trivial
         try go_wp2_with fail)
      | (skip
         rw [if_pos (by rfl)]
         go_simp
         go_at_call 12
         refine (normI 10 A RA.out VA.out (by omega) LA.out).mono ?_
         rintro e w1 ⟨ax1, mx1, cx1, rfl, bx1, hr, hb⟩
         have Rx1 := Lib.hid hr; clear hr
         replace RA := Lib.hid (RA.out.later hb)
         replace RB := Lib.hid (RB.out.later hb)
         replace XA := Lib.hid (XA.out.later hb)
         replace XB := Lib.hid (XB.out.later hb)
         clear kXA0 kXA1 kXB0 kXB1
         obtain ⟨kXA0, kXA1, -, -, -⟩ := XA.out
         obtain ⟨kXB0, kXB1, -, -, -⟩ := XB.out
         replace HB := Lib.hid (bthen HB.out hb); clear hb
         have G1 : Hid True := trivial
         try go_wp2_with fail))
  go_wp2
  go_ret
  exact ⟨rfl, HB.out⟩

set_option maxRecDepth 100000 in
set_option maxHeartbeats 2000000 in
theorem integerSums_out (s0 s1 : Bool) (a0 a1 : Option Addr) (n0 c0 n1 c1 : Nat) (w : World) (b0 : n0 ≤ maxLen) (b1 : n1 ≤ maxLen) (h : ¬ (n0 ≤ 10 ∧ n1 ≤ 10)) :
    Calls Try.prog 3 #[.agg #[.bool s0, .slice a0 n0 c0], .agg #[.bool s1, .slice a1 n1 c1]] w fun e w' => e = .returned (.bool true) ∧ Below w.heap.size w w' := by
  have HB := Lib.hid (below_two w (.cells #[.bool s0, .slice a0 n0 c0] 24) (.cells #[.bool s1, .slice a1 n1 c1] 24))
  have H := Lib.hid h; clear h
  have B0 := Lib.hid b0; clear b0
  have B1 := Lib.hid b1; clear b1
  go_enter Try.func3, Try.ntmps3
  go_wp2_with fail
  refine (fewI_no B0.out B1.out H.out).mono ?_
  rintro e w' ⟨rfl, hb⟩
  replace HB := Lib.hid (bthen HB.out hb); clear hb
  go_wp2
  go_ret
  exact ⟨rfl, HB.out⟩

theorem integerSums_walk (s0 s1 : Bool) (a0 a1 : Option Addr) (n0 c0 n1 c1 : Nat) (xs ys : List Nat) (w : World) (r0 : Row w a0 n0 c0 xs) (r1 : Row w a1 n1 c1 ys) :
    Calls Try.prog 3 #[.agg #[.bool s0, .slice a0 n0 c0], .agg #[.bool s1, .slice a1 n1 c1]] w fun e w' => e = .returned (.bool true) ∧ Below w.heap.size w w' := by
  by_cases h : n0 ≤ 10 ∧ n1 ≤ 10
  · exact integerSums_in s0 s1 a0 a1 n0 c0 n1 c1 xs ys w r0 r1 h.1 h.2
  · exact integerSums_out s0 s1 a0 a1 n0 c0 n1 c1 w r0.len_le r1.len_le h

set_option maxRecDepth 100000 in
theorem integerSums_lifted (os : Os) (started : os.Started) (H : Type) (enc : TypeId × Value → H) :
    ReturnsInHanded {} Try.checked os 3 .any (Rows.integerSumsSpec.pre6 enc Try.prog Try.f3 Rows.integerSumsRow.domain false) (Rows.integerSumsSpec.post enc Try.prog Try.f3 false true false false) := by
  refine returnsInHanded_of_change (C := Try.checked) Try.ownKnob started (by kernel_rfl) Try.func3
    (ChangeSpec.witness6 (enc := enc) (C := Try.checked) false ⟨#[], #[.agg #[.bool false, .slice none 0 0], .agg #[.bool false, .slice none 0 0]], []⟩ 8 (by kernel_rfl) (by kernel_rfl) (by kernel_rfl) (by kernel_rfl)) ?_
  intro W base args ds gs before hval0 hW hcnd _
  have hval : ∀ (j : Nat) t v, Try.f3.params[j]? = some t → args[j]? = some v → Value.okWide Try.prog W .any base t v := hval0
  have hW' := hW
  obtain ⟨p, q, hA0, hV, rfl, hfz, hnd⟩ := hW
  have hA : DataW.TrodAll enc Try.prog W 0 (fun _ => true) true Try.f3.params.toList args.toList ds p := hA0
  rw [Try.params3] at hA hval
  obtain ⟨v0, vs0, d0, ds0, p0, q0, hargs, rfl, rfl, h0, r0⟩ := trodAll_cons hA
  obtain ⟨v1, vs1, d1, ds1, p1, q1, rfl, rfl, rfl, h1, r1⟩ := trodAll_cons r0
  obtain ⟨rfl, rfl, rfl⟩ := trodAll_nil r1
  obtain rfl : args = #[v0, v1] := by cases args; simp_all
  obtain ⟨rfl, rfl⟩ := trodVars_none hV
  have k0 := h0
  have lt0 : ∀ x ∈ p0, x.block < W.heap.size := by obtain ⟨m, hm⟩ := k0; exact DataW.trod_lt m _ _ _ hm
  obtain ⟨s0, a0, n0, c0, xs0, rfl, w0⟩ := int_of_trod (hval 0 24 v0 rfl rfl) h0
  have k1 := h1
  have lt1 : ∀ x ∈ p1, x.block < W.heap.size := by obtain ⟨m, hm⟩ := k1; exact DataW.trod_lt m _ _ _ hm
  obtain ⟨s1, a1, n1, c1, xs1, rfl, w1⟩ := int_of_trod (hval 1 24 v1 rfl rfl) h1
  clear hA0 hval0
  refine (integerSums_walk s0 s1 a0 a1 n0 c0 n1 c1 xs0 xs1 W w0 w1).mono fun e W' ⟨he, bel⟩ => ?_
  subst he
  exact ⟨_, rfl, _, _, _, [], _, [], hW', trodAll_mk1 (shut_bool Try.underlying4 _), (trodAll_cons_mk (Below.trod Try.laidOut (by kernel_rfl) (of_decide_eq_true (by kernel_rfl)) k0 bel lt0) (trodAll_cons_mk (Below.trod Try.laidOut (by kernel_rfl) (of_decide_eq_true (by kernel_rfl)) k1 bel lt1) trodAll_mk0)), rfl, bel.frame _, fun h => by cases h⟩

theorem integerSums_over : Rows.integerSumsRow.holds Try.pinned (OpenSpec.ofChange Rows.integerSumsSpec) :=
  OpenClaim.holds_of_wide 3 Try.f3 rfl rfl rfl rfl rfl rfl rfl ⟨rfl, rfl, rfl, rfl, rfl⟩ rfl rfl rfl rfl rfl (by kernel_rfl) Try.func3 (by kernel_rfl)
    (of_decide_eq_true (by kernel_rfl)) (by unfold Func.isWrapper; first | (rw [if_pos (by decide +kernel)]; kernel_rfl) | (rw [if_neg (by decide +kernel)]; exact ⟨rfl, rfl⟩))
    (fun os started H enc _ => integerSums_lifted os started H enc)

theorem integerSums_holds : Rows.IntegerSumsSaid := integerSums_over
#print axioms integerSums_holds
end Go.Proofs.Ytbapgkjkhdlngaa
