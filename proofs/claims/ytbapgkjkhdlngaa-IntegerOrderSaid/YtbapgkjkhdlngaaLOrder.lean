/- IntegerOrder, of integers that are short. -/
import Derived.Test.YtbapgkjkhdlngaaIC
namespace Go.Proofs.Ytbapgkjkhdlngaa
open Go.RowKit Nums

set_option maxRecDepth 100000 in
set_option maxHeartbeats 8000000 in
theorem integerOrder_lt (s0 s1 s2 : Bool) (a0 a1 a2 : Option Addr) (n0 c0 n1 c1 n2 c2 : Nat) (xs ys zs : List Nat) (w : World) (r0 : Row w a0 n0 c0 xs) (r1 : Row w a1 n1 c1 ys) (r2 : Row w a2 n2 c2 zs) (b0 : n0 ≤ 10) (b1 : n1 ≤ 10) (b2 : n2 ≤ 10) (hAB : sv s0 (val xs) < sv s1 (val ys)) :
    Calls Try.prog 9 #[.agg #[.bool s0, .slice a0 n0 c0], .agg #[.bool s1, .slice a1 n1 c1], .agg #[.bool s2, .slice a2 n2 c2]] w fun e w' => e = .returned (.bool true) ∧ Below w.heap.size w w' := by
  obtain ⟨A, hA⟩ : ∃ A, sv s0 (val xs) = A := ⟨_, rfl⟩
  obtain ⟨B, hB⟩ : ∃ B, sv s1 (val ys) = B := ⟨_, rfl⟩
  obtain ⟨C, hC⟩ : ∃ C, sv s2 (val zs) = C := ⟨_, rfl⟩
  have LA := Lib.hid (lenZ_raw r0 b0 hA)
  have LB := Lib.hid (lenZ_raw r1 b1 hB)
  have LC := Lib.hid (lenZ_raw r2 b2 hC)
  rw [hA, hB] at hAB
  have hN : cmpZ A B = (-1) := cmpZ_lt hAB
  obtain ⟨P, eP⟩ : ∃ Z, A + C = Z := ⟨_, rfl⟩
  obtain ⟨Q, eQ⟩ : ∃ Z, B + C = Z := ⟨_, rfl⟩
  obtain ⟨U, eU⟩ : ∃ Z, -A = Z := ⟨_, rfl⟩
  obtain ⟨V, eV⟩ : ∃ Z, -B = Z := ⟨_, rfl⟩
  obtain ⟨D, eD⟩ : ∃ Z, A - B = Z := ⟨_, rfl⟩
  have EAB : Hid (A ≠ B) := by show _ ≠ _; omega
  clear hAB
  have EN := Lib.hid hN
  have EM : Hid (cmpZ B A = 1) := by show _ = _; rw [cmpZ_swap, hN]; try rfl
  have EPQ : Hid (cmpZ P Q = (-1)) := by show _ = _; rw [← eP, ← eQ, cmpZ_add, hN]
  have EUV : Hid (cmpZ U V = 1) := by show _ = _; rw [← eU, ← eV, cmpZ_neg, hN]; try rfl
  have ED : Hid (sgn D = (-1)) := by show _ = _; rw [← eD, sgn_sub, hN]

  clear hN
  have EP := Lib.hid eP; clear eP
  have EQ := Lib.hid eQ; clear eQ
  have EU := Lib.hid eU; clear eU
  have EV := Lib.hid eV; clear eV
  have EDD := Lib.hid eD; clear eD
  have VA := Lib.hid hA; clear hA
  have VB := Lib.hid hB; clear hB
  have VC := Lib.hid hC; clear hC
  have XX := box_three w (.bool s0) (.slice a0 n0 c0) (.bool s1) (.slice a1 n1 c1) (.bool s2) (.slice a2 n2 c2)
  have XA := Lib.hid XX.1
  have XB := Lib.hid XX.2.1
  have XC := Lib.hid XX.2.2; clear XX
  have HB := Lib.hid (below_three w (.cells #[.bool s0, .slice a0 n0 c0] 24) (.cells #[.bool s1, .slice a1 n1 c1] 24) (.cells #[.bool s2, .slice a2 n2 c2] 24))
  have RA := Lib.hid (r0.later HB.out)
  have RB := Lib.hid (r1.later HB.out)
  have RC := Lib.hid (r2.later HB.out)
  clear r0 r1 r2
  go_enter Try.func9, Try.ntmps9
  go_wp2_with fail
  refine (fewI_yes b0 b1).mono ?_
  rintro e w1 ⟨rfl, hb⟩
  replace XA := Lib.hid (XA.out.later hb)
  replace XB := Lib.hid (XB.out.later hb)
  replace XC := Lib.hid (XC.out.later hb)
  replace RA := Lib.hid (RA.out.later hb)
  replace RB := Lib.hid (RB.out.later hb)
  replace RC := Lib.hid (RC.out.later hb)
  replace HB := Lib.hid (bthen HB.out hb); clear hb
  obtain ⟨kXA0, kXA1, -, -, -⟩ := XA.out
  obtain ⟨kXB0, kXB1, -, -, -⟩ := XB.out
  obtain ⟨kXC0, kXC1, -, -, -⟩ := XC.out
  go_wp2_with fail
  refine (fewI_yes b2 b2).mono ?_
  rintro e w2 ⟨rfl, hb⟩
  clear kXA0 kXA1 kXB0 kXB1 kXC0 kXC1
  replace XA := Lib.hid (XA.out.later hb)
  replace XB := Lib.hid (XB.out.later hb)
  replace XC := Lib.hid (XC.out.later hb)
  replace RA := Lib.hid (RA.out.later hb)
  replace RB := Lib.hid (RB.out.later hb)
  replace RC := Lib.hid (RC.out.later hb)
  replace HB := Lib.hid (bthen HB.out hb); clear hb
  obtain ⟨kXA0, kXA1, -, -, -⟩ := XA.out
  obtain ⟨kXB0, kXB1, -, -, -⟩ := XB.out
  obtain ⟨kXC0, kXC1, -, -, -⟩ := XC.out
  go_wp2_with fail
  refine (cmpI (-1) RA.out RB.out VA.out VB.out (by omega) (by omega) EN.out).mono ?_
  rintro e w3 ⟨rfl, hb⟩
  clear kXA0 kXA1 kXB0 kXB1 kXC0 kXC1
  replace XA := Lib.hid (XA.out.later hb)
  replace XB := Lib.hid (XB.out.later hb)
  replace XC := Lib.hid (XC.out.later hb)
  replace RA := Lib.hid (RA.out.later hb)
  replace RB := Lib.hid (RB.out.later hb)
  replace RC := Lib.hid (RC.out.later hb)
  replace HB := Lib.hid (bthen HB.out hb); clear hb
  replace XA := Lib.hid XA.out.drew
  replace XB := Lib.hid XB.out.drew
  replace XC := Lib.hid XC.out.drew
  replace RA := Lib.hid RA.out.drew
  replace RB := Lib.hid RB.out.drew
  replace RC := Lib.hid RC.out.drew
  replace HB := Lib.hid HB.out.drew
  obtain ⟨kXA0, kXA1, -, -, -⟩ := XA.out
  obtain ⟨kXB0, kXB1, -, -, -⟩ := XB.out
  obtain ⟨kXC0, kXC1, -, -, -⟩ := XC.out
  go_wp2_with fail
  go_region_held3 (fun w' => w'.cell? ⟨w.heap.size, 0, none⟩ = some (.bool s0) ∧ w'.cell? ⟨w.heap.size, 1, none⟩ = some (.slice a0 n0 c0) ∧ w'.cell? ⟨w.heap.size + 1, 0, none⟩ = some (.bool s1) ∧ w'.cell? ⟨w.heap.size + 1, 1, none⟩ = some (.slice a1 n1 c1) ∧ w'.cell? ⟨w.heap.size + 2, 0, none⟩ = some (.bool s2) ∧ w'.cell? ⟨w.heap.size + 2, 1, none⟩ = some (.slice a2 n2 c2))
    (first | (refine ⟨?_, ?_, ?_, ?_, ?_, ?_⟩ <;> assumption) | (go_keep; done))
    (first
      | (have mk := G12; clear mk
         rw [if_pos (by rfl)]
         go_simp
         go_at_call 26
         refine (awake_any _).mono ?_
         rintro e w13 ⟨rfl, hb⟩
         replace XA := Lib.hid (XA.out.later hb)
         replace XB := Lib.hid (XB.out.later hb)
         replace XC := Lib.hid (XC.out.later hb)
         clear kXA0 kXA1 kXB0 kXB1 kXC0 kXC1
         obtain ⟨kXA0, kXA1, -, -, -⟩ := XA.out
         obtain ⟨kXB0, kXB1, -, -, -⟩ := XB.out
         obtain ⟨kXC0, kXC1, -, -, -⟩ := XC.out
         replace HB := Lib.hid (bthen HB.out hb); clear hb
         have G13 : Hid True := trivial
         try go_wp2_with fail)
      | (have mk := G11; clear mk
         rw [if_pos (by rfl)]
         go_simp
         go_at_call 24
         refine (signI (-1) Rd.out (sv_limbs _) (by omega) ED.out).mono ?_
         rintro e w12 ⟨rfl, hb⟩
         clear Rd
         replace XA := Lib.hid (XA.out.later hb)
         replace XB := Lib.hid (XB.out.later hb)
         replace XC := Lib.hid (XC.out.later hb)
         clear kXA0 kXA1 kXB0 kXB1 kXC0 kXC1
         obtain ⟨kXA0, kXA1, -, -, -⟩ := XA.out
         obtain ⟨kXB0, kXB1, -, -, -⟩ := XB.out
         obtain ⟨kXC0, kXC1, -, -, -⟩ := XC.out
         replace HB := Lib.hid (bthen HB.out hb); clear hb
         have G12 : Hid True := trivial
         try go_wp2_with fail)
      | (have mk := G10; clear mk
         rw [if_pos (by rfl)]
         go_simp
         go_at_call 16
         refine (subI 11 D RA.out RB.out VA.out VB.out (by omega) (by omega) EDD.out (lenZ_sub LA.out LB.out EDD.out)).mono ?_
         rintro e w11 ⟨ad, md, cd, rfl, bd, hr, hb⟩
         have Rd := Lib.hid hr; clear hr
         clear RA
         clear RB
         replace XA := Lib.hid (XA.out.later hb)
         replace XB := Lib.hid (XB.out.later hb)
         replace XC := Lib.hid (XC.out.later hb)
         clear kXA0 kXA1 kXB0 kXB1 kXC0 kXC1
         obtain ⟨kXA0, kXA1, -, -, -⟩ := XA.out
         obtain ⟨kXB0, kXB1, -, -, -⟩ := XB.out
         obtain ⟨kXC0, kXC1, -, -, -⟩ := XC.out
         replace HB := Lib.hid (bthen HB.out hb); clear hb
         have G11 : Hid True := trivial
         try go_wp2_with fail)
      | (have mk := G9; clear mk
         rw [if_pos (by rfl)]
         go_simp
         go_at_call 11
         refine (differZ Rx.out Ryy.out EAB.out (by omega) (by omega)).mono ?_
         rintro e w10 ⟨rfl, hb⟩
         clear Rx
         clear Ryy
         replace RA := Lib.hid (RA.out.later hb)
         replace RB := Lib.hid (RB.out.later hb)
         replace XA := Lib.hid (XA.out.later hb)
         replace XB := Lib.hid (XB.out.later hb)
         replace XC := Lib.hid (XC.out.later hb)
         clear kXA0 kXA1 kXB0 kXB1 kXC0 kXC1
         obtain ⟨kXA0, kXA1, -, -, -⟩ := XA.out
         obtain ⟨kXB0, kXB1, -, -, -⟩ := XB.out
         obtain ⟨kXC0, kXC1, -, -, -⟩ := XC.out
         replace HB := Lib.hid (bthen HB.out hb); clear hb
         have G10 : Hid True := trivial
         try go_wp2_with fail)
      | (have mk := G8; clear mk
         rw [if_pos (by rfl)]
         go_simp
         go_at_call 12
         refine (normI 10 B RB.out VB.out (by omega) LB.out).mono ?_
         rintro e w9 ⟨ayy, myy, cyy, rfl, byy, hr, hb⟩
         have Ryy := Lib.hid hr; clear hr
         replace RA := Lib.hid (RA.out.later hb)
         replace RB := Lib.hid (RB.out.later hb)
         replace Rx := Lib.hid (Rx.out.later hb)
         replace XA := Lib.hid (XA.out.later hb)
         replace XB := Lib.hid (XB.out.later hb)
         replace XC := Lib.hid (XC.out.later hb)
         clear kXA0 kXA1 kXB0 kXB1 kXC0 kXC1
         obtain ⟨kXA0, kXA1, -, -, -⟩ := XA.out
         obtain ⟨kXB0, kXB1, -, -, -⟩ := XB.out
         obtain ⟨kXC0, kXC1, -, -, -⟩ := XC.out
         replace HB := Lib.hid (bthen HB.out hb); clear hb
         have G9 : Hid True := trivial
         try go_wp2_with fail)
      | (have mk := G7; clear mk
         rw [if_pos (by rfl)]
         go_simp
         go_at_call 12
         refine (normI 10 A RA.out VA.out (by omega) LA.out).mono ?_
         rintro e w8 ⟨ax, mx, cx, rfl, bx, hr, hb⟩
         have Rx := Lib.hid hr; clear hr
         replace RA := Lib.hid (RA.out.later hb)
         replace RB := Lib.hid (RB.out.later hb)
         replace XA := Lib.hid (XA.out.later hb)
         replace XB := Lib.hid (XB.out.later hb)
         replace XC := Lib.hid (XC.out.later hb)
         clear kXA0 kXA1 kXB0 kXB1 kXC0 kXC1
         obtain ⟨kXA0, kXA1, -, -, -⟩ := XA.out
         obtain ⟨kXB0, kXB1, -, -, -⟩ := XB.out
         obtain ⟨kXC0, kXC1, -, -, -⟩ := XC.out
         replace HB := Lib.hid (bthen HB.out hb); clear hb
         have G8 : Hid True := trivial
         try go_wp2_with fail)
      | (have mk := G6; clear mk
         rw [if_pos (by rfl)]
         go_simp
         go_at_call 22
         refine (cmpI (1) Ru.out Rv.out (sv_limbs _) (sv_limbs _) (by omega) (by omega) EUV.out).mono ?_
         rintro e w7 ⟨rfl, hb⟩
         clear Ru
         clear Rv
         replace RA := Lib.hid (RA.out.later hb)
         replace RB := Lib.hid (RB.out.later hb)
         replace XA := Lib.hid (XA.out.later hb)
         replace XB := Lib.hid (XB.out.later hb)
         replace XC := Lib.hid (XC.out.later hb)
         clear kXA0 kXA1 kXB0 kXB1 kXC0 kXC1
         obtain ⟨kXA0, kXA1, -, -, -⟩ := XA.out
         obtain ⟨kXB0, kXB1, -, -, -⟩ := XB.out
         obtain ⟨kXC0, kXC1, -, -, -⟩ := XC.out
         replace HB := Lib.hid (bthen HB.out hb); clear hb
         have G7 : Hid True := trivial
         try go_wp2_with fail)
      | (have mk := G5; clear mk
         rw [if_pos (by rfl)]
         go_simp
         go_at_call 20
         refine (negI 10 V RB.out VB.out (by omega) EV.out (lenZ_neg LB.out EV.out)).mono ?_
         rintro e w6 ⟨av, mv, cv, rfl, bv, hr, hb⟩
         have Rv := Lib.hid hr; clear hr
         replace RA := Lib.hid (RA.out.later hb)
         replace RB := Lib.hid (RB.out.later hb)
         replace Ru := Lib.hid (Ru.out.later hb)
         replace XA := Lib.hid (XA.out.later hb)
         replace XB := Lib.hid (XB.out.later hb)
         replace XC := Lib.hid (XC.out.later hb)
         clear kXA0 kXA1 kXB0 kXB1 kXC0 kXC1
         obtain ⟨kXA0, kXA1, -, -, -⟩ := XA.out
         obtain ⟨kXB0, kXB1, -, -, -⟩ := XB.out
         obtain ⟨kXC0, kXC1, -, -, -⟩ := XC.out
         replace HB := Lib.hid (bthen HB.out hb); clear hb
         have G6 : Hid True := trivial
         try go_wp2_with fail)
      | (have mk := G4; clear mk
         rw [if_pos (by rfl)]
         go_simp
         go_at_call 20
         refine (negI 10 U RA.out VA.out (by omega) EU.out (lenZ_neg LA.out EU.out)).mono ?_
         rintro e w5 ⟨au, mu, cu, rfl, bu, hr, hb⟩
         have Ru := Lib.hid hr; clear hr
         replace RA := Lib.hid (RA.out.later hb)
         replace RB := Lib.hid (RB.out.later hb)
         replace XA := Lib.hid (XA.out.later hb)
         replace XB := Lib.hid (XB.out.later hb)
         replace XC := Lib.hid (XC.out.later hb)
         clear kXA0 kXA1 kXB0 kXB1 kXC0 kXC1
         obtain ⟨kXA0, kXA1, -, -, -⟩ := XA.out
         obtain ⟨kXB0, kXB1, -, -, -⟩ := XB.out
         obtain ⟨kXC0, kXC1, -, -, -⟩ := XC.out
         replace HB := Lib.hid (bthen HB.out hb); clear hb
         have G5 : Hid True := trivial
         try go_wp2_with fail)
      | (have mk := G3; clear mk
         rw [if_pos (by rfl)]
         go_simp
         go_at_call 22
         refine (cmpI (-1) Rp.out Rq.out (sv_limbs _) (sv_limbs _) (by omega) (by omega) EPQ.out).mono ?_
         rintro e w4 ⟨rfl, hb⟩
         clear Rp
         clear Rq
         clear RC
         replace RA := Lib.hid (RA.out.later hb)
         replace RB := Lib.hid (RB.out.later hb)
         replace XA := Lib.hid (XA.out.later hb)
         replace XB := Lib.hid (XB.out.later hb)
         replace XC := Lib.hid (XC.out.later hb)
         clear kXA0 kXA1 kXB0 kXB1 kXC0 kXC1
         obtain ⟨kXA0, kXA1, -, -, -⟩ := XA.out
         obtain ⟨kXB0, kXB1, -, -, -⟩ := XB.out
         obtain ⟨kXC0, kXC1, -, -, -⟩ := XC.out
         replace HB := Lib.hid (bthen HB.out hb); clear hb
         have G4 : Hid True := trivial
         try go_wp2_with fail)
      | (have mk := G2; clear mk
         rw [if_pos (by rfl)]
         go_simp
         go_at_call 14
         refine (addI 11 Q RB.out RC.out VB.out VC.out (by omega) (by omega) EQ.out (lenZ_add LB.out LC.out EQ.out)).mono ?_
         rintro e w3 ⟨aq, mq, cq, rfl, bq, hr, hb⟩
         have Rq := Lib.hid hr; clear hr
         replace RA := Lib.hid (RA.out.later hb)
         replace RB := Lib.hid (RB.out.later hb)
         replace RC := Lib.hid (RC.out.later hb)
         replace Rp := Lib.hid (Rp.out.later hb)
         replace XA := Lib.hid (XA.out.later hb)
         replace XB := Lib.hid (XB.out.later hb)
         replace XC := Lib.hid (XC.out.later hb)
         clear kXA0 kXA1 kXB0 kXB1 kXC0 kXC1
         obtain ⟨kXA0, kXA1, -, -, -⟩ := XA.out
         obtain ⟨kXB0, kXB1, -, -, -⟩ := XB.out
         obtain ⟨kXC0, kXC1, -, -, -⟩ := XC.out
         replace HB := Lib.hid (bthen HB.out hb); clear hb
         have G3 : Hid True := trivial
         try go_wp2_with fail)
      | (have mk := G1; clear mk
         rw [if_pos (by rfl)]
         go_simp
         go_at_call 14
         refine (addI 11 P RA.out RC.out VA.out VC.out (by omega) (by omega) EP.out (lenZ_add LA.out LC.out EP.out)).mono ?_
         rintro e w2 ⟨ap, mp, cp, rfl, bp, hr, hb⟩
         have Rp := Lib.hid hr; clear hr
         replace RA := Lib.hid (RA.out.later hb)
         replace RB := Lib.hid (RB.out.later hb)
         replace RC := Lib.hid (RC.out.later hb)
         replace XA := Lib.hid (XA.out.later hb)
         replace XB := Lib.hid (XB.out.later hb)
         replace XC := Lib.hid (XC.out.later hb)
         clear kXA0 kXA1 kXB0 kXB1 kXC0 kXC1
         obtain ⟨kXA0, kXA1, -, -, -⟩ := XA.out
         obtain ⟨kXB0, kXB1, -, -, -⟩ := XB.out
         obtain ⟨kXC0, kXC1, -, -, -⟩ := XC.out
         replace HB := Lib.hid (bthen HB.out hb); clear hb
         have G2 : Hid True := trivial
         try go_wp2_with fail)
      | (skip
         rw [if_pos (by rfl)]
         go_simp
         go_at_call 22
         refine (cmpI (1) RB.out RA.out VB.out VA.out (by omega) (by omega) EM.out).mono ?_
         rintro e w1 ⟨rfl, hb⟩
         replace RA := Lib.hid (RA.out.later hb)
         replace RB := Lib.hid (RB.out.later hb)
         replace RC := Lib.hid (RC.out.later hb)
         replace XA := Lib.hid (XA.out.later hb)
         replace XB := Lib.hid (XB.out.later hb)
         replace XC := Lib.hid (XC.out.later hb)
         clear kXA0 kXA1 kXB0 kXB1 kXC0 kXC1
         obtain ⟨kXA0, kXA1, -, -, -⟩ := XA.out
         obtain ⟨kXB0, kXB1, -, -, -⟩ := XB.out
         obtain ⟨kXC0, kXC1, -, -, -⟩ := XC.out
         replace HB := Lib.hid (bthen HB.out hb); clear hb
         have G1 : Hid True := trivial
         try go_wp2_with fail))
  go_wp2
  go_ret
  exact ⟨rfl, HB.out⟩

end Go.Proofs.Ytbapgkjkhdlngaa
/- IntegerOrder, of integers that are short. -/
namespace Go.Proofs.Ytbapgkjkhdlngaa
open Go.RowKit Nums

set_option maxRecDepth 100000 in
set_option maxHeartbeats 8000000 in
theorem integerOrder_eq (s0 s1 s2 : Bool) (a0 a1 a2 : Option Addr) (n0 c0 n1 c1 n2 c2 : Nat) (xs ys zs : List Nat) (w : World) (r0 : Row w a0 n0 c0 xs) (r1 : Row w a1 n1 c1 ys) (r2 : Row w a2 n2 c2 zs) (b0 : n0 ≤ 10) (b1 : n1 ≤ 10) (b2 : n2 ≤ 10) (hAB : sv s0 (val xs) = sv s1 (val ys)) :
    Calls Try.prog 9 #[.agg #[.bool s0, .slice a0 n0 c0], .agg #[.bool s1, .slice a1 n1 c1], .agg #[.bool s2, .slice a2 n2 c2]] w fun e w' => e = .returned (.bool true) ∧ Below w.heap.size w w' := by
  obtain ⟨A, hA⟩ : ∃ A, sv s0 (val xs) = A := ⟨_, rfl⟩
  obtain ⟨B, hB⟩ : ∃ B, sv s1 (val ys) = B := ⟨_, rfl⟩
  obtain ⟨C, hC⟩ : ∃ C, sv s2 (val zs) = C := ⟨_, rfl⟩
  have LA := Lib.hid (lenZ_raw r0 b0 hA)
  have LB := Lib.hid (lenZ_raw r1 b1 hB)
  have LC := Lib.hid (lenZ_raw r2 b2 hC)
  rw [hA, hB] at hAB
  have hN : cmpZ A B = 0 := cmpZ_eq hAB
  obtain ⟨P, eP⟩ : ∃ Z, A + C = Z := ⟨_, rfl⟩
  obtain ⟨Q, eQ⟩ : ∃ Z, B + C = Z := ⟨_, rfl⟩
  obtain ⟨U, eU⟩ : ∃ Z, -A = Z := ⟨_, rfl⟩
  obtain ⟨V, eV⟩ : ∃ Z, -B = Z := ⟨_, rfl⟩
  obtain ⟨D, eD⟩ : ∃ Z, A - B = Z := ⟨_, rfl⟩
  have EN := Lib.hid hN
  have EM : Hid (cmpZ B A = 0) := by show _ = _; rw [cmpZ_swap, hN]; try rfl
  have EPQ : Hid (cmpZ P Q = 0) := by show _ = _; rw [← eP, ← eQ, cmpZ_add, hN]
  have EUV : Hid (cmpZ U V = 0) := by show _ = _; rw [← eU, ← eV, cmpZ_neg, hN]; try rfl
  have ED : Hid (sgn D = 0) := by show _ = _; rw [← eD, sgn_sub, hN]
  have EAB := Lib.hid (show A = B from hAB); clear hAB
  clear hN
  have EP := Lib.hid eP; clear eP
  have EQ := Lib.hid eQ; clear eQ
  have EU := Lib.hid eU; clear eU
  have EV := Lib.hid eV; clear eV
  have EDD := Lib.hid eD; clear eD
  have VA := Lib.hid hA; clear hA
  have VB := Lib.hid hB; clear hB
  have VC := Lib.hid hC; clear hC
  have XX := box_three w (.bool s0) (.slice a0 n0 c0) (.bool s1) (.slice a1 n1 c1) (.bool s2) (.slice a2 n2 c2)
  have XA := Lib.hid XX.1
  have XB := Lib.hid XX.2.1
  have XC := Lib.hid XX.2.2; clear XX
  have HB := Lib.hid (below_three w (.cells #[.bool s0, .slice a0 n0 c0] 24) (.cells #[.bool s1, .slice a1 n1 c1] 24) (.cells #[.bool s2, .slice a2 n2 c2] 24))
  have RA := Lib.hid (r0.later HB.out)
  have RB := Lib.hid (r1.later HB.out)
  have RC := Lib.hid (r2.later HB.out)
  clear r0 r1 r2
  go_enter Try.func9, Try.ntmps9
  go_wp2_with fail
  refine (fewI_yes b0 b1).mono ?_
  rintro e w1 ⟨rfl, hb⟩
  replace XA := Lib.hid (XA.out.later hb)
  replace XB := Lib.hid (XB.out.later hb)
  replace XC := Lib.hid (XC.out.later hb)
  replace RA := Lib.hid (RA.out.later hb)
  replace RB := Lib.hid (RB.out.later hb)
  replace RC := Lib.hid (RC.out.later hb)
  replace HB := Lib.hid (bthen HB.out hb); clear hb
  obtain ⟨kXA0, kXA1, -, -, -⟩ := XA.out
  obtain ⟨kXB0, kXB1, -, -, -⟩ := XB.out
  obtain ⟨kXC0, kXC1, -, -, -⟩ := XC.out
  go_wp2_with fail
  refine (fewI_yes b2 b2).mono ?_
  rintro e w2 ⟨rfl, hb⟩
  clear kXA0 kXA1 kXB0 kXB1 kXC0 kXC1
  replace XA := Lib.hid (XA.out.later hb)
  replace XB := Lib.hid (XB.out.later hb)
  replace XC := Lib.hid (XC.out.later hb)
  replace RA := Lib.hid (RA.out.later hb)
  replace RB := Lib.hid (RB.out.later hb)
  replace RC := Lib.hid (RC.out.later hb)
  replace HB := Lib.hid (bthen HB.out hb); clear hb
  obtain ⟨kXA0, kXA1, -, -, -⟩ := XA.out
  obtain ⟨kXB0, kXB1, -, -, -⟩ := XB.out
  obtain ⟨kXC0, kXC1, -, -, -⟩ := XC.out
  go_wp2_with fail
  refine (cmpI 0 RA.out RB.out VA.out VB.out (by omega) (by omega) EN.out).mono ?_
  rintro e w3 ⟨rfl, hb⟩
  clear kXA0 kXA1 kXB0 kXB1 kXC0 kXC1
  replace XA := Lib.hid (XA.out.later hb)
  replace XB := Lib.hid (XB.out.later hb)
  replace XC := Lib.hid (XC.out.later hb)
  replace RA := Lib.hid (RA.out.later hb)
  replace RB := Lib.hid (RB.out.later hb)
  replace RC := Lib.hid (RC.out.later hb)
  replace HB := Lib.hid (bthen HB.out hb); clear hb
  replace XA := Lib.hid XA.out.drew
  replace XB := Lib.hid XB.out.drew
  replace XC := Lib.hid XC.out.drew
  replace RA := Lib.hid RA.out.drew
  replace RB := Lib.hid RB.out.drew
  replace RC := Lib.hid RC.out.drew
  replace HB := Lib.hid HB.out.drew
  obtain ⟨kXA0, kXA1, -, -, -⟩ := XA.out
  obtain ⟨kXB0, kXB1, -, -, -⟩ := XB.out
  obtain ⟨kXC0, kXC1, -, -, -⟩ := XC.out
  go_wp2_with fail
  go_region_held3 (fun w' => w'.cell? ⟨w.heap.size, 0, none⟩ = some (.bool s0) ∧ w'.cell? ⟨w.heap.size, 1, none⟩ = some (.slice a0 n0 c0) ∧ w'.cell? ⟨w.heap.size + 1, 0, none⟩ = some (.bool s1) ∧ w'.cell? ⟨w.heap.size + 1, 1, none⟩ = some (.slice a1 n1 c1) ∧ w'.cell? ⟨w.heap.size + 2, 0, none⟩ = some (.bool s2) ∧ w'.cell? ⟨w.heap.size + 2, 1, none⟩ = some (.slice a2 n2 c2))
    (first | (refine ⟨?_, ?_, ?_, ?_, ?_, ?_⟩ <;> assumption) | (go_keep; done))
    (first
      | (have mk := G12; clear mk
         rw [if_pos (by rfl)]
         go_simp
         go_at_call 26
         refine (awake_any _).mono ?_
         rintro e w13 ⟨rfl, hb⟩
         replace XA := Lib.hid (XA.out.later hb)
         replace XB := Lib.hid (XB.out.later hb)
         replace XC := Lib.hid (XC.out.later hb)
         clear kXA0 kXA1 kXB0 kXB1 kXC0 kXC1
         obtain ⟨kXA0, kXA1, -, -, -⟩ := XA.out
         obtain ⟨kXB0, kXB1, -, -, -⟩ := XB.out
         obtain ⟨kXC0, kXC1, -, -, -⟩ := XC.out
         replace HB := Lib.hid (bthen HB.out hb); clear hb
         have G13 : Hid True := trivial
         try go_wp2_with fail)
      | (have mk := G11; clear mk
         rw [if_pos (by rfl)]
         go_simp
         go_at_call 24
         refine (signI 0 Rd.out (sv_limbs _) (by omega) ED.out).mono ?_
         rintro e w12 ⟨rfl, hb⟩
         clear Rd
         replace XA := Lib.hid (XA.out.later hb)
         replace XB := Lib.hid (XB.out.later hb)
         replace XC := Lib.hid (XC.out.later hb)
         clear kXA0 kXA1 kXB0 kXB1 kXC0 kXC1
         obtain ⟨kXA0, kXA1, -, -, -⟩ := XA.out
         obtain ⟨kXB0, kXB1, -, -, -⟩ := XB.out
         obtain ⟨kXC0, kXC1, -, -, -⟩ := XC.out
         replace HB := Lib.hid (bthen HB.out hb); clear hb
         have G12 : Hid True := trivial
         try go_wp2_with fail)
      | (have mk := G10; clear mk
         rw [if_pos (by rfl)]
         go_simp
         go_at_call 16
         refine (subI 11 D RA.out RB.out VA.out VB.out (by omega) (by omega) EDD.out (lenZ_sub LA.out LB.out EDD.out)).mono ?_
         rintro e w11 ⟨ad, md, cd, rfl, bd, hr, hb⟩
         have Rd := Lib.hid hr; clear hr
         clear RA
         clear RB
         replace XA := Lib.hid (XA.out.later hb)
         replace XB := Lib.hid (XB.out.later hb)
         replace XC := Lib.hid (XC.out.later hb)
         clear kXA0 kXA1 kXB0 kXB1 kXC0 kXC1
         obtain ⟨kXA0, kXA1, -, -, -⟩ := XA.out
         obtain ⟨kXB0, kXB1, -, -, -⟩ := XB.out
         obtain ⟨kXC0, kXC1, -, -, -⟩ := XC.out
         replace HB := Lib.hid (bthen HB.out hb); clear hb
         have G11 : Hid True := trivial
         try go_wp2_with fail)
      | (have mk := G9; clear mk
         rw [if_pos (by rfl)]
         go_simp
         go_at_call 11
         refine (sameZ Rx.out Ryy.out EAB.out (by omega)).mono ?_
         rintro e w10 ⟨rfl, hb⟩
         clear Rx
         clear Ryy
         replace RA := Lib.hid (RA.out.later hb)
         replace RB := Lib.hid (RB.out.later hb)
         replace XA := Lib.hid (XA.out.later hb)
         replace XB := Lib.hid (XB.out.later hb)
         replace XC := Lib.hid (XC.out.later hb)
         clear kXA0 kXA1 kXB0 kXB1 kXC0 kXC1
         obtain ⟨kXA0, kXA1, -, -, -⟩ := XA.out
         obtain ⟨kXB0, kXB1, -, -, -⟩ := XB.out
         obtain ⟨kXC0, kXC1, -, -, -⟩ := XC.out
         replace HB := Lib.hid (bthen HB.out hb); clear hb
         have G10 : Hid True := trivial
         try go_wp2_with fail)
      | (have mk := G8; clear mk
         rw [if_pos (by rfl)]
         go_simp
         go_at_call 12
         refine (normI 10 B RB.out VB.out (by omega) LB.out).mono ?_
         rintro e w9 ⟨ayy, myy, cyy, rfl, byy, hr, hb⟩
         have Ryy := Lib.hid hr; clear hr
         replace RA := Lib.hid (RA.out.later hb)
         replace RB := Lib.hid (RB.out.later hb)
         replace Rx := Lib.hid (Rx.out.later hb)
         replace XA := Lib.hid (XA.out.later hb)
         replace XB := Lib.hid (XB.out.later hb)
         replace XC := Lib.hid (XC.out.later hb)
         clear kXA0 kXA1 kXB0 kXB1 kXC0 kXC1
         obtain ⟨kXA0, kXA1, -, -, -⟩ := XA.out
         obtain ⟨kXB0, kXB1, -, -, -⟩ := XB.out
         obtain ⟨kXC0, kXC1, -, -, -⟩ := XC.out
         replace HB := Lib.hid (bthen HB.out hb); clear hb
         have G9 : Hid True := trivial
         try go_wp2_with fail)
      | (have mk := G7; clear mk
         rw [if_pos (by rfl)]
         go_simp
         go_at_call 12
         refine (normI 10 A RA.out VA.out (by omega) LA.out).mono ?_
         rintro e w8 ⟨ax, mx, cx, rfl, bx, hr, hb⟩
         have Rx := Lib.hid hr; clear hr
         replace RA := Lib.hid (RA.out.later hb)
         replace RB := Lib.hid (RB.out.later hb)
         replace XA := Lib.hid (XA.out.later hb)
         replace XB := Lib.hid (XB.out.later hb)
         replace XC := Lib.hid (XC.out.later hb)
         clear kXA0 kXA1 kXB0 kXB1 kXC0 kXC1
         obtain ⟨kXA0, kXA1, -, -, -⟩ := XA.out
         obtain ⟨kXB0, kXB1, -, -, -⟩ := XB.out
         obtain ⟨kXC0, kXC1, -, -, -⟩ := XC.out
         replace HB := Lib.hid (bthen HB.out hb); clear hb
         have G8 : Hid True := trivial
         try go_wp2_with fail)
      | (have mk := G6; clear mk
         rw [if_pos (by rfl)]
         go_simp
         go_at_call 22
         refine (cmpI (0) Ru.out Rv.out (sv_limbs _) (sv_limbs _) (by omega) (by omega) EUV.out).mono ?_
         rintro e w7 ⟨rfl, hb⟩
         clear Ru
         clear Rv
         replace RA := Lib.hid (RA.out.later hb)
         replace RB := Lib.hid (RB.out.later hb)
         replace XA := Lib.hid (XA.out.later hb)
         replace XB := Lib.hid (XB.out.later hb)
         replace XC := Lib.hid (XC.out.later hb)
         clear kXA0 kXA1 kXB0 kXB1 kXC0 kXC1
         obtain ⟨kXA0, kXA1, -, -, -⟩ := XA.out
         obtain ⟨kXB0, kXB1, -, -, -⟩ := XB.out
         obtain ⟨kXC0, kXC1, -, -, -⟩ := XC.out
         replace HB := Lib.hid (bthen HB.out hb); clear hb
         have G7 : Hid True := trivial
         try go_wp2_with fail)
      | (have mk := G5; clear mk
         rw [if_pos (by rfl)]
         go_simp
         go_at_call 20
         refine (negI 10 V RB.out VB.out (by omega) EV.out (lenZ_neg LB.out EV.out)).mono ?_
         rintro e w6 ⟨av, mv, cv, rfl, bv, hr, hb⟩
         have Rv := Lib.hid hr; clear hr
         replace RA := Lib.hid (RA.out.later hb)
         replace RB := Lib.hid (RB.out.later hb)
         replace Ru := Lib.hid (Ru.out.later hb)
         replace XA := Lib.hid (XA.out.later hb)
         replace XB := Lib.hid (XB.out.later hb)
         replace XC := Lib.hid (XC.out.later hb)
         clear kXA0 kXA1 kXB0 kXB1 kXC0 kXC1
         obtain ⟨kXA0, kXA1, -, -, -⟩ := XA.out
         obtain ⟨kXB0, kXB1, -, -, -⟩ := XB.out
         obtain ⟨kXC0, kXC1, -, -, -⟩ := XC.out
         replace HB := Lib.hid (bthen HB.out hb); clear hb
         have G6 : Hid True := trivial
         try go_wp2_with fail)
      | (have mk := G4; clear mk
         rw [if_pos (by rfl)]
         go_simp
         go_at_call 20
         refine (negI 10 U RA.out VA.out (by omega) EU.out (lenZ_neg LA.out EU.out)).mono ?_
         rintro e w5 ⟨au, mu, cu, rfl, bu, hr, hb⟩
         have Ru := Lib.hid hr; clear hr
         replace RA := Lib.hid (RA.out.later hb)
         replace RB := Lib.hid (RB.out.later hb)
         replace XA := Lib.hid (XA.out.later hb)
         replace XB := Lib.hid (XB.out.later hb)
         replace XC := Lib.hid (XC.out.later hb)
         clear kXA0 kXA1 kXB0 kXB1 kXC0 kXC1
         obtain ⟨kXA0, kXA1, -, -, -⟩ := XA.out
         obtain ⟨kXB0, kXB1, -, -, -⟩ := XB.out
         obtain ⟨kXC0, kXC1, -, -, -⟩ := XC.out
         replace HB := Lib.hid (bthen HB.out hb); clear hb
         have G5 : Hid True := trivial
         try go_wp2_with fail)
      | (have mk := G3; clear mk
         rw [if_pos (by rfl)]
         go_simp
         go_at_call 22
         refine (cmpI 0 Rp.out Rq.out (sv_limbs _) (sv_limbs _) (by omega) (by omega) EPQ.out).mono ?_
         rintro e w4 ⟨rfl, hb⟩
         clear Rp
         clear Rq
         clear RC
         replace RA := Lib.hid (RA.out.later hb)
         replace RB := Lib.hid (RB.out.later hb)
         replace XA := Lib.hid (XA.out.later hb)
         replace XB := Lib.hid (XB.out.later hb)
         replace XC := Lib.hid (XC.out.later hb)
         clear kXA0 kXA1 kXB0 kXB1 kXC0 kXC1
         obtain ⟨kXA0, kXA1, -, -, -⟩ := XA.out
         obtain ⟨kXB0, kXB1, -, -, -⟩ := XB.out
         obtain ⟨kXC0, kXC1, -, -, -⟩ := XC.out
         replace HB := Lib.hid (bthen HB.out hb); clear hb
         have G4 : Hid True := trivial
         try go_wp2_with fail)
      | (have mk := G2; clear mk
         rw [if_pos (by rfl)]
         go_simp
         go_at_call 14
         refine (addI 11 Q RB.out RC.out VB.out VC.out (by omega) (by omega) EQ.out (lenZ_add LB.out LC.out EQ.out)).mono ?_
         rintro e w3 ⟨aq, mq, cq, rfl, bq, hr, hb⟩
         have Rq := Lib.hid hr; clear hr
         replace RA := Lib.hid (RA.out.later hb)
         replace RB := Lib.hid (RB.out.later hb)
         replace RC := Lib.hid (RC.out.later hb)
         replace Rp := Lib.hid (Rp.out.later hb)
         replace XA := Lib.hid (XA.out.later hb)
         replace XB := Lib.hid (XB.out.later hb)
         replace XC := Lib.hid (XC.out.later hb)
         clear kXA0 kXA1 kXB0 kXB1 kXC0 kXC1
         obtain ⟨kXA0, kXA1, -, -, -⟩ := XA.out
         obtain ⟨kXB0, kXB1, -, -, -⟩ := XB.out
         obtain ⟨kXC0, kXC1, -, -, -⟩ := XC.out
         replace HB := Lib.hid (bthen HB.out hb); clear hb
         have G3 : Hid True := trivial
         try go_wp2_with fail)
      | (have mk := G1; clear mk
         rw [if_pos (by rfl)]
         go_simp
         go_at_call 14
         refine (addI 11 P RA.out RC.out VA.out VC.out (by omega) (by omega) EP.out (lenZ_add LA.out LC.out EP.out)).mono ?_
         rintro e w2 ⟨ap, mp, cp, rfl, bp, hr, hb⟩
         have Rp := Lib.hid hr; clear hr
         replace RA := Lib.hid (RA.out.later hb)
         replace RB := Lib.hid (RB.out.later hb)
         replace RC := Lib.hid (RC.out.later hb)
         replace XA := Lib.hid (XA.out.later hb)
         replace XB := Lib.hid (XB.out.later hb)
         replace XC := Lib.hid (XC.out.later hb)
         clear kXA0 kXA1 kXB0 kXB1 kXC0 kXC1
         obtain ⟨kXA0, kXA1, -, -, -⟩ := XA.out
         obtain ⟨kXB0, kXB1, -, -, -⟩ := XB.out
         obtain ⟨kXC0, kXC1, -, -, -⟩ := XC.out
         replace HB := Lib.hid (bthen HB.out hb); clear hb
         have G2 : Hid True := trivial
         try go_wp2_with fail)
      | (skip
         rw [if_pos (by rfl)]
         go_simp
         go_at_call 22
         refine (cmpI (0) RB.out RA.out VB.out VA.out (by omega) (by omega) EM.out).mono ?_
         rintro e w1 ⟨rfl, hb⟩
         replace RA := Lib.hid (RA.out.later hb)
         replace RB := Lib.hid (RB.out.later hb)
         replace RC := Lib.hid (RC.out.later hb)
         replace XA := Lib.hid (XA.out.later hb)
         replace XB := Lib.hid (XB.out.later hb)
         replace XC := Lib.hid (XC.out.later hb)
         clear kXA0 kXA1 kXB0 kXB1 kXC0 kXC1
         obtain ⟨kXA0, kXA1, -, -, -⟩ := XA.out
         obtain ⟨kXB0, kXB1, -, -, -⟩ := XB.out
         obtain ⟨kXC0, kXC1, -, -, -⟩ := XC.out
         replace HB := Lib.hid (bthen HB.out hb); clear hb
         have G1 : Hid True := trivial
         try go_wp2_with fail))
  go_wp2
  go_ret
  exact ⟨rfl, HB.out⟩

end Go.Proofs.Ytbapgkjkhdlngaa
/- IntegerOrder, of integers that are short. -/
namespace Go.Proofs.Ytbapgkjkhdlngaa
open Go.RowKit Nums

set_option maxRecDepth 100000 in
set_option maxHeartbeats 8000000 in
theorem integerOrder_gt (s0 s1 s2 : Bool) (a0 a1 a2 : Option Addr) (n0 c0 n1 c1 n2 c2 : Nat) (xs ys zs : List Nat) (w : World) (r0 : Row w a0 n0 c0 xs) (r1 : Row w a1 n1 c1 ys) (r2 : Row w a2 n2 c2 zs) (b0 : n0 ≤ 10) (b1 : n1 ≤ 10) (b2 : n2 ≤ 10) (hAB : sv s0 (val xs) > sv s1 (val ys)) :
    Calls Try.prog 9 #[.agg #[.bool s0, .slice a0 n0 c0], .agg #[.bool s1, .slice a1 n1 c1], .agg #[.bool s2, .slice a2 n2 c2]] w fun e w' => e = .returned (.bool true) ∧ Below w.heap.size w w' := by
  obtain ⟨A, hA⟩ : ∃ A, sv s0 (val xs) = A := ⟨_, rfl⟩
  obtain ⟨B, hB⟩ : ∃ B, sv s1 (val ys) = B := ⟨_, rfl⟩
  obtain ⟨C, hC⟩ : ∃ C, sv s2 (val zs) = C := ⟨_, rfl⟩
  have LA := Lib.hid (lenZ_raw r0 b0 hA)
  have LB := Lib.hid (lenZ_raw r1 b1 hB)
  have LC := Lib.hid (lenZ_raw r2 b2 hC)
  rw [hA, hB] at hAB
  have hN : cmpZ A B = 1 := cmpZ_gt hAB
  obtain ⟨P, eP⟩ : ∃ Z, A + C = Z := ⟨_, rfl⟩
  obtain ⟨Q, eQ⟩ : ∃ Z, B + C = Z := ⟨_, rfl⟩
  obtain ⟨U, eU⟩ : ∃ Z, -A = Z := ⟨_, rfl⟩
  obtain ⟨V, eV⟩ : ∃ Z, -B = Z := ⟨_, rfl⟩
  obtain ⟨D, eD⟩ : ∃ Z, A - B = Z := ⟨_, rfl⟩
  have EAB : Hid (A ≠ B) := by show _ ≠ _; omega
  clear hAB
  have EN := Lib.hid hN
  have EM : Hid (cmpZ B A = (-1)) := by show _ = _; rw [cmpZ_swap, hN]; try rfl
  have EPQ : Hid (cmpZ P Q = 1) := by show _ = _; rw [← eP, ← eQ, cmpZ_add, hN]
  have EUV : Hid (cmpZ U V = (-1)) := by show _ = _; rw [← eU, ← eV, cmpZ_neg, hN]; try rfl
  have ED : Hid (sgn D = 1) := by show _ = _; rw [← eD, sgn_sub, hN]

  clear hN
  have EP := Lib.hid eP; clear eP
  have EQ := Lib.hid eQ; clear eQ
  have EU := Lib.hid eU; clear eU
  have EV := Lib.hid eV; clear eV
  have EDD := Lib.hid eD; clear eD
  have VA := Lib.hid hA; clear hA
  have VB := Lib.hid hB; clear hB
  have VC := Lib.hid hC; clear hC
  have XX := box_three w (.bool s0) (.slice a0 n0 c0) (.bool s1) (.slice a1 n1 c1) (.bool s2) (.slice a2 n2 c2)
  have XA := Lib.hid XX.1
  have XB := Lib.hid XX.2.1
  have XC := Lib.hid XX.2.2; clear XX
  have HB := Lib.hid (below_three w (.cells #[.bool s0, .slice a0 n0 c0] 24) (.cells #[.bool s1, .slice a1 n1 c1] 24) (.cells #[.bool s2, .slice a2 n2 c2] 24))
  have RA := Lib.hid (r0.later HB.out)
  have RB := Lib.hid (r1.later HB.out)
  have RC := Lib.hid (r2.later HB.out)
  clear r0 r1 r2
  go_enter Try.func9, Try.ntmps9
  go_wp2_with fail
  refine (fewI_yes b0 b1).mono ?_
  rintro e w1 ⟨rfl, hb⟩
  replace XA := Lib.hid (XA.out.later hb)
  replace XB := Lib.hid (XB.out.later hb)
  replace XC := Lib.hid (XC.out.later hb)
  replace RA := Lib.hid (RA.out.later hb)
  replace RB := Lib.hid (RB.out.later hb)
  replace RC := Lib.hid (RC.out.later hb)
  replace HB := Lib.hid (bthen HB.out hb); clear hb
  obtain ⟨kXA0, kXA1, -, -, -⟩ := XA.out
  obtain ⟨kXB0, kXB1, -, -, -⟩ := XB.out
  obtain ⟨kXC0, kXC1, -, -, -⟩ := XC.out
  go_wp2_with fail
  refine (fewI_yes b2 b2).mono ?_
  rintro e w2 ⟨rfl, hb⟩
  clear kXA0 kXA1 kXB0 kXB1 kXC0 kXC1
  replace XA := Lib.hid (XA.out.later hb)
  replace XB := Lib.hid (XB.out.later hb)
  replace XC := Lib.hid (XC.out.later hb)
  replace RA := Lib.hid (RA.out.later hb)
  replace RB := Lib.hid (RB.out.later hb)
  replace RC := Lib.hid (RC.out.later hb)
  replace HB := Lib.hid (bthen HB.out hb); clear hb
  obtain ⟨kXA0, kXA1, -, -, -⟩ := XA.out
  obtain ⟨kXB0, kXB1, -, -, -⟩ := XB.out
  obtain ⟨kXC0, kXC1, -, -, -⟩ := XC.out
  go_wp2_with fail
  refine (cmpI 1 RA.out RB.out VA.out VB.out (by omega) (by omega) EN.out).mono ?_
  rintro e w3 ⟨rfl, hb⟩
  clear kXA0 kXA1 kXB0 kXB1 kXC0 kXC1
  replace XA := Lib.hid (XA.out.later hb)
  replace XB := Lib.hid (XB.out.later hb)
  replace XC := Lib.hid (XC.out.later hb)
  replace RA := Lib.hid (RA.out.later hb)
  replace RB := Lib.hid (RB.out.later hb)
  replace RC := Lib.hid (RC.out.later hb)
  replace HB := Lib.hid (bthen HB.out hb); clear hb
  replace XA := Lib.hid XA.out.drew
  replace XB := Lib.hid XB.out.drew
  replace XC := Lib.hid XC.out.drew
  replace RA := Lib.hid RA.out.drew
  replace RB := Lib.hid RB.out.drew
  replace RC := Lib.hid RC.out.drew
  replace HB := Lib.hid HB.out.drew
  obtain ⟨kXA0, kXA1, -, -, -⟩ := XA.out
  obtain ⟨kXB0, kXB1, -, -, -⟩ := XB.out
  obtain ⟨kXC0, kXC1, -, -, -⟩ := XC.out
  go_wp2_with fail
  go_region_held3 (fun w' => w'.cell? ⟨w.heap.size, 0, none⟩ = some (.bool s0) ∧ w'.cell? ⟨w.heap.size, 1, none⟩ = some (.slice a0 n0 c0) ∧ w'.cell? ⟨w.heap.size + 1, 0, none⟩ = some (.bool s1) ∧ w'.cell? ⟨w.heap.size + 1, 1, none⟩ = some (.slice a1 n1 c1) ∧ w'.cell? ⟨w.heap.size + 2, 0, none⟩ = some (.bool s2) ∧ w'.cell? ⟨w.heap.size + 2, 1, none⟩ = some (.slice a2 n2 c2))
    (first | (refine ⟨?_, ?_, ?_, ?_, ?_, ?_⟩ <;> assumption) | (go_keep; done))
    (first
      | (have mk := G12; clear mk
         rw [if_pos (by rfl)]
         go_simp
         go_at_call 26
         refine (awake_any _).mono ?_
         rintro e w13 ⟨rfl, hb⟩
         replace XA := Lib.hid (XA.out.later hb)
         replace XB := Lib.hid (XB.out.later hb)
         replace XC := Lib.hid (XC.out.later hb)
         clear kXA0 kXA1 kXB0 kXB1 kXC0 kXC1
         obtain ⟨kXA0, kXA1, -, -, -⟩ := XA.out
         obtain ⟨kXB0, kXB1, -, -, -⟩ := XB.out
         obtain ⟨kXC0, kXC1, -, -, -⟩ := XC.out
         replace HB := Lib.hid (bthen HB.out hb); clear hb
         have G13 : Hid True := trivial
         try go_wp2_with fail)
      | (have mk := G11; clear mk
         rw [if_pos (by rfl)]
         go_simp
         go_at_call 24
         refine (signI 1 Rd.out (sv_limbs _) (by omega) ED.out).mono ?_
         rintro e w12 ⟨rfl, hb⟩
         clear Rd
         replace XA := Lib.hid (XA.out.later hb)
         replace XB := Lib.hid (XB.out.later hb)
         replace XC := Lib.hid (XC.out.later hb)
         clear kXA0 kXA1 kXB0 kXB1 kXC0 kXC1
         obtain ⟨kXA0, kXA1, -, -, -⟩ := XA.out
         obtain ⟨kXB0, kXB1, -, -, -⟩ := XB.out
         obtain ⟨kXC0, kXC1, -, -, -⟩ := XC.out
         replace HB := Lib.hid (bthen HB.out hb); clear hb
         have G12 : Hid True := trivial
         try go_wp2_with fail)
      | (have mk := G10; clear mk
         rw [if_pos (by rfl)]
         go_simp
         go_at_call 16
         refine (subI 11 D RA.out RB.out VA.out VB.out (by omega) (by omega) EDD.out (lenZ_sub LA.out LB.out EDD.out)).mono ?_
         rintro e w11 ⟨ad, md, cd, rfl, bd, hr, hb⟩
         have Rd := Lib.hid hr; clear hr
         clear RA
         clear RB
         replace XA := Lib.hid (XA.out.later hb)
         replace XB := Lib.hid (XB.out.later hb)
         replace XC := Lib.hid (XC.out.later hb)
         clear kXA0 kXA1 kXB0 kXB1 kXC0 kXC1
         obtain ⟨kXA0, kXA1, -, -, -⟩ := XA.out
         obtain ⟨kXB0, kXB1, -, -, -⟩ := XB.out
         obtain ⟨kXC0, kXC1, -, -, -⟩ := XC.out
         replace HB := Lib.hid (bthen HB.out hb); clear hb
         have G11 : Hid True := trivial
         try go_wp2_with fail)
      | (have mk := G9; clear mk
         rw [if_pos (by rfl)]
         go_simp
         go_at_call 11
         refine (differZ Rx.out Ryy.out EAB.out (by omega) (by omega)).mono ?_
         rintro e w10 ⟨rfl, hb⟩
         clear Rx
         clear Ryy
         replace RA := Lib.hid (RA.out.later hb)
         replace RB := Lib.hid (RB.out.later hb)
         replace XA := Lib.hid (XA.out.later hb)
         replace XB := Lib.hid (XB.out.later hb)
         replace XC := Lib.hid (XC.out.later hb)
         clear kXA0 kXA1 kXB0 kXB1 kXC0 kXC1
         obtain ⟨kXA0, kXA1, -, -, -⟩ := XA.out
         obtain ⟨kXB0, kXB1, -, -, -⟩ := XB.out
         obtain ⟨kXC0, kXC1, -, -, -⟩ := XC.out
         replace HB := Lib.hid (bthen HB.out hb); clear hb
         have G10 : Hid True := trivial
         try go_wp2_with fail)
      | (have mk := G8; clear mk
         rw [if_pos (by rfl)]
         go_simp
         go_at_call 12
         refine (normI 10 B RB.out VB.out (by omega) LB.out).mono ?_
         rintro e w9 ⟨ayy, myy, cyy, rfl, byy, hr, hb⟩
         have Ryy := Lib.hid hr; clear hr
         replace RA := Lib.hid (RA.out.later hb)
         replace RB := Lib.hid (RB.out.later hb)
         replace Rx := Lib.hid (Rx.out.later hb)
         replace XA := Lib.hid (XA.out.later hb)
         replace XB := Lib.hid (XB.out.later hb)
         replace XC := Lib.hid (XC.out.later hb)
         clear kXA0 kXA1 kXB0 kXB1 kXC0 kXC1
         obtain ⟨kXA0, kXA1, -, -, -⟩ := XA.out
         obtain ⟨kXB0, kXB1, -, -, -⟩ := XB.out
         obtain ⟨kXC0, kXC1, -, -, -⟩ := XC.out
         replace HB := Lib.hid (bthen HB.out hb); clear hb
         have G9 : Hid True := trivial
         try go_wp2_with fail)
      | (have mk := G7; clear mk
         rw [if_pos (by rfl)]
         go_simp
         go_at_call 12
         refine (normI 10 A RA.out VA.out (by omega) LA.out).mono ?_
         rintro e w8 ⟨ax, mx, cx, rfl, bx, hr, hb⟩
         have Rx := Lib.hid hr; clear hr
         replace RA := Lib.hid (RA.out.later hb)
         replace RB := Lib.hid (RB.out.later hb)
         replace XA := Lib.hid (XA.out.later hb)
         replace XB := Lib.hid (XB.out.later hb)
         replace XC := Lib.hid (XC.out.later hb)
         clear kXA0 kXA1 kXB0 kXB1 kXC0 kXC1
         obtain ⟨kXA0, kXA1, -, -, -⟩ := XA.out
         obtain ⟨kXB0, kXB1, -, -, -⟩ := XB.out
         obtain ⟨kXC0, kXC1, -, -, -⟩ := XC.out
         replace HB := Lib.hid (bthen HB.out hb); clear hb
         have G8 : Hid True := trivial
         try go_wp2_with fail)
      | (have mk := G6; clear mk
         rw [if_pos (by rfl)]
         go_simp
         go_at_call 22
         refine (cmpI ((-1)) Ru.out Rv.out (sv_limbs _) (sv_limbs _) (by omega) (by omega) EUV.out).mono ?_
         rintro e w7 ⟨rfl, hb⟩
         clear Ru
         clear Rv
         replace RA := Lib.hid (RA.out.later hb)
         replace RB := Lib.hid (RB.out.later hb)
         replace XA := Lib.hid (XA.out.later hb)
         replace XB := Lib.hid (XB.out.later hb)
         replace XC := Lib.hid (XC.out.later hb)
         clear kXA0 kXA1 kXB0 kXB1 kXC0 kXC1
         obtain ⟨kXA0, kXA1, -, -, -⟩ := XA.out
         obtain ⟨kXB0, kXB1, -, -, -⟩ := XB.out
         obtain ⟨kXC0, kXC1, -, -, -⟩ := XC.out
         replace HB := Lib.hid (bthen HB.out hb); clear hb
         have G7 : Hid True := trivial
         try go_wp2_with fail)
      | (have mk := G5; clear mk
         rw [if_pos (by rfl)]
         go_simp
         go_at_call 20
         refine (negI 10 V RB.out VB.out (by omega) EV.out (lenZ_neg LB.out EV.out)).mono ?_
         rintro e w6 ⟨av, mv, cv, rfl, bv, hr, hb⟩
         have Rv := Lib.hid hr; clear hr
         replace RA := Lib.hid (RA.out.later hb)
         replace RB := Lib.hid (RB.out.later hb)
         replace Ru := Lib.hid (Ru.out.later hb)
         replace XA := Lib.hid (XA.out.later hb)
         replace XB := Lib.hid (XB.out.later hb)
         replace XC := Lib.hid (XC.out.later hb)
         clear kXA0 kXA1 kXB0 kXB1 kXC0 kXC1
         obtain ⟨kXA0, kXA1, -, -, -⟩ := XA.out
         obtain ⟨kXB0, kXB1, -, -, -⟩ := XB.out
         obtain ⟨kXC0, kXC1, -, -, -⟩ := XC.out
         replace HB := Lib.hid (bthen HB.out hb); clear hb
         have G6 : Hid True := trivial
         try go_wp2_with fail)
      | (have mk := G4; clear mk
         rw [if_pos (by rfl)]
         go_simp
         go_at_call 20
         refine (negI 10 U RA.out VA.out (by omega) EU.out (lenZ_neg LA.out EU.out)).mono ?_
         rintro e w5 ⟨au, mu, cu, rfl, bu, hr, hb⟩
         have Ru := Lib.hid hr; clear hr
         replace RA := Lib.hid (RA.out.later hb)
         replace RB := Lib.hid (RB.out.later hb)
         replace XA := Lib.hid (XA.out.later hb)
         replace XB := Lib.hid (XB.out.later hb)
         replace XC := Lib.hid (XC.out.later hb)
         clear kXA0 kXA1 kXB0 kXB1 kXC0 kXC1
         obtain ⟨kXA0, kXA1, -, -, -⟩ := XA.out
         obtain ⟨kXB0, kXB1, -, -, -⟩ := XB.out
         obtain ⟨kXC0, kXC1, -, -, -⟩ := XC.out
         replace HB := Lib.hid (bthen HB.out hb); clear hb
         have G5 : Hid True := trivial
         try go_wp2_with fail)
      | (have mk := G3; clear mk
         rw [if_pos (by rfl)]
         go_simp
         go_at_call 22
         refine (cmpI 1 Rp.out Rq.out (sv_limbs _) (sv_limbs _) (by omega) (by omega) EPQ.out).mono ?_
         rintro e w4 ⟨rfl, hb⟩
         clear Rp
         clear Rq
         clear RC
         replace RA := Lib.hid (RA.out.later hb)
         replace RB := Lib.hid (RB.out.later hb)
         replace XA := Lib.hid (XA.out.later hb)
         replace XB := Lib.hid (XB.out.later hb)
         replace XC := Lib.hid (XC.out.later hb)
         clear kXA0 kXA1 kXB0 kXB1 kXC0 kXC1
         obtain ⟨kXA0, kXA1, -, -, -⟩ := XA.out
         obtain ⟨kXB0, kXB1, -, -, -⟩ := XB.out
         obtain ⟨kXC0, kXC1, -, -, -⟩ := XC.out
         replace HB := Lib.hid (bthen HB.out hb); clear hb
         have G4 : Hid True := trivial
         try go_wp2_with fail)
      | (have mk := G2; clear mk
         rw [if_pos (by rfl)]
         go_simp
         go_at_call 14
         refine (addI 11 Q RB.out RC.out VB.out VC.out (by omega) (by omega) EQ.out (lenZ_add LB.out LC.out EQ.out)).mono ?_
         rintro e w3 ⟨aq, mq, cq, rfl, bq, hr, hb⟩
         have Rq := Lib.hid hr; clear hr
         replace RA := Lib.hid (RA.out.later hb)
         replace RB := Lib.hid (RB.out.later hb)
         replace RC := Lib.hid (RC.out.later hb)
         replace Rp := Lib.hid (Rp.out.later hb)
         replace XA := Lib.hid (XA.out.later hb)
         replace XB := Lib.hid (XB.out.later hb)
         replace XC := Lib.hid (XC.out.later hb)
         clear kXA0 kXA1 kXB0 kXB1 kXC0 kXC1
         obtain ⟨kXA0, kXA1, -, -, -⟩ := XA.out
         obtain ⟨kXB0, kXB1, -, -, -⟩ := XB.out
         obtain ⟨kXC0, kXC1, -, -, -⟩ := XC.out
         replace HB := Lib.hid (bthen HB.out hb); clear hb
         have G3 : Hid True := trivial
         try go_wp2_with fail)
      | (have mk := G1; clear mk
         rw [if_pos (by rfl)]
         go_simp
         go_at_call 14
         refine (addI 11 P RA.out RC.out VA.out VC.out (by omega) (by omega) EP.out (lenZ_add LA.out LC.out EP.out)).mono ?_
         rintro e w2 ⟨ap, mp, cp, rfl, bp, hr, hb⟩
         have Rp := Lib.hid hr; clear hr
         replace RA := Lib.hid (RA.out.later hb)
         replace RB := Lib.hid (RB.out.later hb)
         replace RC := Lib.hid (RC.out.later hb)
         replace XA := Lib.hid (XA.out.later hb)
         replace XB := Lib.hid (XB.out.later hb)
         replace XC := Lib.hid (XC.out.later hb)
         clear kXA0 kXA1 kXB0 kXB1 kXC0 kXC1
         obtain ⟨kXA0, kXA1, -, -, -⟩ := XA.out
         obtain ⟨kXB0, kXB1, -, -, -⟩ := XB.out
         obtain ⟨kXC0, kXC1, -, -, -⟩ := XC.out
         replace HB := Lib.hid (bthen HB.out hb); clear hb
         have G2 : Hid True := trivial
         try go_wp2_with fail)
      | (skip
         rw [if_pos (by rfl)]
         go_simp
         go_at_call 22
         refine (cmpI ((-1)) RB.out RA.out VB.out VA.out (by omega) (by omega) EM.out).mono ?_
         rintro e w1 ⟨rfl, hb⟩
         replace RA := Lib.hid (RA.out.later hb)
         replace RB := Lib.hid (RB.out.later hb)
         replace RC := Lib.hid (RC.out.later hb)
         replace XA := Lib.hid (XA.out.later hb)
         replace XB := Lib.hid (XB.out.later hb)
         replace XC := Lib.hid (XC.out.later hb)
         clear kXA0 kXA1 kXB0 kXB1 kXC0 kXC1
         obtain ⟨kXA0, kXA1, -, -, -⟩ := XA.out
         obtain ⟨kXB0, kXB1, -, -, -⟩ := XB.out
         obtain ⟨kXC0, kXC1, -, -, -⟩ := XC.out
         replace HB := Lib.hid (bthen HB.out hb); clear hb
         have G1 : Hid True := trivial
         try go_wp2_with fail))
  go_wp2
  go_ret
  exact ⟨rfl, HB.out⟩

end Go.Proofs.Ytbapgkjkhdlngaa
/- IntegerOrder: integers are ordered, as sums and opposites go. No condition. -/
namespace Go.Proofs.Ytbapgkjkhdlngaa
open Go.ChangeShapes Go.WideShapes Go.ChangeAt Go.RowKit Nums
open Go.ChangeMaps (open_string shut_string)
set_option linter.unusedVariables false

set_option maxRecDepth 100000 in
set_option maxHeartbeats 2000000 in
theorem integerOrder_out (s0 s1 s2 : Bool) (a0 a1 a2 : Option Addr) (n0 c0 n1 c1 n2 c2 : Nat) (w : World) (b0 : n0 ≤ maxLen) (b1 : n1 ≤ maxLen) (b2 : n2 ≤ maxLen) (h : ¬ (n0 ≤ 10 ∧ n1 ≤ 10) ∨ (n0 ≤ 10 ∧ n1 ≤ 10 ∧ ¬ n2 ≤ 10)) :
    Calls Try.prog 9 #[.agg #[.bool s0, .slice a0 n0 c0], .agg #[.bool s1, .slice a1 n1 c1], .agg #[.bool s2, .slice a2 n2 c2]] w fun e w' => e = .returned (.bool true) ∧ Below w.heap.size w w' := by
  have HB := Lib.hid (below_three w (.cells #[.bool s0, .slice a0 n0 c0] 24) (.cells #[.bool s1, .slice a1 n1 c1] 24) (.cells #[.bool s2, .slice a2 n2 c2] 24))
  rcases h with h | ⟨h0, h1, h2⟩
  · have H := Lib.hid h; clear h
    have B0 := Lib.hid b0; clear b0
    have B1 := Lib.hid b1; clear b1
    go_enter Try.func9, Try.ntmps9
    go_wp2_with fail
    refine (fewI_no B0.out B1.out H.out).mono ?_
    rintro e w' ⟨rfl, hb⟩
    replace HB := Lib.hid (bthen HB.out hb); clear hb
    go_wp2
    go_ret
    exact ⟨rfl, HB.out⟩
  · have B2 := Lib.hid b2; clear b2
    have H2 : Hid (¬ (n2 ≤ 10 ∧ n2 ≤ 10)) := fun h => h2 h.1
    clear b0 b1 h2
    have XX := box_three w (.bool s0) (.slice a0 n0 c0) (.bool s1) (.slice a1 n1 c1) (.bool s2) (.slice a2 n2 c2)
    have XC := Lib.hid XX.2.2; clear XX
    go_enter Try.func9, Try.ntmps9
    go_wp2_with fail
    refine (fewI_yes h0 h1).mono ?_
    rintro e w1 ⟨rfl, hb⟩
    obtain ⟨k0, k1, -, -, -⟩ := XC.out.later hb
    replace HB := Lib.hid (bthen HB.out hb); clear hb
    go_wp2_with fail
    refine (fewI_no B2.out B2.out H2.out).mono ?_
    rintro e w' ⟨rfl, hb⟩
    replace HB := Lib.hid (bthen HB.out hb); clear hb
    go_wp2
    go_ret
    exact ⟨rfl, HB.out⟩

theorem integerOrder_walk (s0 s1 s2 : Bool) (a0 a1 a2 : Option Addr) (n0 c0 n1 c1 n2 c2 : Nat) (xs ys zs : List Nat) (w : World) (r0 : Row w a0 n0 c0 xs) (r1 : Row w a1 n1 c1 ys) (r2 : Row w a2 n2 c2 zs) :
    Calls Try.prog 9 #[.agg #[.bool s0, .slice a0 n0 c0], .agg #[.bool s1, .slice a1 n1 c1], .agg #[.bool s2, .slice a2 n2 c2]] w fun e w' => e = .returned (.bool true) ∧ Below w.heap.size w w' := by
  by_cases h : n0 ≤ 10 ∧ n1 ≤ 10
  · by_cases h2 : n2 ≤ 10
    · rcases Int.lt_trichotomy (sv s0 (val xs)) (sv s1 (val ys)) with hc | hc | hc
      · exact integerOrder_lt s0 s1 s2 a0 a1 a2 n0 c0 n1 c1 n2 c2 xs ys zs w r0 r1 r2 h.1 h.2 h2 hc
      · exact integerOrder_eq s0 s1 s2 a0 a1 a2 n0 c0 n1 c1 n2 c2 xs ys zs w r0 r1 r2 h.1 h.2 h2 hc
      · exact integerOrder_gt s0 s1 s2 a0 a1 a2 n0 c0 n1 c1 n2 c2 xs ys zs w r0 r1 r2 h.1 h.2 h2 hc
    · exact integerOrder_out s0 s1 s2 a0 a1 a2 n0 c0 n1 c1 n2 c2 w r0.len_le r1.len_le r2.len_le (Or.inr ⟨h.1, h.2, h2⟩)
  · exact integerOrder_out s0 s1 s2 a0 a1 a2 n0 c0 n1 c1 n2 c2 w r0.len_le r1.len_le r2.len_le (Or.inl h)

set_option maxRecDepth 100000 in
theorem integerOrder_lifted (os : Os) (started : os.Started) (H : Type) (enc : TypeId × Value → H) :
    ReturnsInHanded {} Try.checked os 9 .any (Rows.integerOrderSpec.pre6 enc Try.prog Try.f9 Rows.integerOrderRow.domain false) (Rows.integerOrderSpec.post enc Try.prog Try.f9 false true false false) := by
  refine returnsInHanded_of_change (C := Try.checked) Try.ownKnob started (by kernel_rfl) Try.func9
    (ChangeSpec.witness6 (enc := enc) (C := Try.checked) false ⟨#[], #[.agg #[.bool false, .slice none 0 0], .agg #[.bool false, .slice none 0 0], .agg #[.bool false, .slice none 0 0]], []⟩ 8 (by kernel_rfl) (by kernel_rfl) (by kernel_rfl) (by kernel_rfl)) ?_
  intro W base args ds gs before hval0 hW hcnd _
  have hval : ∀ (j : Nat) t v, Try.f9.params[j]? = some t → args[j]? = some v → Value.okWide Try.prog W .any base t v := hval0
  have hW' := hW
  obtain ⟨p, q, hA0, hV, rfl, hfz, hnd⟩ := hW
  have hA : DataW.TrodAll enc Try.prog W 0 (fun _ => true) true Try.f9.params.toList args.toList ds p := hA0
  rw [Try.params9] at hA hval
  obtain ⟨v0, vs0, d0, ds0, p0, q0, hargs, rfl, rfl, h0, r0⟩ := trodAll_cons hA
  obtain ⟨v1, vs1, d1, ds1, p1, q1, rfl, rfl, rfl, h1, r1⟩ := trodAll_cons r0
  obtain ⟨v2, vs2, d2, ds2, p2, q2, rfl, rfl, rfl, h2, r2⟩ := trodAll_cons r1
  obtain ⟨rfl, rfl, rfl⟩ := trodAll_nil r2
  obtain rfl : args = #[v0, v1, v2] := by cases args; simp_all
  obtain ⟨rfl, rfl⟩ := trodVars_none hV
  have k0 := h0
  have lt0 : ∀ x ∈ p0, x.block < W.heap.size := by obtain ⟨m, hm⟩ := k0; exact DataW.trod_lt m _ _ _ hm
  obtain ⟨s0, a0, n0, c0, xs0, rfl, w0⟩ := int_of_trod (hval 0 24 v0 rfl rfl) h0
  have k1 := h1
  have lt1 : ∀ x ∈ p1, x.block < W.heap.size := by obtain ⟨m, hm⟩ := k1; exact DataW.trod_lt m _ _ _ hm
  obtain ⟨s1, a1, n1, c1, xs1, rfl, w1⟩ := int_of_trod (hval 1 24 v1 rfl rfl) h1
  have k2 := h2
  have lt2 : ∀ x ∈ p2, x.block < W.heap.size := by obtain ⟨m, hm⟩ := k2; exact DataW.trod_lt m _ _ _ hm
  obtain ⟨s2, a2, n2, c2, xs2, rfl, w2⟩ := int_of_trod (hval 2 24 v2 rfl rfl) h2
  clear hA0 hval0
  refine (integerOrder_walk s0 s1 s2 a0 a1 a2 n0 c0 n1 c1 n2 c2 xs0 xs1 xs2 W w0 w1 w2).mono fun e W' ⟨he, bel⟩ => ?_
  subst he
  exact ⟨_, rfl, _, _, _, [], _, [], hW', trodAll_mk1 (shut_bool Try.underlying4 _), (trodAll_cons_mk (Below.trod Try.laidOut (by kernel_rfl) (of_decide_eq_true (by kernel_rfl)) k0 bel lt0) (trodAll_cons_mk (Below.trod Try.laidOut (by kernel_rfl) (of_decide_eq_true (by kernel_rfl)) k1 bel lt1) (trodAll_cons_mk (Below.trod Try.laidOut (by kernel_rfl) (of_decide_eq_true (by kernel_rfl)) k2 bel lt2) trodAll_mk0))), rfl, bel.frame _, fun h => by cases h⟩

theorem integerOrder_over : Rows.integerOrderRow.holds Try.pinned (OpenSpec.ofChange Rows.integerOrderSpec) :=
  OpenClaim.holds_of_wide 9 Try.f9 rfl rfl rfl rfl rfl rfl rfl ⟨rfl, rfl, rfl, rfl, rfl⟩ rfl rfl rfl rfl rfl (by kernel_rfl) Try.func9 (by kernel_rfl)
    (of_decide_eq_true (by kernel_rfl)) (by unfold Func.isWrapper; first | (rw [if_pos (by decide +kernel)]; kernel_rfl) | (rw [if_neg (by decide +kernel)]; exact ⟨rfl, rfl⟩))
    (fun os started H enc _ => integerOrder_lifted os started H enc)

theorem integerOrder_holds : Rows.IntegerOrderSaid := integerOrder_over
#print axioms integerOrder_holds
end Go.Proofs.Ytbapgkjkhdlngaa
