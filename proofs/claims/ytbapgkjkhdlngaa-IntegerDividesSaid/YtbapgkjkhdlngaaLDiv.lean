/- IntegerDivides: quotients and rests are the document's. No condition. -/
import Derived.Test.YtbapgkjkhdlngaaIV
import Derived.Test.YtbapgkjkhdlngaaIF
namespace Go.Proofs.Ytbapgkjkhdlngaa
open Go.ChangeShapes Go.WideShapes Go.ChangeAt Go.RowKit Nums
open Go.ChangeMaps (open_string shut_string)
set_option linter.unusedVariables false

set_option maxRecDepth 100000 in
set_option maxHeartbeats 8000000 in
theorem integerDivides_zero (s0 s1 : Bool) (a0 a1 : Option Addr) (n0 c0 n1 c1 : Nat) (xs ys : List Nat) (w : World) (r0 : Row w a0 n0 c0 xs) (r1 : Row w a1 n1 c1 ys) (b0 : n0 ≤ 10) (b1 : n1 ≤ 10) (hY0 : sv s1 (val ys) = 0) :
    Calls Try.prog 4 #[.agg #[.bool s0, .slice a0 n0 c0], .agg #[.bool s1, .slice a1 n1 c1]] w fun e w' => e = .returned (.bool true) ∧ Below w.heap.size w w' := by
  obtain ⟨A, hA⟩ : ∃ A, sv s0 (val xs) = A := ⟨_, rfl⟩
  obtain ⟨B, hB⟩ : ∃ B, sv s1 (val ys) = B := ⟨_, rfl⟩
  rw [hB] at hY0
  have LA := Lib.hid (lenZ_raw r0 b0 hA)
  have LB := Lib.hid (lenZ_raw r1 b1 hB)
  have VB : Hid (sv s1 (val ys) = 0) := by show _ = _; rw [hB]; exact hY0
  clear hY0 hB LB
  have VA := Lib.hid hA; clear hA
  have XX := box_two w (.bool s0) (.slice a0 n0 c0) (.bool s1) (.slice a1 n1 c1)
  have XA := Lib.hid XX.1
  have XB := Lib.hid XX.2; clear XX
  have HB := Lib.hid (below_two w (.cells #[.bool s0, .slice a0 n0 c0] 24) (.cells #[.bool s1, .slice a1 n1 c1] 24))
  have RA := Lib.hid (r0.later HB.out)
  have RB := Lib.hid (r1.later HB.out)
  clear r0 r1
  go_enter Try.func4, Try.ntmps4
  go_wp2_with fail
  refine (fewI_yes b0 b1).mono ?_
  rintro e w1 ⟨rfl, hb⟩
  replace RA := Lib.hid (RA.out.later hb)
  replace RB := Lib.hid (RB.out.later hb)
  replace XA := Lib.hid (XA.out.later hb)
  replace XB := Lib.hid (XB.out.later hb)
  replace HB := Lib.hid (bthen HB.out hb); clear hb
  obtain ⟨kXA0, kXA1, -, -, -⟩ := XA.out
  obtain ⟨kXB0, kXB1, -, -, -⟩ := XB.out
  go_wp2_with fail
  refine (divI_none RA.out RB.out VB.out (by omega) (by omega)).mono ?_
  rintro e w2 ⟨rfl, hb⟩
  have hb2 := below_two w2 (.cells #[.bool false, .slice none 0 0] 24) (.cells #[.bool false, .slice none 0 0] 24)
  replace RA := Lib.hid ((RA.out.later hb).later hb2)
  replace RB := Lib.hid ((RB.out.later hb).later hb2)
  replace XA := Lib.hid ((XA.out.later hb).later hb2)
  replace XB := Lib.hid ((XB.out.later hb).later hb2)
  replace HB := Lib.hid (bthen (bthen HB.out hb) hb2)
  clear hb hb2
  have Xq := Lib.hid (box_two w2 (.bool false) (.slice none 0 0) (.bool false) (.slice none 0 0)).1
  have Xr := Lib.hid (box_two w2 (.bool false) (.slice none 0 0) (.bool false) (.slice none 0 0)).2
  clear kXA0 kXA1 kXB0 kXB1
  obtain ⟨kXA0, kXA1, -, -, -⟩ := XA.out
  obtain ⟨kXB0, kXB1, -, -, -⟩ := XB.out
  obtain ⟨kXq0, kXq1, -, -, -⟩ := Xq.out
  obtain ⟨kXr0, kXr1, -, -, -⟩ := Xr.out
  go_wp2_with fail
  refine (rdivI_none RA.out RB.out VA.out VB.out (by omega) (by omega)).mono ?_
  rintro e w3 ⟨rfl, hb⟩
  have hb2 := below_two w3 (.cells #[.bool false, .slice none 0 0] 24) (.cells #[.bool false, .slice none 0 0] 24)
  clear RA
  clear RB
  replace XA := Lib.hid ((XA.out.later hb).later hb2)
  replace XB := Lib.hid ((XB.out.later hb).later hb2)
  replace Xq := Lib.hid ((Xq.out.later hb).later hb2)
  replace Xr := Lib.hid ((Xr.out.later hb).later hb2)
  replace HB := Lib.hid (bthen (bthen HB.out hb) hb2)
  clear hb hb2
  have Xp := Lib.hid (box_two w3 (.bool false) (.slice none 0 0) (.bool false) (.slice none 0 0)).1
  have Xu := Lib.hid (box_two w3 (.bool false) (.slice none 0 0) (.bool false) (.slice none 0 0)).2
  clear kXA0 kXA1 kXB0 kXB1 kXq0 kXq1 kXr0 kXr1
  obtain ⟨kXA0, kXA1, -, -, -⟩ := XA.out
  obtain ⟨kXB0, kXB1, -, -, -⟩ := XB.out
  obtain ⟨kXq0, kXq1, -, -, -⟩ := Xq.out
  obtain ⟨kXr0, kXr1, -, -, -⟩ := Xr.out
  obtain ⟨kXp0, kXp1, -, -, -⟩ := Xp.out
  obtain ⟨kXu0, kXu1, -, -, -⟩ := Xu.out
  go_wp2_with fail
  refine (sameI (row_nil _) (row_nil _) rfl rfl (by omega)).mono ?_
  rintro e w4 ⟨rfl, hb⟩
  replace XA := Lib.hid (XA.out.later hb)
  replace XB := Lib.hid (XB.out.later hb)
  replace Xq := Lib.hid (Xq.out.later hb)
  replace Xr := Lib.hid (Xr.out.later hb)
  replace Xp := Lib.hid (Xp.out.later hb)
  replace Xu := Lib.hid (Xu.out.later hb)
  replace HB := Lib.hid (bthen HB.out hb); clear hb
  clear kXA0 kXA1 kXB0 kXB1 kXq0 kXq1 kXr0 kXr1 kXp0 kXp1 kXu0 kXu1
  obtain ⟨kXA0, kXA1, -, -, -⟩ := XA.out
  obtain ⟨kXB0, kXB1, -, -, -⟩ := XB.out
  obtain ⟨kXq0, kXq1, -, -, -⟩ := Xq.out
  obtain ⟨kXr0, kXr1, -, -, -⟩ := Xr.out
  obtain ⟨kXp0, kXp1, -, -, -⟩ := Xp.out
  obtain ⟨kXu0, kXu1, -, -, -⟩ := Xu.out
  go_wp2_with fail
  refine (sameI (row_nil _) (row_nil _) rfl rfl (by omega)).mono ?_
  rintro e w5 ⟨rfl, hb⟩
  replace XA := Lib.hid (XA.out.later hb)
  replace XB := Lib.hid (XB.out.later hb)
  replace Xq := Lib.hid (Xq.out.later hb)
  replace Xr := Lib.hid (Xr.out.later hb)
  replace Xp := Lib.hid (Xp.out.later hb)
  replace Xu := Lib.hid (Xu.out.later hb)
  replace HB := Lib.hid (bthen HB.out hb); clear hb
  clear kXA0 kXA1 kXB0 kXB1 kXq0 kXq1 kXr0 kXr1 kXp0 kXp1 kXu0 kXu1
  obtain ⟨kXA0, kXA1, -, -, -⟩ := XA.out
  obtain ⟨kXB0, kXB1, -, -, -⟩ := XB.out
  obtain ⟨kXq0, kXq1, -, -, -⟩ := Xq.out
  obtain ⟨kXr0, kXr1, -, -, -⟩ := Xr.out
  obtain ⟨kXp0, kXp1, -, -, -⟩ := Xp.out
  obtain ⟨kXu0, kXu1, -, -, -⟩ := Xu.out
  go_wp2_with fail
  refine (awake_any _).mono ?_
  rintro e w6 ⟨rfl, hb⟩
  replace XA := Lib.hid (XA.out.later hb)
  replace XB := Lib.hid (XB.out.later hb)
  replace Xq := Lib.hid (Xq.out.later hb)
  replace Xr := Lib.hid (Xr.out.later hb)
  replace Xp := Lib.hid (Xp.out.later hb)
  replace Xu := Lib.hid (Xu.out.later hb)
  replace HB := Lib.hid (bthen HB.out hb); clear hb
  clear kXA0 kXA1 kXB0 kXB1 kXq0 kXq1 kXr0 kXr1 kXp0 kXp1 kXu0 kXu1
  obtain ⟨kXA0, kXA1, -, -, -⟩ := XA.out
  obtain ⟨kXB0, kXB1, -, -, -⟩ := XB.out
  obtain ⟨kXq0, kXq1, -, -, -⟩ := Xq.out
  obtain ⟨kXr0, kXr1, -, -, -⟩ := Xr.out
  obtain ⟨kXp0, kXp1, -, -, -⟩ := Xp.out
  obtain ⟨kXu0, kXu1, -, -, -⟩ := Xu.out
  go_wp2
  go_ret
  exact ⟨rfl, HB.out⟩

set_option maxRecDepth 100000 in
set_option maxHeartbeats 8000000 in
theorem integerDivides_pos (s0 s1 : Bool) (a0 a1 : Option Addr) (n0 c0 n1 c1 : Nat) (xs ys : List Nat) (w : World) (r0 : Row w a0 n0 c0 xs) (r1 : Row w a1 n1 c1 ys) (b0 : n0 ≤ 10) (b1 : n1 ≤ 10) (hY0 : sv s1 (val ys) ≠ 0) :
    Calls Try.prog 4 #[.agg #[.bool s0, .slice a0 n0 c0], .agg #[.bool s1, .slice a1 n1 c1]] w fun e w' => e = .returned (.bool true) ∧ Below w.heap.size w w' := by
  obtain ⟨A, hA⟩ : ∃ A, sv s0 (val xs) = A := ⟨_, rfl⟩
  obtain ⟨B, hB⟩ : ∃ B, sv s1 (val ys) = B := ⟨_, rfl⟩
  rw [hB] at hY0
  have LA := Lib.hid (lenZ_raw r0 b0 hA)
  have LB := Lib.hid (lenZ_raw r1 b1 hB)
  obtain ⟨Q, hQ⟩ : ∃ Q, A.fdiv B = Q := ⟨_, rfl⟩
  obtain ⟨R, hR⟩ : ∃ R, A.fmod B = R := ⟨_, rfl⟩
  have LQ : Hid ((limbs Q.natAbs).length ≤ 11) := by show _ ≤ _; rw [← hQ]; exact len_fdiv LA.out hY0
  have LR : Hid ((limbs R.natAbs).length ≤ 22) := by show _ ≤ _; rw [← hR]; exact lenZ_le (len_fmod LB.out hY0) (by omega)
  have Y0 := Lib.hid hY0; clear hY0
  have EQ := Lib.hid hQ; clear hQ
  have ER := Lib.hid hR; clear hR
  have VB := Lib.hid hB; clear hB
  have VA := Lib.hid hA; clear hA
  have XX := box_two w (.bool s0) (.slice a0 n0 c0) (.bool s1) (.slice a1 n1 c1)
  have XA := Lib.hid XX.1
  have XB := Lib.hid XX.2; clear XX
  have HB := Lib.hid (below_two w (.cells #[.bool s0, .slice a0 n0 c0] 24) (.cells #[.bool s1, .slice a1 n1 c1] 24))
  have RA := Lib.hid (r0.later HB.out)
  have RB := Lib.hid (r1.later HB.out)
  clear r0 r1
  go_enter Try.func4, Try.ntmps4
  go_wp2_with fail
  refine (fewI_yes b0 b1).mono ?_
  rintro e w1 ⟨rfl, hb⟩
  replace RA := Lib.hid (RA.out.later hb)
  replace RB := Lib.hid (RB.out.later hb)
  replace XA := Lib.hid (XA.out.later hb)
  replace XB := Lib.hid (XB.out.later hb)
  replace HB := Lib.hid (bthen HB.out hb); clear hb
  obtain ⟨kXA0, kXA1, -, -, -⟩ := XA.out
  obtain ⟨kXB0, kXB1, -, -, -⟩ := XB.out
  go_wp2_with fail
  refine (divI 11 22 Q R RA.out RB.out VA.out VB.out (by omega) (by omega) Y0.out EQ.out ER.out LQ.out LR.out (by omega)).mono ?_
  rintro e w2 ⟨aq, mq, cq, ar, mr, cr, rfl, bq, br, hq, hr, hb⟩
  have hb2 := below_two w2 (.cells #[.bool (decide (Q < 0)), .slice aq mq cq] 24) (.cells #[.bool (decide (R < 0)), .slice ar mr cr] 24)
  replace RA := Lib.hid ((RA.out.later hb).later hb2)
  replace RB := Lib.hid ((RB.out.later hb).later hb2)
  replace XA := Lib.hid ((XA.out.later hb).later hb2)
  replace XB := Lib.hid ((XB.out.later hb).later hb2)
  replace HB := Lib.hid (bthen (bthen HB.out hb) hb2)
  have Rq := Lib.hid (hq.later hb2); have Rr := Lib.hid (hr.later hb2); clear hq hr
  clear hb hb2
  have Xq := Lib.hid (box_two w2 (.bool (decide (Q < 0))) (.slice aq mq cq) (.bool (decide (R < 0))) (.slice ar mr cr)).1
  have Xr := Lib.hid (box_two w2 (.bool (decide (Q < 0))) (.slice aq mq cq) (.bool (decide (R < 0))) (.slice ar mr cr)).2
  clear kXA0 kXA1 kXB0 kXB1
  obtain ⟨kXA0, kXA1, -, -, -⟩ := XA.out
  obtain ⟨kXB0, kXB1, -, -, -⟩ := XB.out
  obtain ⟨kXq0, kXq1, -, -, -⟩ := Xq.out
  obtain ⟨kXr0, kXr1, -, -, -⟩ := Xr.out
  go_wp2_with fail
  refine (rdivI Q R RA.out RB.out VA.out VB.out (by omega) (by omega) Y0.out EQ.out ER.out).mono ?_
  rintro e w3 ⟨ap, mp, cp, au, mu, cu, rfl, bp, bu, hq, hr, hb⟩
  have hb2 := below_two w3 (.cells #[.bool (decide (Q < 0)), .slice ap mp cp] 24) (.cells #[.bool (decide (R < 0)), .slice au mu cu] 24)
  clear RA
  clear RB
  replace Rq := Lib.hid ((Rq.out.later hb).later hb2)
  replace Rr := Lib.hid ((Rr.out.later hb).later hb2)
  replace XA := Lib.hid ((XA.out.later hb).later hb2)
  replace XB := Lib.hid ((XB.out.later hb).later hb2)
  replace Xq := Lib.hid ((Xq.out.later hb).later hb2)
  replace Xr := Lib.hid ((Xr.out.later hb).later hb2)
  replace HB := Lib.hid (bthen (bthen HB.out hb) hb2)
  have Rp := Lib.hid (hq.later hb2); have Ru := Lib.hid (hr.later hb2); clear hq hr
  clear hb hb2
  have Xp := Lib.hid (box_two w3 (.bool (decide (Q < 0))) (.slice ap mp cp) (.bool (decide (R < 0))) (.slice au mu cu)).1
  have Xu := Lib.hid (box_two w3 (.bool (decide (Q < 0))) (.slice ap mp cp) (.bool (decide (R < 0))) (.slice au mu cu)).2
  clear kXA0 kXA1 kXB0 kXB1 kXq0 kXq1 kXr0 kXr1
  obtain ⟨kXA0, kXA1, -, -, -⟩ := XA.out
  obtain ⟨kXB0, kXB1, -, -, -⟩ := XB.out
  obtain ⟨kXq0, kXq1, -, -, -⟩ := Xq.out
  obtain ⟨kXr0, kXr1, -, -, -⟩ := Xr.out
  obtain ⟨kXp0, kXp1, -, -, -⟩ := Xp.out
  obtain ⟨kXu0, kXu1, -, -, -⟩ := Xu.out
  go_wp2_with fail
  refine (sameZ Rq.out Rp.out rfl (by omega)).mono ?_
  rintro e w4 ⟨rfl, hb⟩
  clear Rq
  clear Rp
  replace Rr := Lib.hid (Rr.out.later hb)
  replace Ru := Lib.hid (Ru.out.later hb)
  replace XA := Lib.hid (XA.out.later hb)
  replace XB := Lib.hid (XB.out.later hb)
  replace Xq := Lib.hid (Xq.out.later hb)
  replace Xr := Lib.hid (Xr.out.later hb)
  replace Xp := Lib.hid (Xp.out.later hb)
  replace Xu := Lib.hid (Xu.out.later hb)
  replace HB := Lib.hid (bthen HB.out hb); clear hb
  clear kXA0 kXA1 kXB0 kXB1 kXq0 kXq1 kXr0 kXr1 kXp0 kXp1 kXu0 kXu1
  obtain ⟨kXA0, kXA1, -, -, -⟩ := XA.out
  obtain ⟨kXB0, kXB1, -, -, -⟩ := XB.out
  obtain ⟨kXq0, kXq1, -, -, -⟩ := Xq.out
  obtain ⟨kXr0, kXr1, -, -, -⟩ := Xr.out
  obtain ⟨kXp0, kXp1, -, -, -⟩ := Xp.out
  obtain ⟨kXu0, kXu1, -, -, -⟩ := Xu.out
  go_wp2_with fail
  refine (sameZ Rr.out Ru.out rfl (by omega)).mono ?_
  rintro e w5 ⟨rfl, hb⟩
  clear Rr
  clear Ru
  replace XA := Lib.hid (XA.out.later hb)
  replace XB := Lib.hid (XB.out.later hb)
  replace Xq := Lib.hid (Xq.out.later hb)
  replace Xr := Lib.hid (Xr.out.later hb)
  replace Xp := Lib.hid (Xp.out.later hb)
  replace Xu := Lib.hid (Xu.out.later hb)
  replace HB := Lib.hid (bthen HB.out hb); clear hb
  clear kXA0 kXA1 kXB0 kXB1 kXq0 kXq1 kXr0 kXr1 kXp0 kXp1 kXu0 kXu1
  obtain ⟨kXA0, kXA1, -, -, -⟩ := XA.out
  obtain ⟨kXB0, kXB1, -, -, -⟩ := XB.out
  obtain ⟨kXq0, kXq1, -, -, -⟩ := Xq.out
  obtain ⟨kXr0, kXr1, -, -, -⟩ := Xr.out
  obtain ⟨kXp0, kXp1, -, -, -⟩ := Xp.out
  obtain ⟨kXu0, kXu1, -, -, -⟩ := Xu.out
  go_wp2_with fail
  refine (awake_any _).mono ?_
  rintro e w6 ⟨rfl, hb⟩
  replace XA := Lib.hid (XA.out.later hb)
  replace XB := Lib.hid (XB.out.later hb)
  replace Xq := Lib.hid (Xq.out.later hb)
  replace Xr := Lib.hid (Xr.out.later hb)
  replace Xp := Lib.hid (Xp.out.later hb)
  replace Xu := Lib.hid (Xu.out.later hb)
  replace HB := Lib.hid (bthen HB.out hb); clear hb
  clear kXA0 kXA1 kXB0 kXB1 kXq0 kXq1 kXr0 kXr1 kXp0 kXp1 kXu0 kXu1
  obtain ⟨kXA0, kXA1, -, -, -⟩ := XA.out
  obtain ⟨kXB0, kXB1, -, -, -⟩ := XB.out
  obtain ⟨kXq0, kXq1, -, -, -⟩ := Xq.out
  obtain ⟨kXr0, kXr1, -, -, -⟩ := Xr.out
  obtain ⟨kXp0, kXp1, -, -, -⟩ := Xp.out
  obtain ⟨kXu0, kXu1, -, -, -⟩ := Xu.out
  go_wp2
  go_ret
  exact ⟨rfl, HB.out⟩

set_option maxRecDepth 100000 in
set_option maxHeartbeats 2000000 in
theorem integerDivides_out (s0 s1 : Bool) (a0 a1 : Option Addr) (n0 c0 n1 c1 : Nat) (w : World) (b0 : n0 ≤ maxLen) (b1 : n1 ≤ maxLen) (h : ¬ (n0 ≤ 10 ∧ n1 ≤ 10)) :
    Calls Try.prog 4 #[.agg #[.bool s0, .slice a0 n0 c0], .agg #[.bool s1, .slice a1 n1 c1]] w fun e w' => e = .returned (.bool true) ∧ Below w.heap.size w w' := by
  have HB := Lib.hid (below_two w (.cells #[.bool s0, .slice a0 n0 c0] 24) (.cells #[.bool s1, .slice a1 n1 c1] 24))
  have H := Lib.hid h; clear h
  have B0 := Lib.hid b0; clear b0
  have B1 := Lib.hid b1; clear b1
  go_enter Try.func4, Try.ntmps4
  go_wp2_with fail
  refine (fewI_no B0.out B1.out H.out).mono ?_
  rintro e w' ⟨rfl, hb⟩
  replace HB := Lib.hid (bthen HB.out hb); clear hb
  go_wp2
  go_ret
  exact ⟨rfl, HB.out⟩

theorem integerDivides_walk (s0 s1 : Bool) (a0 a1 : Option Addr) (n0 c0 n1 c1 : Nat) (xs ys : List Nat) (w : World) (r0 : Row w a0 n0 c0 xs) (r1 : Row w a1 n1 c1 ys) :
    Calls Try.prog 4 #[.agg #[.bool s0, .slice a0 n0 c0], .agg #[.bool s1, .slice a1 n1 c1]] w fun e w' => e = .returned (.bool true) ∧ Below w.heap.size w w' := by
  by_cases h : n0 ≤ 10 ∧ n1 ≤ 10
  · by_cases hY : sv s1 (val ys) = 0
    · exact integerDivides_zero s0 s1 a0 a1 n0 c0 n1 c1 xs ys w r0 r1 h.1 h.2 hY
    · exact integerDivides_pos s0 s1 a0 a1 n0 c0 n1 c1 xs ys w r0 r1 h.1 h.2 hY
  · exact integerDivides_out s0 s1 a0 a1 n0 c0 n1 c1 w r0.len_le r1.len_le h

set_option maxRecDepth 100000 in
theorem integerDivides_lifted (os : Os) (started : os.Started) (H : Type) (enc : TypeId × Value → H) :
    ReturnsInHanded {} Try.checked os 4 .any (Rows.integerDividesSpec.pre6 enc Try.prog Try.f4 Rows.integerDividesRow.domain false) (Rows.integerDividesSpec.post enc Try.prog Try.f4 false true false false) := by
  refine returnsInHanded_of_change (C := Try.checked) Try.ownKnob started (by kernel_rfl) Try.func4
    (ChangeSpec.witness6 (enc := enc) (C := Try.checked) false ⟨#[], #[.agg #[.bool false, .slice none 0 0], .agg #[.bool false, .slice none 0 0]], []⟩ 8 (by kernel_rfl) (by kernel_rfl) (by kernel_rfl) (by kernel_rfl)) ?_
  intro W base args ds gs before hval0 hW hcnd _
  have hval : ∀ (j : Nat) t v, Try.f4.params[j]? = some t → args[j]? = some v → Value.okWide Try.prog W .any base t v := hval0
  have hW' := hW
  obtain ⟨p, q, hA0, hV, rfl, hfz, hnd⟩ := hW
  have hA : DataW.TrodAll enc Try.prog W 0 (fun _ => true) true Try.f4.params.toList args.toList ds p := hA0
  rw [Try.params4] at hA hval
  obtain ⟨v0, vs0, d0, ds0, p0, q0, hargs, rfl, rfl, h0, r0⟩ := trodAll_cons hA
  obtain ⟨v1, vs1, d1, ds1, p1, q1, rfl, rfl, rfl, h1, r1⟩ := trodAll_cons r0
  obtain ⟨rfl, rfl, rfl⟩ := trodAll_nil r1
  obtain rfl : args = #[v0, v1] := by cases args; simp_all
  obtain ⟨rfl, rfl⟩ := trodVars_none hV
  have k0 := h0
  have lt0 : ∀ x ∈ p0, x.block < W.heap.size := by obtain ⟨m, hm⟩ := k0; exact DataW.trod_lt m _ _ _ hm
  obtain ⟨s0, a0, n0, c0, xs0, rfl, w0⟩ := int_of_trod (hval 0 24 v0 rfl rfl) h0
  have k1 := h1
  have lt1 : ∀ x ∈ p1, x.block < W.heap.size := by obtain ⟨m, hm⟩ := k1; exact DataW.trod_lt m _ _ _ hm
  obtain ⟨s1, a1, n1, c1, xs1, rfl, w1⟩ := int_of_trod (hval 1 24 v1 rfl rfl) h1
  clear hA0 hval0
  refine (integerDivides_walk s0 s1 a0 a1 n0 c0 n1 c1 xs0 xs1 W w0 w1).mono fun e W' ⟨he, bel⟩ => ?_
  subst he
  exact ⟨_, rfl, _, _, _, [], _, [], hW', trodAll_mk1 (shut_bool Try.underlying4 _), (trodAll_cons_mk (Below.trod Try.laidOut (by kernel_rfl) (of_decide_eq_true (by kernel_rfl)) k0 bel lt0) (trodAll_cons_mk (Below.trod Try.laidOut (by kernel_rfl) (of_decide_eq_true (by kernel_rfl)) k1 bel lt1) trodAll_mk0)), rfl, bel.frame _, fun h => by cases h⟩

theorem integerDivides_over : Rows.integerDividesRow.holds Try.pinned (OpenSpec.ofChange Rows.integerDividesSpec) :=
  OpenClaim.holds_of_wide 4 Try.f4 rfl rfl rfl rfl rfl rfl rfl ⟨rfl, rfl, rfl, rfl, rfl⟩ rfl rfl rfl rfl rfl (by kernel_rfl) Try.func4 (by kernel_rfl)
    (of_decide_eq_true (by kernel_rfl)) (by unfold Func.isWrapper; first | (rw [if_pos (by decide +kernel)]; kernel_rfl) | (rw [if_neg (by decide +kernel)]; exact ⟨rfl, rfl⟩))
    (fun os started H enc _ => integerDivides_lifted os started H enc)

theorem integerDivides_holds : Rows.IntegerDividesSaid := integerDivides_over
#print axioms integerDivides_holds
end Go.Proofs.Ytbapgkjkhdlngaa
