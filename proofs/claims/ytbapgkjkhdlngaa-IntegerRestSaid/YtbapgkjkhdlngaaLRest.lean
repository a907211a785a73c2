/- IntegerRest, by nought; by what is above nought, no rest. -/
import Derived.Test.YtbapgkjkhdlngaaIW
import Derived.Deep.DeepCutAuto
namespace Go.Proofs.Ytbapgkjkhdlngaa
open Go.RowKit Nums

set_option maxRecDepth 100000 in
set_option maxHeartbeats 16000000 in
theorem integerRest_zero (s0 s1 : Bool) (a0 a1 : Option Addr) (n0 c0 n1 c1 : Nat) (xs ys : List Nat) (w : World) (r0 : Row w a0 n0 c0 xs) (r1 : Row w a1 n1 c1 ys) (b0 : n0 ≤ 10) (b1 : n1 ≤ 10) (hY0 : sv s1 (val ys) = 0) :
    Calls Try.prog 8 #[.agg #[.bool s0, .slice a0 n0 c0], .agg #[.bool s1, .slice a1 n1 c1]] w fun e w' => e = .returned (.bool true) ∧ Below w.heap.size w w' := by
  obtain ⟨A, hA⟩ : ∃ A, sv s0 (val xs) = A := ⟨_, rfl⟩
  obtain ⟨B, hB⟩ : ∃ B, sv s1 (val ys) = B := ⟨_, rfl⟩
  have LA := Lib.hid (lenZ_raw r0 b0 hA)
  have VB := Lib.hid hY0; clear hY0 hB
  have S0 : Hid (sgn 0 = 0) := by show _ = _; decide
  have VA := Lib.hid hA; clear hA
  have XX := box_two w (.bool s0) (.slice a0 n0 c0) (.bool s1) (.slice a1 n1 c1)
  have XA := Lib.hid XX.1
  have XB := Lib.hid XX.2; clear XX
  have HB := Lib.hid (below_two w (.cells #[.bool s0, .slice a0 n0 c0] 24) (.cells #[.bool s1, .slice a1 n1 c1] 24))
  have RA := Lib.hid (r0.later HB.out)
  have RB := Lib.hid (r1.later HB.out)
  clear r0 r1
  go_enter Try.func8, Try.ntmps8
  go_wp2_with fail
  refine (fewI_yes b0 b1).mono ?_
  rintro e w1 ⟨rfl, hb⟩
  replace RA := Lib.hid (RA.out.later hb)
  replace RB := Lib.hid (RB.out.later hb)
  replace XA := Lib.hid (XA.out.later hb)
  replace XB := Lib.hid (XB.out.later hb)
  replace HB := Lib.hid (bthen HB.out hb); clear hb
  obtain ⟨kXA0, kXA1, -, -, -⟩ := XA.out
  obtain ⟨kXB0, kXB1, -, -, -⟩ := XB.out
  go_wp2_with fail
  refine (divI_none RA.out RB.out VB.out (by omega) (by omega)).mono ?_
  rintro e w2 ⟨rfl, hb⟩
  have hb2 := below_two w2 (.cells #[.bool false, .slice none 0 0] 24) (.cells #[.bool false, .slice none 0 0] 24)
  replace RA := Lib.hid ((RA.out.later hb).later hb2)
  replace RB := Lib.hid ((RB.out.later hb).later hb2)
  replace XA := Lib.hid ((XA.out.later hb).later hb2)
  replace XB := Lib.hid ((XB.out.later hb).later hb2)
  replace HB := Lib.hid (bthen (bthen HB.out hb) hb2)
  clear hb hb2
  have Xq := Lib.hid (box_two w2 (.bool false) (.slice none 0 0) (.bool false) (.slice none 0 0)).1
  have Xr := Lib.hid (box_two w2 (.bool false) (.slice none 0 0) (.bool false) (.slice none 0 0)).2
  clear kXA0 kXA1 kXB0 kXB1
  obtain ⟨kXA0, kXA1, -, -, -⟩ := XA.out
  obtain ⟨kXB0, kXB1, -, -, -⟩ := XB.out
  obtain ⟨kXq0, kXq1, -, -, -⟩ := Xq.out
  obtain ⟨kXr0, kXr1, -, -, -⟩ := Xr.out
  go_wp2_with fail
  refine (signI 0 RB.out VB.out (by omega) S0.out).mono ?_
  rintro e w3 ⟨rfl, hb⟩
  replace RA := Lib.hid (RA.out.later hb)
  replace RB := Lib.hid (RB.out.later hb)
  replace XA := Lib.hid (XA.out.later hb)
  replace XB := Lib.hid (XB.out.later hb)
  replace Xq := Lib.hid (Xq.out.later hb)
  replace Xr := Lib.hid (Xr.out.later hb)
  replace HB := Lib.hid (bthen HB.out hb); clear hb
  clear kXA0 kXA1 kXB0 kXB1 kXq0 kXq1 kXr0 kXr1
  obtain ⟨kXA0, kXA1, -, -, -⟩ := XA.out
  obtain ⟨kXB0, kXB1, -, -, -⟩ := XB.out
  obtain ⟨kXq0, kXq1, -, -, -⟩ := Xq.out
  obtain ⟨kXr0, kXr1, -, -, -⟩ := Xr.out
  go_wp2_with fail
  refine (sameI (row_nil _) (row_nil _) rfl rfl (by omega)).mono ?_
  rintro e w4 ⟨rfl, hb⟩
  replace RA := Lib.hid (RA.out.later hb)
  replace RB := Lib.hid (RB.out.later hb)
  replace XA := Lib.hid (XA.out.later hb)
  replace XB := Lib.hid (XB.out.later hb)
  replace Xq := Lib.hid (Xq.out.later hb)
  replace Xr := Lib.hid (Xr.out.later hb)
  replace HB := Lib.hid (bthen HB.out hb); clear hb
  clear kXA0 kXA1 kXB0 kXB1 kXq0 kXq1 kXr0 kXr1
  obtain ⟨kXA0, kXA1, -, -, -⟩ := XA.out
  obtain ⟨kXB0, kXB1, -, -, -⟩ := XB.out
  obtain ⟨kXq0, kXq1, -, -, -⟩ := Xq.out
  obtain ⟨kXr0, kXr1, -, -, -⟩ := Xr.out
  go_wp2_with fail
  refine (sameI (row_nil _) (row_nil _) rfl rfl (by omega)).mono ?_
  rintro e w5 ⟨rfl, hb⟩
  replace RA := Lib.hid (RA.out.later hb)
  replace RB := Lib.hid (RB.out.later hb)
  replace XA := Lib.hid (XA.out.later hb)
  replace XB := Lib.hid (XB.out.later hb)
  replace Xq := Lib.hid (Xq.out.later hb)
  replace Xr := Lib.hid (Xr.out.later hb)
  replace HB := Lib.hid (bthen HB.out hb); clear hb
  clear kXA0 kXA1 kXB0 kXB1 kXq0 kXq1 kXr0 kXr1
  obtain ⟨kXA0, kXA1, -, -, -⟩ := XA.out
  obtain ⟨kXB0, kXB1, -, -, -⟩ := XB.out
  obtain ⟨kXq0, kXq1, -, -, -⟩ := Xq.out
  obtain ⟨kXr0, kXr1, -, -, -⟩ := Xr.out
  go_wp2_with fail
  refine (awake_any _).mono ?_
  rintro e w6 ⟨rfl, hb⟩
  replace RA := Lib.hid (RA.out.later hb)
  replace RB := Lib.hid (RB.out.later hb)
  replace XA := Lib.hid (XA.out.later hb)
  replace XB := Lib.hid (XB.out.later hb)
  replace Xq := Lib.hid (Xq.out.later hb)
  replace Xr := Lib.hid (Xr.out.later hb)
  replace HB := Lib.hid (bthen HB.out hb); clear hb
  clear kXA0 kXA1 kXB0 kXB1 kXq0 kXq1 kXr0 kXr1
  obtain ⟨kXA0, kXA1, -, -, -⟩ := XA.out
  obtain ⟨kXB0, kXB1, -, -, -⟩ := XB.out
  obtain ⟨kXq0, kXq1, -, -, -⟩ := Xq.out
  obtain ⟨kXr0, kXr1, -, -, -⟩ := Xr.out
  go_wp2
  go_ret
  exact ⟨rfl, HB.out⟩

set_option maxRecDepth 100000 in
set_option maxHeartbeats 16000000 in
theorem integerRest_pos0 (s0 s1 : Bool) (a0 a1 : Option Addr) (n0 c0 n1 c1 : Nat) (xs ys : List Nat) (w : World) (r0 : Row w a0 n0 c0 xs) (r1 : Row w a1 n1 c1 ys) (b0 : n0 ≤ 10) (b1 : n1 ≤ 10) (hSB : sgn (sv s1 (val ys)) = 1) (hSR : sgn ((sv s0 (val xs)).fmod (sv s1 (val ys))) = 0) (hCR : cmpZ ((sv s0 (val xs)).fmod (sv s1 (val ys))) (sv s1 (val ys)) = (-1)) :
    Calls Try.prog 8 #[.agg #[.bool s0, .slice a0 n0 c0], .agg #[.bool s1, .slice a1 n1 c1]] w fun e w' => e = .returned (.bool true) ∧ Below w.heap.size w w' := by
  obtain ⟨A, hA⟩ : ∃ A, sv s0 (val xs) = A := ⟨_, rfl⟩
  obtain ⟨B, hB⟩ : ∃ B, sv s1 (val ys) = B := ⟨_, rfl⟩
  rw [hA, hB] at hSR hCR
  rw [hB] at hSB
  have hY0 : B ≠ 0 := by rintro rfl; revert hSB; decide
  have LA := Lib.hid (lenZ_raw r0 b0 hA)
  have LB := Lib.hid (lenZ_raw r1 b1 hB)
  obtain ⟨Q, hQ⟩ : ∃ Q, A.fdiv B = Q := ⟨_, rfl⟩
  obtain ⟨R, hR⟩ : ∃ R, A.fmod B = R := ⟨_, rfl⟩
  rw [hR] at hSR hCR
  obtain ⟨P, hP⟩ : ∃ P, Q * B = P := ⟨_, rfl⟩
  have LQ : Hid ((limbs Q.natAbs).length ≤ 11) := by show _ ≤ _; rw [← hQ]; exact len_fdiv LA.out hY0
  have LR : Hid ((limbs R.natAbs).length ≤ 10) := by show _ ≤ _; rw [← hR]; exact len_fmod LB.out hY0
  have LP : Hid ((limbs P.natAbs).length ≤ 21) := lenZ_mul LQ.out LB.out hP
  have EA : Hid (P + R = A) := by
    show _ = _
    have h := Int.mul_fdiv_add_fmod A B
    rw [hQ, hR, Int.mul_comm, hP] at h
    exact h
  have SB := Lib.hid hSB; clear hSB
  have SR := Lib.hid hSR; clear hSR
  have CR := Lib.hid hCR; clear hCR
  have Y0 := Lib.hid hY0; clear hY0
  have EQ := Lib.hid hQ; clear hQ
  have ER := Lib.hid hR; clear hR
  have EP := Lib.hid hP; clear hP
  have VB := Lib.hid hB; clear hB
  have VA := Lib.hid hA; clear hA
  have XX := box_two w (.bool s0) (.slice a0 n0 c0) (.bool s1) (.slice a1 n1 c1)
  have XA := Lib.hid XX.1
  have XB := Lib.hid XX.2; clear XX
  have HB := Lib.hid (below_two w (.cells #[.bool s0, .slice a0 n0 c0] 24) (.cells #[.bool s1, .slice a1 n1 c1] 24))
  have RA := Lib.hid (r0.later HB.out)
  have RB := Lib.hid (r1.later HB.out)
  clear r0 r1
  go_enter Try.func8, Try.ntmps8
  go_wp2_with fail
  refine (fewI_yes b0 b1).mono ?_
  rintro e w1 ⟨rfl, hb⟩
  replace RA := Lib.hid (RA.out.later hb)
  replace RB := Lib.hid (RB.out.later hb)
  replace XA := Lib.hid (XA.out.later hb)
  replace XB := Lib.hid (XB.out.later hb)
  replace HB := Lib.hid (bthen HB.out hb); clear hb
  obtain ⟨kXA0, kXA1, -, -, -⟩ := XA.out
  obtain ⟨kXB0, kXB1, -, -, -⟩ := XB.out
  go_wp2_with fail
  refine (divI 11 10 Q R RA.out RB.out VA.out VB.out (by omega) (by omega) Y0.out EQ.out ER.out LQ.out LR.out (by omega)).mono ?_
  have XB0 := Lib.hid XB.out
  rintro e w2 ⟨aq, mq, cq, ar, mr, cr, rfl, bq, br, hq, hr, hb⟩
  have hb2 := below_two w2 (.cells #[.bool (decide (Q < 0)), .slice aq mq cq] 24) (.cells #[.bool (decide (R < 0)), .slice ar mr cr] 24)
  replace RA := Lib.hid ((RA.out.later hb).later hb2)
  replace RB := Lib.hid ((RB.out.later hb).later hb2)
  replace XA := Lib.hid ((XA.out.later hb).later hb2)
  replace XB := Lib.hid ((XB.out.later hb).later hb2)
  have LW : Hid (w.heap.size + 1 < w2.heap.size) := (XB0.out.later hb).2.2.2.2
  replace HB := Lib.hid (bthen (bthen HB.out hb) hb2)
  have Rq := Lib.hid (hq.later hb2); have Rr := Lib.hid (hr.later hb2); clear hq hr
  clear hb hb2
  have Xq := Lib.hid (box_two w2 (.bool (decide (Q < 0))) (.slice aq mq cq) (.bool (decide (R < 0))) (.slice ar mr cr)).1
  have Xr := Lib.hid (box_two w2 (.bool (decide (Q < 0))) (.slice aq mq cq) (.bool (decide (R < 0))) (.slice ar mr cr)).2
  clear kXA0 kXA1 kXB0 kXB1
  obtain ⟨kXA0, kXA1, -, -, -⟩ := XA.out
  obtain ⟨kXB0, kXB1, -, -, -⟩ := XB.out
  obtain ⟨kXq0, kXq1, -, -, -⟩ := Xq.out
  obtain ⟨kXr0, kXr1, -, -, -⟩ := Xr.out
  go_wp2_with fail
  refine (signI 1 RB.out VB.out (by omega) SB.out).mono ?_
  rintro e w3 ⟨rfl, hb⟩
  replace RA := Lib.hid (RA.out.later hb)
  replace RB := Lib.hid (RB.out.later hb)
  replace Rq := Lib.hid (Rq.out.later hb)
  replace Rr := Lib.hid (Rr.out.later hb)
  replace XA := Lib.hid (XA.out.later hb)
  replace XB := Lib.hid (XB.out.later hb)
  replace Xq := Lib.hid (Xq.out.later hb)
  replace Xr := Lib.hid (Xr.out.later hb)
  replace HB := Lib.hid (bthen HB.out hb); clear hb
  clear kXA0 kXA1 kXB0 kXB1 kXq0 kXq1 kXr0 kXr1
  obtain ⟨kXA0, kXA1, -, -, -⟩ := XA.out
  obtain ⟨kXB0, kXB1, -, -, -⟩ := XB.out
  obtain ⟨kXq0, kXq1, -, -, -⟩ := Xq.out
  obtain ⟨kXr0, kXr1, -, -, -⟩ := Xr.out
  have lw : w.heap.size + 1 < w2.heap.size := by
    exact LW.out
  have lq : w2.heap.size + 1 < w3.heap.size := Xr.out.2.2.2.2
  clear kXA0 kXA1 kXB0 kXB1 kXq0 kXq1 kXr0 kXr1
  replace XA := Lib.hid XA.out.drew
  replace XB := Lib.hid XB.out.drew
  replace Xq := Lib.hid Xq.out.drew
  replace Xr := Lib.hid Xr.out.drew
  replace RA := Lib.hid RA.out.drew
  replace RB := Lib.hid RB.out.drew
  replace Rq := Lib.hid Rq.out.drew
  replace Rr := Lib.hid Rr.out.drew
  replace HB := Lib.hid HB.out.drew
  have KK : Hid (Keep w [(w.heap.size, .bool s0, .slice a0 n0 c0), (w.heap.size + 1, .bool s1, .slice a1 n1 c1), (w2.heap.size + 1, .bool (decide (R < 0)), .slice ar mr cr)] [(a0, n0, c0, xs), (a1, n1, c1, ys), (ar, mr, cr, limbs R.natAbs)] w3.drew) := ⟨by
    intro b hm
    simp only [List.mem_cons, List.not_mem_nil, or_false] at hm
    rcases hm with rfl | rfl | rfl
    · exact XA.out
    · exact XB.out
    · exact Xr.out, by
    intro r hm
    simp only [List.mem_cons, List.not_mem_nil, or_false] at hm
    rcases hm with rfl | rfl | rfl
    · exact RA.out
    · exact RB.out
    · exact Rr.out, HB.out⟩
  clear RA Rr XA HB
  obtain ⟨kXB0, kXB1, -, -, -⟩ : Box w3 _ _ _ := XB.out
  obtain ⟨kXq0, kXq1, -, -, -⟩ : Box w3 _ _ _ := Xq.out
  obtain ⟨kXr0, kXr1, -, -, -⟩ : Box w3 _ _ _ := Xr.out
  go_upto_region 6 with fail
  go_cut [8] (fun s8 wx => ∃ (g : Nat) (ab : Option Addr) (mb cb : Nat), s8 = .pointer (some ⟨g, 0, none⟩) ∧ Hid (Made w [(w.heap.size, .bool s0, .slice a0 n0 c0), (w.heap.size + 1, .bool s1, .slice a1 n1 c1), (w2.heap.size + 1, .bool (decide (R < 0)), .slice ar mr cr)] [(a0, n0, c0, xs), (a1, n1, c1, ys), (ar, mr, cr, limbs R.natAbs)] 22 A g ab mb cb wx))
  case first =>
    go_region_held3 (fun w' => w'.cell? ⟨w.heap.size + 1, 0, none⟩ = some (.bool s1) ∧ w'.cell? ⟨w.heap.size + 1, 1, none⟩ = some (.slice a1 n1 c1) ∧ w'.cell? ⟨w2.heap.size, 0, none⟩ = some (.bool (decide (Q < 0))) ∧ w'.cell? ⟨w2.heap.size, 1, none⟩ = some (.slice aq mq cq) ∧ w'.cell? ⟨w2.heap.size + 1, 0, none⟩ = some (.bool (decide (R < 0))) ∧ w'.cell? ⟨w2.heap.size + 1, 1, none⟩ = some (.slice ar mr cr))
      (first | (with_reducible exact keep_six (by assumption) (by omega) (by omega) (by omega)) | (refine ⟨?_, ?_, ?_, ?_, ?_, ?_⟩ <;> with_reducible assumption) | (go_keep; done))
      (first
        | (go_at_call 14
           (have mk := GB; clear mk)
           refine (addI 22 A RP.out (KK.out.row (a := ar) (n := mr) (c := cr) (xs := limbs R.natAbs) (by simp)) (sv_limbs _) (sv_limbs _) (by omega) (by omega) EA.out (lenZ_le LA.out (by omega))).mono ?_
           rintro e v2 ⟨ak, mk2, ck, rfl, bk, hr, hb⟩
           have RK := Lib.hid hr; clear hr
           replace XG := Lib.hid (XG.out.later hb)
           replace KK := Lib.hid (KK.out.later hb)
           replace XB := Lib.hid (XB.out.later hb)
           replace Xq := Lib.hid (Xq.out.later hb)
           replace Xr := Lib.hid (Xr.out.later hb)
           have lv2 : v1.heap.size ≤ v2.heap.size := by have := hb.size; (try simp at this); omega
           clear hb
           obtain ⟨kXG0, kXG1, kXG2, kXG3, kXG4⟩ := XG.out
           clear kXB0 kXB1 kXq0 kXq1 kXr0 kXr1
           obtain ⟨kXB0, kXB1, -, -, -⟩ := XB.out
           obtain ⟨kXq0, kXq1, -, -, -⟩ := Xq.out
           obtain ⟨kXr0, kXr1, -, -, -⟩ := Xr.out)
        | (go_at_call 14
           (have mk := GA; clear mk)
           (with_reducible show Calls Try.prog 14 _ (World.alloc _ _) _)
           refine (addI 22 A (RP.out.later (below_one _ (.cells #[.bool false, .slice none 0 0] 24))) ((KK.out.row (a := ar) (n := mr) (c := cr) (xs := limbs R.natAbs) (by simp)).later (below_one _ (.cells #[.bool false, .slice none 0 0] 24))) (sv_limbs _) (sv_limbs _) (by omega) (by omega) EA.out (lenZ_le LA.out (by omega))).mono ?_
           rintro e v2 ⟨ak, mk2, ck, rfl, bk, hr, hb⟩
           have RK := Lib.hid hr; clear hr
           have XG : Hid (Box v2 v1.heap.size (.bool false) (.slice none 0 0)) := (box_new v1 (.bool false) (.slice none 0 0)).later hb
           replace KK := Lib.hid ((KK.out.later (below_one _ (.cells #[.bool false, .slice none 0 0] 24))).later hb)
           replace XB := Lib.hid ((XB.out.later (below_one _ (.cells #[.bool false, .slice none 0 0] 24))).later hb)
           replace Xq := Lib.hid ((Xq.out.later (below_one _ (.cells #[.bool false, .slice none 0 0] 24))).later hb)
           replace Xr := Lib.hid ((Xr.out.later (below_one _ (.cells #[.bool false, .slice none 0 0] 24))).later hb)
           have lv2 : v1.heap.size ≤ v2.heap.size := by have := hb.size; (try simp at this); omega
           clear hb
           obtain ⟨kXG0, kXG1, kXG2, kXG3, kXG4⟩ := XG.out
           clear kXB0 kXB1 kXq0 kXq1 kXr0 kXr1
           obtain ⟨kXB0, kXB1, -, -, -⟩ := XB.out
           obtain ⟨kXq0, kXq1, -, -, -⟩ := Xq.out
           obtain ⟨kXr0, kXr1, -, -, -⟩ := Xr.out)
        | (go_at_call 14
           (have mk := GA; clear mk)
           refine (addI 22 A RP.out (KK.out.row (a := ar) (n := mr) (c := cr) (xs := limbs R.natAbs) (by simp)) (sv_limbs _) (sv_limbs _) (by omega) (by omega) EA.out (lenZ_le LA.out (by omega))).mono ?_
           rintro e v2 ⟨ak, mk2, ck, rfl, bk, hr, hb⟩
           have RK := Lib.hid hr; clear hr
           replace KK := Lib.hid (KK.out.later hb)
           replace XB := Lib.hid (XB.out.later hb)
           replace Xq := Lib.hid (Xq.out.later hb)
           replace Xr := Lib.hid (Xr.out.later hb)
           have lv2 : v1.heap.size ≤ v2.heap.size := by have := hb.size; (try simp at this); omega
           clear hb
           clear kXB0 kXB1 kXq0 kXq1 kXr0 kXr1
           obtain ⟨kXB0, kXB1, -, -, -⟩ := XB.out
           obtain ⟨kXq0, kXq1, -, -, -⟩ := Xq.out
           obtain ⟨kXr0, kXr1, -, -, -⟩ := Xr.out)
        | (go_at_call 18
           (with_reducible show Calls Try.prog 18 _ (World.drew (World.alloc _ _)) _)
           refine (mulI 21 P (Rq.out.later (bal w3 (.cells #[.bool false, .slice none 0 0] 24))) (RB.out.later (bal w3 (.cells #[.bool false, .slice none 0 0] 24))) (sv_limbs _) VB.out (by omega) (by omega) EP.out LP.out).mono ?_
           rintro e v1 ⟨ap, mp, cp, rfl, bp, hr, hb⟩
           have RP := Lib.hid hr; clear hr
           have XG : Hid (Box v1 w3.heap.size (.bool false) (.slice none 0 0)) := (box_new w3 (.bool false) (.slice none 0 0)).drew.later hb
           replace KK := Lib.hid ((KK.out.later (bal w3 (.cells #[.bool false, .slice none 0 0] 24))).later hb)
           replace XB := Lib.hid ((XB.out.later (bal w3 (.cells #[.bool false, .slice none 0 0] 24))).later hb)
           replace Xq := Lib.hid ((Xq.out.later (bal w3 (.cells #[.bool false, .slice none 0 0] 24))).later hb)
           replace Xr := Lib.hid ((Xr.out.later (bal w3 (.cells #[.bool false, .slice none 0 0] 24))).later hb)
           have lv1 : w3.heap.size ≤ v1.heap.size := by have := hb.size; (try simp at this); omega
           clear hb
           obtain ⟨kXG0, kXG1, kXG2, kXG3, kXG4⟩ := XG.out
           clear kXB0 kXB1 kXq0 kXq1 kXr0 kXr1
           obtain ⟨kXB0, kXB1, -, -, -⟩ := XB.out
           obtain ⟨kXq0, kXq1, -, -, -⟩ := Xq.out
           obtain ⟨kXr0, kXr1, -, -, -⟩ := Xr.out
           have GB : Hid True := trivial)
        | (go_at_call 18
           refine (mulI 21 P Rq.out RB.out (sv_limbs _) VB.out (by omega) (by omega) EP.out LP.out).mono ?_
           rintro e v1 ⟨ap, mp, cp, rfl, bp, hr, hb⟩
           have RP := Lib.hid hr; clear hr
           replace KK := Lib.hid (KK.out.later hb)
           replace XB := Lib.hid (XB.out.later hb)
           replace Xq := Lib.hid (Xq.out.later hb)
           replace Xr := Lib.hid (Xr.out.later hb)
           have lv1 : w3.heap.size ≤ v1.heap.size := by have := hb.size; (try simp at this); omega
           clear hb
           clear kXB0 kXB1 kXq0 kXq1 kXr0 kXr1
           obtain ⟨kXB0, kXB1, -, -, -⟩ := XB.out
           obtain ⟨kXq0, kXq1, -, -, -⟩ := Xq.out
           obtain ⟨kXr0, kXr1, -, -, -⟩ := Xr.out
           have GA : Hid True := trivial))
    all_goals
      go_wp2_with fail
      go_meet
      first
        | exact ⟨_, ak, mk2, ck, rfl, XG.out.put _ _, bk, RK.out.put XG.out.1 XG.out.2.1 _ _, KK.out.put XG.out (by intro b hm; simp only [List.mem_cons, List.not_mem_nil, or_false] at hm; rcases hm with rfl | rfl | rfl <;> simp <;> omega) (by omega) _ _⟩
        | exact ⟨_, ak, mk2, ck, rfl, box_new _ _ _, bk, RK.out.later (below_one _ _), KK.out.later (below_one _ _)⟩
  case rest =>
    obtain ⟨g, ab, mb, cb, rfl, hm⟩ := hcut
    have HM := Lib.hid hm.out; clear hm
    clear KK XB Xq Xr RB Rq kXB0 kXB1 kXq0 kXq1 kXr0 kXr1
    have XA := Lib.hid (HM.out.2.2.2.box (g := w.heap.size) (u := .bool s0) (v := .slice a0 n0 c0) (by simp))
    have XB := Lib.hid (HM.out.2.2.2.box (g := w.heap.size + 1) (u := .bool s1) (v := .slice a1 n1 c1) (by simp))
    have Xr := Lib.hid (HM.out.2.2.2.box (g := w2.heap.size + 1) (u := .bool (decide (R < 0))) (v := .slice ar mr cr) (by simp))
    have Xg := Lib.hid HM.out.1
    have RA := Lib.hid (HM.out.2.2.2.row (a := a0) (n := n0) (c := c0) (xs := xs) (by simp))
    have RB := Lib.hid (HM.out.2.2.2.row (a := a1) (n := n1) (c := c1) (xs := ys) (by simp))
    have Rr := Lib.hid (HM.out.2.2.2.row (a := ar) (n := mr) (c := cr) (xs := limbs R.natAbs) (by simp))
    have Rg := Lib.hid HM.out.2.2.1
    have hmb := HM.out.2.1
    have HB := Lib.hid HM.out.2.2.2.2.2
    clear HM
    obtain ⟨kXA0, kXA1, -, -, -⟩ := XA.out
    obtain ⟨kXB0, kXB1, -, -, -⟩ := XB.out
    obtain ⟨kXr0, kXr1, -, -, -⟩ := Xr.out
    obtain ⟨kXg0, kXg1, -, -, -⟩ := Xg.out
    go_wp2_with fail
    refine (signI 0 Rr.out (sv_limbs _) (by omega) SR.out).mono ?_
    rintro e w21 ⟨rfl, hb⟩
    replace RA := Lib.hid (RA.out.later hb)
    replace RB := Lib.hid (RB.out.later hb)
    replace Rr := Lib.hid (Rr.out.later hb)
    replace Rg := Lib.hid (Rg.out.later hb)
    replace XA := Lib.hid (XA.out.later hb)
    replace XB := Lib.hid (XB.out.later hb)
    replace Xr := Lib.hid (Xr.out.later hb)
    replace Xg := Lib.hid (Xg.out.later hb)
    replace HB := Lib.hid (bthen HB.out hb); clear hb
    clear kXA0 kXA1 kXB0 kXB1 kXr0 kXr1 kXg0 kXg1
    obtain ⟨kXA0, kXA1, -, -, -⟩ := XA.out
    obtain ⟨kXB0, kXB1, -, -, -⟩ := XB.out
    obtain ⟨kXr0, kXr1, -, -, -⟩ := Xr.out
    obtain ⟨kXg0, kXg1, -, -, -⟩ := Xg.out
    go_wp2_with fail
    refine (cmpI (-1) Rr.out RB.out (sv_limbs _) VB.out (by omega) (by omega) CR.out).mono ?_
    rintro e w22 ⟨rfl, hb⟩
    replace RA := Lib.hid (RA.out.later hb)
    replace RB := Lib.hid (RB.out.later hb)
    replace Rr := Lib.hid (Rr.out.later hb)
    replace Rg := Lib.hid (Rg.out.later hb)
    replace XA := Lib.hid (XA.out.later hb)
    replace XB := Lib.hid (XB.out.later hb)
    replace Xr := Lib.hid (Xr.out.later hb)
    replace Xg := Lib.hid (Xg.out.later hb)
    replace HB := Lib.hid (bthen HB.out hb); clear hb
    clear kXA0 kXA1 kXB0 kXB1 kXr0 kXr1 kXg0 kXg1
    obtain ⟨kXA0, kXA1, -, -, -⟩ := XA.out
    obtain ⟨kXB0, kXB1, -, -, -⟩ := XB.out
    obtain ⟨kXr0, kXr1, -, -, -⟩ := Xr.out
    obtain ⟨kXg0, kXg1, -, -, -⟩ := Xg.out
    go_wp2_with fail
    refine (signI 1 RB.out VB.out (by omega) SB.out).mono ?_
    rintro e w23 ⟨rfl, hb⟩
    replace RA := Lib.hid (RA.out.later hb)
    replace RB := Lib.hid (RB.out.later hb)
    replace Rr := Lib.hid (Rr.out.later hb)
    replace Rg := Lib.hid (Rg.out.later hb)
    replace XA := Lib.hid (XA.out.later hb)
    replace XB := Lib.hid (XB.out.later hb)
    replace Xr := Lib.hid (Xr.out.later hb)
    replace Xg := Lib.hid (Xg.out.later hb)
    replace HB := Lib.hid (bthen HB.out hb); clear hb
    clear kXA0 kXA1 kXB0 kXB1 kXr0 kXr1 kXg0 kXg1
    obtain ⟨kXA0, kXA1, -, -, -⟩ := XA.out
    obtain ⟨kXB0, kXB1, -, -, -⟩ := XB.out
    obtain ⟨kXr0, kXr1, -, -, -⟩ := Xr.out
    obtain ⟨kXg0, kXg1, -, -, -⟩ := Xg.out
    go_wp2_with fail
    clear kXA0 kXA1 kXB0 kXB1 kXr0 kXr1 kXg0 kXg1 XB Xr RB Rr
    replace RA := Lib.hid RA.out.drew
    replace Rg := Lib.hid Rg.out.drew
    replace XA := Lib.hid XA.out.drew
    replace Xg := Lib.hid Xg.out.drew
    replace HB := Lib.hid HB.out.drew
    obtain ⟨kXg0, kXg1, -, -, -⟩ := Xg.out
    obtain ⟨kXA0, kXA1, -, -, -⟩ := XA.out
    go_region_held3 (fun w' => w'.cell? ⟨g, 0, none⟩ = some (.bool (decide (A < 0))) ∧ w'.cell? ⟨g, 1, none⟩ = some (.slice ab mb cb) ∧ w'.cell? ⟨w.heap.size, 0, none⟩ = some (.bool s0) ∧ w'.cell? ⟨w.heap.size, 1, none⟩ = some (.slice a0 n0 c0))
      (first | (refine ⟨?_, ?_, ?_, ?_⟩ <;> assumption) | (go_keep; done))
      (first
        | (have mk := G2; clear mk
           rw [if_pos (by rfl)]
           go_simp
           go_at_call 26
           refine (awake_any _).mono ?_
           rintro e w3 ⟨rfl, hb⟩
           replace RA := Lib.hid (RA.out.later hb)
           replace Xg := Lib.hid (Xg.out.later hb)
           replace XA := Lib.hid (XA.out.later hb)
           clear kXg0 kXg1 kXA0 kXA1
           obtain ⟨kXg0, kXg1, -, -, -⟩ := Xg.out
           obtain ⟨kXA0, kXA1, -, -, -⟩ := XA.out
           replace HB := Lib.hid (bthen HB.out hb); clear hb
           have G3 : Hid True := trivial
           try go_wp2_with fail)
        | (have mk := G1; clear mk
           rw [if_pos (by rfl)]
           go_simp
           go_at_call 11
           refine (sameZ Rg.out Rn.out rfl (by omega)).mono ?_
           rintro e w2 ⟨rfl, hb⟩
           clear Rg
           clear Rn
           replace RA := Lib.hid (RA.out.later hb)
           replace Xg := Lib.hid (Xg.out.later hb)
           replace XA := Lib.hid (XA.out.later hb)
           clear kXg0 kXg1 kXA0 kXA1
           obtain ⟨kXg0, kXg1, -, -, -⟩ := Xg.out
           obtain ⟨kXA0, kXA1, -, -, -⟩ := XA.out
           replace HB := Lib.hid (bthen HB.out hb); clear hb
           have G2 : Hid True := trivial
           try go_wp2_with fail)
        | (skip
           rw [if_pos (by rfl)]
           go_simp
           go_at_call 12
           refine (normI 10 A RA.out VA.out (by omega) LA.out).mono ?_
           rintro e w1 ⟨an, mn, cn, rfl, bn, hr, hb⟩
           have Rn := Lib.hid hr; clear hr
           replace RA := Lib.hid (RA.out.later hb)
           replace Rg := Lib.hid (Rg.out.later hb)
           replace Xg := Lib.hid (Xg.out.later hb)
           replace XA := Lib.hid (XA.out.later hb)
           clear kXg0 kXg1 kXA0 kXA1
           obtain ⟨kXg0, kXg1, -, -, -⟩ := Xg.out
           obtain ⟨kXA0, kXA1, -, -, -⟩ := XA.out
           replace HB := Lib.hid (bthen HB.out hb); clear hb
           have G1 : Hid True := trivial
           try go_wp2_with fail))
    go_wp2
    go_ret
    exact ⟨rfl, HB.out⟩

end Go.Proofs.Ytbapgkjkhdlngaa
/- IntegerRest, by what is above nought, a rest. -/
namespace Go.Proofs.Ytbapgkjkhdlngaa
open Go.RowKit Nums

set_option maxRecDepth 100000 in
set_option maxHeartbeats 16000000 in
theorem integerRest_pos1 (s0 s1 : Bool) (a0 a1 : Option Addr) (n0 c0 n1 c1 : Nat) (xs ys : List Nat) (w : World) (r0 : Row w a0 n0 c0 xs) (r1 : Row w a1 n1 c1 ys) (b0 : n0 ≤ 10) (b1 : n1 ≤ 10) (hSB : sgn (sv s1 (val ys)) = 1) (hSR : sgn ((sv s0 (val xs)).fmod (sv s1 (val ys))) = 1) (hCR : cmpZ ((sv s0 (val xs)).fmod (sv s1 (val ys))) (sv s1 (val ys)) = (-1)) :
    Calls Try.prog 8 #[.agg #[.bool s0, .slice a0 n0 c0], .agg #[.bool s1, .slice a1 n1 c1]] w fun e w' => e = .returned (.bool true) ∧ Below w.heap.size w w' := by
  obtain ⟨A, hA⟩ : ∃ A, sv s0 (val xs) = A := ⟨_, rfl⟩
  obtain ⟨B, hB⟩ : ∃ B, sv s1 (val ys) = B := ⟨_, rfl⟩
  rw [hA, hB] at hSR hCR
  rw [hB] at hSB
  have hY0 : B ≠ 0 := by rintro rfl; revert hSB; decide
  have LA := Lib.hid (lenZ_raw r0 b0 hA)
  have LB := Lib.hid (lenZ_raw r1 b1 hB)
  obtain ⟨Q, hQ⟩ : ∃ Q, A.fdiv B = Q := ⟨_, rfl⟩
  obtain ⟨R, hR⟩ : ∃ R, A.fmod B = R := ⟨_, rfl⟩
  rw [hR] at hSR hCR
  obtain ⟨P, hP⟩ : ∃ P, Q * B = P := ⟨_, rfl⟩
  have LQ : Hid ((limbs Q.natAbs).length ≤ 11) := by show _ ≤ _; rw [← hQ]; exact len_fdiv LA.out hY0
  have LR : Hid ((limbs R.natAbs).length ≤ 10) := by show _ ≤ _; rw [← hR]; exact len_fmod LB.out hY0
  have LP : Hid ((limbs P.natAbs).length ≤ 21) := lenZ_mul LQ.out LB.out hP
  have EA : Hid (P + R = A) := by
    show _ = _
    have h := Int.mul_fdiv_add_fmod A B
    rw [hQ, hR, Int.mul_comm, hP] at h
    exact h
  have SB := Lib.hid hSB; clear hSB
  have SR := Lib.hid hSR; clear hSR
  have CR := Lib.hid hCR; clear hCR
  have Y0 := Lib.hid hY0; clear hY0
  have EQ := Lib.hid hQ; clear hQ
  have ER := Lib.hid hR; clear hR
  have EP := Lib.hid hP; clear hP
  have VB := Lib.hid hB; clear hB
  have VA := Lib.hid hA; clear hA
  have XX := box_two w (.bool s0) (.slice a0 n0 c0) (.bool s1) (.slice a1 n1 c1)
  have XA := Lib.hid XX.1
  have XB := Lib.hid XX.2; clear XX
  have HB := Lib.hid (below_two w (.cells #[.bool s0, .slice a0 n0 c0] 24) (.cells #[.bool s1, .slice a1 n1 c1] 24))
  have RA := Lib.hid (r0.later HB.out)
  have RB := Lib.hid (r1.later HB.out)
  clear r0 r1
  go_enter Try.func8, Try.ntmps8
  go_wp2_with fail
  refine (fewI_yes b0 b1).mono ?_
  rintro e w1 ⟨rfl, hb⟩
  replace RA := Lib.hid (RA.out.later hb)
  replace RB := Lib.hid (RB.out.later hb)
  replace XA := Lib.hid (XA.out.later hb)
  replace XB := Lib.hid (XB.out.later hb)
  replace HB := Lib.hid (bthen HB.out hb); clear hb
  obtain ⟨kXA0, kXA1, -, -, -⟩ := XA.out
  obtain ⟨kXB0, kXB1, -, -, -⟩ := XB.out
  go_wp2_with fail
  refine (divI 11 10 Q R RA.out RB.out VA.out VB.out (by omega) (by omega) Y0.out EQ.out ER.out LQ.out LR.out (by omega)).mono ?_
  have XB0 := Lib.hid XB.out
  rintro e w2 ⟨aq, mq, cq, ar, mr, cr, rfl, bq, br, hq, hr, hb⟩
  have hb2 := below_two w2 (.cells #[.bool (decide (Q < 0)), .slice aq mq cq] 24) (.cells #[.bool (decide (R < 0)), .slice ar mr cr] 24)
  replace RA := Lib.hid ((RA.out.later hb).later hb2)
  replace RB := Lib.hid ((RB.out.later hb).later hb2)
  replace XA := Lib.hid ((XA.out.later hb).later hb2)
  replace XB := Lib.hid ((XB.out.later hb).later hb2)
  have LW : Hid (w.heap.size + 1 < w2.heap.size) := (XB0.out.later hb).2.2.2.2
  replace HB := Lib.hid (bthen (bthen HB.out hb) hb2)
  have Rq := Lib.hid (hq.later hb2); have Rr := Lib.hid (hr.later hb2); clear hq hr
  clear hb hb2
  have Xq := Lib.hid (box_two w2 (.bool (decide (Q < 0))) (.slice aq mq cq) (.bool (decide (R < 0))) (.slice ar mr cr)).1
  have Xr := Lib.hid (box_two w2 (.bool (decide (Q < 0))) (.slice aq mq cq) (.bool (decide (R < 0))) (.slice ar mr cr)).2
  clear kXA0 kXA1 kXB0 kXB1
  obtain ⟨kXA0, kXA1, -, -, -⟩ := XA.out
  obtain ⟨kXB0, kXB1, -, -, -⟩ := XB.out
  obtain ⟨kXq0, kXq1, -, -, -⟩ := Xq.out
  obtain ⟨kXr0, kXr1, -, -, -⟩ := Xr.out
  go_wp2_with fail
  refine (signI 1 RB.out VB.out (by omega) SB.out).mono ?_
  rintro e w3 ⟨rfl, hb⟩
  replace RA := Lib.hid (RA.out.later hb)
  replace RB := Lib.hid (RB.out.later hb)
  replace Rq := Lib.hid (Rq.out.later hb)
  replace Rr := Lib.hid (Rr.out.later hb)
  replace XA := Lib.hid (XA.out.later hb)
  replace XB := Lib.hid (XB.out.later hb)
  replace Xq := Lib.hid (Xq.out.later hb)
  replace Xr := Lib.hid (Xr.out.later hb)
  replace HB := Lib.hid (bthen HB.out hb); clear hb
  clear kXA0 kXA1 kXB0 kXB1 kXq0 kXq1 kXr0 kXr1
  obtain ⟨kXA0, kXA1, -, -, -⟩ := XA.out
  obtain ⟨kXB0, kXB1, -, -, -⟩ := XB.out
  obtain ⟨kXq0, kXq1, -, -, -⟩ := Xq.out
  obtain ⟨kXr0, kXr1, -, -, -⟩ := Xr.out
  have lw : w.heap.size + 1 < w2.heap.size := by
    exact LW.out
  have lq : w2.heap.size + 1 < w3.heap.size := Xr.out.2.2.2.2
  clear kXA0 kXA1 kXB0 kXB1 kXq0 kXq1 kXr0 kXr1
  replace XA := Lib.hid XA.out.drew
  replace XB := Lib.hid XB.out.drew
  replace Xq := Lib.hid Xq.out.drew
  replace Xr := Lib.hid Xr.out.drew
  replace RA := Lib.hid RA.out.drew
  replace RB := Lib.hid RB.out.drew
  replace Rq := Lib.hid Rq.out.drew
  replace Rr := Lib.hid Rr.out.drew
  replace HB := Lib.hid HB.out.drew
  have KK : Hid (Keep w [(w.heap.size, .bool s0, .slice a0 n0 c0), (w.heap.size + 1, .bool s1, .slice a1 n1 c1), (w2.heap.size + 1, .bool (decide (R < 0)), .slice ar mr cr)] [(a0, n0, c0, xs), (a1, n1, c1, ys), (ar, mr, cr, limbs R.natAbs)] w3.drew) := ⟨by
    intro b hm
    simp only [List.mem_cons, List.not_mem_nil, or_false] at hm
    rcases hm with rfl | rfl | rfl
    · exact XA.out
    · exact XB.out
    · exact Xr.out, by
    intro r hm
    simp only [List.mem_cons, List.not_mem_nil, or_false] at hm
    rcases hm with rfl | rfl | rfl
    · exact RA.out
    · exact RB.out
    · exact Rr.out, HB.out⟩
  clear RA Rr XA HB
  obtain ⟨kXB0, kXB1, -, -, -⟩ : Box w3 _ _ _ := XB.out
  obtain ⟨kXq0, kXq1, -, -, -⟩ : Box w3 _ _ _ := Xq.out
  obtain ⟨kXr0, kXr1, -, -, -⟩ : Box w3 _ _ _ := Xr.out
  go_upto_region 6 with fail
  go_cut [8] (fun s8 wx => ∃ (g : Nat) (ab : Option Addr) (mb cb : Nat), s8 = .pointer (some ⟨g, 0, none⟩) ∧ Hid (Made w [(w.heap.size, .bool s0, .slice a0 n0 c0), (w.heap.size + 1, .bool s1, .slice a1 n1 c1), (w2.heap.size + 1, .bool (decide (R < 0)), .slice ar mr cr)] [(a0, n0, c0, xs), (a1, n1, c1, ys), (ar, mr, cr, limbs R.natAbs)] 22 A g ab mb cb wx))
  case first =>
    go_region_held3 (fun w' => w'.cell? ⟨w.heap.size + 1, 0, none⟩ = some (.bool s1) ∧ w'.cell? ⟨w.heap.size + 1, 1, none⟩ = some (.slice a1 n1 c1) ∧ w'.cell? ⟨w2.heap.size, 0, none⟩ = some (.bool (decide (Q < 0))) ∧ w'.cell? ⟨w2.heap.size, 1, none⟩ = some (.slice aq mq cq) ∧ w'.cell? ⟨w2.heap.size + 1, 0, none⟩ = some (.bool (decide (R < 0))) ∧ w'.cell? ⟨w2.heap.size + 1, 1, none⟩ = some (.slice ar mr cr))
      (first | (with_reducible exact keep_six (by assumption) (by omega) (by omega) (by omega)) | (refine ⟨?_, ?_, ?_, ?_, ?_, ?_⟩ <;> with_reducible assumption) | (go_keep; done))
      (first
        | (go_at_call 14
           (have mk := GB; clear mk)
           refine (addI 22 A RP.out (KK.out.row (a := ar) (n := mr) (c := cr) (xs := limbs R.natAbs) (by simp)) (sv_limbs _) (sv_limbs _) (by omega) (by omega) EA.out (lenZ_le LA.out (by omega))).mono ?_
           rintro e v2 ⟨ak, mk2, ck, rfl, bk, hr, hb⟩
           have RK := Lib.hid hr; clear hr
           replace XG := Lib.hid (XG.out.later hb)
           replace KK := Lib.hid (KK.out.later hb)
           replace XB := Lib.hid (XB.out.later hb)
           replace Xq := Lib.hid (Xq.out.later hb)
           replace Xr := Lib.hid (Xr.out.later hb)
           have lv2 : v1.heap.size ≤ v2.heap.size := by have := hb.size; (try simp at this); omega
           clear hb
           obtain ⟨kXG0, kXG1, kXG2, kXG3, kXG4⟩ := XG.out
           clear kXB0 kXB1 kXq0 kXq1 kXr0 kXr1
           obtain ⟨kXB0, kXB1, -, -, -⟩ := XB.out
           obtain ⟨kXq0, kXq1, -, -, -⟩ := Xq.out
           obtain ⟨kXr0, kXr1, -, -, -⟩ := Xr.out)
        | (go_at_call 14
           (have mk := GA; clear mk)
           (with_reducible show Calls Try.prog 14 _ (World.alloc _ _) _)
           refine (addI 22 A (RP.out.later (below_one _ (.cells #[.bool false, .slice none 0 0] 24))) ((KK.out.row (a := ar) (n := mr) (c := cr) (xs := limbs R.natAbs) (by simp)).later (below_one _ (.cells #[.bool false, .slice none 0 0] 24))) (sv_limbs _) (sv_limbs _) (by omega) (by omega) EA.out (lenZ_le LA.out (by omega))).mono ?_
           rintro e v2 ⟨ak, mk2, ck, rfl, bk, hr, hb⟩
           have RK := Lib.hid hr; clear hr
           have XG : Hid (Box v2 v1.heap.size (.bool false) (.slice none 0 0)) := (box_new v1 (.bool false) (.slice none 0 0)).later hb
           replace KK := Lib.hid ((KK.out.later (below_one _ (.cells #[.bool false, .slice none 0 0] 24))).later hb)
           replace XB := Lib.hid ((XB.out.later (below_one _ (.cells #[.bool false, .slice none 0 0] 24))).later hb)
           replace Xq := Lib.hid ((Xq.out.later (below_one _ (.cells #[.bool false, .slice none 0 0] 24))).later hb)
           replace Xr := Lib.hid ((Xr.out.later (below_one _ (.cells #[.bool false, .slice none 0 0] 24))).later hb)
           have lv2 : v1.heap.size ≤ v2.heap.size := by have := hb.size; (try simp at this); omega
           clear hb
           obtain ⟨kXG0, kXG1, kXG2, kXG3, kXG4⟩ := XG.out
           clear kXB0 kXB1 kXq0 kXq1 kXr0 kXr1
           obtain ⟨kXB0, kXB1, -, -, -⟩ := XB.out
           obtain ⟨kXq0, kXq1, -, -, -⟩ := Xq.out
           obtain ⟨kXr0, kXr1, -, -, -⟩ := Xr.out)
        | (go_at_call 14
           (have mk := GA; clear mk)
           refine (addI 22 A RP.out (KK.out.row (a := ar) (n := mr) (c := cr) (xs := limbs R.natAbs) (by simp)) (sv_limbs _) (sv_limbs _) (by omega) (by omega) EA.out (lenZ_le LA.out (by omega))).mono ?_
           rintro e v2 ⟨ak, mk2, ck, rfl, bk, hr, hb⟩
           have RK := Lib.hid hr; clear hr
           replace KK := Lib.hid (KK.out.later hb)
           replace XB := Lib.hid (XB.out.later hb)
           replace Xq := Lib.hid (Xq.out.later hb)
           replace Xr := Lib.hid (Xr.out.later hb)
           have lv2 : v1.heap.size ≤ v2.heap.size := by have := hb.size; (try simp at this); omega
           clear hb
           clear kXB0 kXB1 kXq0 kXq1 kXr0 kXr1
           obtain ⟨kXB0, kXB1, -, -, -⟩ := XB.out
           obtain ⟨kXq0, kXq1, -, -, -⟩ := Xq.out
           obtain ⟨kXr0, kXr1, -, -, -⟩ := Xr.out)
        | (go_at_call 18
           (with_reducible show Calls Try.prog 18 _ (World.drew (World.alloc _ _)) _)
           refine (mulI 21 P (Rq.out.later (bal w3 (.cells #[.bool false, .slice none 0 0] 24))) (RB.out.later (bal w3 (.cells #[.bool false, .slice none 0 0] 24))) (sv_limbs _) VB.out (by omega) (by omega) EP.out LP.out).mono ?_
           rintro e v1 ⟨ap, mp, cp, rfl, bp, hr, hb⟩
           have RP := Lib.hid hr; clear hr
           have XG : Hid (Box v1 w3.heap.size (.bool false) (.slice none 0 0)) := (box_new w3 (.bool false) (.slice none 0 0)).drew.later hb
           replace KK := Lib.hid ((KK.out.later (bal w3 (.cells #[.bool false, .slice none 0 0] 24))).later hb)
           replace XB := Lib.hid ((XB.out.later (bal w3 (.cells #[.bool false, .slice none 0 0] 24))).later hb)
           replace Xq := Lib.hid ((Xq.out.later (bal w3 (.cells #[.bool false, .slice none 0 0] 24))).later hb)
           replace Xr := Lib.hid ((Xr.out.later (bal w3 (.cells #[.bool false, .slice none 0 0] 24))).later hb)
           have lv1 : w3.heap.size ≤ v1.heap.size := by have := hb.size; (try simp at this); omega
           clear hb
           obtain ⟨kXG0, kXG1, kXG2, kXG3, kXG4⟩ := XG.out
           clear kXB0 kXB1 kXq0 kXq1 kXr0 kXr1
           obtain ⟨kXB0, kXB1, -, -, -⟩ := XB.out
           obtain ⟨kXq0, kXq1, -, -, -⟩ := Xq.out
           obtain ⟨kXr0, kXr1, -, -, -⟩ := Xr.out
           have GB : Hid True := trivial)
        | (go_at_call 18
           refine (mulI 21 P Rq.out RB.out (sv_limbs _) VB.out (by omega) (by omega) EP.out LP.out).mono ?_
           rintro e v1 ⟨ap, mp, cp, rfl, bp, hr, hb⟩
           have RP := Lib.hid hr; clear hr
           replace KK := Lib.hid (KK.out.later hb)
           replace XB := Lib.hid (XB.out.later hb)
           replace Xq := Lib.hid (Xq.out.later hb)
           replace Xr := Lib.hid (Xr.out.later hb)
           have lv1 : w3.heap.size ≤ v1.heap.size := by have := hb.size; (try simp at this); omega
           clear hb
           clear kXB0 kXB1 kXq0 kXq1 kXr0 kXr1
           obtain ⟨kXB0, kXB1, -, -, -⟩ := XB.out
           obtain ⟨kXq0, kXq1, -, -, -⟩ := Xq.out
           obtain ⟨kXr0, kXr1, -, -, -⟩ := Xr.out
           have GA : Hid True := trivial))
    all_goals
      go_wp2_with fail
      go_meet
      first
        | exact ⟨_, ak, mk2, ck, rfl, XG.out.put _ _, bk, RK.out.put XG.out.1 XG.out.2.1 _ _, KK.out.put XG.out (by intro b hm; simp only [List.mem_cons, List.not_mem_nil, or_false] at hm; rcases hm with rfl | rfl | rfl <;> simp <;> omega) (by omega) _ _⟩
        | exact ⟨_, ak, mk2, ck, rfl, box_new _ _ _, bk, RK.out.later (below_one _ _), KK.out.later (below_one _ _)⟩
  case rest =>
    obtain ⟨g, ab, mb, cb, rfl, hm⟩ := hcut
    have HM := Lib.hid hm.out; clear hm
    clear KK XB Xq Xr RB Rq kXB0 kXB1 kXq0 kXq1 kXr0 kXr1
    have XA := Lib.hid (HM.out.2.2.2.box (g := w.heap.size) (u := .bool s0) (v := .slice a0 n0 c0) (by simp))
    have XB := Lib.hid (HM.out.2.2.2.box (g := w.heap.size + 1) (u := .bool s1) (v := .slice a1 n1 c1) (by simp))
    have Xr := Lib.hid (HM.out.2.2.2.box (g := w2.heap.size + 1) (u := .bool (decide (R < 0))) (v := .slice ar mr cr) (by simp))
    have Xg := Lib.hid HM.out.1
    have RA := Lib.hid (HM.out.2.2.2.row (a := a0) (n := n0) (c := c0) (xs := xs) (by simp))
    have RB := Lib.hid (HM.out.2.2.2.row (a := a1) (n := n1) (c := c1) (xs := ys) (by simp))
    have Rr := Lib.hid (HM.out.2.2.2.row (a := ar) (n := mr) (c := cr) (xs := limbs R.natAbs) (by simp))
    have Rg := Lib.hid HM.out.2.2.1
    have hmb := HM.out.2.1
    have HB := Lib.hid HM.out.2.2.2.2.2
    clear HM
    obtain ⟨kXA0, kXA1, -, -, -⟩ := XA.out
    obtain ⟨kXB0, kXB1, -, -, -⟩ := XB.out
    obtain ⟨kXr0, kXr1, -, -, -⟩ := Xr.out
    obtain ⟨kXg0, kXg1, -, -, -⟩ := Xg.out
    go_wp2_with fail
    refine (signI 1 Rr.out (sv_limbs _) (by omega) SR.out).mono ?_
    rintro e w21 ⟨rfl, hb⟩
    replace RA := Lib.hid (RA.out.later hb)
    replace RB := Lib.hid (RB.out.later hb)
    replace Rr := Lib.hid (Rr.out.later hb)
    replace Rg := Lib.hid (Rg.out.later hb)
    replace XA := Lib.hid (XA.out.later hb)
    replace XB := Lib.hid (XB.out.later hb)
    replace Xr := Lib.hid (Xr.out.later hb)
    replace Xg := Lib.hid (Xg.out.later hb)
    replace HB := Lib.hid (bthen HB.out hb); clear hb
    clear kXA0 kXA1 kXB0 kXB1 kXr0 kXr1 kXg0 kXg1
    obtain ⟨kXA0, kXA1, -, -, -⟩ := XA.out
    obtain ⟨kXB0, kXB1, -, -, -⟩ := XB.out
    obtain ⟨kXr0, kXr1, -, -, -⟩ := Xr.out
    obtain ⟨kXg0, kXg1, -, -, -⟩ := Xg.out
    go_wp2_with fail
    refine (cmpI (-1) Rr.out RB.out (sv_limbs _) VB.out (by omega) (by omega) CR.out).mono ?_
    rintro e w22 ⟨rfl, hb⟩
    replace RA := Lib.hid (RA.out.later hb)
    replace RB := Lib.hid (RB.out.later hb)
    replace Rr := Lib.hid (Rr.out.later hb)
    replace Rg := Lib.hid (Rg.out.later hb)
    replace XA := Lib.hid (XA.out.later hb)
    replace XB := Lib.hid (XB.out.later hb)
    replace Xr := Lib.hid (Xr.out.later hb)
    replace Xg := Lib.hid (Xg.out.later hb)
    replace HB := Lib.hid (bthen HB.out hb); clear hb
    clear kXA0 kXA1 kXB0 kXB1 kXr0 kXr1 kXg0 kXg1
    obtain ⟨kXA0, kXA1, -, -, -⟩ := XA.out
    obtain ⟨kXB0, kXB1, -, -, -⟩ := XB.out
    obtain ⟨kXr0, kXr1, -, -, -⟩ := Xr.out
    obtain ⟨kXg0, kXg1, -, -, -⟩ := Xg.out
    go_wp2_with fail
    refine (signI 1 RB.out VB.out (by omega) SB.out).mono ?_
    rintro e w23 ⟨rfl, hb⟩
    replace RA := Lib.hid (RA.out.later hb)
    replace RB := Lib.hid (RB.out.later hb)
    replace Rr := Lib.hid (Rr.out.later hb)
    replace Rg := Lib.hid (Rg.out.later hb)
    replace XA := Lib.hid (XA.out.later hb)
    replace XB := Lib.hid (XB.out.later hb)
    replace Xr := Lib.hid (Xr.out.later hb)
    replace Xg := Lib.hid (Xg.out.later hb)
    replace HB := Lib.hid (bthen HB.out hb); clear hb
    clear kXA0 kXA1 kXB0 kXB1 kXr0 kXr1 kXg0 kXg1
    obtain ⟨kXA0, kXA1, -, -, -⟩ := XA.out
    obtain ⟨kXB0, kXB1, -, -, -⟩ := XB.out
    obtain ⟨kXr0, kXr1, -, -, -⟩ := Xr.out
    obtain ⟨kXg0, kXg1, -, -, -⟩ := Xg.out
    go_wp2_with fail
    clear kXA0 kXA1 kXB0 kXB1 kXr0 kXr1 kXg0 kXg1 XB Xr RB Rr
    replace RA := Lib.hid RA.out.drew
    replace Rg := Lib.hid Rg.out.drew
    replace XA := Lib.hid XA.out.drew
    replace Xg := Lib.hid Xg.out.drew
    replace HB := Lib.hid HB.out.drew
    obtain ⟨kXg0, kXg1, -, -, -⟩ := Xg.out
    obtain ⟨kXA0, kXA1, -, -, -⟩ := XA.out
    go_region_held3 (fun w' => w'.cell? ⟨g, 0, none⟩ = some (.bool (decide (A < 0))) ∧ w'.cell? ⟨g, 1, none⟩ = some (.slice ab mb cb) ∧ w'.cell? ⟨w.heap.size, 0, none⟩ = some (.bool s0) ∧ w'.cell? ⟨w.heap.size, 1, none⟩ = some (.slice a0 n0 c0))
      (first | (refine ⟨?_, ?_, ?_, ?_⟩ <;> assumption) | (go_keep; done))
      (first
        | (have mk := G2; clear mk
           rw [if_pos (by rfl)]
           go_simp
           go_at_call 26
           refine (awake_any _).mono ?_
           rintro e w3 ⟨rfl, hb⟩
           replace RA := Lib.hid (RA.out.later hb)
           replace Xg := Lib.hid (Xg.out.later hb)
           replace XA := Lib.hid (XA.out.later hb)
           clear kXg0 kXg1 kXA0 kXA1
           obtain ⟨kXg0, kXg1, -, -, -⟩ := Xg.out
           obtain ⟨kXA0, kXA1, -, -, -⟩ := XA.out
           replace HB := Lib.hid (bthen HB.out hb); clear hb
           have G3 : Hid True := trivial
           try go_wp2_with fail)
        | (have mk := G1; clear mk
           rw [if_pos (by rfl)]
           go_simp
           go_at_call 11
           refine (sameZ Rg.out Rn.out rfl (by omega)).mono ?_
           rintro e w2 ⟨rfl, hb⟩
           clear Rg
           clear Rn
           replace RA := Lib.hid (RA.out.later hb)
           replace Xg := Lib.hid (Xg.out.later hb)
           replace XA := Lib.hid (XA.out.later hb)
           clear kXg0 kXg1 kXA0 kXA1
           obtain ⟨kXg0, kXg1, -, -, -⟩ := Xg.out
           obtain ⟨kXA0, kXA1, -, -, -⟩ := XA.out
           replace HB := Lib.hid (bthen HB.out hb); clear hb
           have G2 : Hid True := trivial
           try go_wp2_with fail)
        | (skip
           rw [if_pos (by rfl)]
           go_simp
           go_at_call 12
           refine (normI 10 A RA.out VA.out (by omega) LA.out).mono ?_
           rintro e w1 ⟨an, mn, cn, rfl, bn, hr, hb⟩
           have Rn := Lib.hid hr; clear hr
           replace RA := Lib.hid (RA.out.later hb)
           replace Rg := Lib.hid (Rg.out.later hb)
           replace Xg := Lib.hid (Xg.out.later hb)
           replace XA := Lib.hid (XA.out.later hb)
           clear kXg0 kXg1 kXA0 kXA1
           obtain ⟨kXg0, kXg1, -, -, -⟩ := Xg.out
           obtain ⟨kXA0, kXA1, -, -, -⟩ := XA.out
           replace HB := Lib.hid (bthen HB.out hb); clear hb
           have G1 : Hid True := trivial
           try go_wp2_with fail))
    go_wp2
    go_ret
    exact ⟨rfl, HB.out⟩

end Go.Proofs.Ytbapgkjkhdlngaa
/- IntegerRest, by what is below nought, no rest. -/
namespace Go.Proofs.Ytbapgkjkhdlngaa
open Go.RowKit Nums

set_option maxRecDepth 100000 in
set_option maxHeartbeats 16000000 in
theorem integerRest_neg0 (s0 s1 : Bool) (a0 a1 : Option Addr) (n0 c0 n1 c1 : Nat) (xs ys : List Nat) (w : World) (r0 : Row w a0 n0 c0 xs) (r1 : Row w a1 n1 c1 ys) (b0 : n0 ≤ 10) (b1 : n1 ≤ 10) (hSB : sgn (sv s1 (val ys)) = (-1)) (hSR : sgn ((sv s0 (val xs)).fmod (sv s1 (val ys))) = 0) (hCR : cmpZ ((sv s0 (val xs)).fmod (sv s1 (val ys))) (sv s1 (val ys)) = 1) :
    Calls Try.prog 8 #[.agg #[.bool s0, .slice a0 n0 c0], .agg #[.bool s1, .slice a1 n1 c1]] w fun e w' => e = .returned (.bool true) ∧ Below w.heap.size w w' := by
  obtain ⟨A, hA⟩ : ∃ A, sv s0 (val xs) = A := ⟨_, rfl⟩
  obtain ⟨B, hB⟩ : ∃ B, sv s1 (val ys) = B := ⟨_, rfl⟩
  rw [hA, hB] at hSR hCR
  rw [hB] at hSB
  have hY0 : B ≠ 0 := by rintro rfl; revert hSB; decide
  have LA := Lib.hid (lenZ_raw r0 b0 hA)
  have LB := Lib.hid (lenZ_raw r1 b1 hB)
  obtain ⟨Q, hQ⟩ : ∃ Q, A.fdiv B = Q := ⟨_, rfl⟩
  obtain ⟨R, hR⟩ : ∃ R, A.fmod B = R := ⟨_, rfl⟩
  rw [hR] at hSR hCR
  obtain ⟨P, hP⟩ : ∃ P, Q * B = P := ⟨_, rfl⟩
  have LQ : Hid ((limbs Q.natAbs).length ≤ 11) := by show _ ≤ _; rw [← hQ]; exact len_fdiv LA.out hY0
  have LR : Hid ((limbs R.natAbs).length ≤ 10) := by show _ ≤ _; rw [← hR]; exact len_fmod LB.out hY0
  have LP : Hid ((limbs P.natAbs).length ≤ 21) := lenZ_mul LQ.out LB.out hP
  have EA : Hid (P + R = A) := by
    show _ = _
    have h := Int.mul_fdiv_add_fmod A B
    rw [hQ, hR, Int.mul_comm, hP] at h
    exact h
  have SB := Lib.hid hSB; clear hSB
  have SR := Lib.hid hSR; clear hSR
  have CR := Lib.hid hCR; clear hCR
  have Y0 := Lib.hid hY0; clear hY0
  have EQ := Lib.hid hQ; clear hQ
  have ER := Lib.hid hR; clear hR
  have EP := Lib.hid hP; clear hP
  have VB := Lib.hid hB; clear hB
  have VA := Lib.hid hA; clear hA
  have XX := box_two w (.bool s0) (.slice a0 n0 c0) (.bool s1) (.slice a1 n1 c1)
  have XA := Lib.hid XX.1
  have XB := Lib.hid XX.2; clear XX
  have HB := Lib.hid (below_two w (.cells #[.bool s0, .slice a0 n0 c0] 24) (.cells #[.bool s1, .slice a1 n1 c1] 24))
  have RA := Lib.hid (r0.later HB.out)
  have RB := Lib.hid (r1.later HB.out)
  clear r0 r1
  go_enter Try.func8, Try.ntmps8
  go_wp2_with fail
  refine (fewI_yes b0 b1).mono ?_
  rintro e w1 ⟨rfl, hb⟩
  replace RA := Lib.hid (RA.out.later hb)
  replace RB := Lib.hid (RB.out.later hb)
  replace XA := Lib.hid (XA.out.later hb)
  replace XB := Lib.hid (XB.out.later hb)
  replace HB := Lib.hid (bthen HB.out hb); clear hb
  obtain ⟨kXA0, kXA1, -, -, -⟩ := XA.out
  obtain ⟨kXB0, kXB1, -, -, -⟩ := XB.out
  go_wp2_with fail
  refine (divI 11 10 Q R RA.out RB.out VA.out VB.out (by omega) (by omega) Y0.out EQ.out ER.out LQ.out LR.out (by omega)).mono ?_
  have XB0 := Lib.hid XB.out
  rintro e w2 ⟨aq, mq, cq, ar, mr, cr, rfl, bq, br, hq, hr, hb⟩
  have hb2 := below_two w2 (.cells #[.bool (decide (Q < 0)), .slice aq mq cq] 24) (.cells #[.bool (decide (R < 0)), .slice ar mr cr] 24)
  replace RA := Lib.hid ((RA.out.later hb).later hb2)
  replace RB := Lib.hid ((RB.out.later hb).later hb2)
  replace XA := Lib.hid ((XA.out.later hb).later hb2)
  replace XB := Lib.hid ((XB.out.later hb).later hb2)
  have LW : Hid (w.heap.size + 1 < w2.heap.size) := (XB0.out.later hb).2.2.2.2
  replace HB := Lib.hid (bthen (bthen HB.out hb) hb2)
  have Rq := Lib.hid (hq.later hb2); have Rr := Lib.hid (hr.later hb2); clear hq hr
  clear hb hb2
  have Xq := Lib.hid (box_two w2 (.bool (decide (Q < 0))) (.slice aq mq cq) (.bool (decide (R < 0))) (.slice ar mr cr)).1
  have Xr := Lib.hid (box_two w2 (.bool (decide (Q < 0))) (.slice aq mq cq) (.bool (decide (R < 0))) (.slice ar mr cr)).2
  clear kXA0 kXA1 kXB0 kXB1
  obtain ⟨kXA0, kXA1, -, -, -⟩ := XA.out
  obtain ⟨kXB0, kXB1, -, -, -⟩ := XB.out
  obtain ⟨kXq0, kXq1, -, -, -⟩ := Xq.out
  obtain ⟨kXr0, kXr1, -, -, -⟩ := Xr.out
  go_wp2_with fail
  refine (signI (-1) RB.out VB.out (by omega) SB.out).mono ?_
  rintro e w3 ⟨rfl, hb⟩
  replace RA := Lib.hid (RA.out.later hb)
  replace RB := Lib.hid (RB.out.later hb)
  replace Rq := Lib.hid (Rq.out.later hb)
  replace Rr := Lib.hid (Rr.out.later hb)
  replace XA := Lib.hid (XA.out.later hb)
  replace XB := Lib.hid (XB.out.later hb)
  replace Xq := Lib.hid (Xq.out.later hb)
  replace Xr := Lib.hid (Xr.out.later hb)
  replace HB := Lib.hid (bthen HB.out hb); clear hb
  clear kXA0 kXA1 kXB0 kXB1 kXq0 kXq1 kXr0 kXr1
  obtain ⟨kXA0, kXA1, -, -, -⟩ := XA.out
  obtain ⟨kXB0, kXB1, -, -, -⟩ := XB.out
  obtain ⟨kXq0, kXq1, -, -, -⟩ := Xq.out
  obtain ⟨kXr0, kXr1, -, -, -⟩ := Xr.out
  have lw : w.heap.size + 1 < w2.heap.size := by
    exact LW.out
  have lq : w2.heap.size + 1 < w3.heap.size := Xr.out.2.2.2.2
  clear kXA0 kXA1 kXB0 kXB1 kXq0 kXq1 kXr0 kXr1
  replace XA := Lib.hid XA.out.drew
  replace XB := Lib.hid XB.out.drew
  replace Xq := Lib.hid Xq.out.drew
  replace Xr := Lib.hid Xr.out.drew
  replace RA := Lib.hid RA.out.drew
  replace RB := Lib.hid RB.out.drew
  replace Rq := Lib.hid Rq.out.drew
  replace Rr := Lib.hid Rr.out.drew
  replace HB := Lib.hid HB.out.drew
  have KK : Hid (Keep w [(w.heap.size, .bool s0, .slice a0 n0 c0), (w.heap.size + 1, .bool s1, .slice a1 n1 c1), (w2.heap.size + 1, .bool (decide (R < 0)), .slice ar mr cr)] [(a0, n0, c0, xs), (a1, n1, c1, ys), (ar, mr, cr, limbs R.natAbs)] w3.drew) := ⟨by
    intro b hm
    simp only [List.mem_cons, List.not_mem_nil, or_false] at hm
    rcases hm with rfl | rfl | rfl
    · exact XA.out
    · exact XB.out
    · exact Xr.out, by
    intro r hm
    simp only [List.mem_cons, List.not_mem_nil, or_false] at hm
    rcases hm with rfl | rfl | rfl
    · exact RA.out
    · exact RB.out
    · exact Rr.out, HB.out⟩
  clear RA Rr XA HB
  obtain ⟨kXB0, kXB1, -, -, -⟩ : Box w3 _ _ _ := XB.out
  obtain ⟨kXq0, kXq1, -, -, -⟩ : Box w3 _ _ _ := Xq.out
  obtain ⟨kXr0, kXr1, -, -, -⟩ : Box w3 _ _ _ := Xr.out
  go_upto_region 6 with fail
  go_cut [8] (fun s8 wx => ∃ (g : Nat) (ab : Option Addr) (mb cb : Nat), s8 = .pointer (some ⟨g, 0, none⟩) ∧ Hid (Made w [(w.heap.size, .bool s0, .slice a0 n0 c0), (w.heap.size + 1, .bool s1, .slice a1 n1 c1), (w2.heap.size + 1, .bool (decide (R < 0)), .slice ar mr cr)] [(a0, n0, c0, xs), (a1, n1, c1, ys), (ar, mr, cr, limbs R.natAbs)] 22 A g ab mb cb wx))
  case first =>
    go_region_held3 (fun w' => w'.cell? ⟨w.heap.size + 1, 0, none⟩ = some (.bool s1) ∧ w'.cell? ⟨w.heap.size + 1, 1, none⟩ = some (.slice a1 n1 c1) ∧ w'.cell? ⟨w2.heap.size, 0, none⟩ = some (.bool (decide (Q < 0))) ∧ w'.cell? ⟨w2.heap.size, 1, none⟩ = some (.slice aq mq cq) ∧ w'.cell? ⟨w2.heap.size + 1, 0, none⟩ = some (.bool (decide (R < 0))) ∧ w'.cell? ⟨w2.heap.size + 1, 1, none⟩ = some (.slice ar mr cr))
      (first | (with_reducible exact keep_six (by assumption) (by omega) (by omega) (by omega)) | (refine ⟨?_, ?_, ?_, ?_, ?_, ?_⟩ <;> with_reducible assumption) | (go_keep; done))
      (first
        | (go_at_call 14
           (have mk := GB; clear mk)
           refine (addI 22 A RP.out (KK.out.row (a := ar) (n := mr) (c := cr) (xs := limbs R.natAbs) (by simp)) (sv_limbs _) (sv_limbs _) (by omega) (by omega) EA.out (lenZ_le LA.out (by omega))).mono ?_
           rintro e v2 ⟨ak, mk2, ck, rfl, bk, hr, hb⟩
           have RK := Lib.hid hr; clear hr
           replace XG := Lib.hid (XG.out.later hb)
           replace KK := Lib.hid (KK.out.later hb)
           replace XB := Lib.hid (XB.out.later hb)
           replace Xq := Lib.hid (Xq.out.later hb)
           replace Xr := Lib.hid (Xr.out.later hb)
           have lv2 : v1.heap.size ≤ v2.heap.size := by have := hb.size; (try simp at this); omega
           clear hb
           obtain ⟨kXG0, kXG1, kXG2, kXG3, kXG4⟩ := XG.out
           clear kXB0 kXB1 kXq0 kXq1 kXr0 kXr1
           obtain ⟨kXB0, kXB1, -, -, -⟩ := XB.out
           obtain ⟨kXq0, kXq1, -, -, -⟩ := Xq.out
           obtain ⟨kXr0, kXr1, -, -, -⟩ := Xr.out)
        | (go_at_call 14
           (have mk := GA; clear mk)
           (with_reducible show Calls Try.prog 14 _ (World.alloc _ _) _)
           refine (addI 22 A (RP.out.later (below_one _ (.cells #[.bool false, .slice none 0 0] 24))) ((KK.out.row (a := ar) (n := mr) (c := cr) (xs := limbs R.natAbs) (by simp)).later (below_one _ (.cells #[.bool false, .slice none 0 0] 24))) (sv_limbs _) (sv_limbs _) (by omega) (by omega) EA.out (lenZ_le LA.out (by omega))).mono ?_
           rintro e v2 ⟨ak, mk2, ck, rfl, bk, hr, hb⟩
           have RK := Lib.hid hr; clear hr
           have XG : Hid (Box v2 v1.heap.size (.bool false) (.slice none 0 0)) := (box_new v1 (.bool false) (.slice none 0 0)).later hb
           replace KK := Lib.hid ((KK.out.later (below_one _ (.cells #[.bool false, .slice none 0 0] 24))).later hb)
           replace XB := Lib.hid ((XB.out.later (below_one _ (.cells #[.bool false, .slice none 0 0] 24))).later hb)
           replace Xq := Lib.hid ((Xq.out.later (below_one _ (.cells #[.bool false, .slice none 0 0] 24))).later hb)
           replace Xr := Lib.hid ((Xr.out.later (below_one _ (.cells #[.bool false, .slice none 0 0] 24))).later hb)
           have lv2 : v1.heap.size ≤ v2.heap.size := by have := hb.size; (try simp at this); omega
           clear hb
           obtain ⟨kXG0, kXG1, kXG2, kXG3, kXG4⟩ := XG.out
           clear kXB0 kXB1 kXq0 kXq1 kXr0 kXr1
           obtain ⟨kXB0, kXB1, -, -, -⟩ := XB.out
           obtain ⟨kXq0, kXq1, -, -, -⟩ := Xq.out
           obtain ⟨kXr0, kXr1, -, -, -⟩ := Xr.out)
        | (go_at_call 14
           (have mk := GA; clear mk)
           refine (addI 22 A RP.out (KK.out.row (a := ar) (n := mr) (c := cr) (xs := limbs R.natAbs) (by simp)) (sv_limbs _) (sv_limbs _) (by omega) (by omega) EA.out (lenZ_le LA.out (by omega))).mono ?_
           rintro e v2 ⟨ak, mk2, ck, rfl, bk, hr, hb⟩
           have RK := Lib.hid hr; clear hr
           replace KK := Lib.hid (KK.out.later hb)
           replace XB := Lib.hid (XB.out.later hb)
           replace Xq := Lib.hid (Xq.out.later hb)
           replace Xr := Lib.hid (Xr.out.later hb)
           have lv2 : v1.heap.size ≤ v2.heap.size := by have := hb.size; (try simp at this); omega
           clear hb
           clear kXB0 kXB1 kXq0 kXq1 kXr0 kXr1
           obtain ⟨kXB0, kXB1, -, -, -⟩ := XB.out
           obtain ⟨kXq0, kXq1, -, -, -⟩ := Xq.out
           obtain ⟨kXr0, kXr1, -, -, -⟩ := Xr.out)
        | (go_at_call 18
           (with_reducible show Calls Try.prog 18 _ (World.drew (World.alloc _ _)) _)
           refine (mulI 21 P (Rq.out.later (bal w3 (.cells #[.bool false, .slice none 0 0] 24))) (RB.out.later (bal w3 (.cells #[.bool false, .slice none 0 0] 24))) (sv_limbs _) VB.out (by omega) (by omega) EP.out LP.out).mono ?_
           rintro e v1 ⟨ap, mp, cp, rfl, bp, hr, hb⟩
           have RP := Lib.hid hr; clear hr
           have XG : Hid (Box v1 w3.heap.size (.bool false) (.slice none 0 0)) := (box_new w3 (.bool false) (.slice none 0 0)).drew.later hb
           replace KK := Lib.hid ((KK.out.later (bal w3 (.cells #[.bool false, .slice none 0 0] 24))).later hb)
           replace XB := Lib.hid ((XB.out.later (bal w3 (.cells #[.bool false, .slice none 0 0] 24))).later hb)
           replace Xq := Lib.hid ((Xq.out.later (bal w3 (.cells #[.bool false, .slice none 0 0] 24))).later hb)
           replace Xr := Lib.hid ((Xr.out.later (bal w3 (.cells #[.bool false, .slice none 0 0] 24))).later hb)
           have lv1 : w3.heap.size ≤ v1.heap.size := by have := hb.size; (try simp at this); omega
           clear hb
           obtain ⟨kXG0, kXG1, kXG2, kXG3, kXG4⟩ := XG.out
           clear kXB0 kXB1 kXq0 kXq1 kXr0 kXr1
           obtain ⟨kXB0, kXB1, -, -, -⟩ := XB.out
           obtain ⟨kXq0, kXq1, -, -, -⟩ := Xq.out
           obtain ⟨kXr0, kXr1, -, -, -⟩ := Xr.out
           have GB : Hid True := trivial)
        | (go_at_call 18
           refine (mulI 21 P Rq.out RB.out (sv_limbs _) VB.out (by omega) (by omega) EP.out LP.out).mono ?_
           rintro e v1 ⟨ap, mp, cp, rfl, bp, hr, hb⟩
           have RP := Lib.hid hr; clear hr
           replace KK := Lib.hid (KK.out.later hb)
           replace XB := Lib.hid (XB.out.later hb)
           replace Xq := Lib.hid (Xq.out.later hb)
           replace Xr := Lib.hid (Xr.out.later hb)
           have lv1 : w3.heap.size ≤ v1.heap.size := by have := hb.size; (try simp at this); omega
           clear hb
           clear kXB0 kXB1 kXq0 kXq1 kXr0 kXr1
           obtain ⟨kXB0, kXB1, -, -, -⟩ := XB.out
           obtain ⟨kXq0, kXq1, -, -, -⟩ := Xq.out
           obtain ⟨kXr0, kXr1, -, -, -⟩ := Xr.out
           have GA : Hid True := trivial))
    all_goals
      go_wp2_with fail
      go_meet
      first
        | exact ⟨_, ak, mk2, ck, rfl, XG.out.put _ _, bk, RK.out.put XG.out.1 XG.out.2.1 _ _, KK.out.put XG.out (by intro b hm; simp only [List.mem_cons, List.not_mem_nil, or_false] at hm; rcases hm with rfl | rfl | rfl <;> simp <;> omega) (by omega) _ _⟩
        | exact ⟨_, ak, mk2, ck, rfl, box_new _ _ _, bk, RK.out.later (below_one _ _), KK.out.later (below_one _ _)⟩
  case rest =>
    obtain ⟨g, ab, mb, cb, rfl, hm⟩ := hcut
    have HM := Lib.hid hm.out; clear hm
    clear KK XB Xq Xr RB Rq kXB0 kXB1 kXq0 kXq1 kXr0 kXr1
    have XA := Lib.hid (HM.out.2.2.2.box (g := w.heap.size) (u := .bool s0) (v := .slice a0 n0 c0) (by simp))
    have XB := Lib.hid (HM.out.2.2.2.box (g := w.heap.size + 1) (u := .bool s1) (v := .slice a1 n1 c1) (by simp))
    have Xr := Lib.hid (HM.out.2.2.2.box (g := w2.heap.size + 1) (u := .bool (decide (R < 0))) (v := .slice ar mr cr) (by simp))
    have Xg := Lib.hid HM.out.1
    have RA := Lib.hid (HM.out.2.2.2.row (a := a0) (n := n0) (c := c0) (xs := xs) (by simp))
    have RB := Lib.hid (HM.out.2.2.2.row (a := a1) (n := n1) (c := c1) (xs := ys) (by simp))
    have Rr := Lib.hid (HM.out.2.2.2.row (a := ar) (n := mr) (c := cr) (xs := limbs R.natAbs) (by simp))
    have Rg := Lib.hid HM.out.2.2.1
    have hmb := HM.out.2.1
    have HB := Lib.hid HM.out.2.2.2.2.2
    clear HM
    obtain ⟨kXA0, kXA1, -, -, -⟩ := XA.out
    obtain ⟨kXB0, kXB1, -, -, -⟩ := XB.out
    obtain ⟨kXr0, kXr1, -, -, -⟩ := Xr.out
    obtain ⟨kXg0, kXg1, -, -, -⟩ := Xg.out
    go_wp2_with fail
    refine (signI 0 Rr.out (sv_limbs _) (by omega) SR.out).mono ?_
    rintro e w21 ⟨rfl, hb⟩
    replace RA := Lib.hid (RA.out.later hb)
    replace RB := Lib.hid (RB.out.later hb)
    replace Rr := Lib.hid (Rr.out.later hb)
    replace Rg := Lib.hid (Rg.out.later hb)
    replace XA := Lib.hid (XA.out.later hb)
    replace XB := Lib.hid (XB.out.later hb)
    replace Xr := Lib.hid (Xr.out.later hb)
    replace Xg := Lib.hid (Xg.out.later hb)
    replace HB := Lib.hid (bthen HB.out hb); clear hb
    clear kXA0 kXA1 kXB0 kXB1 kXr0 kXr1 kXg0 kXg1
    obtain ⟨kXA0, kXA1, -, -, -⟩ := XA.out
    obtain ⟨kXB0, kXB1, -, -, -⟩ := XB.out
    obtain ⟨kXr0, kXr1, -, -, -⟩ := Xr.out
    obtain ⟨kXg0, kXg1, -, -, -⟩ := Xg.out
    go_wp2_with fail
    refine (cmpI 1 Rr.out RB.out (sv_limbs _) VB.out (by omega) (by omega) CR.out).mono ?_
    rintro e w22 ⟨rfl, hb⟩
    replace RA := Lib.hid (RA.out.later hb)
    replace RB := Lib.hid (RB.out.later hb)
    replace Rr := Lib.hid (Rr.out.later hb)
    replace Rg := Lib.hid (Rg.out.later hb)
    replace XA := Lib.hid (XA.out.later hb)
    replace XB := Lib.hid (XB.out.later hb)
    replace Xr := Lib.hid (Xr.out.later hb)
    replace Xg := Lib.hid (Xg.out.later hb)
    replace HB := Lib.hid (bthen HB.out hb); clear hb
    clear kXA0 kXA1 kXB0 kXB1 kXr0 kXr1 kXg0 kXg1
    obtain ⟨kXA0, kXA1, -, -, -⟩ := XA.out
    obtain ⟨kXB0, kXB1, -, -, -⟩ := XB.out
    obtain ⟨kXr0, kXr1, -, -, -⟩ := Xr.out
    obtain ⟨kXg0, kXg1, -, -, -⟩ := Xg.out
    go_wp2_with fail
    refine (signI (-1) RB.out VB.out (by omega) SB.out).mono ?_
    rintro e w23 ⟨rfl, hb⟩
    replace RA := Lib.hid (RA.out.later hb)
    replace RB := Lib.hid (RB.out.later hb)
    replace Rr := Lib.hid (Rr.out.later hb)
    replace Rg := Lib.hid (Rg.out.later hb)
    replace XA := Lib.hid (XA.out.later hb)
    replace XB := Lib.hid (XB.out.later hb)
    replace Xr := Lib.hid (Xr.out.later hb)
    replace Xg := Lib.hid (Xg.out.later hb)
    replace HB := Lib.hid (bthen HB.out hb); clear hb
    clear kXA0 kXA1 kXB0 kXB1 kXr0 kXr1 kXg0 kXg1
    obtain ⟨kXA0, kXA1, -, -, -⟩ := XA.out
    obtain ⟨kXB0, kXB1, -, -, -⟩ := XB.out
    obtain ⟨kXr0, kXr1, -, -, -⟩ := Xr.out
    obtain ⟨kXg0, kXg1, -, -, -⟩ := Xg.out
    go_wp2_with fail
    refine (signI 0 Rr.out (sv_limbs _) (by omega) SR.out).mono ?_
    rintro e w24 ⟨rfl, hb⟩
    replace RA := Lib.hid (RA.out.later hb)
    replace RB := Lib.hid (RB.out.later hb)
    replace Rr := Lib.hid (Rr.out.later hb)
    replace Rg := Lib.hid (Rg.out.later hb)
    replace XA := Lib.hid (XA.out.later hb)
    replace XB := Lib.hid (XB.out.later hb)
    replace Xr := Lib.hid (Xr.out.later hb)
    replace Xg := Lib.hid (Xg.out.later hb)
    replace HB := Lib.hid (bthen HB.out hb); clear hb
    clear kXA0 kXA1 kXB0 kXB1 kXr0 kXr1 kXg0 kXg1
    obtain ⟨kXA0, kXA1, -, -, -⟩ := XA.out
    obtain ⟨kXB0, kXB1, -, -, -⟩ := XB.out
    obtain ⟨kXr0, kXr1, -, -, -⟩ := Xr.out
    obtain ⟨kXg0, kXg1, -, -, -⟩ := Xg.out
    go_wp2_with fail
    refine (cmpI 1 Rr.out RB.out (sv_limbs _) VB.out (by omega) (by omega) CR.out).mono ?_
    rintro e w25 ⟨rfl, hb⟩
    replace RA := Lib.hid (RA.out.later hb)
    replace RB := Lib.hid (RB.out.later hb)
    replace Rr := Lib.hid (Rr.out.later hb)
    replace Rg := Lib.hid (Rg.out.later hb)
    replace XA := Lib.hid (XA.out.later hb)
    replace XB := Lib.hid (XB.out.later hb)
    replace Xr := Lib.hid (Xr.out.later hb)
    replace Xg := Lib.hid (Xg.out.later hb)
    replace HB := Lib.hid (bthen HB.out hb); clear hb
    clear kXA0 kXA1 kXB0 kXB1 kXr0 kXr1 kXg0 kXg1
    obtain ⟨kXA0, kXA1, -, -, -⟩ := XA.out
    obtain ⟨kXB0, kXB1, -, -, -⟩ := XB.out
    obtain ⟨kXr0, kXr1, -, -, -⟩ := Xr.out
    obtain ⟨kXg0, kXg1, -, -, -⟩ := Xg.out
    go_wp2_with fail
    clear kXA0 kXA1 kXB0 kXB1 kXr0 kXr1 kXg0 kXg1 XB Xr RB Rr
    replace RA := Lib.hid RA.out.drew
    replace Rg := Lib.hid Rg.out.drew
    replace XA := Lib.hid XA.out.drew
    replace Xg := Lib.hid Xg.out.drew
    replace HB := Lib.hid HB.out.drew
    obtain ⟨kXg0, kXg1, -, -, -⟩ := Xg.out
    obtain ⟨kXA0, kXA1, -, -, -⟩ := XA.out
    go_region_held3 (fun w' => w'.cell? ⟨g, 0, none⟩ = some (.bool (decide (A < 0))) ∧ w'.cell? ⟨g, 1, none⟩ = some (.slice ab mb cb) ∧ w'.cell? ⟨w.heap.size, 0, none⟩ = some (.bool s0) ∧ w'.cell? ⟨w.heap.size, 1, none⟩ = some (.slice a0 n0 c0))
      (first | (refine ⟨?_, ?_, ?_, ?_⟩ <;> assumption) | (go_keep; done))
      (first
        | (have mk := G2; clear mk
           rw [if_pos (by rfl)]
           go_simp
           go_at_call 26
           refine (awake_any _).mono ?_
           rintro e w3 ⟨rfl, hb⟩
           replace RA := Lib.hid (RA.out.later hb)
           replace Xg := Lib.hid (Xg.out.later hb)
           replace XA := Lib.hid (XA.out.later hb)
           clear kXg0 kXg1 kXA0 kXA1
           obtain ⟨kXg0, kXg1, -, -, -⟩ := Xg.out
           obtain ⟨kXA0, kXA1, -, -, -⟩ := XA.out
           replace HB := Lib.hid (bthen HB.out hb); clear hb
           have G3 : Hid True := trivial
           try go_wp2_with fail)
        | (have mk := G1; clear mk
           rw [if_pos (by rfl)]
           go_simp
           go_at_call 11
           refine (sameZ Rg.out Rn.out rfl (by omega)).mono ?_
           rintro e w2 ⟨rfl, hb⟩
           clear Rg
           clear Rn
           replace RA := Lib.hid (RA.out.later hb)
           replace Xg := Lib.hid (Xg.out.later hb)
           replace XA := Lib.hid (XA.out.later hb)
           clear kXg0 kXg1 kXA0 kXA1
           obtain ⟨kXg0, kXg1, -, -, -⟩ := Xg.out
           obtain ⟨kXA0, kXA1, -, -, -⟩ := XA.out
           replace HB := Lib.hid (bthen HB.out hb); clear hb
           have G2 : Hid True := trivial
           try go_wp2_with fail)
        | (skip
           rw [if_pos (by rfl)]
           go_simp
           go_at_call 12
           refine (normI 10 A RA.out VA.out (by omega) LA.out).mono ?_
           rintro e w1 ⟨an, mn, cn, rfl, bn, hr, hb⟩
           have Rn := Lib.hid hr; clear hr
           replace RA := Lib.hid (RA.out.later hb)
           replace Rg := Lib.hid (Rg.out.later hb)
           replace Xg := Lib.hid (Xg.out.later hb)
           replace XA := Lib.hid (XA.out.later hb)
           clear kXg0 kXg1 kXA0 kXA1
           obtain ⟨kXg0, kXg1, -, -, -⟩ := Xg.out
           obtain ⟨kXA0, kXA1, -, -, -⟩ := XA.out
           replace HB := Lib.hid (bthen HB.out hb); clear hb
           have G1 : Hid True := trivial
           try go_wp2_with fail))
    go_wp2
    go_ret
    exact ⟨rfl, HB.out⟩

end Go.Proofs.Ytbapgkjkhdlngaa
/- IntegerRest, by what is below nought, a rest. -/
namespace Go.Proofs.Ytbapgkjkhdlngaa
open Go.RowKit Nums

set_option maxRecDepth 100000 in
set_option maxHeartbeats 16000000 in
theorem integerRest_neg1 (s0 s1 : Bool) (a0 a1 : Option Addr) (n0 c0 n1 c1 : Nat) (xs ys : List Nat) (w : World) (r0 : Row w a0 n0 c0 xs) (r1 : Row w a1 n1 c1 ys) (b0 : n0 ≤ 10) (b1 : n1 ≤ 10) (hSB : sgn (sv s1 (val ys)) = (-1)) (hSR : sgn ((sv s0 (val xs)).fmod (sv s1 (val ys))) = (-1)) (hCR : cmpZ ((sv s0 (val xs)).fmod (sv s1 (val ys))) (sv s1 (val ys)) = 1) :
    Calls Try.prog 8 #[.agg #[.bool s0, .slice a0 n0 c0], .agg #[.bool s1, .slice a1 n1 c1]] w fun e w' => e = .returned (.bool true) ∧ Below w.heap.size w w' := by
  obtain ⟨A, hA⟩ : ∃ A, sv s0 (val xs) = A := ⟨_, rfl⟩
  obtain ⟨B, hB⟩ : ∃ B, sv s1 (val ys) = B := ⟨_, rfl⟩
  rw [hA, hB] at hSR hCR
  rw [hB] at hSB
  have hY0 : B ≠ 0 := by rintro rfl; revert hSB; decide
  have LA := Lib.hid (lenZ_raw r0 b0 hA)
  have LB := Lib.hid (lenZ_raw r1 b1 hB)
  obtain ⟨Q, hQ⟩ : ∃ Q, A.fdiv B = Q := ⟨_, rfl⟩
  obtain ⟨R, hR⟩ : ∃ R, A.fmod B = R := ⟨_, rfl⟩
  rw [hR] at hSR hCR
  obtain ⟨P, hP⟩ : ∃ P, Q * B = P := ⟨_, rfl⟩
  have LQ : Hid ((limbs Q.natAbs).length ≤ 11) := by show _ ≤ _; rw [← hQ]; exact len_fdiv LA.out hY0
  have LR : Hid ((limbs R.natAbs).length ≤ 10) := by show _ ≤ _; rw [← hR]; exact len_fmod LB.out hY0
  have LP : Hid ((limbs P.natAbs).length ≤ 21) := lenZ_mul LQ.out LB.out hP
  have EA : Hid (P + R = A) := by
    show _ = _
    have h := Int.mul_fdiv_add_fmod A B
    rw [hQ, hR, Int.mul_comm, hP] at h
    exact h
  have SB := Lib.hid hSB; clear hSB
  have SR := Lib.hid hSR; clear hSR
  have CR := Lib.hid hCR; clear hCR
  have Y0 := Lib.hid hY0; clear hY0
  have EQ := Lib.hid hQ; clear hQ
  have ER := Lib.hid hR; clear hR
  have EP := Lib.hid hP; clear hP
  have VB := Lib.hid hB; clear hB
  have VA := Lib.hid hA; clear hA
  have XX := box_two w (.bool s0) (.slice a0 n0 c0) (.bool s1) (.slice a1 n1 c1)
  have XA := Lib.hid XX.1
  have XB := Lib.hid XX.2; clear XX
  have HB := Lib.hid (below_two w (.cells #[.bool s0, .slice a0 n0 c0] 24) (.cells #[.bool s1, .slice a1 n1 c1] 24))
  have RA := Lib.hid (r0.later HB.out)
  have RB := Lib.hid (r1.later HB.out)
  clear r0 r1
  go_enter Try.func8, Try.ntmps8
  go_wp2_with fail
  refine (fewI_yes b0 b1).mono ?_
  rintro e w1 ⟨rfl, hb⟩
  replace RA := Lib.hid (RA.out.later hb)
  replace RB := Lib.hid (RB.out.later hb)
  replace XA := Lib.hid (XA.out.later hb)
  replace XB := Lib.hid (XB.out.later hb)
  replace HB := Lib.hid (bthen HB.out hb); clear hb
  obtain ⟨kXA0, kXA1, -, -, -⟩ := XA.out
  obtain ⟨kXB0, kXB1, -, -, -⟩ := XB.out
  go_wp2_with fail
  refine (divI 11 10 Q R RA.out RB.out VA.out VB.out (by omega) (by omega) Y0.out EQ.out ER.out LQ.out LR.out (by omega)).mono ?_
  have XB0 := Lib.hid XB.out
  rintro e w2 ⟨aq, mq, cq, ar, mr, cr, rfl, bq, br, hq, hr, hb⟩
  have hb2 := below_two w2 (.cells #[.bool (decide (Q < 0)), .slice aq mq cq] 24) (.cells #[.bool (decide (R < 0)), .slice ar mr cr] 24)
  replace RA := Lib.hid ((RA.out.later hb).later hb2)
  replace RB := Lib.hid ((RB.out.later hb).later hb2)
  replace XA := Lib.hid ((XA.out.later hb).later hb2)
  replace XB := Lib.hid ((XB.out.later hb).later hb2)
  have LW : Hid (w.heap.size + 1 < w2.heap.size) := (XB0.out.later hb).2.2.2.2
  replace HB := Lib.hid (bthen (bthen HB.out hb) hb2)
  have Rq := Lib.hid (hq.later hb2); have Rr := Lib.hid (hr.later hb2); clear hq hr
  clear hb hb2
  have Xq := Lib.hid (box_two w2 (.bool (decide (Q < 0))) (.slice aq mq cq) (.bool (decide (R < 0))) (.slice ar mr cr)).1
  have Xr := Lib.hid (box_two w2 (.bool (decide (Q < 0))) (.slice aq mq cq) (.bool (decide (R < 0))) (.slice ar mr cr)).2
  clear kXA0 kXA1 kXB0 kXB1
  obtain ⟨kXA0, kXA1, -, -, -⟩ := XA.out
  obtain ⟨kXB0, kXB1, -, -, -⟩ := XB.out
  obtain ⟨kXq0, kXq1, -, -, -⟩ := Xq.out
  obtain ⟨kXr0, kXr1, -, -, -⟩ := Xr.out
  go_wp2_with fail
  refine (signI (-1) RB.out VB.out (by omega) SB.out).mono ?_
  rintro e w3 ⟨rfl, hb⟩
  replace RA := Lib.hid (RA.out.later hb)
  replace RB := Lib.hid (RB.out.later hb)
  replace Rq := Lib.hid (Rq.out.later hb)
  replace Rr := Lib.hid (Rr.out.later hb)
  replace XA := Lib.hid (XA.out.later hb)
  replace XB := Lib.hid (XB.out.later hb)
  replace Xq := Lib.hid (Xq.out.later hb)
  replace Xr := Lib.hid (Xr.out.later hb)
  replace HB := Lib.hid (bthen HB.out hb); clear hb
  clear kXA0 kXA1 kXB0 kXB1 kXq0 kXq1 kXr0 kXr1
  obtain ⟨kXA0, kXA1, -, -, -⟩ := XA.out
  obtain ⟨kXB0, kXB1, -, -, -⟩ := XB.out
  obtain ⟨kXq0, kXq1, -, -, -⟩ := Xq.out
  obtain ⟨kXr0, kXr1, -, -, -⟩ := Xr.out
  have lw : w.heap.size + 1 < w2.heap.size := by
    exact LW.out
  have lq : w2.heap.size + 1 < w3.heap.size := Xr.out.2.2.2.2
  clear kXA0 kXA1 kXB0 kXB1 kXq0 kXq1 kXr0 kXr1
  replace XA := Lib.hid XA.out.drew
  replace XB := Lib.hid XB.out.drew
  replace Xq := Lib.hid Xq.out.drew
  replace Xr := Lib.hid Xr.out.drew
  replace RA := Lib.hid RA.out.drew
  replace RB := Lib.hid RB.out.drew
  replace Rq := Lib.hid Rq.out.drew
  replace Rr := Lib.hid Rr.out.drew
  replace HB := Lib.hid HB.out.drew
  have KK : Hid (Keep w [(w.heap.size, .bool s0, .slice a0 n0 c0), (w.heap.size + 1, .bool s1, .slice a1 n1 c1), (w2.heap.size + 1, .bool (decide (R < 0)), .slice ar mr cr)] [(a0, n0, c0, xs), (a1, n1, c1, ys), (ar, mr, cr, limbs R.natAbs)] w3.drew) := ⟨by
    intro b hm
    simp only [List.mem_cons, List.not_mem_nil, or_false] at hm
    rcases hm with rfl | rfl | rfl
    · exact XA.out
    · exact XB.out
    · exact Xr.out, by
    intro r hm
    simp only [List.mem_cons, List.not_mem_nil, or_false] at hm
    rcases hm with rfl | rfl | rfl
    · exact RA.out
    · exact RB.out
    · exact Rr.out, HB.out⟩
  clear RA Rr XA HB
  obtain ⟨kXB0, kXB1, -, -, -⟩ : Box w3 _ _ _ := XB.out
  obtain ⟨kXq0, kXq1, -, -, -⟩ : Box w3 _ _ _ := Xq.out
  obtain ⟨kXr0, kXr1, -, -, -⟩ : Box w3 _ _ _ := Xr.out
  go_upto_region 6 with fail
  go_cut [8] (fun s8 wx => ∃ (g : Nat) (ab : Option Addr) (mb cb : Nat), s8 = .pointer (some ⟨g, 0, none⟩) ∧ Hid (Made w [(w.heap.size, .bool s0, .slice a0 n0 c0), (w.heap.size + 1, .bool s1, .slice a1 n1 c1), (w2.heap.size + 1, .bool (decide (R < 0)), .slice ar mr cr)] [(a0, n0, c0, xs), (a1, n1, c1, ys), (ar, mr, cr, limbs R.natAbs)] 22 A g ab mb cb wx))
  case first =>
    go_region_held3 (fun w' => w'.cell? ⟨w.heap.size + 1, 0, none⟩ = some (.bool s1) ∧ w'.cell? ⟨w.heap.size + 1, 1, none⟩ = some (.slice a1 n1 c1) ∧ w'.cell? ⟨w2.heap.size, 0, none⟩ = some (.bool (decide (Q < 0))) ∧ w'.cell? ⟨w2.heap.size, 1, none⟩ = some (.slice aq mq cq) ∧ w'.cell? ⟨w2.heap.size + 1, 0, none⟩ = some (.bool (decide (R < 0))) ∧ w'.cell? ⟨w2.heap.size + 1, 1, none⟩ = some (.slice ar mr cr))
      (first | (with_reducible exact keep_six (by assumption) (by omega) (by omega) (by omega)) | (refine ⟨?_, ?_, ?_, ?_, ?_, ?_⟩ <;> with_reducible assumption) | (go_keep; done))
      (first
        | (go_at_call 14
           (have mk := GB; clear mk)
           refine (addI 22 A RP.out (KK.out.row (a := ar) (n := mr) (c := cr) (xs := limbs R.natAbs) (by simp)) (sv_limbs _) (sv_limbs _) (by omega) (by omega) EA.out (lenZ_le LA.out (by omega))).mono ?_
           rintro e v2 ⟨ak, mk2, ck, rfl, bk, hr, hb⟩
           have RK := Lib.hid hr; clear hr
           replace XG := Lib.hid (XG.out.later hb)
           replace KK := Lib.hid (KK.out.later hb)
           replace XB := Lib.hid (XB.out.later hb)
           replace Xq := Lib.hid (Xq.out.later hb)
           replace Xr := Lib.hid (Xr.out.later hb)
           have lv2 : v1.heap.size ≤ v2.heap.size := by have := hb.size; (try simp at this); omega
           clear hb
           obtain ⟨kXG0, kXG1, kXG2, kXG3, kXG4⟩ := XG.out
           clear kXB0 kXB1 kXq0 kXq1 kXr0 kXr1
           obtain ⟨kXB0, kXB1, -, -, -⟩ := XB.out
           obtain ⟨kXq0, kXq1, -, -, -⟩ := Xq.out
           obtain ⟨kXr0, kXr1, -, -, -⟩ := Xr.out)
        | (go_at_call 14
           (have mk := GA; clear mk)
           (with_reducible show Calls Try.prog 14 _ (World.alloc _ _) _)
           refine (addI 22 A (RP.out.later (below_one _ (.cells #[.bool false, .slice none 0 0] 24))) ((KK.out.row (a := ar) (n := mr) (c := cr) (xs := limbs R.natAbs) (by simp)).later (below_one _ (.cells #[.bool false, .slice none 0 0] 24))) (sv_limbs _) (sv_limbs _) (by omega) (by omega) EA.out (lenZ_le LA.out (by omega))).mono ?_
           rintro e v2 ⟨ak, mk2, ck, rfl, bk, hr, hb⟩
           have RK := Lib.hid hr; clear hr
           have XG : Hid (Box v2 v1.heap.size (.bool false) (.slice none 0 0)) := (box_new v1 (.bool false) (.slice none 0 0)).later hb
           replace KK := Lib.hid ((KK.out.later (below_one _ (.cells #[.bool false, .slice none 0 0] 24))).later hb)
           replace XB := Lib.hid ((XB.out.later (below_one _ (.cells #[.bool false, .slice none 0 0] 24))).later hb)
           replace Xq := Lib.hid ((Xq.out.later (below_one _ (.cells #[.bool false, .slice none 0 0] 24))).later hb)
           replace Xr := Lib.hid ((Xr.out.later (below_one _ (.cells #[.bool false, .slice none 0 0] 24))).later hb)
           have lv2 : v1.heap.size ≤ v2.heap.size := by have := hb.size; (try simp at this); omega
           clear hb
           obtain ⟨kXG0, kXG1, kXG2, kXG3, kXG4⟩ := XG.out
           clear kXB0 kXB1 kXq0 kXq1 kXr0 kXr1
           obtain ⟨kXB0, kXB1, -, -, -⟩ := XB.out
           obtain ⟨kXq0, kXq1, -, -, -⟩ := Xq.out
           obtain ⟨kXr0, kXr1, -, -, -⟩ := Xr.out)
        | (go_at_call 14
           (have mk := GA; clear mk)
           refine (addI 22 A RP.out (KK.out.row (a := ar) (n := mr) (c := cr) (xs := limbs R.natAbs) (by simp)) (sv_limbs _) (sv_limbs _) (by omega) (by omega) EA.out (lenZ_le LA.out (by omega))).mono ?_
           rintro e v2 ⟨ak, mk2, ck, rfl, bk, hr, hb⟩
           have RK := Lib.hid hr; clear hr
           replace KK := Lib.hid (KK.out.later hb)
           replace XB := Lib.hid (XB.out.later hb)
           replace Xq := Lib.hid (Xq.out.later hb)
           replace Xr := Lib.hid (Xr.out.later hb)
           have lv2 : v1.heap.size ≤ v2.heap.size := by have := hb.size; (try simp at this); omega
           clear hb
           clear kXB0 kXB1 kXq0 kXq1 kXr0 kXr1
           obtain ⟨kXB0, kXB1, -, -, -⟩ := XB.out
           obtain ⟨kXq0, kXq1, -, -, -⟩ := Xq.out
           obtain ⟨kXr0, kXr1, -, -, -⟩ := Xr.out)
        | (go_at_call 18
           (with_reducible show Calls Try.prog 18 _ (World.drew (World.alloc _ _)) _)
           refine (mulI 21 P (Rq.out.later (bal w3 (.cells #[.bool false, .slice none 0 0] 24))) (RB.out.later (bal w3 (.cells #[.bool false, .slice none 0 0] 24))) (sv_limbs _) VB.out (by omega) (by omega) EP.out LP.out).mono ?_
           rintro e v1 ⟨ap, mp, cp, rfl, bp, hr, hb⟩
           have RP := Lib.hid hr; clear hr
           have XG : Hid (Box v1 w3.heap.size (.bool false) (.slice none 0 0)) := (box_new w3 (.bool false) (.slice none 0 0)).drew.later hb
           replace KK := Lib.hid ((KK.out.later (bal w3 (.cells #[.bool false, .slice none 0 0] 24))).later hb)
           replace XB := Lib.hid ((XB.out.later (bal w3 (.cells #[.bool false, .slice none 0 0] 24))).later hb)
           replace Xq := Lib.hid ((Xq.out.later (bal w3 (.cells #[.bool false, .slice none 0 0] 24))).later hb)
           replace Xr := Lib.hid ((Xr.out.later (bal w3 (.cells #[.bool false, .slice none 0 0] 24))).later hb)
           have lv1 : w3.heap.size ≤ v1.heap.size := by have := hb.size; (try simp at this); omega
           clear hb
           obtain ⟨kXG0, kXG1, kXG2, kXG3, kXG4⟩ := XG.out
           clear kXB0 kXB1 kXq0 kXq1 kXr0 kXr1
           obtain ⟨kXB0, kXB1, -, -, -⟩ := XB.out
           obtain ⟨kXq0, kXq1, -, -, -⟩ := Xq.out
           obtain ⟨kXr0, kXr1, -, -, -⟩ := Xr.out
           have GB : Hid True := trivial)
        | (go_at_call 18
           refine (mulI 21 P Rq.out RB.out (sv_limbs _) VB.out (by omega) (by omega) EP.out LP.out).mono ?_
           rintro e v1 ⟨ap, mp, cp, rfl, bp, hr, hb⟩
           have RP := Lib.hid hr; clear hr
           replace KK := Lib.hid (KK.out.later hb)
           replace XB := Lib.hid (XB.out.later hb)
           replace Xq := Lib.hid (Xq.out.later hb)
           replace Xr := Lib.hid (Xr.out.later hb)
           have lv1 : w3.heap.size ≤ v1.heap.size := by have := hb.size; (try simp at this); omega
           clear hb
           clear kXB0 kXB1 kXq0 kXq1 kXr0 kXr1
           obtain ⟨kXB0, kXB1, -, -, -⟩ := XB.out
           obtain ⟨kXq0, kXq1, -, -, -⟩ := Xq.out
           obtain ⟨kXr0, kXr1, -, -, -⟩ := Xr.out
           have GA : Hid True := trivial))
    all_goals
      go_wp2_with fail
      go_meet
      first
        | exact ⟨_, ak, mk2, ck, rfl, XG.out.put _ _, bk, RK.out.put XG.out.1 XG.out.2.1 _ _, KK.out.put XG.out (by intro b hm; simp only [List.mem_cons, List.not_mem_nil, or_false] at hm; rcases hm with rfl | rfl | rfl <;> simp <;> omega) (by omega) _ _⟩
        | exact ⟨_, ak, mk2, ck, rfl, box_new _ _ _, bk, RK.out.later (below_one _ _), KK.out.later (below_one _ _)⟩
  case rest =>
    obtain ⟨g, ab, mb, cb, rfl, hm⟩ := hcut
    have HM := Lib.hid hm.out; clear hm
    clear KK XB Xq Xr RB Rq kXB0 kXB1 kXq0 kXq1 kXr0 kXr1
    have XA := Lib.hid (HM.out.2.2.2.box (g := w.heap.size) (u := .bool s0) (v := .slice a0 n0 c0) (by simp))
    have XB := Lib.hid (HM.out.2.2.2.box (g := w.heap.size + 1) (u := .bool s1) (v := .slice a1 n1 c1) (by simp))
    have Xr := Lib.hid (HM.out.2.2.2.box (g := w2.heap.size + 1) (u := .bool (decide (R < 0))) (v := .slice ar mr cr) (by simp))
    have Xg := Lib.hid HM.out.1
    have RA := Lib.hid (HM.out.2.2.2.row (a := a0) (n := n0) (c := c0) (xs := xs) (by simp))
    have RB := Lib.hid (HM.out.2.2.2.row (a := a1) (n := n1) (c := c1) (xs := ys) (by simp))
    have Rr := Lib.hid (HM.out.2.2.2.row (a := ar) (n := mr) (c := cr) (xs := limbs R.natAbs) (by simp))
    have Rg := Lib.hid HM.out.2.2.1
    have hmb := HM.out.2.1
    have HB := Lib.hid HM.out.2.2.2.2.2
    clear HM
    obtain ⟨kXA0, kXA1, -, -, -⟩ := XA.out
    obtain ⟨kXB0, kXB1, -, -, -⟩ := XB.out
    obtain ⟨kXr0, kXr1, -, -, -⟩ := Xr.out
    obtain ⟨kXg0, kXg1, -, -, -⟩ := Xg.out
    go_wp2_with fail
    refine (signI (-1) Rr.out (sv_limbs _) (by omega) SR.out).mono ?_
    rintro e w21 ⟨rfl, hb⟩
    replace RA := Lib.hid (RA.out.later hb)
    replace RB := Lib.hid (RB.out.later hb)
    replace Rr := Lib.hid (Rr.out.later hb)
    replace Rg := Lib.hid (Rg.out.later hb)
    replace XA := Lib.hid (XA.out.later hb)
    replace XB := Lib.hid (XB.out.later hb)
    replace Xr := Lib.hid (Xr.out.later hb)
    replace Xg := Lib.hid (Xg.out.later hb)
    replace HB := Lib.hid (bthen HB.out hb); clear hb
    clear kXA0 kXA1 kXB0 kXB1 kXr0 kXr1 kXg0 kXg1
    obtain ⟨kXA0, kXA1, -, -, -⟩ := XA.out
    obtain ⟨kXB0, kXB1, -, -, -⟩ := XB.out
    obtain ⟨kXr0, kXr1, -, -, -⟩ := Xr.out
    obtain ⟨kXg0, kXg1, -, -, -⟩ := Xg.out
    go_wp2_with fail
    refine (signI (-1) RB.out VB.out (by omega) SB.out).mono ?_
    rintro e w22 ⟨rfl, hb⟩
    replace RA := Lib.hid (RA.out.later hb)
    replace RB := Lib.hid (RB.out.later hb)
    replace Rr := Lib.hid (Rr.out.later hb)
    replace Rg := Lib.hid (Rg.out.later hb)
    replace XA := Lib.hid (XA.out.later hb)
    replace XB := Lib.hid (XB.out.later hb)
    replace Xr := Lib.hid (Xr.out.later hb)
    replace Xg := Lib.hid (Xg.out.later hb)
    replace HB := Lib.hid (bthen HB.out hb); clear hb
    clear kXA0 kXA1 kXB0 kXB1 kXr0 kXr1 kXg0 kXg1
    obtain ⟨kXA0, kXA1, -, -, -⟩ := XA.out
    obtain ⟨kXB0, kXB1, -, -, -⟩ := XB.out
    obtain ⟨kXr0, kXr1, -, -, -⟩ := Xr.out
    obtain ⟨kXg0, kXg1, -, -, -⟩ := Xg.out
    go_wp2_with fail
    refine (signI (-1) Rr.out (sv_limbs _) (by omega) SR.out).mono ?_
    rintro e w23 ⟨rfl, hb⟩
    replace RA := Lib.hid (RA.out.later hb)
    replace RB := Lib.hid (RB.out.later hb)
    replace Rr := Lib.hid (Rr.out.later hb)
    replace Rg := Lib.hid (Rg.out.later hb)
    replace XA := Lib.hid (XA.out.later hb)
    replace XB := Lib.hid (XB.out.later hb)
    replace Xr := Lib.hid (Xr.out.later hb)
    replace Xg := Lib.hid (Xg.out.later hb)
    replace HB := Lib.hid (bthen HB.out hb); clear hb
    clear kXA0 kXA1 kXB0 kXB1 kXr0 kXr1 kXg0 kXg1
    obtain ⟨kXA0, kXA1, -, -, -⟩ := XA.out
    obtain ⟨kXB0, kXB1, -, -, -⟩ := XB.out
    obtain ⟨kXr0, kXr1, -, -, -⟩ := Xr.out
    obtain ⟨kXg0, kXg1, -, -, -⟩ := Xg.out
    go_wp2_with fail
    refine (cmpI 1 Rr.out RB.out (sv_limbs _) VB.out (by omega) (by omega) CR.out).mono ?_
    rintro e w24 ⟨rfl, hb⟩
    replace RA := Lib.hid (RA.out.later hb)
    replace RB := Lib.hid (RB.out.later hb)
    replace Rr := Lib.hid (Rr.out.later hb)
    replace Rg := Lib.hid (Rg.out.later hb)
    replace XA := Lib.hid (XA.out.later hb)
    replace XB := Lib.hid (XB.out.later hb)
    replace Xr := Lib.hid (Xr.out.later hb)
    replace Xg := Lib.hid (Xg.out.later hb)
    replace HB := Lib.hid (bthen HB.out hb); clear hb
    clear kXA0 kXA1 kXB0 kXB1 kXr0 kXr1 kXg0 kXg1
    obtain ⟨kXA0, kXA1, -, -, -⟩ := XA.out
    obtain ⟨kXB0, kXB1, -, -, -⟩ := XB.out
    obtain ⟨kXr0, kXr1, -, -, -⟩ := Xr.out
    obtain ⟨kXg0, kXg1, -, -, -⟩ := Xg.out
    go_wp2_with fail
    clear kXA0 kXA1 kXB0 kXB1 kXr0 kXr1 kXg0 kXg1 XB Xr RB Rr
    replace RA := Lib.hid RA.out.drew
    replace Rg := Lib.hid Rg.out.drew
    replace XA := Lib.hid XA.out.drew
    replace Xg := Lib.hid Xg.out.drew
    replace HB := Lib.hid HB.out.drew
    obtain ⟨kXg0, kXg1, -, -, -⟩ := Xg.out
    obtain ⟨kXA0, kXA1, -, -, -⟩ := XA.out
    go_region_held3 (fun w' => w'.cell? ⟨g, 0, none⟩ = some (.bool (decide (A < 0))) ∧ w'.cell? ⟨g, 1, none⟩ = some (.slice ab mb cb) ∧ w'.cell? ⟨w.heap.size, 0, none⟩ = some (.bool s0) ∧ w'.cell? ⟨w.heap.size, 1, none⟩ = some (.slice a0 n0 c0))
      (first | (refine ⟨?_, ?_, ?_, ?_⟩ <;> assumption) | (go_keep; done))
      (first
        | (have mk := G2; clear mk
           rw [if_pos (by rfl)]
           go_simp
           go_at_call 26
           refine (awake_any _).mono ?_
           rintro e w3 ⟨rfl, hb⟩
           replace RA := Lib.hid (RA.out.later hb)
           replace Xg := Lib.hid (Xg.out.later hb)
           replace XA := Lib.hid (XA.out.later hb)
           clear kXg0 kXg1 kXA0 kXA1
           obtain ⟨kXg0, kXg1, -, -, -⟩ := Xg.out
           obtain ⟨kXA0, kXA1, -, -, -⟩ := XA.out
           replace HB := Lib.hid (bthen HB.out hb); clear hb
           have G3 : Hid True := trivial
           try go_wp2_with fail)
        | (have mk := G1; clear mk
           rw [if_pos (by rfl)]
           go_simp
           go_at_call 11
           refine (sameZ Rg.out Rn.out rfl (by omega)).mono ?_
           rintro e w2 ⟨rfl, hb⟩
           clear Rg
           clear Rn
           replace RA := Lib.hid (RA.out.later hb)
           replace Xg := Lib.hid (Xg.out.later hb)
           replace XA := Lib.hid (XA.out.later hb)
           clear kXg0 kXg1 kXA0 kXA1
           obtain ⟨kXg0, kXg1, -, -, -⟩ := Xg.out
           obtain ⟨kXA0, kXA1, -, -, -⟩ := XA.out
           replace HB := Lib.hid (bthen HB.out hb); clear hb
           have G2 : Hid True := trivial
           try go_wp2_with fail)
        | (skip
           rw [if_pos (by rfl)]
           go_simp
           go_at_call 12
           refine (normI 10 A RA.out VA.out (by omega) LA.out).mono ?_
           rintro e w1 ⟨an, mn, cn, rfl, bn, hr, hb⟩
           have Rn := Lib.hid hr; clear hr
           replace RA := Lib.hid (RA.out.later hb)
           replace Rg := Lib.hid (Rg.out.later hb)
           replace Xg := Lib.hid (Xg.out.later hb)
           replace XA := Lib.hid (XA.out.later hb)
           clear kXg0 kXg1 kXA0 kXA1
           obtain ⟨kXg0, kXg1, -, -, -⟩ := Xg.out
           obtain ⟨kXA0, kXA1, -, -, -⟩ := XA.out
           replace HB := Lib.hid (bthen HB.out hb); clear hb
           have G1 : Hid True := trivial
           try go_wp2_with fail))
    go_wp2
    go_ret
    exact ⟨rfl, HB.out⟩

end Go.Proofs.Ytbapgkjkhdlngaa
/- IntegerRest: quotient times divisor, and the rest, are the integer, and the rest is between. No condition. -/
namespace Go.Proofs.Ytbapgkjkhdlngaa
open Go.ChangeShapes Go.WideShapes Go.ChangeAt Go.RowKit Nums
open Go.ChangeMaps (open_string shut_string)
set_option linter.unusedVariables false

theorem sgn_pos {Z : Int} (h : 0 < Z) : sgn Z = 1 := by rw [sgn, if_neg (by omega), if_pos h]
theorem sgn_neg {Z : Int} (h : Z < 0) : sgn Z = -1 := by rw [sgn, if_pos h]
theorem sgn_zero {Z : Int} (h : Z = 0) : sgn Z = 0 := by rw [sgn, if_neg (by omega), if_neg (by omega)]

set_option maxRecDepth 100000 in
set_option maxHeartbeats 2000000 in
theorem integerRest_out (s0 s1 : Bool) (a0 a1 : Option Addr) (n0 c0 n1 c1 : Nat) (w : World) (b0 : n0 ≤ maxLen) (b1 : n1 ≤ maxLen) (h : ¬ (n0 ≤ 10 ∧ n1 ≤ 10)) :
    Calls Try.prog 8 #[.agg #[.bool s0, .slice a0 n0 c0], .agg #[.bool s1, .slice a1 n1 c1]] w fun e w' => e = .returned (.bool true) ∧ Below w.heap.size w w' := by
  have HB := Lib.hid (below_two w (.cells #[.bool s0, .slice a0 n0 c0] 24) (.cells #[.bool s1, .slice a1 n1 c1] 24))
  have H := Lib.hid h; clear h
  have B0 := Lib.hid b0; clear b0
  have B1 := Lib.hid b1; clear b1
  go_enter Try.func8, Try.ntmps8
  go_wp2_with fail
  refine (fewI_no B0.out B1.out H.out).mono ?_
  rintro e w' ⟨rfl, hb⟩
  replace HB := Lib.hid (bthen HB.out hb); clear hb
  go_wp2
  go_ret
  exact ⟨rfl, HB.out⟩

theorem integerRest_walk (s0 s1 : Bool) (a0 a1 : Option Addr) (n0 c0 n1 c1 : Nat) (xs ys : List Nat) (w : World) (r0 : Row w a0 n0 c0 xs) (r1 : Row w a1 n1 c1 ys) :
    Calls Try.prog 8 #[.agg #[.bool s0, .slice a0 n0 c0], .agg #[.bool s1, .slice a1 n1 c1]] w fun e w' => e = .returned (.bool true) ∧ Below w.heap.size w w' := by
  by_cases h : n0 ≤ 10 ∧ n1 ≤ 10
  · rcases Int.lt_trichotomy (sv s1 (val ys)) 0 with hc | hc | hc
    · have hf := ((Int.fdiv_fmod_unique' (a := sv s0 (val xs)) (q := (sv s0 (val xs)).fdiv (sv s1 (val ys))) (r := (sv s0 (val xs)).fmod (sv s1 (val ys))) hc).1 ⟨rfl, rfl⟩).2
      by_cases hz : (sv s0 (val xs)).fmod (sv s1 (val ys)) = 0
      · exact integerRest_neg0 s0 s1 a0 a1 n0 c0 n1 c1 xs ys w r0 r1 h.1 h.2 (sgn_neg hc) (sgn_zero hz) (cmpZ_gt hf.1)
      · exact integerRest_neg1 s0 s1 a0 a1 n0 c0 n1 c1 xs ys w r0 r1 h.1 h.2 (sgn_neg hc) (sgn_neg (by omega)) (cmpZ_gt hf.1)
    · exact integerRest_zero s0 s1 a0 a1 n0 c0 n1 c1 xs ys w r0 r1 h.1 h.2 hc
    · have hf := ((Int.fdiv_fmod_unique (a := sv s0 (val xs)) (q := (sv s0 (val xs)).fdiv (sv s1 (val ys))) (r := (sv s0 (val xs)).fmod (sv s1 (val ys))) hc).1 ⟨rfl, rfl⟩).2
      by_cases hz : (sv s0 (val xs)).fmod (sv s1 (val ys)) = 0
      · exact integerRest_pos0 s0 s1 a0 a1 n0 c0 n1 c1 xs ys w r0 r1 h.1 h.2 (sgn_pos hc) (sgn_zero hz) (cmpZ_lt hf.2)
      · exact integerRest_pos1 s0 s1 a0 a1 n0 c0 n1 c1 xs ys w r0 r1 h.1 h.2 (sgn_pos hc) (sgn_pos (by omega)) (cmpZ_lt hf.2)
  · exact integerRest_out s0 s1 a0 a1 n0 c0 n1 c1 w r0.len_le r1.len_le h

set_option maxRecDepth 100000 in
theorem integerRest_lifted (os : Os) (started : os.Started) (H : Type) (enc : TypeId × Value → H) :
    ReturnsInHanded {} Try.checked os 8 .any (Rows.integerRestSpec.pre6 enc Try.prog Try.f8 Rows.integerRestRow.domain false) (Rows.integerRestSpec.post enc Try.prog Try.f8 false true false false) := by
  refine returnsInHanded_of_change (C := Try.checked) Try.ownKnob started (by kernel_rfl) Try.func8
    (ChangeSpec.witness6 (enc := enc) (C := Try.checked) false ⟨#[], #[.agg #[.bool false, .slice none 0 0], .agg #[.bool false, .slice none 0 0]], []⟩ 8 (by kernel_rfl) (by kernel_rfl) (by kernel_rfl) (by kernel_rfl)) ?_
  intro W base args ds gs before hval0 hW hcnd _
  have hval : ∀ (j : Nat) t v, Try.f8.params[j]? = some t → args[j]? = some v → Value.okWide Try.prog W .any base t v := hval0
  have hW' := hW
  obtain ⟨p, q, hA0, hV, rfl, hfz, hnd⟩ := hW
  have hA : DataW.TrodAll enc Try.prog W 0 (fun _ => true) true Try.f8.params.toList args.toList ds p := hA0
  rw [Try.params8] at hA hval
  obtain ⟨v0, vs0, d0, ds0, p0, q0, hargs, rfl, rfl, h0, r0⟩ := trodAll_cons hA
  obtain ⟨v1, vs1, d1, ds1, p1, q1, rfl, rfl, rfl, h1, r1⟩ := trodAll_cons r0
  obtain ⟨rfl, rfl, rfl⟩ := trodAll_nil r1
  obtain rfl : args = #[v0, v1] := by cases args; simp_all
  obtain ⟨rfl, rfl⟩ := trodVars_none hV
  have k0 := h0
  have lt0 : ∀ x ∈ p0, x.block < W.heap.size := by obtain ⟨m, hm⟩ := k0; exact DataW.trod_lt m _ _ _ hm
  obtain ⟨s0, a0, n0, c0, xs0, rfl, w0⟩ := int_of_trod (hval 0 24 v0 rfl rfl) h0
  have k1 := h1
  have lt1 : ∀ x ∈ p1, x.block < W.heap.size := by obtain ⟨m, hm⟩ := k1; exact DataW.trod_lt m _ _ _ hm
  obtain ⟨s1, a1, n1, c1, xs1, rfl, w1⟩ := int_of_trod (hval 1 24 v1 rfl rfl) h1
  clear hA0 hval0
  refine (integerRest_walk s0 s1 a0 a1 n0 c0 n1 c1 xs0 xs1 W w0 w1).mono fun e W' ⟨he, bel⟩ => ?_
  subst he
  exact ⟨_, rfl, _, _, _, [], _, [], hW', trodAll_mk1 (shut_bool Try.underlying4 _), (trodAll_cons_mk (Below.trod Try.laidOut (by kernel_rfl) (of_decide_eq_true (by kernel_rfl)) k0 bel lt0) (trodAll_cons_mk (Below.trod Try.laidOut (by kernel_rfl) (of_decide_eq_true (by kernel_rfl)) k1 bel lt1) trodAll_mk0)), rfl, bel.frame _, fun h => by cases h⟩

theorem integerRest_over : Rows.integerRestRow.holds Try.pinned (OpenSpec.ofChange Rows.integerRestSpec) :=
  OpenClaim.holds_of_wide 8 Try.f8 rfl rfl rfl rfl rfl rfl rfl ⟨rfl, rfl, rfl, rfl, rfl⟩ rfl rfl rfl rfl rfl (by kernel_rfl) Try.func8 (by kernel_rfl)
    (of_decide_eq_true (by kernel_rfl)) (by unfold Func.isWrapper; first | (rw [if_pos (by decide +kernel)]; kernel_rfl) | (rw [if_neg (by decide +kernel)]; exact ⟨rfl, rfl⟩))
    (fun os started H enc _ => integerRest_lifted os started H enc)

theorem integerRest_holds : Rows.IntegerRestSaid := integerRest_over
#print axioms integerRest_holds
end Go.Proofs.Ytbapgkjkhdlngaa
