/- IntegerSmall: which integers are an int64, and which, as the document has it. No condition. -/
import Derived.Test.YtbapgkjkhdlngaaIC
import Derived.Test.YtbapgkjkhdlngaaIE
namespace Go.Proofs.Ytbapgkjkhdlngaa
open Go.ChangeShapes Go.WideShapes Go.ChangeAt Go.RowKit Nums
open Go.ChangeMaps (open_string shut_string)
set_option linter.unusedVariables false

set_option maxRecDepth 100000 in
set_option maxHeartbeats 8000000 in
theorem integerSmall_yes (s0 : Bool) (a0 : Option Addr) (n0 c0 : Nat) (xs : List Nat) (N : Int) (w : World) (r0 : Row w a0 n0 c0 xs) (b0 : n0 ≤ 10) (hAr : -9223372036854775808 ≤ sv s0 (val xs) ∧ sv s0 (val xs) < 9223372036854775808) (hN0 : -9223372036854775808 ≤ N) (hN1 : N < 9223372036854775808) :
    Calls Try.prog 6 #[.agg #[.bool s0, .slice a0 n0 c0], .int .i64 N] w fun e w' => e = .returned (.bool true) ∧ Below w.heap.size w w' := by
  obtain ⟨A, hA⟩ : ∃ A, sv s0 (val xs) = A := ⟨_, rfl⟩
  rw [hA] at hAr
  have AR := Lib.hid hAr; clear hAr
  have LN : Hid ((limbs N.natAbs).length ≤ 2) := limbs_len _ 2 (by
    have : (4294967296 : Nat) ^ 2 = 18446744073709551616 := by rfl
    omega)
  have N0 := Lib.hid hN0; clear hN0
  have N1 := Lib.hid hN1; clear hN1
  have VA := Lib.hid hA; clear hA
  have XA := Lib.hid (box_new w (.bool s0) (.slice a0 n0 c0))
  have HB := Lib.hid (below_one w (.cells #[.bool s0, .slice a0 n0 c0] 24))
  have RA := Lib.hid (r0.later HB.out); clear r0
  go_enter Try.func6, Try.ntmps6
  go_wp2_with fail
  refine (fewI_yes b0 b0).mono ?_
  rintro e w1 ⟨rfl, hb⟩
  replace RA := Lib.hid (RA.out.later hb)
  replace XA := Lib.hid (XA.out.later hb)
  replace HB := Lib.hid (bthen HB.out hb); clear hb
  obtain ⟨kXA0, kXA1, -, -, -⟩ := XA.out
  go_wp2_with fail
  refine (smallI_yes s0 a0 n0 c0 xs A _ RA.out (by omega) VA.out AR.out.1 AR.out.2).mono ?_
  rintro e w2 ⟨rfl, hb⟩
  replace RA := Lib.hid (RA.out.later hb)
  replace XA := Lib.hid (XA.out.later hb)
  replace HB := Lib.hid (bthen HB.out hb); clear hb
  clear kXA0 kXA1
  obtain ⟨kXA0, kXA1, -, -, -⟩ := XA.out
  go_wp2_with fail
  refine (rsmallI_yes s0 a0 n0 c0 xs A _ RA.out (by omega) VA.out AR.out.1 AR.out.2).mono ?_
  rintro e w3 ⟨rfl, hb⟩
  clear RA
  replace XA := Lib.hid (XA.out.later hb)
  replace HB := Lib.hid (bthen HB.out hb); clear hb
  clear kXA0 kXA1
  obtain ⟨kXA0, kXA1, -, -, -⟩ := XA.out
  clear kXA0 kXA1 XA
  go_wp2_with fail
  refine (ofI 2 N _ N0.out N1.out LN.out).mono ?_
  rintro e w4 ⟨ax, mx, cx, rfl, bx, hr, hb⟩
  have Rx := Lib.hid hr; clear hr
  replace HB := Lib.hid (bthen HB.out hb); clear hb
  go_wp2_with fail
  refine (smallI_yes _ _ _ _ _ N _ Rx.out (by omega) (sv_limbs N) N0.out N1.out).mono ?_
  rintro e w5 ⟨rfl, hb⟩
  clear Rx
  replace HB := Lib.hid (bthen HB.out hb); clear hb
  go_wp2_with fail
  refine (ofI 2 N _ N0.out N1.out LN.out).mono ?_
  rintro e w6 ⟨ap, mp, cp, rfl, bp, hr, hb⟩
  have Rp := Lib.hid hr; clear hr
  replace HB := Lib.hid (bthen HB.out hb); clear hb
  go_wp2_with fail
  refine (rofI 2 N _ N0.out N1.out LN.out).mono ?_
  rintro e w7 ⟨aq, mq, cq, rfl, bq, hr, hb⟩
  have Rq := Lib.hid hr; clear hr
  replace Rp := Lib.hid (Rp.out.later hb)
  replace HB := Lib.hid (bthen HB.out hb); clear hb
  go_wp2_with fail
  refine (sameZ Rp.out Rq.out rfl (by omega)).mono ?_
  rintro e w8 ⟨rfl, hb⟩
  clear Rp
  clear Rq
  replace HB := Lib.hid (bthen HB.out hb); clear hb
  go_wp2_with fail
  refine (awake_any _).mono ?_
  rintro e w9 ⟨rfl, hb⟩
  replace HB := Lib.hid (bthen HB.out hb); clear hb
  go_wp2
  go_ret
  exact ⟨rfl, HB.out⟩

set_option maxRecDepth 100000 in
set_option maxHeartbeats 8000000 in
theorem integerSmall_no (s0 : Bool) (a0 : Option Addr) (n0 c0 : Nat) (xs : List Nat) (N : Int) (w : World) (r0 : Row w a0 n0 c0 xs) (b0 : n0 ≤ 10) (hAr : ¬ (-9223372036854775808 ≤ sv s0 (val xs) ∧ sv s0 (val xs) < 9223372036854775808)) (hN0 : -9223372036854775808 ≤ N) (hN1 : N < 9223372036854775808) :
    Calls Try.prog 6 #[.agg #[.bool s0, .slice a0 n0 c0], .int .i64 N] w fun e w' => e = .returned (.bool true) ∧ Below w.heap.size w w' := by
  obtain ⟨A, hA⟩ : ∃ A, sv s0 (val xs) = A := ⟨_, rfl⟩
  rw [hA] at hAr
  have AR := Lib.hid hAr; clear hAr
  have LN : Hid ((limbs N.natAbs).length ≤ 2) := limbs_len _ 2 (by
    have : (4294967296 : Nat) ^ 2 = 18446744073709551616 := by rfl
    omega)
  have N0 := Lib.hid hN0; clear hN0
  have N1 := Lib.hid hN1; clear hN1
  have VA := Lib.hid hA; clear hA
  have XA := Lib.hid (box_new w (.bool s0) (.slice a0 n0 c0))
  have HB := Lib.hid (below_one w (.cells #[.bool s0, .slice a0 n0 c0] 24))
  have RA := Lib.hid (r0.later HB.out); clear r0
  go_enter Try.func6, Try.ntmps6
  go_wp2_with fail
  refine (fewI_yes b0 b0).mono ?_
  rintro e w1 ⟨rfl, hb⟩
  replace RA := Lib.hid (RA.out.later hb)
  replace XA := Lib.hid (XA.out.later hb)
  replace HB := Lib.hid (bthen HB.out hb); clear hb
  obtain ⟨kXA0, kXA1, -, -, -⟩ := XA.out
  go_wp2_with fail
  refine (smallI_no s0 a0 n0 c0 xs A _ RA.out (by omega) VA.out AR.out).mono ?_
  rintro e w2 ⟨rfl, hb⟩
  replace RA := Lib.hid (RA.out.later hb)
  replace XA := Lib.hid (XA.out.later hb)
  replace HB := Lib.hid (bthen HB.out hb); clear hb
  clear kXA0 kXA1
  obtain ⟨kXA0, kXA1, -, -, -⟩ := XA.out
  go_wp2_with fail
  refine (rsmallI_no s0 a0 n0 c0 xs A _ RA.out (by omega) VA.out AR.out).mono ?_
  rintro e w3 ⟨K, rfl, hb⟩
  clear RA
  replace XA := Lib.hid (XA.out.later hb)
  replace HB := Lib.hid (bthen HB.out hb); clear hb
  clear kXA0 kXA1
  obtain ⟨kXA0, kXA1, -, -, -⟩ := XA.out
  clear kXA0 kXA1 XA
  go_wp2_with fail
  refine (ofI 2 N _ N0.out N1.out LN.out).mono ?_
  rintro e w4 ⟨ax, mx, cx, rfl, bx, hr, hb⟩
  have Rx := Lib.hid hr; clear hr
  replace HB := Lib.hid (bthen HB.out hb); clear hb
  go_wp2_with fail
  refine (smallI_yes _ _ _ _ _ N _ Rx.out (by omega) (sv_limbs N) N0.out N1.out).mono ?_
  rintro e w5 ⟨rfl, hb⟩
  clear Rx
  replace HB := Lib.hid (bthen HB.out hb); clear hb
  go_wp2_with fail
  refine (ofI 2 N _ N0.out N1.out LN.out).mono ?_
  rintro e w6 ⟨ap, mp, cp, rfl, bp, hr, hb⟩
  have Rp := Lib.hid hr; clear hr
  replace HB := Lib.hid (bthen HB.out hb); clear hb
  go_wp2_with fail
  refine (rofI 2 N _ N0.out N1.out LN.out).mono ?_
  rintro e w7 ⟨aq, mq, cq, rfl, bq, hr, hb⟩
  have Rq := Lib.hid hr; clear hr
  replace Rp := Lib.hid (Rp.out.later hb)
  replace HB := Lib.hid (bthen HB.out hb); clear hb
  go_wp2_with fail
  refine (sameZ Rp.out Rq.out rfl (by omega)).mono ?_
  rintro e w8 ⟨rfl, hb⟩
  clear Rp
  clear Rq
  replace HB := Lib.hid (bthen HB.out hb); clear hb
  go_wp2_with fail
  refine (awake_any _).mono ?_
  rintro e w9 ⟨rfl, hb⟩
  replace HB := Lib.hid (bthen HB.out hb); clear hb
  go_wp2
  go_ret
  exact ⟨rfl, HB.out⟩

set_option maxHeartbeats 1000000 in
theorem integerSmall_out (s0 : Bool) (a0 : Option Addr) (n0 c0 : Nat) (N : Int) (w : World) (b0 : n0 ≤ maxLen) (h : ¬ n0 ≤ 10) :
    Calls Try.prog 6 #[.agg #[.bool s0, .slice a0 n0 c0], .int .i64 N] w fun e w' => e = .returned (.bool true) ∧ Below w.heap.size w w' := by
  have HB := Lib.hid (below_one w (.cells #[.bool s0, .slice a0 n0 c0] 24))
  have H : Hid (¬ (n0 ≤ 10 ∧ n0 ≤ 10)) := fun h2 => h h2.1
  clear h
  have B0 := Lib.hid b0; clear b0
  go_enter Try.func6, Try.ntmps6
  go_wp2_with fail
  refine (fewI_no B0.out B0.out H.out).mono ?_
  rintro e w' ⟨rfl, hb⟩
  replace HB := Lib.hid (bthen HB.out hb); clear hb
  go_wp2
  go_ret
  exact ⟨rfl, HB.out⟩

theorem integerSmall_walk (s0 : Bool) (a0 : Option Addr) (n0 c0 : Nat) (xs : List Nat) (N : Int) (w : World) (r0 : Row w a0 n0 c0 xs) (hN : (Lit.int .i64 N).wf = true) :
    Calls Try.prog 6 #[.agg #[.bool s0, .slice a0 n0 c0], .int .i64 N] w fun e w' => e = .returned (.bool true) ∧ Below w.heap.size w w' := by
  have hb : -9223372036854775808 ≤ N ∧ N < 9223372036854775808 := by
    simp only [Lit.wf, IntKind.min, IntKind.max, IntKind.signed, IntKind.bits, Bool.and_eq_true, decide_eq_true_eq, if_true] at hN
    omega
  by_cases h : n0 ≤ 10
  · by_cases hA : -9223372036854775808 ≤ sv s0 (val xs) ∧ sv s0 (val xs) < 9223372036854775808
    · exact integerSmall_yes s0 a0 n0 c0 xs N w r0 h hA hb.1 hb.2
    · exact integerSmall_no s0 a0 n0 c0 xs N w r0 h hA hb.1 hb.2
  · exact integerSmall_out s0 a0 n0 c0 N w r0.len_le h

set_option maxRecDepth 100000 in
theorem integerSmall_lifted (os : Os) (started : os.Started) (H : Type) (enc : TypeId × Value → H) :
    ReturnsInHanded {} Try.checked os 6 .any (Rows.integerSmallSpec.pre6 enc Try.prog Try.f6 Rows.integerSmallRow.domain false) (Rows.integerSmallSpec.post enc Try.prog Try.f6 false true false false) := by
  refine returnsInHanded_of_change (C := Try.checked) Try.ownKnob started (by kernel_rfl) Try.func6
    (ChangeSpec.witness6 (enc := enc) (C := Try.checked) false ⟨#[], #[.agg #[.bool false, .slice none 0 0], .int .i64 0], []⟩ 8 (by kernel_rfl) (by kernel_rfl) (by kernel_rfl) (by kernel_rfl)) ?_
  intro W base args ds gs before hval0 hW hcnd _
  have hval : ∀ (j : Nat) t v, Try.f6.params[j]? = some t → args[j]? = some v → Value.okWide Try.prog W .any base t v := hval0
  have hW' := hW
  obtain ⟨p, q, hA0, hV, rfl, hfz, hnd⟩ := hW
  have hA : DataW.TrodAll enc Try.prog W 0 (fun _ => true) true Try.f6.params.toList args.toList ds p := hA0
  rw [Try.params6] at hA hval
  obtain ⟨v0, vs0, d0, ds0, p0, q0, hargs, rfl, rfl, h0, r0⟩ := trodAll_cons hA
  obtain ⟨v1, vs1, d1, ds1, p1, q1, rfl, rfl, rfl, h1, r1⟩ := trodAll_cons r0
  obtain ⟨rfl, rfl, rfl⟩ := trodAll_nil r1
  obtain rfl : args = #[v0, v1] := by cases args; simp_all
  obtain ⟨rfl, rfl⟩ := trodVars_none hV
  have k0 := h0
  have lt0 : ∀ x ∈ p0, x.block < W.heap.size := by obtain ⟨m, hm⟩ := k0; exact DataW.trod_lt m _ _ _ hm
  obtain ⟨s0, a0, n0, c0, xs0, rfl, w0⟩ := int_of_trod (hval 0 24 v0 rfl rfl) h0
  have k1 := h1
  obtain ⟨a1, rfl, rfl, rfl, w1⟩ := open_int Try.underlying2 (hval 1 2 v1 rfl rfl) h1
  clear hA0 hval0
  refine (integerSmall_walk s0 a0 n0 c0 xs0 a1 W w0 w1).mono fun e W' ⟨he, bel⟩ => ?_
  subst he
  exact ⟨_, rfl, _, _, _, [], _, [], hW', trodAll_mk1 (shut_bool Try.underlying4 _), (trodAll_cons_mk (Below.trod Try.laidOut (by kernel_rfl) (of_decide_eq_true (by kernel_rfl)) k0 bel lt0) (trodAll_cons_mk (shut_int Try.underlying2 w1) trodAll_mk0)), rfl, bel.frame _, fun h => by cases h⟩

theorem integerSmall_over : Rows.integerSmallRow.holds Try.pinned (OpenSpec.ofChange Rows.integerSmallSpec) :=
  OpenClaim.holds_of_wide 6 Try.f6 rfl rfl rfl rfl rfl rfl rfl ⟨rfl, rfl, rfl, rfl, rfl⟩ rfl rfl rfl rfl rfl (by kernel_rfl) Try.func6 (by kernel_rfl)
    (of_decide_eq_true (by kernel_rfl)) (by unfold Func.isWrapper; first | (rw [if_pos (by decide +kernel)]; kernel_rfl) | (rw [if_neg (by decide +kernel)]; exact ⟨rfl, rfl⟩))
    (fun os started H enc _ => integerSmall_lifted os started H enc)

theorem integerSmall_holds : Rows.IntegerSmallSaid := integerSmall_over
#print axioms integerSmall_holds
end Go.Proofs.Ytbapgkjkhdlngaa
