/- IntegerTexts, where the text says an integer. -/
import Derived.Test.YtbapgkjkhdlngaaIC
import Derived.Test.YtbapgkjkhdlngaaIG
namespace Go.Proofs.Ytbapgkjkhdlngaa
open Go.RowKit Nums

theorem numOf_lt (l : List UInt8) (h : Digs l) : numOf l < 10 ^ l.length := by
  rw [← dval_reverse]
  have hd : Digs l.reverse := fun c hc => h c (List.mem_reverse.1 hc)
  have hl : l.reverse.length = l.length := by simp
  rw [← hl]
  generalize l.reverse = r at hd
  induction r with
  | nil => simp [dval]
  | cons c r ih =>
    have h2 := digs_cons.1 hd
    have := ih h2.2
    simp only [dval, List.length_cons, Nat.pow_succ]
    omega

theorem pow_room (n m : Nat) (h0 : 0 < m) (h : n ≤ 6 * m) : (10 : Nat) ^ n < 4294967296 ^ m := by
  have h1 : (10 : Nat) ^ n ≤ 10 ^ (6 * m) := Nat.pow_le_pow_right (by omega) h
  rw [Nat.pow_mul] at h1
  exact Nat.lt_of_le_of_lt h1 (Nat.pow_lt_pow_left (by omega) (by omega))

theorem len_numOf (s : ByteArray) (hd : allDig s) (hl : s.size ≤ 300) : (limbs (numOf s.data.toList)).length ≤ 50 := by
  apply limbs_len
  have h1 := numOf_lt _ (digs_list s hd)
  have h2 : s.data.toList.length ≤ 300 := by simpa using hl
  have h3 := pow_room s.data.toList.length 50 (by omega) (by omega)
  exact Nat.lt_trans h1 h3

theorem signed_dec (A : Int) : Signed (decI A) (decide (A < 0)) (decStr A.natAbs) := by
  by_cases h : A < 0
  · refine Or.inl ⟨by simpa using h, ?_⟩
    rw [decI, if_pos h, ByteArray.data_append, Array.toList_append]
    rfl
  · refine Or.inr ⟨by simpa using h, by rw [decI, if_neg h], ?_⟩
    rw [decI, if_neg h]
    intro e
    have hd := digs_list _ (allDig_dec A.natAbs)
    have hm := List.mem_of_mem_head? (Option.mem_def.2 e)
    have := hd _ hm
    exact absurd this.1 (by decide)

theorem dec_room {w : World} {a : Option Addr} {n c : Nat} {xs : List Nat} {s : Bool} {A : Int} (h : Row w a n c xs) (hn : n ≤ 10) (hA : sv s (val xs) = A) : (decStr A.natAbs).size ≤ 116 := by
  have hp := val_pow (k := 12) h (by omega)
  have e : A.natAbs = val xs := by rw [← hA, natAbs_sv]
  rw [e]
  exact size_dec_le _ 116 (by omega) (Nat.lt_trans hp (by decide))

set_option maxRecDepth 100000 in
set_option maxHeartbeats 16000000 in
theorem integerTexts_ok (s0 : Bool) (a0 : Option Addr) (n0 c0 : Nat) (xs : List Nat) (s : ByteArray) (w : World) (r0 : Row w a0 n0 c0 xs) (b0 : n0 ≤ 10) (hs : s.size ≤ 400) (neg : Bool) (t : ByteArray) (hsg : Signed s neg t) (hd : allDig t) (ht : t.size ≤ 300) (ht0 : 0 < t.size) :
    Calls Try.prog 5 #[.agg #[.bool s0, .slice a0 n0 c0], .string s] w fun e w' => e = .returned (.bool true) ∧ Below w.heap.size w w' := by
  obtain ⟨A, hA⟩ : ∃ A, sv s0 (val xs) = A := ⟨_, rfl⟩
  have LA := Lib.hid (lenZ_raw r0 b0 hA)
  have DA := Lib.hid (dec_room r0 b0 hA)
  have DV : Hid ((decStr (val xs)).size ≤ 1000) := by
    have e : A.natAbs = val xs := by rw [← hA, natAbs_sv]
    show _ ≤ _
    rw [← e]; exact Nat.le_trans DA.out (by omega)
  have DR : Hid ((decStr A.natAbs).size ≤ 1000) := Nat.le_trans DA.out (by omega)
  have SG := signed_dec A
  obtain ⟨T, hT⟩ : ∃ T, decI A = T := ⟨_, rfl⟩
  rw [hT] at SG
  have SGT := Lib.hid SG; clear SG
  have ET := Lib.hid hT; clear hT
  have HSG := Lib.hid hsg; clear hsg
  obtain ⟨N, hN⟩ : ∃ N, numOf t.data.toList = N := ⟨_, rfl⟩
  have LN : Hid ((limbs N).length ≤ 50) := by show _ ≤ _; rw [← hN]; exact len_numOf t hd ht
  have HN := Lib.hid hN; clear hN
  obtain ⟨Z, hZ⟩ : ∃ Z, sv neg N = Z := ⟨_, rfl⟩
  have HZ := Lib.hid hZ; clear hZ
  have HD := Lib.hid hd; clear hd
  have HT3 := Lib.hid ht; clear ht
  have HT0 := Lib.hid ht0; clear ht0
  have VA := Lib.hid hA; clear hA
  have XA := Lib.hid (box_new w (.bool s0) (.slice a0 n0 c0))
  have HB := Lib.hid (below_one w (.cells #[.bool s0, .slice a0 n0 c0] 24))
  have RA := Lib.hid (r0.later HB.out); clear r0
  go_enter Try.func5, Try.ntmps5
  go_wp2_with fail
  refine (fewI_yes b0 b0).mono ?_
  rintro e w1 ⟨rfl, hb⟩
  replace RA := Lib.hid (RA.out.later hb)
  replace XA := Lib.hid (XA.out.later hb)
  replace HB := Lib.hid (bthen HB.out hb); clear hb
  obtain ⟨kXA0, kXA1, -, -, -⟩ := XA.out
  go_wp2_with fail
  refine (parseI_ok 50 Z s t neg N _ HSG.out HT3.out HT0.out HD.out HN.out HZ.out LN.out).mono ?_
  rintro e w2 ⟨ax, mx, cx, rfl, bx, hr, hb⟩
  have hb2 := below_one w2 (.cells #[.bool (decide (Z < 0)), .slice ax mx cx] 24)
  replace RA := Lib.hid ((RA.out.later hb).later hb2)
  replace XA := Lib.hid ((XA.out.later hb).later hb2)
  replace HB := Lib.hid (bthen (bthen HB.out hb) hb2)
  have Rx := Lib.hid (hr.later hb2); clear hr
  clear hb hb2
  have Xx := Lib.hid (box_new w2 (.bool (decide (Z < 0))) (.slice ax mx cx))
  clear kXA0 kXA1
  obtain ⟨kXA0, kXA1, -, -, -⟩ := XA.out
  obtain ⟨kXx0, kXx1, -, -, -⟩ := Xx.out
  go_wp2_with fail
  refine (rparseI_ok 50 Z s t neg N _ HSG.out HT3.out HT0.out HD.out HN.out HZ.out LN.out (by omega)).mono ?_
  rintro e w3 ⟨av, mv, cv, rfl, bv, hr, hb⟩
  have hb2 := below_one w3 (.cells #[.bool (decide (Z < 0)), .slice av mv cv] 24)
  replace RA := Lib.hid ((RA.out.later hb).later hb2)
  replace Rx := Lib.hid ((Rx.out.later hb).later hb2)
  replace XA := Lib.hid ((XA.out.later hb).later hb2)
  replace Xx := Lib.hid ((Xx.out.later hb).later hb2)
  replace HB := Lib.hid (bthen (bthen HB.out hb) hb2)
  have Rv := Lib.hid (hr.later hb2); clear hr
  clear hb hb2
  have Xv := Lib.hid (box_new w3 (.bool (decide (Z < 0))) (.slice av mv cv))
  clear kXA0 kXA1 kXx0 kXx1
  obtain ⟨kXA0, kXA1, -, -, -⟩ := XA.out
  obtain ⟨kXx0, kXx1, -, -, -⟩ := Xx.out
  obtain ⟨kXv0, kXv1, -, -, -⟩ := Xv.out
  go_wp2_with fail
  refine (printI T A s0 a0 n0 c0 xs _ RA.out (by omega) VA.out ET.out DV.out).mono ?_
  rintro e w4 ⟨rfl, hb⟩
  replace RA := Lib.hid (RA.out.later hb)
  replace Rx := Lib.hid (Rx.out.later hb)
  replace Rv := Lib.hid (Rv.out.later hb)
  replace XA := Lib.hid (XA.out.later hb)
  replace Xx := Lib.hid (Xx.out.later hb)
  replace Xv := Lib.hid (Xv.out.later hb)
  replace HB := Lib.hid (bthen HB.out hb); clear hb
  clear kXA0 kXA1 kXx0 kXx1 kXv0 kXv1
  obtain ⟨kXA0, kXA1, -, -, -⟩ := XA.out
  obtain ⟨kXx0, kXx1, -, -, -⟩ := Xx.out
  obtain ⟨kXv0, kXv1, -, -, -⟩ := Xv.out
  go_wp2_with fail
  refine (parseI_ok 10 A T (decStr A.natAbs) (decide (A < 0)) A.natAbs _ SGT.out (Nat.le_trans DA.out (by omega)) (size_dec_pos _) (allDig_dec _) (numOf_dec _) (sv_told A) LA.out).mono ?_
  rintro e w5 ⟨az, mz, cz, rfl, bz, hr, hb⟩
  have hb2 := below_one w5 (.cells #[.bool (decide (A < 0)), .slice az mz cz] 24)
  replace RA := Lib.hid ((RA.out.later hb).later hb2)
  replace Rx := Lib.hid ((Rx.out.later hb).later hb2)
  replace Rv := Lib.hid ((Rv.out.later hb).later hb2)
  replace XA := Lib.hid ((XA.out.later hb).later hb2)
  replace Xx := Lib.hid ((Xx.out.later hb).later hb2)
  replace Xv := Lib.hid ((Xv.out.later hb).later hb2)
  replace HB := Lib.hid (bthen (bthen HB.out hb) hb2)
  have Rz := Lib.hid (hr.later hb2); clear hr
  clear hb hb2
  have Xz := Lib.hid (box_new w5 (.bool (decide (A < 0))) (.slice az mz cz))
  clear kXA0 kXA1 kXx0 kXx1 kXv0 kXv1
  obtain ⟨kXA0, kXA1, -, -, -⟩ := XA.out
  obtain ⟨kXx0, kXx1, -, -, -⟩ := Xx.out
  obtain ⟨kXv0, kXv1, -, -, -⟩ := Xv.out
  obtain ⟨kXz0, kXz1, -, -, -⟩ := Xz.out
  go_wp2_with fail
  clear kXA0 kXA1 kXx0 kXx1 kXv0 kXv1 kXz0 kXz1
  replace RA := Lib.hid RA.out.drew
  replace Rx := Lib.hid Rx.out.drew
  replace Rv := Lib.hid Rv.out.drew
  replace Rz := Lib.hid Rz.out.drew
  replace XA := Lib.hid XA.out.drew
  replace Xx := Lib.hid Xx.out.drew
  replace Xv := Lib.hid Xv.out.drew
  replace Xz := Lib.hid Xz.out.drew
  replace HB := Lib.hid HB.out.drew
  obtain ⟨kXA0, kXA1, -, -, -⟩ := XA.out
  obtain ⟨kXx0, kXx1, -, -, -⟩ := Xx.out
  obtain ⟨kXv0, kXv1, -, -, -⟩ := Xv.out
  obtain ⟨kXz0, kXz1, -, -, -⟩ := Xz.out
  go_region_held3 (fun w' => w'.cell? ⟨w.heap.size, 0, none⟩ = some (.bool s0) ∧ w'.cell? ⟨w.heap.size, 1, none⟩ = some (.slice a0 n0 c0) ∧ w'.cell? ⟨w2.heap.size, 0, none⟩ = some (.bool (decide (Z < 0))) ∧ w'.cell? ⟨w2.heap.size, 1, none⟩ = some (.slice ax mx cx) ∧ w'.cell? ⟨w3.heap.size, 0, none⟩ = some (.bool (decide (Z < 0))) ∧ w'.cell? ⟨w3.heap.size, 1, none⟩ = some (.slice av mv cv) ∧ w'.cell? ⟨w5.heap.size, 0, none⟩ = some (.bool (decide (A < 0))) ∧ w'.cell? ⟨w5.heap.size, 1, none⟩ = some (.slice az mz cz))
    (first | (refine ⟨?_, ?_, ?_, ?_, ?_, ?_, ?_, ?_⟩ <;> assumption) | (go_keep; done))
    (first
      | (have mk := G5; clear mk
         rw [if_pos (by rfl)]
         go_simp
         go_at_call 26
         refine (awake_any _).mono ?_
         rintro e w6 ⟨rfl, hb⟩
         replace XA := Lib.hid (XA.out.later hb)
         replace Xx := Lib.hid (Xx.out.later hb)
         replace Xv := Lib.hid (Xv.out.later hb)
         replace Xz := Lib.hid (Xz.out.later hb)
         clear kXA0 kXA1 kXx0 kXx1 kXv0 kXv1 kXz0 kXz1
         obtain ⟨kXA0, kXA1, -, -, -⟩ := XA.out
         obtain ⟨kXx0, kXx1, -, -, -⟩ := Xx.out
         obtain ⟨kXv0, kXv1, -, -, -⟩ := Xv.out
         obtain ⟨kXz0, kXz1, -, -, -⟩ := Xz.out
         replace HB := Lib.hid (bthen HB.out hb); clear hb
         have G6 : Hid True := trivial
         try go_wp2_with fail)
      | (have mk := G4; clear mk
         rw [if_pos (by rfl)]
         go_simp
         go_at_call 11
         refine (sameZ Rz.out Rn.out rfl (by omega)).mono ?_
         rintro e w5 ⟨rfl, hb⟩
         clear Rz
         clear Rn
         clear RA
         replace XA := Lib.hid (XA.out.later hb)
         replace Xx := Lib.hid (Xx.out.later hb)
         replace Xv := Lib.hid (Xv.out.later hb)
         replace Xz := Lib.hid (Xz.out.later hb)
         clear kXA0 kXA1 kXx0 kXx1 kXv0 kXv1 kXz0 kXz1
         obtain ⟨kXA0, kXA1, -, -, -⟩ := XA.out
         obtain ⟨kXx0, kXx1, -, -, -⟩ := Xx.out
         obtain ⟨kXv0, kXv1, -, -, -⟩ := Xv.out
         obtain ⟨kXz0, kXz1, -, -, -⟩ := Xz.out
         replace HB := Lib.hid (bthen HB.out hb); clear hb
         have G5 : Hid True := trivial
         try go_wp2_with fail)
      | (have mk := G3; clear mk
         rw [if_pos (by rfl)]
         go_simp
         go_at_call 12
         refine (normI 10 A RA.out VA.out (by omega) LA.out).mono ?_
         rintro e w4 ⟨an, mn, cn, rfl, bn, hr, hb⟩
         have Rn := Lib.hid hr; clear hr
         replace RA := Lib.hid (RA.out.later hb)
         replace Rz := Lib.hid (Rz.out.later hb)
         replace XA := Lib.hid (XA.out.later hb)
         replace Xx := Lib.hid (Xx.out.later hb)
         replace Xv := Lib.hid (Xv.out.later hb)
         replace Xz := Lib.hid (Xz.out.later hb)
         clear kXA0 kXA1 kXx0 kXx1 kXv0 kXv1 kXz0 kXz1
         obtain ⟨kXA0, kXA1, -, -, -⟩ := XA.out
         obtain ⟨kXx0, kXx1, -, -, -⟩ := Xx.out
         obtain ⟨kXv0, kXv1, -, -, -⟩ := Xv.out
         obtain ⟨kXz0, kXz1, -, -, -⟩ := Xz.out
         replace HB := Lib.hid (bthen HB.out hb); clear hb
         have G4 : Hid True := trivial
         try go_wp2_with fail)
      | (have mk := G2; clear mk
         rw [if_pos (by rfl)]
         go_simp
         go_at_call 11
         refine (sameZ Rx.out Rv.out rfl (by omega)).mono ?_
         rintro e w3 ⟨rfl, hb⟩
         clear Rx
         clear Rv
         replace RA := Lib.hid (RA.out.later hb)
         replace Rz := Lib.hid (Rz.out.later hb)
         replace XA := Lib.hid (XA.out.later hb)
         replace Xx := Lib.hid (Xx.out.later hb)
         replace Xv := Lib.hid (Xv.out.later hb)
         replace Xz := Lib.hid (Xz.out.later hb)
         clear kXA0 kXA1 kXx0 kXx1 kXv0 kXv1 kXz0 kXz1
         obtain ⟨kXA0, kXA1, -, -, -⟩ := XA.out
         obtain ⟨kXx0, kXx1, -, -, -⟩ := Xx.out
         obtain ⟨kXv0, kXv1, -, -, -⟩ := Xv.out
         obtain ⟨kXz0, kXz1, -, -, -⟩ := Xz.out
         replace HB := Lib.hid (bthen HB.out hb); clear hb
         have G3 : Hid True := trivial
         try go_wp2_with fail)
      | (have mk := G1; clear mk
         rw [if_pos (by rfl)]
         go_simp
         go_at_call 32
         refine (rprintI T A s0 a0 n0 c0 xs _ RA.out (by omega) VA.out ET.out DR.out).mono ?_
         rintro e w2 ⟨rfl, hb⟩
         replace RA := Lib.hid (RA.out.later hb)
         replace Rx := Lib.hid (Rx.out.later hb)
         replace Rv := Lib.hid (Rv.out.later hb)
         replace Rz := Lib.hid (Rz.out.later hb)
         replace XA := Lib.hid (XA.out.later hb)
         replace Xx := Lib.hid (Xx.out.later hb)
         replace Xv := Lib.hid (Xv.out.later hb)
         replace Xz := Lib.hid (Xz.out.later hb)
         clear kXA0 kXA1 kXx0 kXx1 kXv0 kXv1 kXz0 kXz1
         obtain ⟨kXA0, kXA1, -, -, -⟩ := XA.out
         obtain ⟨kXx0, kXx1, -, -, -⟩ := Xx.out
         obtain ⟨kXv0, kXv1, -, -, -⟩ := Xv.out
         obtain ⟨kXz0, kXz1, -, -, -⟩ := Xz.out
         replace HB := Lib.hid (bthen HB.out hb); clear hb
         have G2 : Hid True := trivial
         try go_wp2_with fail)
      | (skip
         rw [if_pos (by rfl)]
         go_simp
         go_at_call 31
         refine (printI T A s0 a0 n0 c0 xs _ RA.out (by omega) VA.out ET.out DV.out).mono ?_
         rintro e w1 ⟨rfl, hb⟩
         replace RA := Lib.hid (RA.out.later hb)
         replace Rx := Lib.hid (Rx.out.later hb)
         replace Rv := Lib.hid (Rv.out.later hb)
         replace Rz := Lib.hid (Rz.out.later hb)
         replace XA := Lib.hid (XA.out.later hb)
         replace Xx := Lib.hid (Xx.out.later hb)
         replace Xv := Lib.hid (Xv.out.later hb)
         replace Xz := Lib.hid (Xz.out.later hb)
         clear kXA0 kXA1 kXx0 kXx1 kXv0 kXv1 kXz0 kXz1
         obtain ⟨kXA0, kXA1, -, -, -⟩ := XA.out
         obtain ⟨kXx0, kXx1, -, -, -⟩ := Xx.out
         obtain ⟨kXv0, kXv1, -, -, -⟩ := Xv.out
         obtain ⟨kXz0, kXz1, -, -, -⟩ := Xz.out
         replace HB := Lib.hid (bthen HB.out hb); clear hb
         have G1 : Hid True := trivial
         try go_wp2_with fail))
  go_wp2
  go_ret
  exact ⟨rfl, HB.out⟩

end Go.Proofs.Ytbapgkjkhdlngaa
/- IntegerTexts, where the text says none. -/
namespace Go.Proofs.Ytbapgkjkhdlngaa
open Go.RowKit Nums

set_option maxRecDepth 100000 in
set_option maxHeartbeats 16000000 in
theorem integerTexts_err (s0 : Bool) (a0 : Option Addr) (n0 c0 : Nat) (xs : List Nat) (s : ByteArray) (w : World) (r0 : Row w a0 n0 c0 xs) (b0 : n0 ≤ 10) (hs : s.size ≤ 400) (neg : Bool) (t : ByteArray) (hsg : Signed s neg t) (E : Int) (hE : (E != 0) = true) (hp : ∀ w, Calls Try.prog 55 #[.string t] w fun e w' => e = .returned (.tuple #[.slice none 0 0, .int .i64 E]) ∧ w = w') (hq : ∀ w, Calls Try.prog 56 #[.string t] w fun e w' => e = .returned (.tuple #[.slice none 0 0, .int .i64 E]) ∧ w = w') :
    Calls Try.prog 5 #[.agg #[.bool s0, .slice a0 n0 c0], .string s] w fun e w' => e = .returned (.bool true) ∧ Below w.heap.size w w' := by
  obtain ⟨A, hA⟩ : ∃ A, sv s0 (val xs) = A := ⟨_, rfl⟩
  have LA := Lib.hid (lenZ_raw r0 b0 hA)
  have DA := Lib.hid (dec_room r0 b0 hA)
  have DV : Hid ((decStr (val xs)).size ≤ 1000) := by
    have e : A.natAbs = val xs := by rw [← hA, natAbs_sv]
    show _ ≤ _
    rw [← e]; exact Nat.le_trans DA.out (by omega)
  have DR : Hid ((decStr A.natAbs).size ≤ 1000) := Nat.le_trans DA.out (by omega)
  have SG := signed_dec A
  obtain ⟨T, hT⟩ : ∃ T, decI A = T := ⟨_, rfl⟩
  rw [hT] at SG
  have SGT := Lib.hid SG; clear SG
  have ET := Lib.hid hT; clear hT
  have HSG := Lib.hid hsg; clear hsg
  have HP := Lib.hid hp; clear hp
  have HQ := Lib.hid hq; clear hq
  have VA := Lib.hid hA; clear hA
  have XA := Lib.hid (box_new w (.bool s0) (.slice a0 n0 c0))
  have HB := Lib.hid (below_one w (.cells #[.bool s0, .slice a0 n0 c0] 24))
  have RA := Lib.hid (r0.later HB.out); clear r0
  go_enter Try.func5, Try.ntmps5
  go_wp2_with fail
  refine (fewI_yes b0 b0).mono ?_
  rintro e w1 ⟨rfl, hb⟩
  replace RA := Lib.hid (RA.out.later hb)
  replace XA := Lib.hid (XA.out.later hb)
  replace HB := Lib.hid (bthen HB.out hb); clear hb
  obtain ⟨kXA0, kXA1, -, -, -⟩ := XA.out
  go_wp2_with fail
  refine (parseI_err E s t neg _ HSG.out hE HP.out).mono ?_
  rintro e w2 ⟨rfl, hb⟩
  have hb2 := below_one w2 (.cells #[.bool false, .slice none 0 0] 24)
  replace RA := Lib.hid ((RA.out.later hb).later hb2)
  replace XA := Lib.hid ((XA.out.later hb).later hb2)
  replace HB := Lib.hid (bthen (bthen HB.out hb) hb2)
  clear hb hb2
  have Xx := Lib.hid (box_new w2 (.bool false) (.slice none 0 0))
  clear kXA0 kXA1
  obtain ⟨kXA0, kXA1, -, -, -⟩ := XA.out
  obtain ⟨kXx0, kXx1, -, -, -⟩ := Xx.out
  go_wp2_with fail
  refine (rparseI_err E s t neg _ HSG.out hE HQ.out).mono ?_
  rintro e w3 ⟨rfl, hb⟩
  have hb2 := below_one w3 (.cells #[.bool false, .slice none 0 0] 24)
  replace RA := Lib.hid ((RA.out.later hb).later hb2)
  replace XA := Lib.hid ((XA.out.later hb).later hb2)
  replace Xx := Lib.hid ((Xx.out.later hb).later hb2)
  replace HB := Lib.hid (bthen (bthen HB.out hb) hb2)
  clear hb hb2
  have Xv := Lib.hid (box_new w3 (.bool false) (.slice none 0 0))
  clear kXA0 kXA1 kXx0 kXx1
  obtain ⟨kXA0, kXA1, -, -, -⟩ := XA.out
  obtain ⟨kXx0, kXx1, -, -, -⟩ := Xx.out
  obtain ⟨kXv0, kXv1, -, -, -⟩ := Xv.out
  go_wp2_with fail
  refine (printI T A s0 a0 n0 c0 xs _ RA.out (by omega) VA.out ET.out DV.out).mono ?_
  rintro e w4 ⟨rfl, hb⟩
  replace RA := Lib.hid (RA.out.later hb)
  replace XA := Lib.hid (XA.out.later hb)
  replace Xx := Lib.hid (Xx.out.later hb)
  replace Xv := Lib.hid (Xv.out.later hb)
  replace HB := Lib.hid (bthen HB.out hb); clear hb
  clear kXA0 kXA1 kXx0 kXx1 kXv0 kXv1
  obtain ⟨kXA0, kXA1, -, -, -⟩ := XA.out
  obtain ⟨kXx0, kXx1, -, -, -⟩ := Xx.out
  obtain ⟨kXv0, kXv1, -, -, -⟩ := Xv.out
  go_wp2_with fail
  refine (parseI_ok 10 A T (decStr A.natAbs) (decide (A < 0)) A.natAbs _ SGT.out (Nat.le_trans DA.out (by omega)) (size_dec_pos _) (allDig_dec _) (numOf_dec _) (sv_told A) LA.out).mono ?_
  rintro e w5 ⟨az, mz, cz, rfl, bz, hr, hb⟩
  have hb2 := below_one w5 (.cells #[.bool (decide (A < 0)), .slice az mz cz] 24)
  replace RA := Lib.hid ((RA.out.later hb).later hb2)
  replace XA := Lib.hid ((XA.out.later hb).later hb2)
  replace Xx := Lib.hid ((Xx.out.later hb).later hb2)
  replace Xv := Lib.hid ((Xv.out.later hb).later hb2)
  replace HB := Lib.hid (bthen (bthen HB.out hb) hb2)
  have Rz := Lib.hid (hr.later hb2); clear hr
  clear hb hb2
  have Xz := Lib.hid (box_new w5 (.bool (decide (A < 0))) (.slice az mz cz))
  clear kXA0 kXA1 kXx0 kXx1 kXv0 kXv1
  obtain ⟨kXA0, kXA1, -, -, -⟩ := XA.out
  obtain ⟨kXx0, kXx1, -, -, -⟩ := Xx.out
  obtain ⟨kXv0, kXv1, -, -, -⟩ := Xv.out
  obtain ⟨kXz0, kXz1, -, -, -⟩ := Xz.out
  go_wp2_with fail
  clear kXA0 kXA1 kXx0 kXx1 kXv0 kXv1 kXz0 kXz1
  replace RA := Lib.hid RA.out.drew
  replace Rz := Lib.hid Rz.out.drew
  replace XA := Lib.hid XA.out.drew
  replace Xx := Lib.hid Xx.out.drew
  replace Xv := Lib.hid Xv.out.drew
  replace Xz := Lib.hid Xz.out.drew
  replace HB := Lib.hid HB.out.drew
  obtain ⟨kXA0, kXA1, -, -, -⟩ := XA.out
  obtain ⟨kXx0, kXx1, -, -, -⟩ := Xx.out
  obtain ⟨kXv0, kXv1, -, -, -⟩ := Xv.out
  obtain ⟨kXz0, kXz1, -, -, -⟩ := Xz.out
  go_region_held3 (fun w' => w'.cell? ⟨w.heap.size, 0, none⟩ = some (.bool s0) ∧ w'.cell? ⟨w.heap.size, 1, none⟩ = some (.slice a0 n0 c0) ∧ w'.cell? ⟨w2.heap.size, 0, none⟩ = some (.bool false) ∧ w'.cell? ⟨w2.heap.size, 1, none⟩ = some (.slice none 0 0) ∧ w'.cell? ⟨w3.heap.size, 0, none⟩ = some (.bool false) ∧ w'.cell? ⟨w3.heap.size, 1, none⟩ = some (.slice none 0 0) ∧ w'.cell? ⟨w5.heap.size, 0, none⟩ = some (.bool (decide (A < 0))) ∧ w'.cell? ⟨w5.heap.size, 1, none⟩ = some (.slice az mz cz))
    (first | (refine ⟨?_, ?_, ?_, ?_, ?_, ?_, ?_, ?_⟩ <;> assumption) | (go_keep; done))
    (first
      | (have mk := G5; clear mk
         rw [if_pos (by rfl)]
         go_simp
         go_at_call 26
         refine (awake_any _).mono ?_
         rintro e w6 ⟨rfl, hb⟩
         replace XA := Lib.hid (XA.out.later hb)
         replace Xx := Lib.hid (Xx.out.later hb)
         replace Xv := Lib.hid (Xv.out.later hb)
         replace Xz := Lib.hid (Xz.out.later hb)
         clear kXA0 kXA1 kXx0 kXx1 kXv0 kXv1 kXz0 kXz1
         obtain ⟨kXA0, kXA1, -, -, -⟩ := XA.out
         obtain ⟨kXx0, kXx1, -, -, -⟩ := Xx.out
         obtain ⟨kXv0, kXv1, -, -, -⟩ := Xv.out
         obtain ⟨kXz0, kXz1, -, -, -⟩ := Xz.out
         replace HB := Lib.hid (bthen HB.out hb); clear hb
         have G6 : Hid True := trivial
         try go_wp2_with fail)
      | (have mk := G4; clear mk
         rw [if_pos (by rfl)]
         go_simp
         go_at_call 11
         refine (sameZ Rz.out Rn.out rfl (by omega)).mono ?_
         rintro e w5 ⟨rfl, hb⟩
         clear Rz
         clear Rn
         clear RA
         replace XA := Lib.hid (XA.out.later hb)
         replace Xx := Lib.hid (Xx.out.later hb)
         replace Xv := Lib.hid (Xv.out.later hb)
         replace Xz := Lib.hid (Xz.out.later hb)
         clear kXA0 kXA1 kXx0 kXx1 kXv0 kXv1 kXz0 kXz1
         obtain ⟨kXA0, kXA1, -, -, -⟩ := XA.out
         obtain ⟨kXx0, kXx1, -, -, -⟩ := Xx.out
         obtain ⟨kXv0, kXv1, -, -, -⟩ := Xv.out
         obtain ⟨kXz0, kXz1, -, -, -⟩ := Xz.out
         replace HB := Lib.hid (bthen HB.out hb); clear hb
         have G5 : Hid True := trivial
         try go_wp2_with fail)
      | (have mk := G3; clear mk
         rw [if_pos (by rfl)]
         go_simp
         go_at_call 12
         refine (normI 10 A RA.out VA.out (by omega) LA.out).mono ?_
         rintro e w4 ⟨an, mn, cn, rfl, bn, hr, hb⟩
         have Rn := Lib.hid hr; clear hr
         replace RA := Lib.hid (RA.out.later hb)
         replace Rz := Lib.hid (Rz.out.later hb)
         replace XA := Lib.hid (XA.out.later hb)
         replace Xx := Lib.hid (Xx.out.later hb)
         replace Xv := Lib.hid (Xv.out.later hb)
         replace Xz := Lib.hid (Xz.out.later hb)
         clear kXA0 kXA1 kXx0 kXx1 kXv0 kXv1 kXz0 kXz1
         obtain ⟨kXA0, kXA1, -, -, -⟩ := XA.out
         obtain ⟨kXx0, kXx1, -, -, -⟩ := Xx.out
         obtain ⟨kXv0, kXv1, -, -, -⟩ := Xv.out
         obtain ⟨kXz0, kXz1, -, -, -⟩ := Xz.out
         replace HB := Lib.hid (bthen HB.out hb); clear hb
         have G4 : Hid True := trivial
         try go_wp2_with fail)
      | (have mk := G2; clear mk
         rw [if_pos (by rfl)]
         go_simp
         go_at_call 11
         refine (sameI (row_nil _) (row_nil _) rfl rfl (by omega)).mono ?_
         rintro e w3 ⟨rfl, hb⟩
         replace RA := Lib.hid (RA.out.later hb)
         replace Rz := Lib.hid (Rz.out.later hb)
         replace XA := Lib.hid (XA.out.later hb)
         replace Xx := Lib.hid (Xx.out.later hb)
         replace Xv := Lib.hid (Xv.out.later hb)
         replace Xz := Lib.hid (Xz.out.later hb)
         clear kXA0 kXA1 kXx0 kXx1 kXv0 kXv1 kXz0 kXz1
         obtain ⟨kXA0, kXA1, -, -, -⟩ := XA.out
         obtain ⟨kXx0, kXx1, -, -, -⟩ := Xx.out
         obtain ⟨kXv0, kXv1, -, -, -⟩ := Xv.out
         obtain ⟨kXz0, kXz1, -, -, -⟩ := Xz.out
         replace HB := Lib.hid (bthen HB.out hb); clear hb
         have G3 : Hid True := trivial
         try go_wp2_with fail)
      | (have mk := G1; clear mk
         rw [if_pos (by rfl)]
         go_simp
         go_at_call 32
         refine (rprintI T A s0 a0 n0 c0 xs _ RA.out (by omega) VA.out ET.out DR.out).mono ?_
         rintro e w2 ⟨rfl, hb⟩
         replace RA := Lib.hid (RA.out.later hb)
         replace Rz := Lib.hid (Rz.out.later hb)
         replace XA := Lib.hid (XA.out.later hb)
         replace Xx := Lib.hid (Xx.out.later hb)
         replace Xv := Lib.hid (Xv.out.later hb)
         replace Xz := Lib.hid (Xz.out.later hb)
         clear kXA0 kXA1 kXx0 kXx1 kXv0 kXv1 kXz0 kXz1
         obtain ⟨kXA0, kXA1, -, -, -⟩ := XA.out
         obtain ⟨kXx0, kXx1, -, -, -⟩ := Xx.out
         obtain ⟨kXv0, kXv1, -, -, -⟩ := Xv.out
         obtain ⟨kXz0, kXz1, -, -, -⟩ := Xz.out
         replace HB := Lib.hid (bthen HB.out hb); clear hb
         have G2 : Hid True := trivial
         try go_wp2_with fail)
      | (skip
         rw [if_pos (by rfl)]
         go_simp
         go_at_call 31
         refine (printI T A s0 a0 n0 c0 xs _ RA.out (by omega) VA.out ET.out DV.out).mono ?_
         rintro e w1 ⟨rfl, hb⟩
         replace RA := Lib.hid (RA.out.later hb)
         replace Rz := Lib.hid (Rz.out.later hb)
         replace XA := Lib.hid (XA.out.later hb)
         replace Xx := Lib.hid (Xx.out.later hb)
         replace Xv := Lib.hid (Xv.out.later hb)
         replace Xz := Lib.hid (Xz.out.later hb)
         clear kXA0 kXA1 kXx0 kXx1 kXv0 kXv1 kXz0 kXz1
         obtain ⟨kXA0, kXA1, -, -, -⟩ := XA.out
         obtain ⟨kXx0, kXx1, -, -, -⟩ := Xx.out
         obtain ⟨kXv0, kXv1, -, -, -⟩ := Xv.out
         obtain ⟨kXz0, kXz1, -, -, -⟩ := Xz.out
         replace HB := Lib.hid (bthen HB.out hb); clear hb
         have G1 : Hid True := trivial
         try go_wp2_with fail))
  go_wp2
  go_ret
  exact ⟨rfl, HB.out⟩

end Go.Proofs.Ytbapgkjkhdlngaa
/- IntegerTexts: which digits an integer has, and which integer a text says, as the document has it. No condition. -/
namespace Go.Proofs.Ytbapgkjkhdlngaa
open Go.ChangeShapes Go.WideShapes Go.ChangeAt Go.RowKit Nums
open Go.ChangeMaps (open_string shut_string)
set_option linter.unusedVariables false

set_option maxHeartbeats 1000000 in
theorem integerTexts_out (s0 : Bool) (a0 : Option Addr) (n0 c0 : Nat) (s : ByteArray) (w : World) (b0 : n0 ≤ maxLen) (h : ¬ n0 ≤ 10) :
    Calls Try.prog 5 #[.agg #[.bool s0, .slice a0 n0 c0], .string s] w fun e w' => e = .returned (.bool true) ∧ Below w.heap.size w w' := by
  have HB := Lib.hid (below_one w (.cells #[.bool s0, .slice a0 n0 c0] 24))
  have H : Hid (¬ (n0 ≤ 10 ∧ n0 ≤ 10)) := fun h2 => h h2.1
  clear h
  have B0 := Lib.hid b0; clear b0
  go_enter Try.func5, Try.ntmps5
  go_wp2_with fail
  refine (fewI_no B0.out B0.out H.out).mono ?_
  rintro e w' ⟨rfl, hb⟩
  replace HB := Lib.hid (bthen HB.out hb); clear hb
  go_wp2
  go_ret
  exact ⟨rfl, HB.out⟩

set_option maxHeartbeats 1000000 in
theorem integerTexts_big (s0 : Bool) (a0 : Option Addr) (n0 c0 : Nat) (s : ByteArray) (w : World) (b0 : n0 ≤ 10) (hs : 400 < s.size) :
    Calls Try.prog 5 #[.agg #[.bool s0, .slice a0 n0 c0], .string s] w fun e w' => e = .returned (.bool true) ∧ Below w.heap.size w w' := by
  have HB := Lib.hid (below_one w (.cells #[.bool s0, .slice a0 n0 c0] 24))
  go_enter Try.func5, Try.ntmps5
  go_wp2_with fail
  refine (fewI_yes b0 b0).mono ?_
  rintro e w' ⟨rfl, hb⟩
  replace HB := Lib.hid (bthen HB.out hb); clear hb
  go_wp2
  go_ret
  exact ⟨rfl, HB.out⟩

theorem integerTexts_walk (s0 : Bool) (a0 : Option Addr) (n0 c0 : Nat) (xs : List Nat) (s : ByteArray) (w : World) (r0 : Row w a0 n0 c0 xs) :
    Calls Try.prog 5 #[.agg #[.bool s0, .slice a0 n0 c0], .string s] w fun e w' => e = .returned (.bool true) ∧ Below w.heap.size w w' := by
  by_cases h : n0 ≤ 10
  · rcases Nat.lt_or_ge 400 s.size with hs | hs
    · exact integerTexts_big s0 a0 n0 c0 s w h hs
    · obtain ⟨neg, t, hsg⟩ := signed_any s
      have hts := hsg.size
      by_cases hb : t.size = 0 ∨ ¬ allDig t
      · exact integerTexts_err s0 a0 n0 c0 xs s w r0 h hs neg t hsg 4 (by decide) (fun w => parse_bad t w (by omega) hb) (fun w => rparse_bad t w (by omega) hb)
      · have hd : allDig t := Classical.byContradiction fun e => hb (Or.inr e)
        have hp : t.size ≠ 0 := fun e => hb (Or.inl e)
        rcases Nat.lt_or_ge 300 t.size with hl | hl
        · exact integerTexts_err s0 a0 n0 c0 xs s w r0 h hs neg t hsg 2 (by decide) (fun w => parse_long t w (by omega) hd hl) (fun w => rparse_long t w (by omega) hd hl)
        · exact integerTexts_ok s0 a0 n0 c0 xs s w r0 h hs neg t hsg hd hl (by omega)
  · exact integerTexts_out s0 a0 n0 c0 s w r0.len_le h

set_option maxRecDepth 100000 in
theorem integerTexts_lifted (os : Os) (started : os.Started) (H : Type) (enc : TypeId × Value → H) :
    ReturnsInHanded {} Try.checked os 5 .any (Rows.integerTextsSpec.pre6 enc Try.prog Try.f5 Rows.integerTextsRow.domain false) (Rows.integerTextsSpec.post enc Try.prog Try.f5 false true false false) := by
  refine returnsInHanded_of_change (C := Try.checked) Try.ownKnob started (by kernel_rfl) Try.func5
    (ChangeSpec.witness6 (enc := enc) (C := Try.checked) false ⟨#[], #[.agg #[.bool false, .slice none 0 0], .string ⟨#[]⟩], []⟩ 8 (by kernel_rfl) (by kernel_rfl) (by kernel_rfl) (by kernel_rfl)) ?_
  intro W base args ds gs before hval0 hW hcnd _
  have hval : ∀ (j : Nat) t v, Try.f5.params[j]? = some t → args[j]? = some v → Value.okWide Try.prog W .any base t v := hval0
  have hW' := hW
  obtain ⟨p, q, hA0, hV, rfl, hfz, hnd⟩ := hW
  have hA : DataW.TrodAll enc Try.prog W 0 (fun _ => true) true Try.f5.params.toList args.toList ds p := hA0
  rw [Try.params5] at hA hval
  obtain ⟨v0, vs0, d0, ds0, p0, q0, hargs, rfl, rfl, h0, r0⟩ := trodAll_cons hA
  obtain ⟨v1, vs1, d1, ds1, p1, q1, rfl, rfl, rfl, h1, r1⟩ := trodAll_cons r0
  obtain ⟨rfl, rfl, rfl⟩ := trodAll_nil r1
  obtain rfl : args = #[v0, v1] := by cases args; simp_all
  obtain ⟨rfl, rfl⟩ := trodVars_none hV
  have k0 := h0
  have lt0 : ∀ x ∈ p0, x.block < W.heap.size := by obtain ⟨m, hm⟩ := k0; exact DataW.trod_lt m _ _ _ hm
  obtain ⟨s0, a0, n0, c0, xs0, rfl, w0⟩ := int_of_trod (hval 0 24 v0 rfl rfl) h0
  have k1 := h1
  obtain ⟨a1, rfl, rfl, rfl, w1⟩ := open_string Try.underlying9 (hval 1 9 v1 rfl rfl) h1
  clear hA0 hval0
  refine (integerTexts_walk s0 a0 n0 c0 xs0 a1 W w0).mono fun e W' ⟨he, bel⟩ => ?_
  subst he
  exact ⟨_, rfl, _, _, _, [], _, [], hW', trodAll_mk1 (shut_bool Try.underlying4 _), (trodAll_cons_mk (Below.trod Try.laidOut (by kernel_rfl) (of_decide_eq_true (by kernel_rfl)) k0 bel lt0) (trodAll_cons_mk (shut_string Try.underlying9 w1) trodAll_mk0)), rfl, bel.frame _, fun h => by cases h⟩

theorem integerTexts_over : Rows.integerTextsRow.holds Try.pinned (OpenSpec.ofChange Rows.integerTextsSpec) :=
  OpenClaim.holds_of_wide 5 Try.f5 rfl rfl rfl rfl rfl rfl rfl ⟨rfl, rfl, rfl, rfl, rfl⟩ rfl rfl rfl rfl rfl (by kernel_rfl) Try.func5 (by kernel_rfl)
    (of_decide_eq_true (by kernel_rfl)) (by unfold Func.isWrapper; first | (rw [if_pos (by decide +kernel)]; kernel_rfl) | (rw [if_neg (by decide +kernel)]; exact ⟨rfl, rfl⟩))
    (fun os started H enc _ => integerTexts_lifted os started H enc)

theorem integerTexts_holds : Rows.IntegerTextsSaid := integerTexts_over
#print axioms integerTexts_holds
end Go.Proofs.Ytbapgkjkhdlngaa
