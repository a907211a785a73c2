/- Proved: for any row of numbers and any text the law NatTexts returns true and changes nothing that it was handed. No condition. -/
import Derived.Test.YtjpjibdcjmjcgaaCalc
import Derived.Test.YtjpjibdcjmjcgaaRefX
namespace Go.Proofs.Ytjpjibdcjmjcgaa
open Go.ChangeShapes Go.WideShapes Go.ChangeAt Go.RowKit Nums
open Go.ChangeMaps (open_string shut_string)
set_option linter.unusedVariables false

set_option maxHeartbeats 4000000 in
theorem natTexts_bad (a0 : Option Addr) (n0 c0 : Nat) (xs : List Nat) (s : ByteArray) (w : World) (r0 : Row w a0 n0 c0 xs) (b0 : n0 ≤ 12) (hs : s.size ≤ 400) (h : s.size = 0 ∨ ¬ allDig s) :
    Calls Try.prog 5 #[.slice a0 n0 c0, .string s] w fun e w' => e = .returned (.bool true) ∧ Below w.heap.size w w' := by
  have R0 := Lib.hid r0; clear r0
  obtain ⟨T, hT⟩ : ∃ T, decStr (val xs) = T := ⟨_, rfl⟩
  have HT := Lib.hid hT; clear hT
  have HB := Lib.hid (Below.refl w.heap.size w)
  have H := Lib.hid h; clear h
  go_enter Try.func5, Try.ntmps5
  go_wp2_with fail
  refine (few_yes a0 none n0 c0 0 0 w b0 (by omega)).mono ?_
  rintro e w' ⟨rfl, rfl⟩
  go_wp2_with fail
  refine (parse_bad s _ (by omega) H.out).mono ?_
  rintro e w' ⟨rfl, rfl⟩
  go_wp2_with fail
  refine (rparse_bad s _ (by omega) H.out).mono ?_
  rintro e w' ⟨rfl, rfl⟩
  go_wp2_with fail
  refine (printN T R0.out (by omega) HT.out).mono ?_
  rintro e w1 ⟨rfl, hb⟩
  replace R0 := Lib.hid (row_below (Nat.le_refl _) hb R0.out)
  replace HB := Lib.hid (HB.out.trans (hb.mono HB.out.size))
  clear hb
  go_wp2_with fail
  refine (rprintN T R0.out (by omega) HT.out).mono ?_
  rintro e w2 ⟨rfl, hb⟩
  replace R0 := Lib.hid (row_below (Nat.le_refl _) hb R0.out)
  replace HB := Lib.hid (HB.out.trans (hb.mono HB.out.size))
  clear hb
  go_wp2_with fail
  refine (sameN (row_nil _) (row_nil _) rfl (by omega)).mono ?_
  rintro e w3 ⟨rfl, hb⟩
  replace R0 := Lib.hid (row_below (Nat.le_refl _) hb R0.out)
  replace HB := Lib.hid (HB.out.trans (hb.mono HB.out.size))
  clear hb
  go_wp2_with fail
  refine (awake_any _).mono ?_
  rintro e w4 ⟨rfl, hb⟩
  replace HB := Lib.hid (HB.out.trans (hb.mono HB.out.size))
  clear hb
  go_wp2
  go_ret
  exact ⟨rfl, HB.out⟩

set_option maxHeartbeats 4000000 in
theorem natTexts_long (a0 : Option Addr) (n0 c0 : Nat) (xs : List Nat) (s : ByteArray) (w : World) (r0 : Row w a0 n0 c0 xs) (b0 : n0 ≤ 12) (hs : s.size ≤ 400) (hd : allDig s) (hl : 300 < s.size) :
    Calls Try.prog 5 #[.slice a0 n0 c0, .string s] w fun e w' => e = .returned (.bool true) ∧ Below w.heap.size w w' := by
  have R0 := Lib.hid r0; clear r0
  obtain ⟨T, hT⟩ : ∃ T, decStr (val xs) = T := ⟨_, rfl⟩
  have HT := Lib.hid hT; clear hT
  have HB := Lib.hid (Below.refl w.heap.size w)
  have HD := Lib.hid hd; clear hd
  have HL := Lib.hid hl; clear hl
  go_enter Try.func5, Try.ntmps5
  go_wp2_with fail
  refine (few_yes a0 none n0 c0 0 0 w b0 (by omega)).mono ?_
  rintro e w' ⟨rfl, rfl⟩
  go_wp2_with fail
  refine (parse_long s _ (by omega) HD.out HL.out).mono ?_
  rintro e w' ⟨rfl, rfl⟩
  go_wp2_with fail
  refine (rparse_long s _ (by omega) HD.out HL.out).mono ?_
  rintro e w' ⟨rfl, rfl⟩
  go_wp2_with fail
  refine (printN T R0.out (by omega) HT.out).mono ?_
  rintro e w1 ⟨rfl, hb⟩
  replace R0 := Lib.hid (row_below (Nat.le_refl _) hb R0.out)
  replace HB := Lib.hid (HB.out.trans (hb.mono HB.out.size))
  clear hb
  go_wp2_with fail
  refine (rprintN T R0.out (by omega) HT.out).mono ?_
  rintro e w2 ⟨rfl, hb⟩
  replace R0 := Lib.hid (row_below (Nat.le_refl _) hb R0.out)
  replace HB := Lib.hid (HB.out.trans (hb.mono HB.out.size))
  clear hb
  go_wp2_with fail
  refine (sameN (row_nil _) (row_nil _) rfl (by omega)).mono ?_
  rintro e w3 ⟨rfl, hb⟩
  replace R0 := Lib.hid (row_below (Nat.le_refl _) hb R0.out)
  replace HB := Lib.hid (HB.out.trans (hb.mono HB.out.size))
  clear hb
  go_wp2_with fail
  refine (awake_any _).mono ?_
  rintro e w4 ⟨rfl, hb⟩
  replace HB := Lib.hid (HB.out.trans (hb.mono HB.out.size))
  clear hb
  go_wp2
  go_ret
  exact ⟨rfl, HB.out⟩

theorem numOf_ten (l : List UInt8) (h : Digs l) : numOf l < 10 ^ l.length := by
  rw [← dval_reverse]
  have hd : Digs l.reverse := fun c hc => h c (List.mem_reverse.1 hc)
  have hl : l.reverse.length = l.length := by simp
  rw [← hl]
  generalize l.reverse = r at hd
  induction r with
  | nil => simp [dval]
  | cons c r ih =>
    have h2 := digs_cons.1 hd
    have := ih h2.2
    simp only [dval, List.length_cons, Nat.pow_succ]
    omega

theorem rparse_all (s : ByteArray) (w : World) (hs : s.size ≤ 300) (h0 : 0 < s.size) (hd : allDig s) : Calls Try.prog 30 #[.string s] w (NumC2 (numOf s.data.toList) w) := by
  rcases Nat.lt_or_ge 18 s.size with h | h
  · exact rparse_ok s w hs h hd
  · exact rparse_short s w h h0 hd

theorem len_text (s : ByteArray) (hs : s.size ≤ 300) (hd : allDig s) : (limbs (numOf s.data.toList)).length ≤ 100 := by
  have h1 := numOf_ten s.data.toList (digs_list s hd)
  rw [show s.data.toList.length = s.size by simp] at h1
  apply len_of
  obtain ⟨K, hK⟩ : ∃ K : Nat, K = 3 := ⟨_, rfl⟩
  have h2 : (10 : Nat) ^ s.size ≤ 10 ^ (K * 100) := Nat.pow_le_pow_right (by omega) (by omega)
  rw [Nat.pow_mul] at h2
  have h3 : ((10 : Nat) ^ K) ^ 100 ≤ 4294967296 ^ 100 := Nat.pow_le_pow_left (by rw [hK]; omega) _
  exact Nat.lt_of_lt_of_le h1 (Nat.le_trans h2 h3)

set_option maxHeartbeats 4000000 in
theorem natTexts_ok (a0 : Option Addr) (n0 c0 : Nat) (xs : List Nat) (s : ByteArray) (w : World) (r0 : Row w a0 n0 c0 xs) (b0 : n0 ≤ 12) (hs : s.size ≤ 400) (hd : allDig s) (hl : s.size ≤ 300) (hp : 0 < s.size) :
    Calls Try.prog 5 #[.slice a0 n0 c0, .string s] w fun e w' => e = .returned (.bool true) ∧ Below w.heap.size w w' := by
  have R0 := Lib.hid r0; clear r0
  obtain ⟨T, hT⟩ : ∃ T, decStr (val xs) = T := ⟨_, rfl⟩
  have HT := Lib.hid hT; clear hT
  have HB := Lib.hid (Below.refl w.heap.size w)
  have LN := Lib.hid (len_text s hl hd)
  have HD := Lib.hid hd; clear hd
  have HL := Lib.hid hl; clear hl
  have HP := Lib.hid hp; clear hp
  go_enter Try.func5, Try.ntmps5
  go_wp2_with fail
  refine (few_yes a0 none n0 c0 0 0 w b0 (by omega)).mono ?_
  rintro e w' ⟨rfl, rfl⟩
  go_wp2_with fail
  refine (parse_ok s _ HL.out HP.out HD.out).mono ?_
  rintro e w1 ⟨vP, mP, rfl, hm, hr, hb⟩
  have bP : mP ≤ 100 := by rw [hm]; exact LN.out
  clear hm
  have RP := Lib.hid hr; clear hr
  replace R0 := Lib.hid (row_below (Nat.le_refl _) hb R0.out)
  replace HB := Lib.hid (HB.out.trans (hb.mono HB.out.size))
  clear hb
  go_wp2_with fail
  refine (rparse_all s _ HL.out HP.out HD.out).mono ?_
  rintro e w2 ⟨vQ, mQ, kQ, rfl, hm, hr, hb⟩
  have bQ : mQ ≤ 100 := by rw [hm]; exact LN.out
  clear hm
  have RQ := Lib.hid hr; clear hr
  replace R0 := Lib.hid (row_below (Nat.le_refl _) hb R0.out)
  replace RP := Lib.hid (row_below (Nat.le_refl _) hb RP.out)
  replace HB := Lib.hid (HB.out.trans (hb.mono HB.out.size))
  clear hb
  go_wp2_with fail
  refine (printN T R0.out (by omega) HT.out).mono ?_
  rintro e w3 ⟨rfl, hb⟩
  replace R0 := Lib.hid (row_below (Nat.le_refl _) hb R0.out)
  replace RP := Lib.hid (row_below (Nat.le_refl _) hb RP.out)
  replace RQ := Lib.hid (row_below (Nat.le_refl _) hb RQ.out)
  replace HB := Lib.hid (HB.out.trans (hb.mono HB.out.size))
  clear hb
  go_wp2_with fail
  refine (rprintN T R0.out (by omega) HT.out).mono ?_
  rintro e w4 ⟨rfl, hb⟩
  replace R0 := Lib.hid (row_below (Nat.le_refl _) hb R0.out)
  replace RP := Lib.hid (row_below (Nat.le_refl _) hb RP.out)
  replace RQ := Lib.hid (row_below (Nat.le_refl _) hb RQ.out)
  replace HB := Lib.hid (HB.out.trans (hb.mono HB.out.size))
  clear hb
  go_wp2_with fail
  refine (sameN RP.out RQ.out rfl (by omega)).mono ?_
  rintro e w5 ⟨rfl, hb⟩
  replace R0 := Lib.hid (row_below (Nat.le_refl _) hb R0.out)
  replace RP := Lib.hid (row_below (Nat.le_refl _) hb RP.out)
  replace RQ := Lib.hid (row_below (Nat.le_refl _) hb RQ.out)
  replace HB := Lib.hid (HB.out.trans (hb.mono HB.out.size))
  clear hb
  go_wp2_with fail
  refine (awake_any _).mono ?_
  rintro e w6 ⟨rfl, hb⟩
  replace HB := Lib.hid (HB.out.trans (hb.mono HB.out.size))
  clear hb
  go_wp2
  go_ret
  exact ⟨rfl, HB.out⟩

set_option maxHeartbeats 1000000 in
theorem natTexts_out (a0 : Option Addr) (n0 c0 : Nat) (s : ByteArray) (w : World) (b0 : n0 ≤ maxLen) (h : ¬ n0 ≤ 12) :
    Calls Try.prog 5 #[.slice a0 n0 c0, .string s] w fun e w' => e = .returned (.bool true) ∧ Below w.heap.size w w' := by
  have H := Lib.hid h; clear h
  have B0 := Lib.hid b0; clear b0
  go_enter Try.func5, Try.ntmps5
  go_wp2_with fail
  refine (few_no a0 none n0 c0 0 0 w B0.out (by unfold maxLen; omega) (fun h => H.out h.1)).mono ?_
  rintro e w' ⟨rfl, rfl⟩
  go_wp2
  go_ret
  exact ⟨rfl, Below.refl _ _⟩

set_option maxHeartbeats 1000000 in
theorem natTexts_big (a0 : Option Addr) (n0 c0 : Nat) (s : ByteArray) (w : World) (b0 : n0 ≤ 12) (h : 400 < s.size) (hm : s.size ≤ maxLen) :
    Calls Try.prog 5 #[.slice a0 n0 c0, .string s] w fun e w' => e = .returned (.bool true) ∧ Below w.heap.size w w' := by
  unfold maxLen at hm
  go_enter Try.func5, Try.ntmps5
  go_wp2_with fail
  refine (few_yes a0 none n0 c0 0 0 w b0 (by omega)).mono ?_
  rintro e w' ⟨rfl, rfl⟩
  go_wp2
  go_ret
  exact ⟨rfl, Below.refl _ _⟩

theorem natTexts_walk (a0 : Option Addr) (len0 cap0 : Nat) (z0 : List Int) (a1 : ByteArray) (w : World) (w0 : IsRow .u32 w a0 len0 cap0 z0) (w1 : a1.size ≤ maxLen) :
    Calls Try.prog 5 #[.slice a0 len0 cap0, .string a1] w fun e w' => e = .returned (.bool true) ∧ Below w.heap.size w w' := by
  obtain ⟨xs, r0⟩ := row_of_isrow w0
  clear w0
  by_cases h : len0 ≤ 12
  · rcases Nat.lt_or_ge 400 a1.size with hl | hl
    · exact natTexts_big a0 _ cap0 a1 w h hl w1
    · by_cases hb : a1.size = 0 ∨ ¬ allDig a1
      · exact natTexts_bad a0 _ cap0 xs a1 w r0 h hl hb
      · have h1 : 0 < a1.size := by
          rcases Nat.eq_zero_or_pos a1.size with e | e
          · exact absurd (Or.inl e) hb
          · exact e
        have h2 : allDig a1 := Classical.byContradiction fun e => hb (Or.inr e)
        rcases Nat.lt_or_ge 300 a1.size with hk | hk
        · exact natTexts_long a0 _ cap0 xs a1 w r0 h hl h2 hk
        · exact natTexts_ok a0 _ cap0 xs a1 w r0 h hl h2 hk h1
  · exact natTexts_out a0 _ cap0 a1 w r0.len_le h

set_option maxRecDepth 100000 in
theorem natTexts_lifted (os : Os) (started : os.Started) (H : Type) (enc : TypeId × Value → H) :
    ReturnsInHanded {} Try.checked os 5 .any (Rows.natTextsSpec.pre6 enc Try.prog Try.f5 Rows.natTextsRow.domain false) (Rows.natTextsSpec.post enc Try.prog Try.f5 false true false false) := by
  refine returnsInHanded_of_change (C := Try.checked) Try.ownKnob started (by kernel_rfl) Try.func5
    (ChangeSpec.witness6 (enc := enc) (C := Try.checked) false ⟨#[], #[.slice none 0 0, .string ByteArray.empty], []⟩ 8 (by kernel_rfl) (by kernel_rfl) (by kernel_rfl) (by kernel_rfl)) ?_
  intro W base args ds gs before hval0 hW hcnd _
  have hval : ∀ (j : Nat) t v, Try.f5.params[j]? = some t → args[j]? = some v → Value.okWide Try.prog W .any base t v := hval0
  have hW' := hW
  obtain ⟨p, q, hA0, hV, rfl, hfz, hnd⟩ := hW
  have hA : DataW.TrodAll enc Try.prog W 0 (fun _ => true) true Try.f5.params.toList args.toList ds p := hA0
  rw [Try.params5] at hA hval
  obtain ⟨v0, vs0, d0, ds0, p0, q0, hargs, rfl, rfl, h0, r0⟩ := trodAll_cons hA
  obtain ⟨v1, vs1, d1, ds1, p1, q1, rfl, rfl, rfl, h1, r1⟩ := trodAll_cons r0
  obtain ⟨rfl, rfl, rfl⟩ := trodAll_nil r1
  obtain rfl : args = #[v0, v1] := by cases args; simp_all
  obtain ⟨rfl, rfl⟩ := trodVars_none hV
  obtain ⟨a0, len0, cap0, rfl⟩ := okWide_slice Try.underlying22 (hval 0 22 v0 rfl rfl)
  have k0 := h0
  have lt0 : ∀ x ∈ p0, x.block < W.heap.size := by obtain ⟨m, hm⟩ := k0; exact DataW.trod_lt m _ _ _ hm
  obtain ⟨z0, w0⟩ : ∃ zs, IsRow .u32 W a0 len0 cap0 zs := by
    obtain ⟨fuel, hf⟩ := h0
    rcases open_ints Try.underlying22 Try.underlying38 (by kernel_rfl) hf with ⟨hcs, _⟩ | ⟨x, l, c, zs, hcs, _, hl, hm, hz, _, hcell, hwz⟩
    · simp [Value.cells] at hcs
      obtain ⟨rfl, rfl, rfl⟩ := hcs
      exact ⟨[], .inl ⟨rfl, rfl, rfl, rfl⟩⟩
    · simp [Value.cells] at hcs
      obtain ⟨rfl, rfl, rfl⟩ := hcs
      exact ⟨zs, .inr ⟨_, rfl, hl, hm, by simpa using hz, hcell, hwz⟩⟩
  obtain ⟨a1, rfl, rfl, rfl, w1⟩ := open_string Try.underlying9 (hval 1 9 v1 rfl rfl) h1
  clear hA0 hval0
  refine (natTexts_walk a0 len0 cap0 z0 a1 W w0 w1).mono fun e W' ⟨he, bel⟩ => ?_
  subst he
  exact ⟨_, rfl, _, _, _, [], _, [], hW', trodAll_mk1 (shut_bool Try.underlying4 _), (trodAll_cons_mk (Below.trod Try.laidOut (by kernel_rfl) (of_decide_eq_true (by kernel_rfl)) k0 bel lt0) (trodAll_cons_mk (shut_string Try.underlying9 w1) trodAll_mk0)), rfl, bel.frame _, fun h => by cases h⟩

theorem natTexts_over : Rows.natTextsRow.holds Try.pinned (OpenSpec.ofChange Rows.natTextsSpec) :=
  OpenClaim.holds_of_wide 5 Try.f5 rfl rfl rfl rfl rfl rfl rfl ⟨rfl, rfl, rfl, rfl, rfl⟩ rfl rfl rfl rfl rfl (by kernel_rfl) Try.func5 (by kernel_rfl)
    (of_decide_eq_true (by kernel_rfl)) (by unfold Func.isWrapper; first | (rw [if_pos (by decide +kernel)]; kernel_rfl) | (rw [if_neg (by decide +kernel)]; exact ⟨rfl, rfl⟩))
    (fun os started H enc _ => natTexts_lifted os started H enc)

theorem natTexts_holds : Rows.NatTextsSaid := natTexts_over
#print axioms natTexts_holds
end Go.Proofs.Ytjpjibdcjmjcgaa
