/- Proved: for any two rows of numbers the law NatDivides returns true and changes nothing that it was handed. No condition. -/
import Derived.Test.YtjpjibdcjmjcgaaCalc
import Derived.Test.YtjpjibdcjmjcgaaRefG
import Derived.Test.YtjpjibdcjmjcgaaDivide
namespace Go.Proofs.Ytjpjibdcjmjcgaa
open Go.ChangeShapes Go.WideShapes Go.ChangeAt Go.RowKit Nums
open Go.ChangeMaps (open_string shut_string)
set_option linter.unusedVariables false

theorem len_gcd {X Y k : Nat} (hX : (limbs X).length ≤ k) (hY : (limbs Y).length ≤ k) : (limbs (Nat.gcd X Y)).length ≤ k := by
  rcases Nat.eq_zero_or_pos X with h | h
  · rw [h, Nat.gcd_zero_left]; exact hY
  · exact len_le (Nat.gcd_le_left Y h) hX

set_option maxHeartbeats 4000000 in
theorem natDivides_zero (a0 : Option Addr) (n0 c0 : Nat) (xs : List Nat) (a1 : Option Addr) (n1 c1 : Nat) (ys : List Nat) (w : World) (r0 : Row w a0 n0 c0 xs) (r1 : Row w a1 n1 c1 ys) (b0 : n0 ≤ 12) (b1 : n1 ≤ 12) (hz : val ys = 0) :
    Calls Try.prog 4 #[.slice a0 n0 c0, .slice a1 n1 c1] w fun e w' => e = .returned (.bool true) ∧ Below w.heap.size w w' := by
  have LX := Lib.hid (row_len' r0 b0)
  have LY := Lib.hid (row_len' r1 b1)
  have R0 := Lib.hid r0; clear r0
  have R1 := Lib.hid r1; clear r1
  obtain ⟨X, hX⟩ : ∃ X, X = val xs := ⟨_, rfl⟩
  obtain ⟨Y, hY⟩ : ∃ Y, Y = val ys := ⟨_, rfl⟩
  rw [← hX] at LX
  rw [← hY] at LY hz
  have VX := Lib.hid hX.symm; clear hX
  have VY := Lib.hid hY.symm; clear hY
  have LG := Lib.hid (len_gcd LX.out LY.out)
  have HZ0 := Lib.hid hz; clear hz
  have HB := Lib.hid (Below.refl w.heap.size w)
  go_enter Try.func4, Try.ntmps4
  go_wp2_with fail
  refine (few_yes a0 a1 n0 c0 n1 c1 w b0 b1).mono ?_
  rintro e w' ⟨rfl, rfl⟩
  go_wp2_with fail
  refine (div_zero a0 a1 n0 c0 n1 c1 xs ys _ R0.out R1.out (by omega) (by omega) (by rw [VY.out, HZ0.out])).mono ?_
  rintro e w' ⟨rfl, rfl⟩
  go_wp2_with fail
  refine (rdiv_zero a0 a1 n0 c0 n1 c1 xs ys _ R0.out R1.out (by omega) (by omega) (by rw [VY.out, HZ0.out])).mono ?_
  rintro e w1 ⟨rfl, hb⟩
  replace R0 := Lib.hid (row_below (Nat.le_refl _) hb R0.out)
  replace R1 := Lib.hid (row_below (Nat.le_refl _) hb R1.out)
  replace HB := Lib.hid (HB.out.trans (hb.mono HB.out.size))
  clear hb
  go_wp2_with fail
  refine (sameN (row_nil _) (row_nil _) rfl (by omega)).mono ?_
  rintro e w2 ⟨rfl, hb⟩
  replace R0 := Lib.hid (row_below (Nat.le_refl _) hb R0.out)
  replace R1 := Lib.hid (row_below (Nat.le_refl _) hb R1.out)
  replace HB := Lib.hid (HB.out.trans (hb.mono HB.out.size))
  clear hb
  go_wp2_with fail
  refine (sameN (row_nil _) (row_nil _) rfl (by omega)).mono ?_
  rintro e w3 ⟨rfl, hb⟩
  replace R0 := Lib.hid (row_below (Nat.le_refl _) hb R0.out)
  replace R1 := Lib.hid (row_below (Nat.le_refl _) hb R1.out)
  replace HB := Lib.hid (HB.out.trans (hb.mono HB.out.size))
  clear hb
  rcases (by omega : 6 < n0 ∨ (n0 ≤ 6 ∧ 6 < n1) ∨ (n0 ≤ 6 ∧ n1 ≤ 6)) with hs | ⟨hs, hs2⟩ | ⟨hs, hs2⟩
  · go_wp2_with fail
    refine (awake_any _).mono ?_
    rintro e w4 ⟨rfl, hb⟩
    replace HB := Lib.hid (HB.out.trans (hb.mono HB.out.size))
    clear hb
    go_wp2
    go_ret
    exact ⟨rfl, HB.out⟩
  · go_wp2_with fail
    refine (awake_any _).mono ?_
    rintro e w4 ⟨rfl, hb⟩
    replace HB := Lib.hid (HB.out.trans (hb.mono HB.out.size))
    clear hb
    go_wp2
    go_ret
    exact ⟨rfl, HB.out⟩
  · go_wp2_with fail
    refine (gcdN 12 R0.out R1.out VX.out VY.out (by omega) (by omega) rfl LG.out).mono ?_
    rintro e w4 ⟨vG, mG, rfl, bG, hr, hb⟩
    have RG := Lib.hid hr; clear hr
    replace R0 := Lib.hid (row_below (Nat.le_refl _) hb R0.out)
    replace R1 := Lib.hid (row_below (Nat.le_refl _) hb R1.out)
    replace HB := Lib.hid (HB.out.trans (hb.mono HB.out.size))
    clear hb
    go_wp2_with fail
    refine (rgcdN 12 R0.out R1.out VX.out VY.out (by omega) (by omega) rfl LG.out).mono ?_
    rintro e w5 ⟨vH, mH, kH, rfl, bH, hr, hb⟩
    have RH := Lib.hid hr; clear hr
    replace R0 := Lib.hid (row_below (Nat.le_refl _) hb R0.out)
    replace R1 := Lib.hid (row_below (Nat.le_refl _) hb R1.out)
    replace RG := Lib.hid (row_below (Nat.le_refl _) hb RG.out)
    replace HB := Lib.hid (HB.out.trans (hb.mono HB.out.size))
    clear hb
    go_wp2_with fail
    refine (sameN RG.out RH.out rfl (by omega)).mono ?_
    rintro e w6 ⟨rfl, hb⟩
    replace R0 := Lib.hid (row_below (Nat.le_refl _) hb R0.out)
    replace R1 := Lib.hid (row_below (Nat.le_refl _) hb R1.out)
    replace RG := Lib.hid (row_below (Nat.le_refl _) hb RG.out)
    replace RH := Lib.hid (row_below (Nat.le_refl _) hb RH.out)
    replace HB := Lib.hid (HB.out.trans (hb.mono HB.out.size))
    clear hb
    go_wp2_with fail
    refine (awake_any _).mono ?_
    rintro e w7 ⟨rfl, hb⟩
    replace HB := Lib.hid (HB.out.trans (hb.mono HB.out.size))
    clear hb
    go_wp2
    go_ret
    exact ⟨rfl, HB.out⟩

set_option maxHeartbeats 4000000 in
theorem natDivides_pos (a0 : Option Addr) (n0 c0 : Nat) (xs : List Nat) (a1 : Option Addr) (n1 c1 : Nat) (ys : List Nat) (w : World) (r0 : Row w a0 n0 c0 xs) (r1 : Row w a1 n1 c1 ys) (b0 : n0 ≤ 12) (b1 : n1 ≤ 12) (hz : 0 < val ys) :
    Calls Try.prog 4 #[.slice a0 n0 c0, .slice a1 n1 c1] w fun e w' => e = .returned (.bool true) ∧ Below w.heap.size w w' := by
  have LX := Lib.hid (row_len' r0 b0)
  have LY := Lib.hid (row_len' r1 b1)
  have R0 := Lib.hid r0; clear r0
  have R1 := Lib.hid r1; clear r1
  obtain ⟨X, hX⟩ : ∃ X, X = val xs := ⟨_, rfl⟩
  obtain ⟨Y, hY⟩ : ∃ Y, Y = val ys := ⟨_, rfl⟩
  rw [← hX] at LX
  rw [← hY] at LY hz
  have VX := Lib.hid hX.symm; clear hX
  have VY := Lib.hid hY.symm; clear hY
  have LG := Lib.hid (len_gcd LX.out LY.out)
  have HZ0 := Lib.hid hz; clear hz
  have HB := Lib.hid (Below.refl w.heap.size w)
  go_enter Try.func4, Try.ntmps4
  go_wp2_with fail
  refine (few_yes a0 a1 n0 c0 n1 c1 w b0 b1).mono ?_
  rintro e w' ⟨rfl, rfl⟩
  have LQ := Lib.hid (len_le (Nat.div_le_self X Y) LX.out)
  have LR := Lib.hid (len_le (Nat.mod_le X Y) LX.out)
  go_wp2_with fail
  refine (divN 12 12 R0.out R1.out VX.out VY.out (by omega) (by omega) HZ0.out LQ.out LR.out).mono ?_
  rintro e w1 ⟨vQ, mQ, vR, mR, rfl, bQ, bR, hr, hr2, hb⟩
  have RQ := Lib.hid hr; clear hr
  have RR := Lib.hid hr2; clear hr2
  replace R0 := Lib.hid (row_below (Nat.le_refl _) hb R0.out)
  replace R1 := Lib.hid (row_below (Nat.le_refl _) hb R1.out)
  replace HB := Lib.hid (HB.out.trans (hb.mono HB.out.size))
  clear hb
  go_wp2_with fail
  refine (rdivN 12 12 R0.out R1.out VX.out VY.out (by omega) (by omega) HZ0.out LQ.out LR.out).mono ?_
  rintro e w2 ⟨vS, mS, kS, vT, mT, kT, rfl, bS, bT, hr, hr2, hb⟩
  have RS := Lib.hid hr; clear hr
  have RT := Lib.hid hr2; clear hr2
  replace R0 := Lib.hid (row_below (Nat.le_refl _) hb R0.out)
  replace R1 := Lib.hid (row_below (Nat.le_refl _) hb R1.out)
  replace RQ := Lib.hid (row_below (Nat.le_refl _) hb RQ.out)
  replace RR := Lib.hid (row_below (Nat.le_refl _) hb RR.out)
  replace HB := Lib.hid (HB.out.trans (hb.mono HB.out.size))
  clear hb
  go_wp2_with fail
  refine (sameN RQ.out RS.out rfl (by omega)).mono ?_
  rintro e w3 ⟨rfl, hb⟩
  replace R0 := Lib.hid (row_below (Nat.le_refl _) hb R0.out)
  replace R1 := Lib.hid (row_below (Nat.le_refl _) hb R1.out)
  replace RQ := Lib.hid (row_below (Nat.le_refl _) hb RQ.out)
  replace RR := Lib.hid (row_below (Nat.le_refl _) hb RR.out)
  replace RS := Lib.hid (row_below (Nat.le_refl _) hb RS.out)
  replace RT := Lib.hid (row_below (Nat.le_refl _) hb RT.out)
  replace HB := Lib.hid (HB.out.trans (hb.mono HB.out.size))
  clear hb
  go_wp2_with fail
  refine (sameN RR.out RT.out rfl (by omega)).mono ?_
  rintro e w4 ⟨rfl, hb⟩
  replace R0 := Lib.hid (row_below (Nat.le_refl _) hb R0.out)
  replace R1 := Lib.hid (row_below (Nat.le_refl _) hb R1.out)
  replace RQ := Lib.hid (row_below (Nat.le_refl _) hb RQ.out)
  replace RR := Lib.hid (row_below (Nat.le_refl _) hb RR.out)
  replace RS := Lib.hid (row_below (Nat.le_refl _) hb RS.out)
  replace RT := Lib.hid (row_below (Nat.le_refl _) hb RT.out)
  replace HB := Lib.hid (HB.out.trans (hb.mono HB.out.size))
  clear hb
  rcases (by omega : 6 < n0 ∨ (n0 ≤ 6 ∧ 6 < n1) ∨ (n0 ≤ 6 ∧ n1 ≤ 6)) with hs | ⟨hs, hs2⟩ | ⟨hs, hs2⟩
  · go_wp2_with fail
    refine (awake_any _).mono ?_
    rintro e w5 ⟨rfl, hb⟩
    replace HB := Lib.hid (HB.out.trans (hb.mono HB.out.size))
    clear hb
    go_wp2
    go_ret
    exact ⟨rfl, HB.out⟩
  · go_wp2_with fail
    refine (awake_any _).mono ?_
    rintro e w5 ⟨rfl, hb⟩
    replace HB := Lib.hid (HB.out.trans (hb.mono HB.out.size))
    clear hb
    go_wp2
    go_ret
    exact ⟨rfl, HB.out⟩
  · go_wp2_with fail
    refine (gcdN 12 R0.out R1.out VX.out VY.out (by omega) (by omega) rfl LG.out).mono ?_
    rintro e w5 ⟨vG, mG, rfl, bG, hr, hb⟩
    have RG := Lib.hid hr; clear hr
    replace R0 := Lib.hid (row_below (Nat.le_refl _) hb R0.out)
    replace R1 := Lib.hid (row_below (Nat.le_refl _) hb R1.out)
    replace HB := Lib.hid (HB.out.trans (hb.mono HB.out.size))
    clear hb
    go_wp2_with fail
    refine (rgcdN 12 R0.out R1.out VX.out VY.out (by omega) (by omega) rfl LG.out).mono ?_
    rintro e w6 ⟨vH, mH, kH, rfl, bH, hr, hb⟩
    have RH := Lib.hid hr; clear hr
    replace R0 := Lib.hid (row_below (Nat.le_refl _) hb R0.out)
    replace R1 := Lib.hid (row_below (Nat.le_refl _) hb R1.out)
    replace RG := Lib.hid (row_below (Nat.le_refl _) hb RG.out)
    replace HB := Lib.hid (HB.out.trans (hb.mono HB.out.size))
    clear hb
    go_wp2_with fail
    refine (sameN RG.out RH.out rfl (by omega)).mono ?_
    rintro e w7 ⟨rfl, hb⟩
    replace R0 := Lib.hid (row_below (Nat.le_refl _) hb R0.out)
    replace R1 := Lib.hid (row_below (Nat.le_refl _) hb R1.out)
    replace RG := Lib.hid (row_below (Nat.le_refl _) hb RG.out)
    replace RH := Lib.hid (row_below (Nat.le_refl _) hb RH.out)
    replace HB := Lib.hid (HB.out.trans (hb.mono HB.out.size))
    clear hb
    go_wp2_with fail
    refine (awake_any _).mono ?_
    rintro e w8 ⟨rfl, hb⟩
    replace HB := Lib.hid (HB.out.trans (hb.mono HB.out.size))
    clear hb
    go_wp2
    go_ret
    exact ⟨rfl, HB.out⟩

set_option maxHeartbeats 1000000 in
theorem natDivides_out (a0 : Option Addr) (n0 c0 : Nat) (a1 : Option Addr) (n1 c1 : Nat) (w : World) (b0 : n0 ≤ maxLen) (b1 : n1 ≤ maxLen) (h : ¬ (n0 ≤ 12 ∧ n1 ≤ 12)) :
    Calls Try.prog 4 #[.slice a0 n0 c0, .slice a1 n1 c1] w fun e w' => e = .returned (.bool true) ∧ Below w.heap.size w w' := by
  have H := Lib.hid h; clear h
  have B0 := Lib.hid b0; clear b0
  have B1 := Lib.hid b1; clear b1
  go_enter Try.func4, Try.ntmps4
  go_wp2_with fail
  refine (few_no a0 a1 n0 c0 n1 c1 w B0.out B1.out H.out).mono ?_
  rintro e w' ⟨rfl, rfl⟩
  go_wp2
  go_ret
  exact ⟨rfl, Below.refl _ _⟩

theorem natDivides_walk (a0 : Option Addr) (len0 cap0 : Nat) (z0 : List Int) (a1 : Option Addr) (len1 cap1 : Nat) (z1 : List Int) (w : World) (w0 : IsRow .u32 w a0 len0 cap0 z0) (w1 : IsRow .u32 w a1 len1 cap1 z1) :
    Calls Try.prog 4 #[.slice a0 len0 cap0, .slice a1 len1 cap1] w fun e w' => e = .returned (.bool true) ∧ Below w.heap.size w w' := by
  obtain ⟨xs, r0⟩ := row_of_isrow w0
  obtain ⟨ys, r1⟩ := row_of_isrow w1
  clear w0 w1
  by_cases h : len0 ≤ 12 ∧ len1 ≤ 12
  · rcases Nat.eq_zero_or_pos (val ys) with hz | hz
    · exact natDivides_zero a0 _ cap0 xs a1 _ cap1 ys w r0 r1 h.1 h.2 hz
    · exact natDivides_pos a0 _ cap0 xs a1 _ cap1 ys w r0 r1 h.1 h.2 hz
  · exact natDivides_out a0 _ cap0 a1 _ cap1 w r0.len_le r1.len_le h

set_option maxRecDepth 100000 in
theorem natDivides_lifted (os : Os) (started : os.Started) (H : Type) (enc : TypeId × Value → H) :
    ReturnsInHanded {} Try.checked os 4 .any (Rows.natDividesSpec.pre6 enc Try.prog Try.f4 Rows.natDividesRow.domain false) (Rows.natDividesSpec.post enc Try.prog Try.f4 false true false false) := by
  refine returnsInHanded_of_change (C := Try.checked) Try.ownKnob started (by kernel_rfl) Try.func4
    (ChangeSpec.witness6 (enc := enc) (C := Try.checked) false ⟨#[], #[.slice none 0 0, .slice none 0 0], []⟩ 8 (by kernel_rfl) (by kernel_rfl) (by kernel_rfl) (by kernel_rfl)) ?_
  intro W base args ds gs before hval0 hW hcnd _
  have hval : ∀ (j : Nat) t v, Try.f4.params[j]? = some t → args[j]? = some v → Value.okWide Try.prog W .any base t v := hval0
  have hW' := hW
  obtain ⟨p, q, hA0, hV, rfl, hfz, hnd⟩ := hW
  have hA : DataW.TrodAll enc Try.prog W 0 (fun _ => true) true Try.f4.params.toList args.toList ds p := hA0
  rw [Try.params4] at hA hval
  obtain ⟨v0, vs0, d0, ds0, p0, q0, hargs, rfl, rfl, h0, r0⟩ := trodAll_cons hA
  obtain ⟨v1, vs1, d1, ds1, p1, q1, rfl, rfl, rfl, h1, r1⟩ := trodAll_cons r0
  obtain ⟨rfl, rfl, rfl⟩ := trodAll_nil r1
  obtain rfl : args = #[v0, v1] := by cases args; simp_all
  obtain ⟨rfl, rfl⟩ := trodVars_none hV
  obtain ⟨a0, len0, cap0, rfl⟩ := okWide_slice Try.underlying22 (hval 0 22 v0 rfl rfl)
  have k0 := h0
  have lt0 : ∀ x ∈ p0, x.block < W.heap.size := by obtain ⟨m, hm⟩ := k0; exact DataW.trod_lt m _ _ _ hm
  obtain ⟨z0, w0⟩ : ∃ zs, IsRow .u32 W a0 len0 cap0 zs := by
    obtain ⟨fuel, hf⟩ := h0
    rcases open_ints Try.underlying22 Try.underlying38 (by kernel_rfl) hf with ⟨hcs, _⟩ | ⟨x, l, c, zs, hcs, _, hl, hm, hz, _, hcell, hwz⟩
    · simp [Value.cells] at hcs
      obtain ⟨rfl, rfl, rfl⟩ := hcs
      exact ⟨[], .inl ⟨rfl, rfl, rfl, rfl⟩⟩
    · simp [Value.cells] at hcs
      obtain ⟨rfl, rfl, rfl⟩ := hcs
      exact ⟨zs, .inr ⟨_, rfl, hl, hm, by simpa using hz, hcell, hwz⟩⟩
  obtain ⟨a1, len1, cap1, rfl⟩ := okWide_slice Try.underlying22 (hval 1 22 v1 rfl rfl)
  have k1 := h1
  have lt1 : ∀ x ∈ p1, x.block < W.heap.size := by obtain ⟨m, hm⟩ := k1; exact DataW.trod_lt m _ _ _ hm
  obtain ⟨z1, w1⟩ : ∃ zs, IsRow .u32 W a1 len1 cap1 zs := by
    obtain ⟨fuel, hf⟩ := h1
    rcases open_ints Try.underlying22 Try.underlying38 (by kernel_rfl) hf with ⟨hcs, _⟩ | ⟨x, l, c, zs, hcs, _, hl, hm, hz, _, hcell, hwz⟩
    · simp [Value.cells] at hcs
      obtain ⟨rfl, rfl, rfl⟩ := hcs
      exact ⟨[], .inl ⟨rfl, rfl, rfl, rfl⟩⟩
    · simp [Value.cells] at hcs
      obtain ⟨rfl, rfl, rfl⟩ := hcs
      exact ⟨zs, .inr ⟨_, rfl, hl, hm, by simpa using hz, hcell, hwz⟩⟩
  clear hA0 hval0
  refine (natDivides_walk a0 len0 cap0 z0 a1 len1 cap1 z1 W w0 w1).mono fun e W' ⟨he, bel⟩ => ?_
  subst he
  exact ⟨_, rfl, _, _, _, [], _, [], hW', trodAll_mk1 (shut_bool Try.underlying4 _), (trodAll_cons_mk (Below.trod Try.laidOut (by kernel_rfl) (of_decide_eq_true (by kernel_rfl)) k0 bel lt0) (trodAll_cons_mk (Below.trod Try.laidOut (by kernel_rfl) (of_decide_eq_true (by kernel_rfl)) k1 bel lt1) trodAll_mk0)), rfl, bel.frame _, fun h => by cases h⟩

theorem natDivides_over : Rows.natDividesRow.holds Try.pinned (OpenSpec.ofChange Rows.natDividesSpec) :=
  OpenClaim.holds_of_wide 4 Try.f4 rfl rfl rfl rfl rfl rfl rfl ⟨rfl, rfl, rfl, rfl, rfl⟩ rfl rfl rfl rfl rfl (by kernel_rfl) Try.func4 (by kernel_rfl)
    (of_decide_eq_true (by kernel_rfl)) (by unfold Func.isWrapper; first | (rw [if_pos (by decide +kernel)]; kernel_rfl) | (rw [if_neg (by decide +kernel)]; exact ⟨rfl, rfl⟩))
    (fun os started H enc _ => natDivides_lifted os started H enc)

theorem natDivides_holds : Rows.NatDividesSaid := natDivides_over
#print axioms natDivides_holds
end Go.Proofs.Ytjpjibdcjmjcgaa
