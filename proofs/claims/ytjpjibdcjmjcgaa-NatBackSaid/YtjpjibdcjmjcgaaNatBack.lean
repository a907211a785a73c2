/- Proved: for any row of numbers and any text the law NatBack returns true and changes nothing that it was handed. No condition. -/
import Derived.Test.YtjpjibdcjmjcgaaCalc
import Derived.Test.YtjpjibdcjmjcgaaNumsE
import Derived.Lib.IndexBytes
import Derived.Deep.RegionWith
namespace Go.Proofs.Ytjpjibdcjmjcgaa
open Go.ChangeShapes Go.WideShapes Go.ChangeAt Go.RowKit Nums
open Go.ChangeMaps (open_string shut_string)
set_option linter.unusedVariables false

theorem printN {w : World} {a : Option Addr} {n c : Nat} {xs : List Nat} (X : Nat) (h : Row w a n c xs) (hX : val xs = X) (hn : n ≤ 100) : Calls Try.prog 31 #[.slice a n c] w fun e w' => e = .returned (.string (decStr X)) ∧ Below w.heap.size w w' := by
  subst hX
  exact print_any a n c xs w h (by omega)

theorem printE {t : ByteArray} {w : World} {a : Option Addr} {n c N : Nat} (h : Row w a n c (limbs N)) (ht : decStr N = t) (hn : n ≤ 100) : Calls Try.prog 31 #[.slice a n c] w fun e w' => e = .returned (.string t) ∧ Below w.heap.size w w' := by
  subst ht
  exact printN N h (val_limbs N) hn

theorem row_drew {w : World} {a : Option Addr} {n c : Nat} {xs : List Nat} (h : Row w a n c xs) : Row w.drew a n c xs := row_below (Nat.le_refl _) ((Below.refl _ _).drew) h

theorem parseN (k : Nat) (s : ByteArray) (w : World) (hs : s.size ≤ 300) (h0 : 0 < s.size) (hd : allDig s) (hk : (limbs (numOf s.data.toList)).length ≤ k) : Calls Try.prog 29 #[.string s] w fun e w' => ∃ a' m, e = .returned (.tuple #[.slice a' m m, .int .i64 0]) ∧ m ≤ k ∧ Row w' a' m m (limbs (numOf s.data.toList)) ∧ Below w.heap.size w w' := by
  refine (parse_ok s w hs h0 hd).mono ?_
  rintro e w' ⟨a', m, h1, h2, h3, h4⟩
  exact ⟨a', m, h1, by omega, h3, h4⟩

theorem numOf_lt (l : List UInt8) (h : Digs l) : numOf l < 10 ^ l.length := by
  rw [← dval_reverse]
  have hd : Digs l.reverse := fun c hc => h c (List.mem_reverse.1 hc)
  have hl : l.reverse.length = l.length := by simp
  rw [← hl]
  generalize l.reverse = r at hd
  induction r with
  | nil => simp [dval]
  | cons c r ih =>
    have h2 := digs_cons.1 hd
    have := ih h2.2
    simp only [dval, List.length_cons, Nat.pow_succ]
    omega

theorem pow_room (n m : Nat) (h0 : 0 < m) (h : n ≤ 6 * m) : (10 : Nat) ^ n < 4294967296 ^ m := by
  have h1 : (10 : Nat) ^ n ≤ 10 ^ (6 * m) := Nat.pow_le_pow_right (by omega) h
  rw [Nat.pow_mul] at h1
  exact Nat.lt_of_le_of_lt h1 (Nat.pow_lt_pow_left (by omega) (by omega))

theorem len_numOf (s : ByteArray) (hd : allDig s) (hl : s.size ≤ 300) : (limbs (numOf s.data.toList)).length ≤ 50 := by
  apply limbs_len
  have h1 := numOf_lt _ (digs_list s hd)
  have h2 : s.data.toList.length ≤ 300 := by simpa using hl
  have h3 := pow_room s.data.toList.length 50 (by omega) (by omega)
  exact Nat.lt_trans h1 h3

theorem back_str (s : ByteArray) (k : Nat) (hd : allDig s) (hk : k < s.size) (hz : ∀ j (h : j < s.size), j < k → s[j].toNat = 48) (he : k + 1 = s.size ∨ s[k].toNat ≠ 48) : decStr (numOf s.data.toList) = s.extract k s.size := by
  have hsz : s.data.toList.length = s.size := by simp
  have hg : ∀ j (h : j < s.size), s.data.toList.getD j 0 = s[j] := by
    intro j h
    rw [List.getD_eq_getElem?_getD, List.getElem?_eq_getElem (by rw [hsz]; exact h)]
    rfl
  have h := drop_dec s.data.toList (digs_list s hd) k (by rw [hsz]; exact hk) (fun j hj => by rw [hg j (by omega)]; exact hz j (by omega) hj) (by rw [hsz, hg k hk]; exact he)
  rw [← Lib.extract_to_end] at h
  apply ByteArray.ext
  apply Array.toList_inj.1
  exact h.symm

theorem parse_dec (k X : Nat) (hp : X < 4294967296 ^ 12) (hk : 12 ≤ k) (hl : (limbs X).length ≤ 12) (w : World) : Calls Try.prog 29 #[.string (decStr X)] w fun e w' => ∃ a' m, e = .returned (.tuple #[.slice a' m m, .int .i64 0]) ∧ m ≤ 12 ∧ Row w' a' m m (limbs X) ∧ Below w.heap.size w w' := by
  have h116 : X < 10 ^ 116 := Nat.lt_trans hp (by decide)
  have hsz := size_dec_le X 116 (by omega) h116
  refine (parse_ok (decStr X) w (by omega) (size_dec_pos X) (allDig_dec X)).mono ?_
  rw [numOf_dec]
  rintro e w' ⟨a', m, h1, h2, h3, h4⟩
  exact ⟨a', m, h1, by omega, h3, h4⟩

set_option maxHeartbeats 4000000 in
theorem natBack_bad (a0 : Option Addr) (n0 c0 : Nat) (xs : List Nat) (s : ByteArray) (w : World) (r0 : Row w a0 n0 c0 xs) (b0 : n0 ≤ 12) (hs : s.size ≤ 400) (h : s.size = 0 ∨ ¬ allDig s) :
    Calls Try.prog 9 #[.slice a0 n0 c0, .string s] w fun e w' => e = .returned (.bool true) ∧ Below w.heap.size w w' := by
  have LX := Lib.hid (row_len' r0 b0)
  have HPW := Lib.hid (val_pow r0 b0)
  have R0 := Lib.hid r0; clear r0
  obtain ⟨X, hX⟩ : ∃ X, X = val xs := ⟨_, rfl⟩
  rw [← hX] at LX HPW
  have VX := Lib.hid hX.symm; clear hX
  have HB := Lib.hid (Below.refl w.heap.size w)
  have H := Lib.hid h; clear h
  go_enter Try.func9, Try.ntmps9
  go_wp2_with fail
  refine (few_yes a0 none n0 c0 0 0 w b0 (by omega)).mono ?_
  rintro e w' ⟨rfl, rfl⟩

  go_wp2_with fail
  refine (printN X R0.out VX.out (by omega)).mono ?_
  rintro e w1 ⟨rfl, hb⟩
  replace R0 := Lib.hid (row_below (Nat.le_refl _) hb R0.out)
  replace HB := Lib.hid (HB.out.trans (hb.mono HB.out.size))
  clear hb
  go_wp2_with fail
  refine (parse_dec 12 X HPW.out (by omega) LX.out _).mono ?_
  rintro e w2 ⟨vP, mP, rfl, bP, hr, hb⟩
  have RP := Lib.hid hr; clear hr
  replace R0 := Lib.hid (row_below (Nat.le_refl _) hb R0.out)
  replace HB := Lib.hid (HB.out.trans (hb.mono HB.out.size))
  clear hb
  go_wp2_with fail
  refine (parse_bad s _ (by omega) H.out).mono ?_
  rintro e w' ⟨rfl, rfl⟩
  go_wp2_with fail
  refine (trimN 12 X R0.out (by omega) VX.out LX.out).mono ?_
  rintro e w3 ⟨vQ, mQ, rfl, bQ, hr, hb⟩
  have RQ := Lib.hid hr; clear hr
  replace R0 := Lib.hid (row_below (Nat.le_refl _) hb R0.out)
  replace RP := Lib.hid (row_below (Nat.le_refl _) hb RP.out)
  replace HB := Lib.hid (HB.out.trans (hb.mono HB.out.size))
  clear hb
  go_wp2_with fail
  refine (sameN RP.out RQ.out rfl (by omega)).mono ?_
  rintro e w4 ⟨rfl, hb⟩
  replace R0 := Lib.hid (row_below (Nat.le_refl _) hb R0.out)
  replace RP := Lib.hid (row_below (Nat.le_refl _) hb RP.out)
  replace RQ := Lib.hid (row_below (Nat.le_refl _) hb RQ.out)
  replace HB := Lib.hid (HB.out.trans (hb.mono HB.out.size))
  clear hb
  go_wp2_with fail
  refine (awake_any _).mono ?_
  rintro e w5 ⟨rfl, hb⟩
  replace HB := Lib.hid (HB.out.trans (hb.mono HB.out.size))
  clear hb
  go_wp2
  go_ret
  exact ⟨rfl, HB.out⟩

set_option maxHeartbeats 4000000 in
theorem natBack_long (a0 : Option Addr) (n0 c0 : Nat) (xs : List Nat) (s : ByteArray) (w : World) (r0 : Row w a0 n0 c0 xs) (b0 : n0 ≤ 12) (hs : s.size ≤ 400) (hd : allDig s) (hl : 300 < s.size) :
    Calls Try.prog 9 #[.slice a0 n0 c0, .string s] w fun e w' => e = .returned (.bool true) ∧ Below w.heap.size w w' := by
  have LX := Lib.hid (row_len' r0 b0)
  have HPW := Lib.hid (val_pow r0 b0)
  have R0 := Lib.hid r0; clear r0
  obtain ⟨X, hX⟩ : ∃ X, X = val xs := ⟨_, rfl⟩
  rw [← hX] at LX HPW
  have VX := Lib.hid hX.symm; clear hX
  have HB := Lib.hid (Below.refl w.heap.size w)
  have HD := Lib.hid hd; clear hd
  go_enter Try.func9, Try.ntmps9
  go_wp2_with fail
  refine (few_yes a0 none n0 c0 0 0 w b0 (by omega)).mono ?_
  rintro e w' ⟨rfl, rfl⟩

  go_wp2_with fail
  refine (printN X R0.out VX.out (by omega)).mono ?_
  rintro e w1 ⟨rfl, hb⟩
  replace R0 := Lib.hid (row_below (Nat.le_refl _) hb R0.out)
  replace HB := Lib.hid (HB.out.trans (hb.mono HB.out.size))
  clear hb
  go_wp2_with fail
  refine (parse_dec 12 X HPW.out (by omega) LX.out _).mono ?_
  rintro e w2 ⟨vP, mP, rfl, bP, hr, hb⟩
  have RP := Lib.hid hr; clear hr
  replace R0 := Lib.hid (row_below (Nat.le_refl _) hb R0.out)
  replace HB := Lib.hid (HB.out.trans (hb.mono HB.out.size))
  clear hb
  go_wp2_with fail
  refine (parse_long s _ (by omega) HD.out hl).mono ?_
  rintro e w' ⟨rfl, rfl⟩
  go_wp2_with fail
  refine (trimN 12 X R0.out (by omega) VX.out LX.out).mono ?_
  rintro e w3 ⟨vQ, mQ, rfl, bQ, hr, hb⟩
  have RQ := Lib.hid hr; clear hr
  replace R0 := Lib.hid (row_below (Nat.le_refl _) hb R0.out)
  replace RP := Lib.hid (row_below (Nat.le_refl _) hb RP.out)
  replace HB := Lib.hid (HB.out.trans (hb.mono HB.out.size))
  clear hb
  go_wp2_with fail
  refine (sameN RP.out RQ.out rfl (by omega)).mono ?_
  rintro e w4 ⟨rfl, hb⟩
  replace R0 := Lib.hid (row_below (Nat.le_refl _) hb R0.out)
  replace RP := Lib.hid (row_below (Nat.le_refl _) hb RP.out)
  replace RQ := Lib.hid (row_below (Nat.le_refl _) hb RQ.out)
  replace HB := Lib.hid (HB.out.trans (hb.mono HB.out.size))
  clear hb
  go_wp2_with fail
  refine (awake_any _).mono ?_
  rintro e w5 ⟨rfl, hb⟩
  replace HB := Lib.hid (HB.out.trans (hb.mono HB.out.size))
  clear hb
  go_wp2
  go_ret
  exact ⟨rfl, HB.out⟩

set_option maxHeartbeats 4000000 in
theorem natBack_ok (a0 : Option Addr) (n0 c0 : Nat) (xs : List Nat) (s : ByteArray) (w : World) (r0 : Row w a0 n0 c0 xs) (b0 : n0 ≤ 12) (hs : s.size ≤ 400) (hd : allDig s) (h0 : 0 < s.size) (hl : s.size ≤ 300) :
    Calls Try.prog 9 #[.slice a0 n0 c0, .string s] w fun e w' => e = .returned (.bool true) ∧ Below w.heap.size w w' := by
  have LX := Lib.hid (row_len' r0 b0)
  have HPW := Lib.hid (val_pow r0 b0)
  have R0 := Lib.hid r0; clear r0
  obtain ⟨X, hX⟩ : ∃ X, X = val xs := ⟨_, rfl⟩
  rw [← hX] at LX HPW
  have VX := Lib.hid hX.symm; clear hX
  have HB := Lib.hid (Below.refl w.heap.size w)
  have HD := Lib.hid hd; clear hd
  go_enter Try.func9, Try.ntmps9
  go_wp2_with fail
  refine (few_yes a0 none n0 c0 0 0 w b0 (by omega)).mono ?_
  rintro e w' ⟨rfl, rfl⟩

  go_wp2_with fail
  refine (printN X R0.out VX.out (by omega)).mono ?_
  rintro e w1 ⟨rfl, hb⟩
  replace R0 := Lib.hid (row_below (Nat.le_refl _) hb R0.out)
  replace HB := Lib.hid (HB.out.trans (hb.mono HB.out.size))
  clear hb
  go_wp2_with fail
  refine (parse_dec 12 X HPW.out (by omega) LX.out _).mono ?_
  rintro e w2 ⟨vP, mP, rfl, bP, hr, hb⟩
  have RP := Lib.hid hr; clear hr
  replace R0 := Lib.hid (row_below (Nat.le_refl _) hb R0.out)
  replace HB := Lib.hid (HB.out.trans (hb.mono HB.out.size))
  clear hb
  go_wp2_with fail
  refine (parseN 50 s _ hl h0 HD.out (len_numOf s HD.out hl)).mono ?_
  rintro e w3 ⟨vY, mY, rfl, bY, hr, hb⟩
  have RY := Lib.hid hr; clear hr
  replace R0 := Lib.hid (row_below (Nat.le_refl _) hb R0.out)
  replace RP := Lib.hid (row_below (Nat.le_refl _) hb RP.out)
  replace HB := Lib.hid (HB.out.trans (hb.mono HB.out.size))
  clear hb
  obtain ⟨wq, hwq⟩ : ∃ wq : World, wq = w3 := ⟨_, rfl⟩
  subst hwq
  go_wp2
  go_loop [9] (fun t => ∃ k : Nat, k < s.size ∧ t = .int .i64 (k : Int) ∧ Hid (∀ j (h : j < s.size), j < k → s[j].toNat = 48)) (fun t => s.size - (intOf t).toNat)
  case atStart => exact ⟨0, h0, rfl, fun j h hj => by omega⟩
  case round =>
    obtain ⟨k, hk, rfl, HK⟩ := hrel
    by_cases hk1 : k + 1 < s.size
    · by_cases h48 : s[k].toNat = 48
      · have hb48 : ((s[k].toNat : Int) == 48) = true := by rw [beq_iff_eq]; omega
        have H48 := Lib.hid h48; clear h48
        have hk2 : (k : Int) + 1 < (s.size : Int) := by omega
        go_wp2
        go_round
        case rel => exact ⟨k + 1, hk1, by go_num, fun j h hj => by
          by_cases e : j = k
          · subst e; exact H48.out
          · exact HK.out j h (by omega)⟩
        case measure => simp [intOf]; omega
      · have hb48 : ((s[k].toNat : Int) == 48) = false := by rw [beq_eq_false_iff_ne]; omega
        have H48 := Lib.hid h48; clear h48
        have hk2 : (k : Int) + 1 < (s.size : Int) := by omega
        have HE : Hid (decStr (numOf s.data.toList) = s.extract k s.size) := back_str s k HD.out hk HK.out (Or.inr H48.out)
        go_wp2
        go_region_with (go_at_call 31; refine (printE (by first | exact RY.out | exact row_drew RY.out) HE.out (by omega)).mono ?_; rintro e wz ⟨rfl, hb⟩)
        all_goals
          replace hb : Below wq.heap.size wq wz := ((Below.refl _ _).drew).trans hb
          replace R0 := Lib.hid (row_below (Nat.le_refl _) hb R0.out)
          replace RP := Lib.hid (row_below (Nat.le_refl _) hb RP.out)
          replace HB := Lib.hid (HB.out.trans (hb.mono HB.out.size))
          clear hb
          go_wp2_with fail
          refine (trimN 12 X R0.out (by omega) VX.out LX.out).mono ?_
          rintro e wt ⟨vQ, mQ, rfl, bQ, hr, hb⟩
          have RQ := Lib.hid hr; clear hr
          replace RP := Lib.hid (row_below (Nat.le_refl _) hb RP.out)
          replace HB := Lib.hid (HB.out.trans (hb.mono HB.out.size))
          clear hb
          go_wp2_with fail
          refine (sameN RP.out RQ.out rfl (by omega)).mono ?_
          rintro e wu ⟨rfl, hb⟩
          replace HB := Lib.hid (HB.out.trans (hb.mono HB.out.size))
          clear hb
          go_wp2_with fail
          refine (awake_any _).mono ?_
          rintro e wv ⟨rfl, hb⟩
          replace HB := Lib.hid (HB.out.trans (hb.mono HB.out.size))
          clear hb
          go_wp2
          go_ret
          exact ⟨rfl, HB.out⟩
    · have hk2 : ¬ (k : Int) + 1 < (s.size : Int) := by omega
      have HE : Hid (decStr (numOf s.data.toList) = s.extract k s.size) := back_str s k HD.out hk HK.out (Or.inl (by omega))
      go_wp2
      go_region_with (go_at_call 31; refine (printE (by first | exact RY.out | exact row_drew RY.out) HE.out (by omega)).mono ?_; rintro e wz ⟨rfl, hb⟩)
      all_goals
        replace hb : Below wq.heap.size wq wz := ((Below.refl _ _).drew).trans hb
        replace R0 := Lib.hid (row_below (Nat.le_refl _) hb R0.out)
        replace RP := Lib.hid (row_below (Nat.le_refl _) hb RP.out)
        replace HB := Lib.hid (HB.out.trans (hb.mono HB.out.size))
        clear hb
        go_wp2_with fail
        refine (trimN 12 X R0.out (by omega) VX.out LX.out).mono ?_
        rintro e wt ⟨vQ, mQ, rfl, bQ, hr, hb⟩
        have RQ := Lib.hid hr; clear hr
        replace RP := Lib.hid (row_below (Nat.le_refl _) hb RP.out)
        replace HB := Lib.hid (HB.out.trans (hb.mono HB.out.size))
        clear hb
        go_wp2_with fail
        refine (sameN RP.out RQ.out rfl (by omega)).mono ?_
        rintro e wu ⟨rfl, hb⟩
        replace HB := Lib.hid (HB.out.trans (hb.mono HB.out.size))
        clear hb
        go_wp2_with fail
        refine (awake_any _).mono ?_
        rintro e wv ⟨rfl, hb⟩
        replace HB := Lib.hid (HB.out.trans (hb.mono HB.out.size))
        clear hb
        go_wp2
        go_ret
        exact ⟨rfl, HB.out⟩

set_option maxHeartbeats 1000000 in
theorem natBack_out (a0 : Option Addr) (n0 c0 : Nat) (s : ByteArray) (w : World) (b0 : n0 ≤ maxLen) (b1 : s.size ≤ maxLen) (h : ¬ n0 ≤ 12 ∨ (n0 ≤ 12 ∧ ¬ s.size ≤ 400)) :
    Calls Try.prog 9 #[.slice a0 n0 c0, .string s] w fun e w' => e = .returned (.bool true) ∧ Below w.heap.size w w' := by
  rcases h with h | ⟨h0, h1⟩
  · have H := Lib.hid h; clear h
    have B0 := Lib.hid b0; clear b0 b1
    go_enter Try.func9, Try.ntmps9
    go_wp2_with fail
    refine (few_no a0 none n0 c0 0 0 w B0.out (Nat.zero_le _) (fun h => H.out h.1)).mono ?_
    rintro e w' ⟨rfl, rfl⟩
    go_wp2
    go_ret
    exact ⟨rfl, Below.refl _ _⟩
  · unfold maxLen at b1
    clear b0
    go_enter Try.func9, Try.ntmps9
    go_wp2_with fail
    refine (few_yes a0 none n0 c0 0 0 w h0 (by omega)).mono ?_
    rintro e w' ⟨rfl, rfl⟩
    have h2 : (400 : Int) < (s.size : Int) := by omega
    go_wp2
    go_ret
    exact ⟨rfl, Below.refl _ _⟩

theorem natBack_walk (a0 : Option Addr) (len0 cap0 : Nat) (z0 : List Int) (a1 : ByteArray) (w : World) (w0 : IsRow .u32 w a0 len0 cap0 z0) (w1 : a1.size ≤ maxLen) :
    Calls Try.prog 9 #[.slice a0 len0 cap0, .string a1] w fun e w' => e = .returned (.bool true) ∧ Below w.heap.size w w' := by
  obtain ⟨xs, r0⟩ := row_of_isrow w0
  clear w0
  by_cases h : len0 ≤ 12
  · by_cases hs : a1.size ≤ 400
    · by_cases hd : a1.size = 0 ∨ ¬ allDig a1
      · exact natBack_bad a0 _ cap0 xs a1 w r0 h hs hd
      · have hd1 : allDig a1 := Classical.byContradiction fun hh => hd (Or.inr hh)
        have h0 : 0 < a1.size := by rcases Nat.eq_zero_or_pos a1.size with hh | hh; exact absurd (Or.inl hh) hd; exact hh
        by_cases hl : 300 < a1.size
        · exact natBack_long a0 _ cap0 xs a1 w r0 h hs hd1 hl
        · exact natBack_ok a0 _ cap0 xs a1 w r0 h hs hd1 h0 (by omega)
    · exact natBack_out a0 _ cap0 a1 w r0.len_le w1 (Or.inr ⟨h, hs⟩)
  · exact natBack_out a0 _ cap0 a1 w r0.len_le w1 (Or.inl h)

set_option maxRecDepth 100000 in
theorem natBack_lifted (os : Os) (started : os.Started) (H : Type) (enc : TypeId × Value → H) :
    ReturnsInHanded {} Try.checked os 9 .any (Rows.natBackSpec.pre6 enc Try.prog Try.f9 Rows.natBackRow.domain false) (Rows.natBackSpec.post enc Try.prog Try.f9 false true false false) := by
  refine returnsInHanded_of_change (C := Try.checked) Try.ownKnob started (by kernel_rfl) Try.func9
    (ChangeSpec.witness6 (enc := enc) (C := Try.checked) false ⟨#[], #[.slice none 0 0, .string ByteArray.empty], []⟩ 8 (by kernel_rfl) (by kernel_rfl) (by kernel_rfl) (by kernel_rfl)) ?_
  intro W base args ds gs before hval0 hW hcnd _
  have hval : ∀ (j : Nat) t v, Try.f9.params[j]? = some t → args[j]? = some v → Value.okWide Try.prog W .any base t v := hval0
  have hW' := hW
  obtain ⟨p, q, hA0, hV, rfl, hfz, hnd⟩ := hW
  have hA : DataW.TrodAll enc Try.prog W 0 (fun _ => true) true Try.f9.params.toList args.toList ds p := hA0
  rw [Try.params9] at hA hval
  obtain ⟨v0, vs0, d0, ds0, p0, q0, hargs, rfl, rfl, h0, r0⟩ := trodAll_cons hA
  obtain ⟨v1, vs1, d1, ds1, p1, q1, rfl, rfl, rfl, h1, r1⟩ := trodAll_cons r0
  obtain ⟨rfl, rfl, rfl⟩ := trodAll_nil r1
  obtain rfl : args = #[v0, v1] := by cases args; simp_all
  obtain ⟨rfl, rfl⟩ := trodVars_none hV
  obtain ⟨a0, len0, cap0, rfl⟩ := okWide_slice Try.underlying22 (hval 0 22 v0 rfl rfl)
  have k0 := h0
  have lt0 : ∀ x ∈ p0, x.block < W.heap.size := by obtain ⟨m, hm⟩ := k0; exact DataW.trod_lt m _ _ _ hm
  obtain ⟨z0, w0⟩ : ∃ zs, IsRow .u32 W a0 len0 cap0 zs := by
    obtain ⟨fuel, hf⟩ := h0
    rcases open_ints Try.underlying22 Try.underlying38 (by kernel_rfl) hf with ⟨hcs, _⟩ | ⟨x, l, c, zs, hcs, _, hl, hm, hz, _, hcell, hwz⟩
    · simp [Value.cells] at hcs
      obtain ⟨rfl, rfl, rfl⟩ := hcs
      exact ⟨[], .inl ⟨rfl, rfl, rfl, rfl⟩⟩
    · simp [Value.cells] at hcs
      obtain ⟨rfl, rfl, rfl⟩ := hcs
      exact ⟨zs, .inr ⟨_, rfl, hl, hm, by simpa using hz, hcell, hwz⟩⟩
  obtain ⟨a1, rfl, rfl, rfl, w1⟩ := open_string Try.underlying9 (hval 1 9 v1 rfl rfl) h1
  clear hA0 hval0
  refine (natBack_walk a0 len0 cap0 z0 a1 W w0 w1).mono fun e W' ⟨he, bel⟩ => ?_
  subst he
  exact ⟨_, rfl, _, _, _, [], _, [], hW', trodAll_mk1 (shut_bool Try.underlying4 _), (trodAll_cons_mk (Below.trod Try.laidOut (by kernel_rfl) (of_decide_eq_true (by kernel_rfl)) k0 bel lt0) (trodAll_cons_mk (shut_string Try.underlying9 w1) trodAll_mk0)), rfl, bel.frame _, fun h => by cases h⟩

theorem natBack_over : Rows.natBackRow.holds Try.pinned (OpenSpec.ofChange Rows.natBackSpec) :=
  OpenClaim.holds_of_wide 9 Try.f9 rfl rfl rfl rfl rfl rfl rfl ⟨rfl, rfl, rfl, rfl, rfl⟩ rfl rfl rfl rfl rfl (by kernel_rfl) Try.func9 (by kernel_rfl)
    (of_decide_eq_true (by kernel_rfl)) (by unfold Func.isWrapper; first | (rw [if_pos (by decide +kernel)]; kernel_rfl) | (rw [if_neg (by decide +kernel)]; exact ⟨rfl, rfl⟩))
    (fun os started H enc _ => natBack_lifted os started H enc)

theorem natBack_holds : Rows.NatBackSaid := natBack_over
#print axioms natBack_holds
end Go.Proofs.Ytjpjibdcjmjcgaa
