/- What Cmp, Trim, Same and Bits tell, of any two rows. No condition but that rows have at most 10^9 numbers. -/
import Derived.Test.YtjpjibdcjmjcgaaMem
import Derived.Deep.QuietTactic
import Derived.BigQuiet
namespace Go.Proofs.Ytjpjibdcjmjcgaa
open Go.RowKit Nums

def CmpPost (X Y : Nat) (w : World) (e : Ending) (w' : World) : Prop := e = .returned (.int .i64 (cmpv X Y)) ∧ Below w.heap.size w w'

theorem CmpPost.lt {X Y : Nat} {w w' : World} (h : X < Y) (hb : Below w.heap.size w w') : CmpPost X Y w (.returned (.int .i64 (-1))) w' := ⟨by simp [cmpv, h], hb⟩
theorem CmpPost.gt {X Y : Nat} {w w' : World} (h : Y < X) (hb : Below w.heap.size w w') : CmpPost X Y w (.returned (.int .i64 1)) w' := ⟨by rw [cmpv, if_neg (by omega), if_pos h], hb⟩
theorem CmpPost.eq {X Y : Nat} {w w' : World} (h : X = Y) (hb : Below w.heap.size w w') : CmpPost X Y w (.returned (.int .i64 0)) w' := ⟨by subst h; simp [cmpv], hb⟩

/-- two numbers of as many limbs agree from place k on -/
def Agree (X Y : Nat) (k : Nat) : Prop := ∀ j, k ≤ j → (limbs X).getD j 0 = (limbs Y).getD j 0

theorem agree_eq {X Y : Nat} (hl : (limbs X).length = (limbs Y).length) (h : Agree X Y 0) : X = Y := by
  apply limbs_inj
  apply List.ext_getElem hl
  intro i hi hi'
  have := h i (Nat.zero_le _)
  simpa [hi, hi'] using this

theorem agree_lt {X Y k : Nat} (hl : (limbs X).length = (limbs Y).length) (h : Agree X Y (k + 1)) (hk : (limbs X).getD k 0 < (limbs Y).getD k 0) : X < Y := by
  have := lt_at (limbs X) (limbs Y) hl (small_limbs X) (small_limbs Y) k (fun j hj => h j hj) hk
  rwa [val_limbs, val_limbs] at this

theorem Agree.symm {X Y k : Nat} (h : Agree X Y k) : Agree Y X k := fun j hj => (h j hj).symm

theorem agree_step {X Y k : Nat} (hk : 0 < k) (h : Agree X Y k) (h' : (limbs X).getD (k - 1) 0 = (limbs Y).getD (k - 1) 0) : Agree X Y (k - 1) := fun j hj => by
  by_cases e : j = k - 1
  · rw [e]; exact h'
  · exact h j (by omega)

set_option maxHeartbeats 1000000 in
theorem cmp_any (a0 a1 : Option Addr) (n0 c0 n1 c1 : Nat) (xs ys : List Nat) (w : World) (h0 : Row w a0 n0 c0 xs) (h1 : Row w a1 n1 c1 ys) (hn0 : n0 ≤ 1000000000) (hn1 : n1 ≤ 1000000000) :
    Calls Try.prog 18 #[.slice a0 n0 c0, .slice a1 n1 c1] w (CmpPost (val xs) (val ys) w) := by
  have H0 := Lib.hid h0; clear h0
  have H1 := Lib.hid h1; clear h1
  go_enter Try.func18, Try.ntmps18
  go_wp2_with fail
  refine (cut_num a0 n0 c0 xs w H0.out hn0).mono ?_
  rintro e w' ⟨a0', m0, rfl, hm0, hmn0, hrow0, -, rfl⟩
  have HM0 := Lib.hid hm0; clear hm0
  have HR0 := Lib.hid hrow0; clear hrow0
  go_wp2_with fail
  refine (cut_num a1 n1 c1 ys w H1.out hn1).mono ?_
  rintro e w' ⟨a1', m1, rfl, hm1, hmn1, hrow1, -, rfl⟩
  have HM1 := Lib.hid hm1; clear hm1
  have HR1 := Lib.hid hrow1; clear hrow1
  by_cases hlt : m0 < m1
  · go_wp2
    go_ret
    exact CmpPost.lt (lt_of_len (by rw [← HM0.out, ← HM1.out]; exact hlt)) (Below.refl _ _)
  · by_cases hgt : m1 < m0
    · go_wp2
      go_ret
      exact CmpPost.gt (lt_of_len (by rw [← HM0.out, ← HM1.out]; exact hgt)) (Below.refl _ _)
    · obtain rfl : m1 = m0 := by omega
      have HL : Hid ((limbs (val xs)).length = (limbs (val ys)).length) := (HM0.out.symm.trans HM1.out)
      have HA : Hid (Agree (val xs) (val ys) m1) := fun j hj => by
        rw [getD_ge _ _ (by rw [← HM0.out]; exact hj), getD_ge _ _ (by rw [← HM1.out]; exact hj)]
      obtain ⟨X, hX⟩ : ∃ X, X = val xs := ⟨_, rfl⟩
      obtain ⟨Y, hY⟩ : ∃ Y, Y = val ys := ⟨_, rfl⟩
      rw [← hX] at HR0 HL HA
      rw [← hY] at HR1 HL HA
      have HX := Lib.hid hX; clear hX
      have HY := Lib.hid hY; clear hY
      by_cases hm : 0 < m1
      · obtain ⟨-, -, -, -, -, b0, o0, hor0, hc0⟩ := HR0.out
        obtain ⟨-, -, -, -, -, b1, o1, hor1, hc1⟩ := HR1.out
        have HC0 := Lib.hid hc0; clear hc0
        have HC1 := Lib.hid hc1; clear hc1
        rcases hor0 with rfl | hor0
        · rcases hor1 with rfl | hor1
          · go_wp2
            go_loopw [5] (fun t wr => ∃ k : Nat, k ≤ m1 ∧ t = .int .i64 ((k : Int) - 1) ∧ Hid (Agree X Y k) ∧ Below w.heap.size w wr) (fun t _ => (intOf t + 1).toNat)
            case atStart => exact ⟨m1, Nat.le_refl _, rfl, HA, Below.refl _ _⟩
            case round =>
              obtain ⟨k, hk, rfl, hag, hbel⟩ := hrel
              by_cases hk0 : 0 < k
              · have hs0 := HC0.out (k - 1) (by omega)
                have hs1 := HC1.out (k - 1) (by omega)
                have hcell0 : wr.cell? ⟨b0, o0 + (k - 1), none⟩ = some (.int .u32 ((limbs X).getD (k - 1) 0 : Nat)) := by rw [hbel.cell (p := ⟨b0, o0 + (k - 1), none⟩) hs0.1]; exact hs0.2
                have hcell1 : wr.cell? ⟨b1, o1 + (k - 1), none⟩ = some (.int .u32 ((limbs Y).getD (k - 1) 0 : Nat)) := by rw [hbel.cell (p := ⟨b1, o1 + (k - 1), none⟩) hs1.1]; exact hs1.2
                clear hs0 hs1
                have hi0 : (0 : Int) ≤ (k : Int) - 1 := by omega
                have hi1 : (k : Int) - 1 < (m1 : Int) := by omega
                have e : ((k : Int) - 1).toNat = k - 1 := by omega
                obtain ⟨x, hx⟩ : ∃ x, x = (limbs X).getD (k - 1) 0 := ⟨_, rfl⟩
                obtain ⟨y, hy⟩ : ∃ y, y = (limbs Y).getD (k - 1) 0 := ⟨_, rfl⟩
                rw [← hx] at hcell0
                rw [← hy] at hcell1
                have HXx := Lib.hid hx; clear hx
                have HYy := Lib.hid hy; clear hy
                by_cases hxy : x < y
                · go_wp2
                  go_quiet (fail)
                  go_wp2
                  go_ret
                  exact CmpPost.lt (by rw [← HX.out, ← HY.out]; exact agree_lt (k := k - 1) HL.out (by rw [show k - 1 + 1 = k by omega]; exact hag.out) (by rw [← HXx.out, ← HYy.out]; exact hxy)) (below_drewN hbel _)
                · by_cases hyx : y < x
                  · go_wp2
                    go_quiet (fail)
                    go_wp2
                    go_quiet (fail)
                    go_wp2
                    go_ret
                    exact CmpPost.gt (by rw [← HX.out, ← HY.out]; exact agree_lt (k := k - 1) HL.out.symm (by rw [show k - 1 + 1 = k by omega]; exact hag.out.symm) (by rw [← HXx.out, ← HYy.out]; exact hyx)) (below_drewN (below_drewN hbel _) _)
                  · go_wp2
                    go_quiet (fail)
                    go_wp2
                    go_quiet (fail)
                    go_wp2
                    go_roundw
                    case rel => exact ⟨k - 1, by omega, by go_num, agree_step (by omega) hag.out (by rw [← HXx.out, ← HYy.out]; omega), below_drewN hbel _⟩
                    case measure => simp [intOf]; omega
              · go_wp2
                go_ret
                obtain rfl : k = 0 := by omega
                exact CmpPost.eq (by rw [← HX.out, ← HY.out]; exact agree_eq HL.out hag.out) hbel
          · exfalso; omega
        · exfalso; omega
      · go_wp2
        go_loopw [5] (fun t wr => t = .int .i64 (-1) ∧ Hid (Agree X Y 0) ∧ Below w.heap.size w wr) (fun t _ => 0)
        case atStart => exact ⟨by go_num, (by have : m1 = 0 := by omega
                                              rw [← this]; exact HA), Below.refl _ _⟩
        case round =>
          obtain ⟨rfl, hag, hbel⟩ := hrel
          go_wp2
          go_ret
          exact CmpPost.eq (by rw [← HX.out, ← HY.out]; exact agree_eq HL.out hag.out) hbel
theorem cmp_lt (a0 a1 : Option Addr) (n0 c0 n1 c1 : Nat) (xs ys : List Nat) (w : World) (h0 : Row w a0 n0 c0 xs) (h1 : Row w a1 n1 c1 ys) (hn0 : n0 ≤ 1000000000) (hn1 : n1 ≤ 1000000000) (h : val xs < val ys) :
    Calls Try.prog 18 #[.slice a0 n0 c0, .slice a1 n1 c1] w fun e w' => e = .returned (.int .i64 (-1)) ∧ Below w.heap.size w w' :=
  (cmp_any a0 a1 n0 c0 n1 c1 xs ys w h0 h1 hn0 hn1).mono fun e w' ⟨h1, h2⟩ => ⟨by rw [h1, cmpv, if_pos h], h2⟩

theorem cmp_ge (a0 a1 : Option Addr) (n0 c0 n1 c1 : Nat) (xs ys : List Nat) (w : World) (h0 : Row w a0 n0 c0 xs) (h1 : Row w a1 n1 c1 ys) (hn0 : n0 ≤ 1000000000) (hn1 : n1 ≤ 1000000000) (h : val ys ≤ val xs) :
    Calls Try.prog 18 #[.slice a0 n0 c0, .slice a1 n1 c1] w fun e w' => (∃ r : Int, e = .returned (.int .i64 r) ∧ 0 ≤ r) ∧ Below w.heap.size w w' :=
  (cmp_any a0 a1 n0 c0 n1 c1 xs ys w h0 h1 hn0 hn1).mono fun e w' ⟨h1, h2⟩ => ⟨⟨_, h1, by rw [cmpv, if_neg (by omega)]; split <;> omega⟩, h2⟩

set_option maxHeartbeats 1000000 in
/-- Same, of two rows that read alike. -/
theorem same_any (a0 a1 : Option Addr) (n0 c0 n1 c1 : Nat) (xs : List Nat) (w : World) (h0 : Row w a0 n0 c0 xs) (h1 : Row w a1 n1 c1 xs) (hn0 : n0 ≤ 1000000000) :
    Calls Try.prog 13 #[.slice a0 n0 c0, .slice a1 n1 c1] w fun e w' => e = .returned (.bool true) ∧ Below w.heap.size w w' := by
  obtain rfl : n1 = n0 := h1.1.symm.trans h0.1
  obtain ⟨-, -, -, -, -, b0, o0, hor0, hc0⟩ := h0
  obtain ⟨-, -, -, -, -, b1, o1, hor1, hc1⟩ := h1
  have HC0 := Lib.hid hc0; clear hc0
  have HC1 := Lib.hid hc1; clear hc1
  by_cases hm : 0 < n1
  · rcases hor0 with rfl | hor0
    · rcases hor1 with rfl | hor1
      · go_enter Try.func13, Try.ntmps13
        go_wp2
        go_loopw [5] (fun t wr => ∃ k : Nat, k ≤ n1 ∧ t = .int .i64 (k : Int) ∧ Below w.heap.size w wr) (fun t _ => n1 - (intOf t).toNat)
        case atStart => exact ⟨0, Nat.zero_le _, rfl, Below.refl _ _⟩
        case round =>
          obtain ⟨k, hk, rfl, hbel⟩ := hrel
          by_cases hk0 : k < n1
          · have hs0 := HC0.out k hk0
            have hs1 := HC1.out k hk0
            have hcell0 : wr.cell? ⟨b0, o0 + k, none⟩ = some (.int .u32 (xs.getD k 0 : Nat)) := by rw [hbel.cell (p := ⟨b0, o0 + k, none⟩) hs0.1]; exact hs0.2
            have hcell1 : wr.cell? ⟨b1, o1 + k, none⟩ = some (.int .u32 (xs.getD k 0 : Nat)) := by rw [hbel.cell (p := ⟨b1, o1 + k, none⟩) hs1.1]; exact hs1.2
            clear hs0 hs1
            obtain ⟨x, hx⟩ : ∃ x, x = xs.getD k 0 := ⟨_, rfl⟩
            rw [← hx] at hcell0 hcell1
            clear hx
            have hi0 : (0 : Int) ≤ (k : Int) := by omega
            have hi1 : (k : Int) < (n1 : Int) := by omega
            go_wp2
            go_quiet (fail)
            go_wp2
            go_roundw
            case rel => exact ⟨k + 1, by omega, by go_num, below_drewN hbel _⟩
            case measure => simp [intOf]; omega
          · go_wp2
            go_ret
            exact ⟨rfl, hbel⟩
      · exfalso; omega
    · exfalso; omega
  · go_enter Try.func13, Try.ntmps13
    go_wp2
    go_loopw [5] (fun t wr => t = .int .i64 0 ∧ Below w.heap.size w wr) (fun t _ => 0)
    case atStart => exact ⟨rfl, Below.refl _ _⟩
    case round =>
      obtain ⟨rfl, hbel⟩ := hrel
      go_wp2
      go_ret
      exact ⟨rfl, hbel⟩

/-- Trim: the number, in new memory. -/
theorem trim_any (a : Option Addr) (n c : Nat) (xs : List Nat) (w : World) (hr : Row w a n c xs) (hn : n ≤ 1000000000) :
    Calls Try.prog 22 #[.slice a n c] w fun e w' => ∃ a' m, e = .returned (.slice a' m m) ∧ m = (limbs (val xs)).length ∧ m ≤ n ∧ Row w' a' m m (limbs (val xs)) ∧ Below w.heap.size w w' := by
  have HS := Lib.hid hr.2.2.2.2.1
  have HR := Lib.hid hr; clear hr
  go_enter Try.func22, Try.ntmps22
  go_wp2_with fail
  refine (told_any a n c xs w HR.out hn).mono ?_
  rintro e w' ⟨⟨a', m, rfl, hm, hmn, hrow, hor⟩, hb⟩
  have HM := Lib.hid hm; clear hm
  have HROW := Lib.hid hrow; clear hrow
  have HO := Lib.hid hor; clear hor
  have HB := Lib.hid hb; clear hb
  go_wp2
  go_ret
  refine ⟨a', m, rfl, by rw [HM.out, tl_eq xs HS.out], hmn, ?_, HB.out⟩
  have h := HROW.out
  have e : xs.take m = limbs (val xs) := by rw [HM.out]; exact limbs_take xs HS.out
  rw [e] at h
  exact h
end Go.Proofs.Ytjpjibdcjmjcgaa
