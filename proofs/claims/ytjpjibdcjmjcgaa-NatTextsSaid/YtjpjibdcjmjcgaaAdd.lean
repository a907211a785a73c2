/- What Add tells, of any two rows: the sum. Condition: rows of at most 10^9 numbers. -/
import Derived.Test.YtjpjibdcjmjcgaaCmp
namespace Go.Proofs.Ytjpjibdcjmjcgaa
open Go.RowKit Nums

/-- The call tells the number N, in memory that reads so, and has turned nothing that was there. -/
def Num (N : Nat) (w : World) (e : Ending) (w' : World) : Prop :=
  ∃ a' m, e = .returned (.slice a' m m) ∧ m = (limbs N).length ∧ Row w' a' m m (limbs N) ∧ Below w.heap.size w w'

theorem num_of_cut {N : Nat} {w0 w : World} {zs : List Nat} {g n : Nat} (hm : Mem w g zs) (hs : Small zs) (hl : zs.length = n) (hn : n ≤ 1000000000) (hv : val zs = N) (hb : Below w0.heap.size w0 w) :
    Calls Try.prog 33 #[.slice (some ⟨g, 0, none⟩) n n] w (Num N w0) := by
  subst hl
  refine (cut_num _ _ _ zs w (hm.row0 hs zs.length (Nat.le_refl _) (by unfold maxLen; omega)) hn).mono ?_
  rintro e w' ⟨a', m, rfl, hm, hmn, hrow, -, rfl⟩
  rw [hv] at hm hrow
  exact ⟨a', m, rfl, hm, hrow, hb⟩

set_option maxHeartbeats 1000000 in
theorem add_any (a0 a1 : Option Addr) (n0 c0 n1 c1 : Nat) (xs ys : List Nat) (w : World) (h0 : Row w a0 n0 c0 xs) (h1 : Row w a1 n1 c1 ys) (hn0 : n0 ≤ 100000000) (hn1 : n1 ≤ 100000000) :
    Calls Try.prog 14 #[.slice a0 n0 c0, .slice a1 n1 c1] w (Num (val xs + val ys) w) := by
  have H0 := Lib.hid h0; clear h0
  have H1 := Lib.hid h1; clear h1
  go_enter Try.func14, Try.ntmps14
  go_wp2_with fail
  refine (cut_num a0 n0 c0 xs w H0.out (by omega)).mono ?_
  rintro e w' ⟨a0', m0, rfl, hm0, hmn0, hrow0, -, rfl⟩
  have HM0 := Lib.hid hm0; clear hm0
  have HR0 := Lib.hid hrow0; clear hrow0
  go_wp2_with fail
  refine (cut_num a1 n1 c1 ys w H1.out (by omega)).mono ?_
  rintro e w' ⟨a1', m1, rfl, hm1, hmn1, hrow1, -, rfl⟩
  have HM1 := Lib.hid hm1; clear hm1
  have HR1 := Lib.hid hrow1; clear hrow1
  obtain ⟨X, hX⟩ : ∃ X, X = val xs := ⟨_, rfl⟩
  obtain ⟨Y, hY⟩ : ∃ Y, Y = val ys := ⟨_, rfl⟩
  rw [← hX] at HR0 HM0
  rw [← hY] at HR1 HM1
  have HS : Hid (X + Y = val xs + val ys) := by rw [hX, hY]; exact rfl
  clear hX hY H0 H1
  by_cases hlt : m0 < m1
  · obtain ⟨p, rfl⟩ : ∃ p, p = a1' := ⟨_, rfl⟩
    obtain ⟨q, rfl⟩ : ∃ q, q = a0' := ⟨_, rfl⟩
    obtain ⟨mp, rfl⟩ : ∃ mp, mp = m1 := ⟨_, rfl⟩
    obtain ⟨mq, rfl⟩ : ∃ mq, mq = m0 := ⟨_, rfl⟩
    obtain ⟨P, rfl⟩ : ∃ P, P = Y := ⟨_, rfl⟩
    obtain ⟨Q, rfl⟩ : ∃ Q, Q = X := ⟨_, rfl⟩
    have hle : mq ≤ mp := by omega
    have hS : P + Q = val xs + val ys := by rw [← HS.out]; omega
    have HS' := Lib.hid hS; clear hS
    go_wp2_with (at_make; refine make32 rfl _ rfl _ (mp + 1) rfl (by omega) (by omega) ?_)
    intro g w1 hg hmem hbel
    have HG := Lib.hid hmem; clear hmem
    obtain ⟨-, -, -, -, -, b0, o0, hor0, hc0⟩ := HR1.out
    obtain ⟨-, -, -, -, -, b1, o1, hor1, hc1⟩ := HR0.out
    have HC0 := Lib.hid hc0; clear hc0
    have HC1 := Lib.hid hc1; clear hc1
    have HL0 : Hid (mp = (limbs P).length) := HM1
    have HL1 : Hid (mq = (limbs Q).length) := HM0
    rcases (show _ ∨ Hid _ from hor0) with rfl | hor0 <;> rcases (show _ ∨ Hid _ from hor1) with rfl | hor1
    all_goals
      go_wp2
      go_loopw [6, 25] (fun cv t wr => ∃ (k c : Nat) (zs : List Nat), k ≤ mp ∧ t = .int .i64 (k : Int) ∧ cv = .int .u64 (c : Int) ∧ c ≤ 1 ∧ Hid (zs.length = mp + 1 ∧ Small zs ∧ Mem wr g zs ∧ SumAt P Q zs k c) ∧ Below w.heap.size w wr) (fun _ t _ => mp - (intOf t).toNat)
      case atStart => exact ⟨0, 0, List.replicate (mp + 1) 0, Nat.zero_le _, rfl, rfl, by omega, ⟨by simp, by intro x hx; simp at hx; omega, HG.out, by simp [SumAt, val]⟩, hbel⟩
      case round =>
        obtain ⟨k, c, zs, hk, rfl, rfl, hc1, HZ, hbr⟩ := hrel
        by_cases hk0 : k < mp
        · first
          | (exfalso; have := hor0.out; omega)
          | (have hcell0 := cells_at HC0.out hbr k hk0
             have hx := getD_lt (limbs P) (small_limbs P) k
             obtain ⟨x, hxe⟩ : ∃ x, x = (limbs P).getD k 0 := ⟨_, rfl⟩
             rw [← hxe] at hcell0 hx
             have HXE := Lib.hid hxe; clear hxe
             have hz := HZ.out.2.2.1.cell k (by rw [HZ.out.1]; omega)
             have hzf := HZ.out.2.2.1.free k
             by_cases hk1 : k < mq
             · first
               | (exfalso; have := hor1.out; omega)
               | (have hcell1 := cells_at HC1.out hbr k hk1
                  have hy := getD_lt (limbs Q) (small_limbs Q) k
                  obtain ⟨y, hye⟩ : ∃ y, y = (limbs Q).getD k 0 := ⟨_, rfl⟩
                  rw [← hye] at hcell1 hy
                  have HYE := Lib.hid hye; clear hye
                  go_wp2
                  go_roundw
                  case rel => exact ⟨k + 1, (c + x + y) / 4294967296, zs.set k ((c + x + y) % 4294967296), by omega, by go_num, by go_num, by omega, ⟨by simp [HZ.out.1], small_set HZ.out.2.1 _ _ (by omega), HZ.out.2.2.1.setI k _ _ (by omega), HZ.out.2.2.2.step (by rw [HZ.out.1]; omega) HXE.out HYE.out (by omega)⟩, hbr.setCell (by exact hg) _⟩
                  case measure => simp [intOf]; omega)
             · go_wp2
               go_roundw
               case rel => exact ⟨k + 1, (c + x) / 4294967296, zs.set k ((c + x) % 4294967296), by omega, by go_num, by go_num, by omega, ⟨by simp [HZ.out.1], small_set HZ.out.2.1 _ _ (by omega), HZ.out.2.2.1.setI k _ _ (by omega), HZ.out.2.2.2.step (y := 0) (by rw [HZ.out.1]; omega) HXE.out (by rw [getD_ge _ _ (by rw [← HL1.out]; omega)]) (by omega)⟩, hbr.setCell (by exact hg) _⟩
               case measure => simp [intOf]; omega)
        · obtain rfl : mp = k := by omega
          have hz := HZ.out.2.2.1.cell mp (by rw [HZ.out.1]; omega)
          have hzf := HZ.out.2.2.1.free mp
          have hcc : ((c : Int) % 4294967296) = (c : Int) := by omega
          go_wp2_with fail
          refine (num_of_cut (N := P + Q) (w0 := w) (n := mp + 1) (HZ.out.2.2.1.setI mp _ c (by omega)) (small_set HZ.out.2.1 _ _ (by omega)) (by simp [HZ.out.1]) (by omega) (HZ.out.2.2.2.done HZ.out.1 (by rw [← HL0.out]; omega) (by rw [← HL1.out]; omega)) (hbr.setCell (by exact hg) _)).mono ?_
          rintro e w' ⟨a', m, rfl, hm, hrow, hb⟩
          have HM := Lib.hid hm; clear hm
          have HROW := Lib.hid hrow; clear hrow
          have HB := Lib.hid hb; clear hb
          go_wp2
          go_ret
          rw [← HS'.out]
          exact ⟨a', m, rfl, HM.out, HROW.out, HB.out⟩
  · obtain ⟨p, rfl⟩ : ∃ p, p = a0' := ⟨_, rfl⟩
    obtain ⟨q, rfl⟩ : ∃ q, q = a1' := ⟨_, rfl⟩
    obtain ⟨mp, rfl⟩ : ∃ mp, mp = m0 := ⟨_, rfl⟩
    obtain ⟨mq, rfl⟩ : ∃ mq, mq = m1 := ⟨_, rfl⟩
    obtain ⟨P, rfl⟩ : ∃ P, P = X := ⟨_, rfl⟩
    obtain ⟨Q, rfl⟩ : ∃ Q, Q = Y := ⟨_, rfl⟩
    have hle : mq ≤ mp := by omega
    have HS' := Lib.hid HS.out
    go_wp2_with (at_make; refine make32 rfl _ rfl _ (mp + 1) rfl (by omega) (by omega) ?_)
    intro g w1 hg hmem hbel
    have HG := Lib.hid hmem; clear hmem
    obtain ⟨-, -, -, -, -, b0, o0, hor0, hc0⟩ := HR0.out
    obtain ⟨-, -, -, -, -, b1, o1, hor1, hc1⟩ := HR1.out
    have HC0 := Lib.hid hc0; clear hc0
    have HC1 := Lib.hid hc1; clear hc1
    have HL0 : Hid (mp = (limbs P).length) := HM0
    have HL1 : Hid (mq = (limbs Q).length) := HM1
    rcases (show _ ∨ Hid _ from hor0) with rfl | hor0 <;> rcases (show _ ∨ Hid _ from hor1) with rfl | hor1
    all_goals
      go_wp2
      go_loopw [6, 25] (fun cv t wr => ∃ (k c : Nat) (zs : List Nat), k ≤ mp ∧ t = .int .i64 (k : Int) ∧ cv = .int .u64 (c : Int) ∧ c ≤ 1 ∧ Hid (zs.length = mp + 1 ∧ Small zs ∧ Mem wr g zs ∧ SumAt P Q zs k c) ∧ Below w.heap.size w wr) (fun _ t _ => mp - (intOf t).toNat)
      case atStart => exact ⟨0, 0, List.replicate (mp + 1) 0, Nat.zero_le _, rfl, rfl, by omega, ⟨by simp, by intro x hx; simp at hx; omega, HG.out, by simp [SumAt, val]⟩, hbel⟩
      case round =>
        obtain ⟨k, c, zs, hk, rfl, rfl, hc1, HZ, hbr⟩ := hrel
        by_cases hk0 : k < mp
        · first
          | (exfalso; have := hor0.out; omega)
          | (have hcell0 := cells_at HC0.out hbr k hk0
             have hx := getD_lt (limbs P) (small_limbs P) k
             obtain ⟨x, hxe⟩ : ∃ x, x = (limbs P).getD k 0 := ⟨_, rfl⟩
             rw [← hxe] at hcell0 hx
             have HXE := Lib.hid hxe; clear hxe
             have hz := HZ.out.2.2.1.cell k (by rw [HZ.out.1]; omega)
             have hzf := HZ.out.2.2.1.free k
             by_cases hk1 : k < mq
             · first
               | (exfalso; have := hor1.out; omega)
               | (have hcell1 := cells_at HC1.out hbr k hk1
                  have hy := getD_lt (limbs Q) (small_limbs Q) k
                  obtain ⟨y, hye⟩ : ∃ y, y = (limbs Q).getD k 0 := ⟨_, rfl⟩
                  rw [← hye] at hcell1 hy
                  have HYE := Lib.hid hye; clear hye
                  go_wp2
                  go_roundw
                  case rel => exact ⟨k + 1, (c + x + y) / 4294967296, zs.set k ((c + x + y) % 4294967296), by omega, by go_num, by go_num, by omega, ⟨by simp [HZ.out.1], small_set HZ.out.2.1 _ _ (by omega), HZ.out.2.2.1.setI k _ _ (by omega), HZ.out.2.2.2.step (by rw [HZ.out.1]; omega) HXE.out HYE.out (by omega)⟩, hbr.setCell (by exact hg) _⟩
                  case measure => simp [intOf]; omega)
             · go_wp2
               go_roundw
               case rel => exact ⟨k + 1, (c + x) / 4294967296, zs.set k ((c + x) % 4294967296), by omega, by go_num, by go_num, by omega, ⟨by simp [HZ.out.1], small_set HZ.out.2.1 _ _ (by omega), HZ.out.2.2.1.setI k _ _ (by omega), HZ.out.2.2.2.step (y := 0) (by rw [HZ.out.1]; omega) HXE.out (by rw [getD_ge _ _ (by rw [← HL1.out]; omega)]) (by omega)⟩, hbr.setCell (by exact hg) _⟩
               case measure => simp [intOf]; omega)
        · obtain rfl : mp = k := by omega
          have hz := HZ.out.2.2.1.cell mp (by rw [HZ.out.1]; omega)
          have hzf := HZ.out.2.2.1.free mp
          have hcc : ((c : Int) % 4294967296) = (c : Int) := by omega
          go_wp2_with fail
          refine (num_of_cut (N := P + Q) (w0 := w) (n := mp + 1) (HZ.out.2.2.1.setI mp _ c (by omega)) (small_set HZ.out.2.1 _ _ (by omega)) (by simp [HZ.out.1]) (by omega) (HZ.out.2.2.2.done HZ.out.1 (by rw [← HL0.out]; omega) (by rw [← HL1.out]; omega)) (hbr.setCell (by exact hg) _)).mono ?_
          rintro e w' ⟨a', m, rfl, hm, hrow, hb⟩
          have HM := Lib.hid hm; clear hm
          have HROW := Lib.hid hrow; clear hrow
          have HB := Lib.hid hb; clear hb
          go_wp2
          go_ret
          rw [← HS'.out]
          exact ⟨a', m, rfl, HM.out, HROW.out, HB.out⟩
end Go.Proofs.Ytjpjibdcjmjcgaa
