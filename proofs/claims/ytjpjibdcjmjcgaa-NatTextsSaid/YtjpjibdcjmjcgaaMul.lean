/- What Mul tells, of any two rows: the product. Condition: rows of at most 10^8 numbers. -/
import Derived.Test.YtjpjibdcjmjcgaaSub
import Derived.Test.YtjpjibdcjmjcgaaNumsB
namespace Go.Proofs.Ytjpjibdcjmjcgaa
open Go.RowKit Nums

theorem Mem.drewN {w : World} {g : Nat} {cs : List Nat} (h : Mem w g cs) (n : Nat) : Mem (w.drewN n) g cs := h.below (below_drewN (Below.refl w.heap.size w) n) h.lt

theorem mul_room (c x y z : Nat) (hc : c < 4294967296) (hx : x < 4294967296) (hy : y < 4294967296) (hz : z < 4294967296) : x * y ≤ 18446744065119617025 ∧ (c + (x * y + z)) / 4294967296 < 4294967296 := by
  have h1 : x * y ≤ 4294967295 * 4294967295 := Nat.mul_le_mul (by omega) (by omega)
  exact ⟨by omega, by omega⟩

set_option maxHeartbeats 2000000 in
theorem mul_any (a0 a1 : Option Addr) (n0 c0 n1 c1 : Nat) (xs ys : List Nat) (w : World) (h0 : Row w a0 n0 c0 xs) (h1 : Row w a1 n1 c1 ys) (hn0 : n0 ≤ 100000000) (hn1 : n1 ≤ 100000000) :
    Calls Try.prog 16 #[.slice a0 n0 c0, .slice a1 n1 c1] w (Num (val xs * val ys) w) := by
  have H0 := Lib.hid h0; clear h0
  have H1 := Lib.hid h1; clear h1
  go_enter Try.func16, Try.ntmps16
  go_wp2_with fail
  refine (cut_num a0 n0 c0 xs w H0.out (by omega)).mono ?_
  rintro e w' ⟨p, mp, rfl, hm0, hmn0, hrow0, -, rfl⟩
  have HL0 := Lib.hid hm0; clear hm0
  have HR0 := Lib.hid hrow0; clear hrow0
  go_wp2_with fail
  refine (cut_num a1 n1 c1 ys w H1.out (by omega)).mono ?_
  rintro e w' ⟨q, mq, rfl, hm1, hmn1, hrow1, -, rfl⟩
  have HL1 := Lib.hid hm1; clear hm1
  have HR1 := Lib.hid hrow1; clear hrow1
  obtain ⟨P, hX⟩ : ∃ X, X = val xs := ⟨_, rfl⟩
  obtain ⟨Q, hY⟩ : ∃ Y, Y = val ys := ⟨_, rfl⟩
  rw [← hX] at HR0 HL0
  rw [← hY] at HR1 HL1
  have HS' : Hid (P * Q = val xs * val ys) := by rw [hX, hY]; exact rfl
  clear hX hY H0 H1
  go_wp2_with (at_make; refine make32 rfl _ rfl _ (mp + mq) rfl (by omega) (by omega) ?_)
  intro g w1 hg hmem hbel
  have HG := Lib.hid hmem; clear hmem
  obtain ⟨-, -, -, -, -, b0, o0, hor0, hc0⟩ := HR0.out
  obtain ⟨-, -, -, -, -, b1, o1, hor1, hc1⟩ := HR1.out
  have HC0 := Lib.hid hc0; clear hc0
  have HC1 := Lib.hid hc1; clear hc1
  rcases (show _ ∨ Hid _ from hor0) with rfl | hor0 <;> rcases (show _ ∨ Hid _ from hor1) with rfl | hor1
  all_goals
    go_wp2
    go_loopw [21] (fun t wr => ∃ (i : Nat) (zs : List Nat), i ≤ mp ∧ t = .int .i64 (i : Int) ∧ Hid (zs.length = mp + mq ∧ Small zs ∧ Mem wr g zs ∧ ProdAt P Q i mq zs) ∧ Below w.heap.size w wr) (fun t _ => mp - (intOf t).toNat)
    case atStart => exact ⟨0, List.replicate (mp + mq) 0, Nat.zero_le _, rfl, ⟨by simp, by intro x hx; simp at hx; omega, HG.out, prodAt_zero P Q mq _⟩, hbel⟩
    case round =>
      obtain ⟨i, zs, hi, rfl, HZ, hbr⟩ := hrel
      by_cases hi0 : i < mp
      · first
        | (exfalso; have := hor0.out; omega)
        | (obtain ⟨wo, rfl⟩ : ∃ wo : World, wo = wr := ⟨_, rfl⟩
           have hcell0 := cells_at HC0.out hbr i hi0
           have hx := getD_lt (limbs P) (small_limbs P) i
           obtain ⟨x, hxe⟩ : ∃ x, x = (limbs P).getD i 0 := ⟨_, rfl⟩
           rw [← hxe] at hcell0 hx
           have HXE := Lib.hid hxe; clear hxe
           have HCW : Hid (wo.cell? ⟨b0, o0 + i, none⟩ = some (.int .u32 (x : Nat))) := hcell0
           have HBX : Hid (b0 < w.heap.size) := (HC0.out i hi0).1
           clear hcell0
           go_wp2
           go_loopw [7, 26] (fun cv t wr => ∃ (j c : Nat) (ys : List Nat), j ≤ mq ∧ t = .int .i64 (j : Int) ∧ cv = .int .u64 (c : Int) ∧ c < 4294967296 ∧ Hid (ys.length = mp + mq ∧ Small ys ∧ Mem wr g ys ∧ RowAt Q (val ((limbs P).take i) * Q) x i (i + mq) ys j c) ∧ Below w.heap.size w wr) (fun _ t _ => mq - (intOf t).toNat)
           case atStart => exact ⟨0, 0, zs, Nat.zero_le _, rfl, rfl, by omega, ⟨HZ.out.1, HZ.out.2.1, HZ.out.2.2.1, RowAt.start HZ.out.2.2.2⟩, hbr⟩
           case round =>
             obtain ⟨j, c, ys, hj, rfl, rfl, hc, HY, hbr2⟩ := hrel
             by_cases hj0 : j < mq
             · first
               | (exfalso; have := hor1.out; omega)
               | (have hcell0 : wr.cell? ⟨b0, o0 + i, none⟩ = some (.int .u32 (x : Nat)) := by have := cells_at HC0.out hbr2 i hi0; rw [← HXE.out] at this; exact this
                  have hcell1 := cells_at HC1.out hbr2 j hj0
                  have hy := getD_lt (limbs Q) (small_limbs Q) j
                  obtain ⟨y, hye⟩ : ∃ y, y = (limbs Q).getD j 0 := ⟨_, rfl⟩
                  rw [← hye] at hcell1 hy
                  have HYE := Lib.hid hye; clear hye
                  have hz := HY.out.2.2.1.cell (i + j) (by rw [HY.out.1]; omega)
                  have hzf := HY.out.2.2.1.free (i + j)
                  have hzl := getD_lt ys HY.out.2.1 (i + j)
                  obtain ⟨z, hze⟩ : ∃ z, z = ys.getD (i + j) 0 := ⟨_, rfl⟩
                  rw [← hze] at hz hzl
                  have HZE := Lib.hid hze; clear hze
                  have hroom := mul_room c x y z hc hx hy hzl
                  obtain ⟨t, ht⟩ : ∃ t, t = x * y := ⟨_, rfl⟩
                  have hroom1 : ((x : Int) * (y : Int)) ≤ 18446744065119617025 := by have := hroom.1; rw [← Int.natCast_mul]; omega
                  have hroom0 : 0 ≤ ((x : Int) * (y : Int)) := by rw [← Int.natCast_mul]; omega
                  have HR := Lib.hid hroom; clear hroom
                  have HT := Lib.hid ht; clear ht
                  have hb1 : (i : Int) + (j : Int) < ((mp + mq : Nat) : Int) := by omega
                  have hb2 : (0 : Int) ≤ (i : Int) + (j : Int) := by omega
                  have hb3 : (i : Int) < (mp : Int) := by omega
                  have hb4 : (j : Int) < (mq : Int) := by omega
                  go_wp2
                  go_quiet (fail)
                  go_wp2
                  go_roundw
                  case rel => exact ⟨j + 1, (c + (x * y + z)) / 4294967296, ys.set (i + j) ((c + (x * y + z)) % 4294967296), by omega, by go_num, by go_num, HR.out.2, ⟨by simp [HY.out.1], small_set HY.out.2.1 _ _ (Nat.mod_lt _ (by omega)), (HY.out.2.2.1.drewN _).setI _ _ _ (by simp), HY.out.2.2.2.step (by omega) (by rw [HY.out.1]; omega) HYE.out HZE.out (by omega)⟩, (below_drewN hbr2 _).setCell (by exact hg) _⟩
                  case measure => simp [intOf]; omega)
             · obtain rfl : mq = j := by omega
               have hz := HY.out.2.2.1.cell (i + mq) (by rw [HY.out.1]; omega)
               have hzf := HY.out.2.2.1.free (i + mq)
               obtain ⟨z, hze⟩ : ∃ z, z = ys.getD (i + mq) 0 := ⟨_, rfl⟩
               rw [← hze] at hz
               clear hze
               have hb1 : (i : Int) + (mq : Int) < ((mp + mq : Nat) : Int) := by omega
               have hb2 : (0 : Int) ≤ (i : Int) + (mq : Int) := by omega
               go_wp2
               go_roundw
               case rel => exact ⟨i + 1, ys.set (i + mq) c, by omega, by go_num, ⟨by simp [HY.out.1], small_set HY.out.2.1 _ _ hc, HY.out.2.2.1.setI _ _ _ (by omega), HY.out.2.2.2.done (by rw [HY.out.1]; omega) (by rw [← HL1.out]; omega) HXE.out⟩, hbr2.setCell (by exact hg) _⟩
               case measure => simp [intOf]; omega)
      · obtain rfl : mp = i := by omega
        go_wp2_with fail
        refine (num_of_cut (N := P * Q) (w0 := w) (n := mp + mq) HZ.out.2.2.1 HZ.out.2.1 HZ.out.1 (by omega) (by have h := HZ.out.2.2.2; unfold ProdAt at h; rw [List.take_of_length_le (by rw [HZ.out.1]; omega), List.take_of_length_le (by rw [← HL0.out]; omega), val_limbs] at h; exact h) hbr).mono ?_
        rintro e w' ⟨a', m, rfl, hm, hrow, hb⟩
        have HM := Lib.hid hm; clear hm
        have HROW := Lib.hid hrow; clear hrow
        have HB := Lib.hid hb; clear hb
        go_wp2
        go_ret
        rw [← HS'.out]
        exact ⟨a', m, rfl, HM.out, HROW.out, HB.out⟩
end Go.Proofs.Ytjpjibdcjmjcgaa
