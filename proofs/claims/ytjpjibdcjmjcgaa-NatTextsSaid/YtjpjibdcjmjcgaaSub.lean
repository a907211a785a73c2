/- What Sub tells, of any two rows: the difference, or that there is none. Condition: rows of at most 10^8 numbers. -/
import Derived.Test.YtjpjibdcjmjcgaaAdd
import Derived.Test.YtjpjibdcjmjcgaaBits
namespace Go.Proofs.Ytjpjibdcjmjcgaa
open Go.RowKit Nums

def Num2 (N : Nat) (w : World) (e : Ending) (w' : World) : Prop :=
  ∃ a' m, e = .returned (.tuple #[.slice a' m m, .int .i64 0]) ∧ m = (limbs N).length ∧ Row w' a' m m (limbs N) ∧ Below w.heap.size w w'

set_option maxHeartbeats 1000000 in
theorem sub_lt (a0 a1 : Option Addr) (n0 c0 n1 c1 : Nat) (xs ys : List Nat) (w : World) (h0 : Row w a0 n0 c0 xs) (h1 : Row w a1 n1 c1 ys) (hn0 : n0 ≤ 100000000) (hn1 : n1 ≤ 100000000) (hlt : val xs < val ys) :
    Calls Try.prog 11 #[.slice a0 n0 c0, .slice a1 n1 c1] w fun e w' => e = .returned (.tuple #[.slice none 0 0, .int .i64 1]) ∧ Below w.heap.size w w' := by
  have H0 := Lib.hid h0; clear h0
  have H1 := Lib.hid h1; clear h1
  have HL := Lib.hid hlt; clear hlt
  go_enter Try.func11, Try.ntmps11
  go_wp2_with fail
  refine (cut_num a0 n0 c0 xs w H0.out (by omega)).mono ?_
  rintro e w' ⟨a0', m0, rfl, hm0, hmn0, hrow0, -, rfl⟩
  have HM0 := Lib.hid hm0; clear hm0
  have HR0 := Lib.hid hrow0; clear hrow0
  go_wp2_with fail
  refine (cut_num a1 n1 c1 ys w H1.out (by omega)).mono ?_
  rintro e w' ⟨a1', m1, rfl, hm1, hmn1, hrow1, -, rfl⟩
  have HM1 := Lib.hid hm1; clear hm1
  have HR1 := Lib.hid hrow1; clear hrow1
  go_wp2_with fail
  refine (cmp_lt a0' a1' m0 m0 m1 m1 _ _ w HR0.out HR1.out (by omega) (by omega) (by rw [val_limbs, val_limbs]; exact HL.out)).mono ?_
  rintro e w' ⟨rfl, hb⟩
  have HB := Lib.hid hb; clear hb
  go_wp2
  go_ret2
  exact ⟨rfl, HB.out⟩

set_option maxHeartbeats 2000000 in
theorem sub_ge (a0 a1 : Option Addr) (n0 c0 n1 c1 : Nat) (xs ys : List Nat) (w : World) (h0 : Row w a0 n0 c0 xs) (h1 : Row w a1 n1 c1 ys) (hn0 : n0 ≤ 100000000) (hn1 : n1 ≤ 100000000) (hge : val ys ≤ val xs) :
    Calls Try.prog 11 #[.slice a0 n0 c0, .slice a1 n1 c1] w (Num2 (val xs - val ys) w) := by
  have H0 := Lib.hid h0; clear h0
  have H1 := Lib.hid h1; clear h1
  have HGE := Lib.hid hge; clear hge
  go_enter Try.func11, Try.ntmps11
  go_wp2_with fail
  refine (cut_num a0 n0 c0 xs w H0.out (by omega)).mono ?_
  rintro e w' ⟨p, mp, rfl, hm0, hmn0, hrow0, -, rfl⟩
  have HL0 := Lib.hid hm0; clear hm0
  have HR0 := Lib.hid hrow0; clear hrow0
  go_wp2_with fail
  refine (cut_num a1 n1 c1 ys w H1.out (by omega)).mono ?_
  rintro e w' ⟨q, mq, rfl, hm1, hmn1, hrow1, -, rfl⟩
  have HL1 := Lib.hid hm1; clear hm1
  have HR1 := Lib.hid hrow1; clear hrow1
  obtain ⟨P, hX⟩ : ∃ X, X = val xs := ⟨_, rfl⟩
  obtain ⟨Q, hY⟩ : ∃ Y, Y = val ys := ⟨_, rfl⟩
  rw [← hX] at HR0 HL0 HGE
  rw [← hY] at HR1 HL1 HGE
  have HS' : Hid (P - Q = val xs - val ys) := by rw [hX, hY]; exact rfl
  clear hX hY H0 H1
  have hle : mq ≤ mp := by rw [HL0.out, HL1.out]; exact limbs_len_mono HGE.out
  go_wp2_with fail
  refine (cmp_ge p q mp mp mq mq _ _ w HR0.out HR1.out (by omega) (by omega) (by rw [val_limbs, val_limbs]; exact HGE.out)).mono ?_
  rintro e w0 ⟨⟨r, rfl, hr0⟩, hb0⟩
  go_wp2_with (at_make; refine make32 rfl _ rfl _ mp rfl (by omega) (by omega) ?_)
  intro g w1 hg hmem hbel1
  have hg0 := hb0.size
  have hbel : Below w.heap.size w w1 := hb0.trans (hbel1.mono hb0.size)
  have hg : w.heap.size ≤ g := by omega
  clear hbel1 hb0
  have HG := Lib.hid hmem; clear hmem
  obtain ⟨-, -, -, -, -, b0, o0, hor0, hc0⟩ := HR0.out
  obtain ⟨-, -, -, -, -, b1, o1, hor1, hc1⟩ := HR1.out
  have HC0 := Lib.hid hc0; clear hc0
  have HC1 := Lib.hid hc1; clear hc1
  rcases (show _ ∨ Hid _ from hor0) with rfl | hor0 <;> rcases (show _ ∨ Hid _ from hor1) with rfl | hor1
  all_goals
    go_wp2
    go_loopw [7, 23] (fun bv t wr => ∃ (k b : Nat) (zs : List Nat), k ≤ mp ∧ t = .int .i64 (k : Int) ∧ bv = .int .u32 (b : Int) ∧ b ≤ 1 ∧ Hid (zs.length = mp ∧ Small zs ∧ Mem wr g zs ∧ DiffAt P Q zs k b) ∧ Below w.heap.size w wr) (fun _ t _ => mp - (intOf t).toNat)
    case atStart => exact ⟨0, 0, List.replicate mp 0, Nat.zero_le _, rfl, rfl, by omega, ⟨by simp, by intro x hx; simp at hx; omega, HG.out, by simp [DiffAt, val]⟩, hbel⟩
    case round =>
      obtain ⟨k, b, zs, hk, rfl, rfl, hc1, HZ, hbr⟩ := hrel
      by_cases hk0 : k < mp
      · first
        | (exfalso; have := hor0.out; omega)
        | (have hcell0 := cells_at HC0.out hbr k hk0
           have hx := getD_lt (limbs P) (small_limbs P) k
           obtain ⟨x, hxe⟩ : ∃ x, x = (limbs P).getD k 0 := ⟨_, rfl⟩
           rw [← hxe] at hcell0 hx
           have HXE := Lib.hid hxe; clear hxe
           have hz := HZ.out.2.2.1.cell k (by rw [HZ.out.1]; omega)
           have hzf := HZ.out.2.2.1.free k
           by_cases hk1 : k < mq
           · first
             | (exfalso; have := hor1.out; omega)
             | (have hcell1 := cells_at HC1.out hbr k hk1
                have hy := getD_lt (limbs Q) (small_limbs Q) k
                obtain ⟨y, hye⟩ : ∃ y, y = (limbs Q).getD k 0 := ⟨_, rfl⟩
                rw [← hye] at hcell1 hy
                have HYE := Lib.hid hye; clear hye
                go_wp2_with fail
                refine (sub32_any x y b _ hx hy hc1).mono ?_
                rintro e w' ⟨⟨d, b', rfl, hsb⟩, rfl⟩
                have HSB := Lib.hid hsb; clear hsb
                go_wp2
                go_roundw
                case rel => exact ⟨k + 1, b', zs.set k d, by omega, by go_num, rfl, HSB.out.2.1, ⟨by simp [HZ.out.1], small_set HZ.out.2.1 _ _ HSB.out.1, HZ.out.2.2.1.setI k _ _ rfl, HZ.out.2.2.2.step (by rw [HZ.out.1]; omega) HXE.out HYE.out HSB.out.2.2⟩, hbr.setCell (by exact hg) _⟩
                case measure => simp [intOf]; omega)
           · go_wp2_with fail
             refine (sub32_zero x b _ hx hc1).mono ?_
             rintro e w' ⟨⟨d, b', rfl, hsb⟩, rfl⟩
             have HSB := Lib.hid hsb; clear hsb
             go_wp2
             go_roundw
             case rel => exact ⟨k + 1, b', zs.set k d, by omega, by go_num, rfl, HSB.out.2.1, ⟨by simp [HZ.out.1], small_set HZ.out.2.1 _ _ HSB.out.1, HZ.out.2.2.1.setI k _ _ rfl, HZ.out.2.2.2.step (y := 0) (by rw [HZ.out.1]; omega) HXE.out (by rw [getD_ge _ _ (by rw [← HL1.out]; omega)]) HSB.out.2.2⟩, hbr.setCell (by exact hg) _⟩
             case measure => simp [intOf]; omega)
      · obtain rfl : mp = k := by omega
        go_wp2_with fail
        refine (num_of_cut (N := P - Q) (w0 := w) (n := mp) HZ.out.2.2.1 HZ.out.2.1 HZ.out.1 (by omega) (HZ.out.2.2.2.done HZ.out.2.1 HZ.out.1 (by rw [← HL0.out]; omega) (by rw [← HL1.out]; omega) HGE.out) hbr).mono ?_
        rintro e w' ⟨a', m, rfl, hm, hrow, hb⟩
        have HM := Lib.hid hm; clear hm
        have HROW := Lib.hid hrow; clear hrow
        have HB := Lib.hid hb; clear hb
        go_wp2
        go_ret2
        rw [← HS'.out]
        exact ⟨a', m, rfl, HM.out, HROW.out, HB.out⟩
end Go.Proofs.Ytjpjibdcjmjcgaa
