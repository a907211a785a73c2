/- What sub tells of two rows of bits, the second no greater. -/
import Derived.Test.YtjpjibdcjmjcgaaBitA
namespace Go.Proofs.Ytjpjibdcjmjcgaa
open Go.RowKit Nums

/-- k bits of a difference have been told; l: what is lent -/
def BDiffAt (xs ys out : List Bool) (k : Nat) (l : Bool) : Prop := out.length = k ∧ bval out + bval (ys.take k) = bval (xs.take k) + 2 ^ k * bnum l

theorem BDiffAt.step {xs ys out : List Bool} {k : Nat} {l x y b l' : Bool} (h : BDiffAt xs ys out k l) (hx : x = xs.getD k false) (hy : y = ys.getD k false) (hb : bnum b + bnum y + bnum l = bnum x + 2 * bnum l') : BDiffAt xs ys (out ++ [b]) (k + 1) l' := by
  obtain ⟨h1, h2⟩ := h
  refine ⟨by simp [h1], ?_⟩
  rw [bval_snoc, h1, bval_take_next xs, bval_take_next ys, ← hx, ← hy, Nat.pow_succ, Nat.mul_assoc]
  have e : 2 ^ k * (bnum b + bnum y + bnum l) = 2 ^ k * (bnum x + 2 * bnum l') := by rw [hb]
  simp only [Nat.mul_add] at e
  omega

theorem BDiffAt.done {xs ys out : List Bool} {k : Nat} {l : Bool} (h : BDiffAt xs ys out k l) (hx : xs.length ≤ k) (hy : ys.length ≤ k) (hle : bval ys ≤ bval xs) : bval out = bval xs - bval ys := by
  obtain ⟨h1, h2⟩ := h
  rw [List.take_of_length_le hx, List.take_of_length_le hy] at h2
  have h3 := bval_lt out
  rw [h1] at h3
  cases l
  · simp [bnum] at h2; omega
  · simp [bnum] at h2; omega

set_option maxHeartbeats 4000000 in
theorem bsub_any (a0 a1 : Option Addr) (n0 c0 n1 c1 : Nat) (xs ys : List Bool) (w : World) (h0 : BRow w a0 n0 c0 xs) (h1 : BRow w a1 n1 c1 ys) (hn0 : n0 ≤ 10000000) (hn1 : n1 ≤ n0) (hle : bval ys ≤ bval xs) :
    Calls Try.prog 38 #[.slice a0 n0 c0, .slice a1 n1 c1] w (BNum (bval xs - bval ys) w) := by
  have HL0 := Lib.hid h0.1
  have HL1 := Lib.hid h1.1
  have H0 := Lib.hid h0; clear h0
  have H1 := Lib.hid h1; clear h1
  have HLE := Lib.hid hle; clear hle
  go_enter Try.func38, Try.ntmps38
  go_wp2
  go_loopw [5, 6, 7] (fun v cv t wr => ∃ (k : Nat) (c : Bool) (out : List Bool), k ≤ n0 ∧ t = .int .i64 (k : Int) ∧ cv = .bool c ∧ Hid (OwnB wr w.heap.size v out ∧ BDiffAt xs ys out k c) ∧ Below w.heap.size w wr) (fun _ _ t _ => (10000002 - (intOf t)).toNat)
  case atStart => exact ⟨0, false, [], by omega, rfl, rfl, ⟨World.ownsRow_nil _ _ _ _, rfl, by simp [bval, bnum]⟩, Below.refl _ _⟩
  case round =>
    obtain ⟨k, c, out, hk, rfl, rfl, HZ, hbr⟩ := hrel
    have HOL : Hid (out.length = k) := HZ.out.2.1
    by_cases hkM : k < n0
    · have HX := Lib.hid (at_any a0 n0 c0 xs wr (k : Int) k rfl (brow_below (Nat.le_refl _) hbr H0.out) (by omega) (by omega))
      have HY := Lib.hid (at_any a1 n1 c1 ys wr (k : Int) k rfl (brow_below (Nat.le_refl _) hbr H1.out) (by omega) (by omega))
      obtain ⟨x, hx⟩ : ∃ x, x = xs.getD k false := ⟨_, rfl⟩
      obtain ⟨y, hy⟩ : ∃ y, y = ys.getD k false := ⟨_, rfl⟩
      rw [← hx] at HX
      rw [← hy] at HY
      have HXE := Lib.hid hx; clear hx
      have HYE := Lib.hid hy; clear hy
      cases x <;> cases y <;> cases c
      all_goals
        go_wp2_with fail
        refine HX.out.mono ?_
        rintro e w' ⟨rfl, rfl⟩
        go_wp2_with fail
        refine HY.out.mono ?_
        rintro e w' ⟨rfl, rfl⟩
        go_wp2_with (at_builtin; refine append_bool rfl _ _ rfl w.heap.size _ out rfl rfl HZ.out.1 hbr.size (by rw [HOL.out]; omega) ?_)
        intro v' w2 hown' hb2
        have HOW := Lib.hid hown'; clear hown'
        go_wp2
        go_roundw
        case rel => first | exact ⟨k + 1, false, _, by omega, by go_num, rfl, ⟨HOW.out, HZ.out.2.step HXE.out HYE.out (by decide)⟩, hbr.trans hb2⟩ | exact ⟨k + 1, true, _, by omega, by go_num, rfl, ⟨HOW.out, HZ.out.2.step HXE.out HYE.out (by decide)⟩, hbr.trans hb2⟩
        case measure => simp [intOf]; omega
    · obtain rfl : n0 = k := by omega
      have HD : Hid (bval out = bval xs - bval ys) := HZ.out.2.done (by rw [HL0.out]; omega) (by rw [HL1.out]; omega) HLE.out
      go_wp2_with fail
      refine (bcut_own w wr w.heap.size _ out _ HZ.out.1 HD.out (by rw [HOL.out]; omega) hbr).mono ?_
      rintro e w' ⟨a', m, c', rfl, hm, hrow, hb⟩
      have HM' := Lib.hid hm; clear hm
      have HROW := Lib.hid hrow; clear hrow
      have HB := Lib.hid hb; clear hb
      go_wp2
      go_ret
      exact ⟨a', m, c', rfl, HM'.out, HROW.out, HB.out⟩
end Go.Proofs.Ytjpjibdcjmjcgaa
