/- What Of tells: the bits of a row of numbers. -/
import Derived.Test.YtjpjibdcjmjcgaaBitS
import Derived.Laws.BitsAllLaws
namespace Go.Proofs.Ytjpjibdcjmjcgaa
open Go.RowKit Nums

theorem pow32 (i : Nat) : 4294967296 ^ i = 2 ^ (32 * i) := by rw [Nat.pow_mul]

/-- i limbs, and k bits of the next one, x, have been told -/
def OfAt (xs : List Nat) (x : Nat) (out : List Bool) (i k : Nat) : Prop := out.length = 32 * i + k ∧ bval out = val (xs.take i) + 2 ^ (32 * i) * (x % 2 ^ k)

theorem OfAt.step {xs : List Nat} {x i k : Nat} {out : List Bool} {b : Bool} (h : OfAt xs x out i k) (hb : bnum b = x / 2 ^ k % 2) : OfAt xs x (out ++ [b]) i (k + 1) := by
  obtain ⟨h1, h2⟩ := h
  refine ⟨by simp [h1]; omega, ?_⟩
  rw [bval_snoc, h1, h2, hb, Nat.pow_succ, Nat.mod_mul, Nat.mul_add, Nat.pow_add, Nat.mul_assoc, Nat.add_assoc]

theorem OfAt.next {xs : List Nat} {x i : Nat} {out : List Bool} (h : OfAt xs x out i 32) (hx : x = xs.getD i 0) (hl : x < 4294967296) : ∀ y, OfAt xs y out (i + 1) 0 := by
  obtain ⟨h1, h2⟩ := h
  intro y
  refine ⟨by omega, ?_⟩
  rw [h2, val_take_next, ← hx, pow32, Nat.mod_eq_of_lt (show x < 2 ^ 32 from hl), Nat.pow_zero, Nat.mod_one, Nat.mul_zero, Nat.add_zero]

theorem and_one (v : Nat) (hv : v < 4294967296) : bits BinOp.and IntKind.u32 (v : Int) 1 = ((v % 2 : Nat) : Int) := by
  have := u32_and_nat v 1 hv (by omega)
  rw [nat_mask1] at this
  exact this

theorem bnum_and (x k : Nat) (h : x / 2 ^ k < 4294967296) : bnum (bits BinOp.and IntKind.u32 ((x : Int) / 2 ^ k) 1 == 1) = x / 2 ^ k % 2 := by
  have e : ((x : Int) / 2 ^ k) = ((x / 2 ^ k : Nat) : Int) := by simp
  rw [e, and_one _ h]
  rcases Nat.mod_two_eq_zero_or_one (x / 2 ^ k) with h1 | h1
  · rw [h1]; rfl
  · rw [h1]; rfl

set_option maxHeartbeats 4000000 in
theorem of_any (a : Option Addr) (n c : Nat) (xs : List Nat) (w : World) (hr : Row w a n c xs) (hn : n ≤ 100000) :
    Calls Try.prog 35 #[.slice a n c] w (BNum (val xs) w) := by
  obtain ⟨hl, -, -, -, hsm, b0, o0, hor0, hc0⟩ := hr
  have HL := Lib.hid hl; clear hl
  have HC0 := Lib.hid hc0; clear hc0
  rcases (show _ ∨ Hid _ from hor0) with rfl | hor0
  all_goals
    go_enter Try.func35, Try.ntmps35
    go_wp2
    go_loopw [3, 4] (fun v t wr => ∃ (i : Nat) (out : List Bool), i ≤ n ∧ t = .int .i64 (i : Int) ∧ Hid (OwnB wr w.heap.size v out ∧ ∀ y, OfAt xs y out i 0) ∧ Below w.heap.size w wr) (fun _ t _ => n - (intOf t).toNat)
    case atStart => exact ⟨0, [], Nat.zero_le _, rfl, ⟨World.ownsRow_nil _ _ _ _, fun y => ⟨rfl, by rw [Nat.pow_zero, Nat.mod_one]; rfl⟩⟩, Below.refl _ _⟩
    case round =>
      obtain ⟨i, out, hi, rfl, HZ, hbr⟩ := hrel
      by_cases hi0 : i < n
      · first
        | (exfalso; have := hor0.out; omega)
        | (obtain ⟨wo, rfl⟩ : ∃ wo : World, wo = wr := ⟨_, rfl⟩
           have hx := getD_lt xs hsm i
           obtain ⟨x, hxe⟩ : ∃ x, x = xs.getD i 0 := ⟨_, rfl⟩
           rw [← hxe] at hx
           have HXE := Lib.hid hxe; clear hxe
           go_wp2
           go_loopw [3, 5] (fun v t wr => ∃ (k : Nat) (out : List Bool), k ≤ 32 ∧ t = .int .i64 (k : Int) ∧ Hid (OwnB wr w.heap.size v out ∧ OfAt xs x out i k) ∧ Below w.heap.size w wr) (fun _ t _ => 32 - (intOf t).toNat)
           case atStart => exact ⟨0, out, Nat.zero_le _, rfl, ⟨HZ.out.1, HZ.out.2 x⟩, hbr⟩
           case round =>
             obtain ⟨k, out2, hk, rfl, HY, hbr2⟩ := hrel
             by_cases hk0 : k < 32
             · have hcell0 := cells_at HC0.out hbr2 i hi0
               rw [← HXE.out] at hcell0
               have hdv : x / 2 ^ k < 4294967296 := Nat.lt_of_le_of_lt (Nat.div_le_self _ _) hx
               have HAND := Lib.hid (bnum_and x k hdv)
               have HOL : Hid (out2.length = 32 * i + k) := HY.out.2.1
               have HLEN : Hid (out2.length ≤ 1000000000) := by have := HOL.out; exact (by omega : out2.length ≤ 1000000000)
               have si : (0 : Int) ≤ (k : Int) := by omega
               have sj : (k : Int) < 64 := by omega
               go_wp2_with (at_builtin; refine append_bool rfl _ _ rfl w.heap.size _ out2 rfl rfl HY.out.1 hbr2.size HLEN.out ?_)
               intro v' w2 hown' hb2
               have HOW := Lib.hid hown'; clear hown'
               go_wp2
               go_roundw
               case rel => exact ⟨k + 1, _, by omega, by go_num, ⟨HOW.out, HY.out.2.step HAND.out⟩, hbr2.trans hb2⟩
               case measure => simp [intOf]; omega
             · obtain rfl : k = 32 := by omega
               go_wp2
               go_roundw
               case rel => exact ⟨i + 1, out2, by omega, by go_num, ⟨HY.out.1, HY.out.2.next HXE.out hx⟩, hbr2⟩
               case measure => simp [intOf]; omega)
      · obtain rfl : n = i := by omega
        have HV : Hid (bval out = val xs) := by
          have h := (HZ.out.2 0).2
          rw [List.take_of_length_le (by rw [HL.out]; exact Nat.le_refl _), Nat.zero_mod, Nat.mul_zero, Nat.add_zero] at h
          exact h
        have HLEN : Hid (out.length ≤ 1000000000) := by have := (HZ.out.2 0).1; exact (by omega : out.length ≤ 1000000000)
        go_wp2_with fail
        refine (bcut_own w wr w.heap.size _ out _ HZ.out.1 HV.out HLEN.out hbr).mono ?_
        rintro e w' ⟨a', m, c', rfl, hm, hrow, hb⟩
        have HM' := Lib.hid hm; clear hm
        have HROW := Lib.hid hrow; clear hrow
        have HB := Lib.hid hb; clear hb
        go_wp2
        go_ret
        exact ⟨a', m, c', rfl, HM'.out, HROW.out, HB.out⟩
end Go.Proofs.Ytjpjibdcjmjcgaa
