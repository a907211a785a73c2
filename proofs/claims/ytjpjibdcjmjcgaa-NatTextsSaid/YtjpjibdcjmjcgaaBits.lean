/- What bits.Add32 and bits.Sub32 tell, of any two numbers below 2^32 and a carry of 0 or 1. -/
import Derived.Test.YtjpjibdcjmjcgaaBase
import Derived.Laws.BitsAllLaws
namespace Go.Proofs.Ytjpjibdcjmjcgaa
open Go.RowKit Nums

theorem top_bit (x : Nat) (h : x < 4294967296) : x.testBit 31 = decide (2147483648 ≤ x) := by
  rw [Nat.testBit_eq_decide_div_mod_eq, decide_eq_decide]; omega

theorem borrow_nat (x y b d : Nat) (hx : x < 4294967296) (hy : y < 4294967296) (hb : b ≤ 1) (hd : d < 4294967296) (h : (y + b ≤ x ∧ d + y + b = x) ∨ (x < y + b ∧ d + y + b = x + 4294967296)) :
    (((4294967295 ^^^ x) &&& y) ||| ((4294967295 ^^^ (x ^^^ y)) &&& d)) / 2147483648 = if x < y + b then 1 else 0 := by
  have b1 : ((4294967295 ^^^ x) &&& y) < 2 ^ 32 := Nat.and_lt_two_pow _ (by omega)
  have b2 : ((4294967295 ^^^ (x ^^^ y)) &&& d) < 2 ^ 32 := Nat.and_lt_two_pow _ (by omega)
  have b3 := Nat.or_lt_two_pow b1 b2
  have ht : (((4294967295 ^^^ x) &&& y) ||| ((4294967295 ^^^ (x ^^^ y)) &&& d)).testBit 31 = decide (x < y + b) := by
    rw [Nat.testBit_or, Nat.testBit_and, Nat.testBit_and, Nat.testBit_xor, Nat.testBit_xor, Nat.testBit_xor, top_bit x hx, top_bit y hy, top_bit d hd, show Nat.testBit 4294967295 31 = true from by decide]
    by_cases h1 : 2147483648 ≤ x <;> by_cases h2 : 2147483648 ≤ y <;> by_cases h3 : 2147483648 ≤ d <;> simp [h1, h2, h3] <;> omega
  generalize (((4294967295 ^^^ x) &&& y) ||| ((4294967295 ^^^ (x ^^^ y)) &&& d)) = N at *
  rw [Nat.testBit_eq_decide_div_mod_eq, decide_eq_decide] at ht
  split <;> omega

/-- what bits.Sub32 tells -/
def SubBit (x y b : Nat) (d b' : Nat) : Prop := d < 4294967296 ∧ b' ≤ 1 ∧ d + y + b = x + 4294967296 * b'

set_option maxHeartbeats 1000000 in
theorem sub32_any (x y b : Nat) (w : World) (hx : x < 4294967296) (hy : y < 4294967296) (hb : b ≤ 1) :
    Calls Try.prog 34 #[.int .u32 (x : Nat), .int .u32 (y : Nat), .int .u32 (b : Nat)] w fun e w' => (∃ d b' : Nat, e = .returned (.tuple #[.int .u32 (d : Nat), .int .u32 (b' : Nat)]) ∧ SubBit x y b d b') ∧ w = w' := by
  go_enter Try.func34, Try.ntmps34
  go_wp2
  go_ret2
  refine ⟨?_, rfl⟩
  obtain ⟨d, hd⟩ : ∃ d : Nat, (((x : Int) - y - b) % 4294967296) = (d : Int) := ⟨(((x : Int) - y - b) % 4294967296).toNat, by omega⟩
  have hd1 : d < 4294967296 := by omega
  have hd2 : (y + b ≤ x ∧ d + y + b = x) ∨ (x < y + b ∧ d + y + b = x + 4294967296) := by omega
  refine ⟨d, if x < y + b then 1 else 0, ?_, hd1, ?_, ?_⟩
  · rw [← borrow_nat x y b d hx hy hb hd1 hd2, hd]
    have e0 : (IntKind.u32.max : Int) = ((4294967295 : Nat) : Int) := by decide
    have m1 : 4294967295 ^^^ x < 4294967296 := Nat.xor_lt_two_pow (n := 32) (by omega) hx
    have m2 : x ^^^ y < 4294967296 := Nat.xor_lt_two_pow (n := 32) hx hy
    have m3 : 4294967295 ^^^ (x ^^^ y) < 4294967296 := Nat.xor_lt_two_pow (n := 32) (by omega) m2
    have m4 : (4294967295 ^^^ x) &&& y < 4294967296 := Nat.and_lt_two_pow (n := 32) _ hy
    have m5 : (4294967295 ^^^ (x ^^^ y)) &&& d < 4294967296 := Nat.and_lt_two_pow (n := 32) _ hd1
    rw [e0, u32_xor_nat _ _ (by omega) hx, u32_and_nat _ _ m1 hy, u32_xor_nat _ _ hx hy, u32_xor_nat _ _ (by omega) m2, u32_and_nat _ _ m3 hd1, u32_or_nat _ _ m4 m5]
    rfl
  · split <;> omega
  · split <;> omega

theorem sub32_zero (x b : Nat) (w : World) (hx : x < 4294967296) (hb : b ≤ 1) :
    Calls Try.prog 34 #[.int .u32 (x : Nat), .int .u32 0, .int .u32 (b : Nat)] w fun e w' => (∃ d b' : Nat, e = .returned (.tuple #[.int .u32 (d : Nat), .int .u32 (b' : Nat)]) ∧ SubBit x 0 b d b') ∧ w = w' :=
  sub32_any x 0 b w hx (by omega) hb

theorem add32_any (x y b : Nat) (w : World) (hx : x < 4294967296) (hy : y < 4294967296) (hb : b ≤ 1) :
    Calls Try.prog 61 #[.int .u32 (x : Nat), .int .u32 (y : Nat), .int .u32 (b : Nat)] w fun e w' => (∃ d c : Nat, e = .returned (.tuple #[.int .u32 (d : Nat), .int .u32 (c : Nat)]) ∧ d < 4294967296 ∧ c ≤ 1 ∧ d + 4294967296 * c = x + y + b) ∧ w = w' := by
  go_enter Try.func61, Try.ntmps61
  go_wp2
  go_ret2
  exact ⟨⟨(x + y + b) % 4294967296, (x + y + b) / 4294967296, by simp, by omega, by omega, by omega⟩, rfl⟩
end Go.Proofs.Ytjpjibdcjmjcgaa
