/- One round of Small. -/
import Derived.Test.YtbapgkjkhdlngaaIA
import Derived.Test.YtbapgkjkhdlngaaND
import Derived.Test.YtbapgkjkhdlngaaID
namespace Go.Proofs.Ytbapgkjkhdlngaa
open Go.RowKit Nums
theorem or_none (M : Nat) (h : M < 18446744073709551616) : bits BinOp.or IntKind.u64 (M : Int) 0 = (M : Int) := by
  have := u64_or_nat M 0 h (by omega)
  simpa using this

theorem none_or (x : Nat) (h : x < 18446744073709551616) : bits BinOp.or IntKind.u64 0 (x : Int) = (x : Int) := by
  have := u64_or_nat 0 x (by omega) h
  simpa using this
theorem take_le (xs : List Nat) (k : Nat) : val (xs.take k) ≤ val xs := by
  have h := val_append (xs.take k) (xs.drop k)
  rw [List.take_append_drop] at h
  omega
theorem pow_big (k : Nat) : 18446744073709551616 ≤ 4294967296 ^ (k + 2) := by
  have hp : 0 < 4294967296 ^ k := Nat.pow_pos (by omega)
  rw [Nat.pow_succ, Nat.pow_succ]
  generalize 4294967296 ^ k = p at hp
  omega
theorem shl0 (x k : Nat) (h : x < 4294967296) (hk : k = 0) : IntKind.u64.wrap (IntKind.u64.wrap (x : Int) * 2 ^ min (32 * k) 64) = (x : Int) := by
  subst hk
  rw [IntKind.wrap_u64, IntKind.wrap_u64]; simp; omega
theorem shl1 (x k : Nat) (h : x < 4294967296) (hk : k = 1) : IntKind.u64.wrap (IntKind.u64.wrap (x : Int) * 2 ^ min (32 * k) 64) = (x : Int) * 4294967296 := by
  subst hk
  rw [IntKind.wrap_u64, IntKind.wrap_u64]; simp; omega
theorem shl2 (x k : Nat) (hx : x = 0) : IntKind.u64.wrap (IntKind.u64.wrap (x : Int) * 2 ^ min (32 * k) 64) = 0 := by
  subst hx
  rw [IntKind.wrap_u64, IntKind.wrap_u64]; simp
theorem take1_lt {xs : List Nat} (hs : Small xs) : val (xs.take 1) < 4294967296 := by
  have hM := val_lt (xs.take 1) (small_take hs 1)
  have hl := List.length_take_le 1 xs
  have h2 := Nat.pow_le_pow_right (show 0 < 4294967296 by omega) hl
  rw [Nat.pow_one] at h2
  exact Nat.lt_of_lt_of_le hM h2
theorem limb_none {xs : List Nat} {k : Nat} (hk : 2 ≤ k) (hX : val xs < 18446744073709551616) : xs.getD k 0 = 0 := by
  obtain ⟨j, rfl⟩ : ∃ j, k = j + 2 := ⟨k - 2, by omega⟩
  have hle := take_le xs (j + 2 + 1)
  have hst := val_take_next xs (j + 2)
  have h1 := pow_big j
  generalize xs.getD (j + 2) 0 = x at hst ⊢
  rcases Nat.eq_zero_or_pos x with h | h
  · exact h
  · exfalso
    have h2 := Nat.mul_le_mul_left (4294967296 ^ (j + 2)) h
    generalize 4294967296 ^ (j + 2) = p at h1 h2 hst
    generalize p * x = q at h2 hst
    omega
/-- One round: a limb more. -/
theorem small_or {xs : List Nat} {k x : Nat} (hs : Small xs) (hx : x = xs.getD k 0) (hX : val xs < 18446744073709551616) :
    bits BinOp.or IntKind.u64 (val (xs.take k) : Nat) (IntKind.u64.wrap (IntKind.u64.wrap (x : Int) * 2 ^ min (32 * k) 64)) = ((val (xs.take (k + 1)) : Nat) : Int) := by
  have hxl : x < 4294967296 := by rw [hx]; exact getD_lt xs hs k
  have hle := take_le xs (k + 1)
  have hst := val_take_next xs k
  rw [← hx] at hst
  rcases (by omega : k = 0 ∨ k = 1 ∨ 2 ≤ k) with h | h | h
  · rw [shl0 x k hxl h, hst, h]
    simp only [List.take_zero, val, Nat.pow_zero, Nat.one_mul, Nat.zero_add]
    exact none_or x (by omega)
  · rw [shl1 x k hxl h, hst, h, or_up _ _ (take1_lt hs) hxl, Nat.pow_one]
  · have hz : x = 0 := by rw [hx]; exact limb_none h hX
    rw [shl2 x k hz, hst, hz, Nat.mul_zero, Nat.add_zero, or_none]
    exact Nat.lt_of_le_of_lt (take_le xs k) hX
end Go.Proofs.Ytbapgkjkhdlngaa
/- What Small tells, the program's. -/
namespace Go.Proofs.Ytbapgkjkhdlngaa
open Go.RowKit Nums

theorem bits_small {N : Nat} (h : N < 18446744073709551616) : (bitsOf N).length ≤ 64 := bits_len N 64 (by simpa using h)
theorem bits_great {N : Nat} (h : 18446744073709551616 ≤ N) : 64 < (bitsOf N).length := by
  have h1 := bval_lt (bitsOf N)
  rw [bval_bits] at h1
  apply Nat.lt_of_not_le
  intro h2
  have h3 : 2 ^ (bitsOf N).length ≤ 2 ^ 64 := Nat.pow_le_pow_right (by omega) h2
  have : (2 : Nat) ^ 64 = 18446744073709551616 := by decide
  omega

theorem neg_small {X : Nat} (h : X ≤ 9223372036854775808) : wrap64 (IntKind.u64.wrap (-(X : Int))) = -(X : Int) := by
  rw [IntKind.wrap_u64]; unfold wrap64; omega

theorem ret_neg {X : Nat} {b : Bool} (h : X ≤ 9223372036854775808) : Ending.returned (.tuple #[.int .i64 (wrap64 (IntKind.u64.wrap (-(X : Int)))), .bool b]) = .returned (.tuple #[.int .i64 (-(X : Int)), .bool b]) := by
  rw [neg_small h]

set_option maxHeartbeats 2000000 in
theorem small_pos (a : Option Addr) (n c : Nat) (xs : List Nat) (X : Nat) (w : World) (hr : Row w a n c xs) (hn : n ≤ 100) (hX : val xs = X) (hXl : X < 18446744073709551616) (h1 : (X : Int) ≤ 9223372036854775807) :
    Calls Try.prog 33 #[.agg #[.bool false, .slice a n c]] w fun e w' => e = .returned (.tuple #[.int .i64 X, .bool true]) ∧ Below w.heap.size w w' := by
  obtain ⟨T, hT⟩ : ∃ T : Int, ((bitsOf (val xs)).length : Int) = T := ⟨_, rfl⟩
  have hT64 : T ≤ 64 := by rw [← hT]; have := bits_small (N := val xs) (by omega); omega
  have HT := Lib.hid hT; clear hT
  have XA := Lib.hid (box_new w (.bool false) (.slice a n c))
  have HB := Lib.hid (below_one w (.cells #[.bool false, .slice a n c] 24))
  have RA := Lib.hid (hr.later HB.out)
  obtain ⟨hl, hnc, hcm, hnone, hsm, b, off, hor, hc⟩ := hr
  have HL := Lib.hid hl; clear hl
  have HN := Lib.hid hnone; clear hnone hcm
  have HC := Lib.hid hc; clear hc
  have HX := Lib.hid hX; clear hX
  have HXL := Lib.hid hXl; clear hXl
  have HSM := Lib.hid hsm; clear hsm
  rcases hor with rfl | hn0
  all_goals
    go_enter Try.func33, Try.ntmps33
    go_wp2_with fail
    refine (bitsI T RA.out hn HT.out).mono ?_
    rintro e w1 ⟨rfl, hb⟩
    obtain ⟨k0, k1, -, -, -⟩ := XA.out.later hb
    have HCW : Hid (∀ i, i < n → w1.cell? ⟨b, off + i, none⟩ = some (.int .u32 (xs.getD i 0 : Nat))) := fun i hi => by
      have h1 := HC.out i hi
      rw [(bthen HB.out hb).cell (p := ⟨b, off + i, none⟩) h1.1]; exact h1.2
    have HB2 := Lib.hid (bthen HB.out hb); clear hb
    go_wp2
    go_loop [4, 14] (fun m t => ∃ k : Nat, k ≤ n ∧ t = .int .i64 (k : Int) ∧ m = .int .u64 (val (xs.take k) : Nat)) (fun _ t => n - (intOf t).toNat)
    case atStart => exact ⟨0, Nat.zero_le _, rfl, rfl⟩
    case round =>
      obtain ⟨k, hk, rfl, rfl⟩ := hrel
      by_cases hk0 : k < n
      · first
        | (exfalso; omega)
        | (have hcell := HCW.out k hk0
           obtain ⟨x, hx⟩ : ∃ x, x = xs.getD k 0 := ⟨_, rfl⟩
           rw [← hx] at hcell
           have HO := Lib.hid (small_or HSM.out hx (by rw [HX.out]; exact HXL.out))
           clear hx
           have h32 : (0 : Int) ≤ 32 * (k : Int) := by omega
           go_wp2
           go_round
           case rel => exact ⟨k + 1, by omega, by go_num, by rw [HO.out]⟩
           case measure => simp [intOf]; omega)
      · have e : val (xs.take k) = X := by rw [List.take_of_length_le (by rw [HL.out]; omega)]; exact HX.out
        rw [e]
        clear e
        go_wp2
        go_ret2
        exact ⟨rfl, HB2.out⟩

set_option maxHeartbeats 2000000 in
theorem small_neg (a : Option Addr) (n c : Nat) (xs : List Nat) (X : Nat) (w : World) (hr : Row w a n c xs) (hn : n ≤ 100) (hX : val xs = X) (hXl : X < 18446744073709551616) (h1 : (X : Int) ≤ 9223372036854775807) (h2 : (X : Int) ≤ 9223372036854775808) :
    Calls Try.prog 33 #[.agg #[.bool true, .slice a n c]] w fun e w' => e = .returned (.tuple #[.int .i64 (-(X : Int)), .bool true]) ∧ Below w.heap.size w w' := by
  obtain ⟨T, hT⟩ : ∃ T : Int, ((bitsOf (val xs)).length : Int) = T := ⟨_, rfl⟩
  have hT64 : T ≤ 64 := by rw [← hT]; have := bits_small (N := val xs) (by omega); omega
  have HT := Lib.hid hT; clear hT
  have XA := Lib.hid (box_new w (.bool true) (.slice a n c))
  have HB := Lib.hid (below_one w (.cells #[.bool true, .slice a n c] 24))
  have RA := Lib.hid (hr.later HB.out)
  obtain ⟨hl, hnc, hcm, hnone, hsm, b, off, hor, hc⟩ := hr
  have HL := Lib.hid hl; clear hl
  have HN := Lib.hid hnone; clear hnone hcm
  have HC := Lib.hid hc; clear hc
  have HX := Lib.hid hX; clear hX
  have HXL := Lib.hid hXl; clear hXl
  have HSM := Lib.hid hsm; clear hsm
  rcases hor with rfl | hn0
  all_goals
    go_enter Try.func33, Try.ntmps33
    go_wp2_with fail
    refine (bitsI T RA.out hn HT.out).mono ?_
    rintro e w1 ⟨rfl, hb⟩
    obtain ⟨k0, k1, -, -, -⟩ := XA.out.later hb
    have HCW : Hid (∀ i, i < n → w1.cell? ⟨b, off + i, none⟩ = some (.int .u32 (xs.getD i 0 : Nat))) := fun i hi => by
      have h1 := HC.out i hi
      rw [(bthen HB.out hb).cell (p := ⟨b, off + i, none⟩) h1.1]; exact h1.2
    have HB2 := Lib.hid (bthen HB.out hb); clear hb
    go_wp2
    go_loop [4, 14] (fun m t => ∃ k : Nat, k ≤ n ∧ t = .int .i64 (k : Int) ∧ m = .int .u64 (val (xs.take k) : Nat)) (fun _ t => n - (intOf t).toNat)
    case atStart => exact ⟨0, Nat.zero_le _, rfl, rfl⟩
    case round =>
      obtain ⟨k, hk, rfl, rfl⟩ := hrel
      by_cases hk0 : k < n
      · first
        | (exfalso; omega)
        | (have hcell := HCW.out k hk0
           obtain ⟨x, hx⟩ : ∃ x, x = xs.getD k 0 := ⟨_, rfl⟩
           rw [← hx] at hcell
           have HO := Lib.hid (small_or HSM.out hx (by rw [HX.out]; exact HXL.out))
           clear hx
           have h32 : (0 : Int) ≤ 32 * (k : Int) := by omega
           go_wp2
           go_round
           case rel => exact ⟨k + 1, by omega, by go_num, by rw [HO.out]⟩
           case measure => simp [intOf]; omega)
      · have e : val (xs.take k) = X := by rw [List.take_of_length_le (by rw [HL.out]; omega)]; exact HX.out
        rw [e]
        clear e
        go_wp2
        go_ret2
        exact ⟨ret_neg (by omega), HB2.out⟩

set_option maxHeartbeats 2000000 in
theorem small_least (a : Option Addr) (n c : Nat) (xs : List Nat) (X : Nat) (w : World) (hr : Row w a n c xs) (hn : n ≤ 100) (hX : val xs = X) (hXl : X < 18446744073709551616) (h1 : ¬ (X : Int) ≤ 9223372036854775807) (h2 : (X : Int) ≤ 9223372036854775808) :
    Calls Try.prog 33 #[.agg #[.bool true, .slice a n c]] w fun e w' => e = .returned (.tuple #[.int .i64 (-(X : Int)), .bool true]) ∧ Below w.heap.size w w' := by
  obtain ⟨T, hT⟩ : ∃ T : Int, ((bitsOf (val xs)).length : Int) = T := ⟨_, rfl⟩
  have hT64 : T ≤ 64 := by rw [← hT]; have := bits_small (N := val xs) (by omega); omega
  have HT := Lib.hid hT; clear hT
  have XA := Lib.hid (box_new w (.bool true) (.slice a n c))
  have HB := Lib.hid (below_one w (.cells #[.bool true, .slice a n c] 24))
  have RA := Lib.hid (hr.later HB.out)
  obtain ⟨hl, hnc, hcm, hnone, hsm, b, off, hor, hc⟩ := hr
  have HL := Lib.hid hl; clear hl
  have HN := Lib.hid hnone; clear hnone hcm
  have HC := Lib.hid hc; clear hc
  have HX := Lib.hid hX; clear hX
  have HXL := Lib.hid hXl; clear hXl
  have HSM := Lib.hid hsm; clear hsm
  rcases hor with rfl | hn0
  all_goals
    go_enter Try.func33, Try.ntmps33
    go_wp2_with fail
    refine (bitsI T RA.out hn HT.out).mono ?_
    rintro e w1 ⟨rfl, hb⟩
    obtain ⟨k0, k1, -, -, -⟩ := XA.out.later hb
    have HCW : Hid (∀ i, i < n → w1.cell? ⟨b, off + i, none⟩ = some (.int .u32 (xs.getD i 0 : Nat))) := fun i hi => by
      have h1 := HC.out i hi
      rw [(bthen HB.out hb).cell (p := ⟨b, off + i, none⟩) h1.1]; exact h1.2
    have HB2 := Lib.hid (bthen HB.out hb); clear hb
    go_wp2
    go_loop [4, 14] (fun m t => ∃ k : Nat, k ≤ n ∧ t = .int .i64 (k : Int) ∧ m = .int .u64 (val (xs.take k) : Nat)) (fun _ t => n - (intOf t).toNat)
    case atStart => exact ⟨0, Nat.zero_le _, rfl, rfl⟩
    case round =>
      obtain ⟨k, hk, rfl, rfl⟩ := hrel
      by_cases hk0 : k < n
      · first
        | (exfalso; omega)
        | (have hcell := HCW.out k hk0
           obtain ⟨x, hx⟩ : ∃ x, x = xs.getD k 0 := ⟨_, rfl⟩
           rw [← hx] at hcell
           have HO := Lib.hid (small_or HSM.out hx (by rw [HX.out]; exact HXL.out))
           clear hx
           have h32 : (0 : Int) ≤ 32 * (k : Int) := by omega
           go_wp2
           go_round
           case rel => exact ⟨k + 1, by omega, by go_num, by rw [HO.out]⟩
           case measure => simp [intOf]; omega)
      · have e : val (xs.take k) = X := by rw [List.take_of_length_le (by rw [HL.out]; omega)]; exact HX.out
        rw [e]
        clear e
        go_wp2
        go_ret2
        exact ⟨ret_neg (by omega), HB2.out⟩

set_option maxHeartbeats 2000000 in
theorem small_off1 (a : Option Addr) (n c : Nat) (xs : List Nat) (X : Nat) (w : World) (hr : Row w a n c xs) (hn : n ≤ 100) (hX : val xs = X) (hXl : X < 18446744073709551616) (h1 : ¬ (X : Int) ≤ 9223372036854775807) (h2 : (X : Int) ≤ 9223372036854775808) :
    Calls Try.prog 33 #[.agg #[.bool false, .slice a n c]] w fun e w' => e = .returned (.tuple #[.int .i64 0, .bool false]) ∧ Below w.heap.size w w' := by
  obtain ⟨T, hT⟩ : ∃ T : Int, ((bitsOf (val xs)).length : Int) = T := ⟨_, rfl⟩
  have hT64 : T ≤ 64 := by rw [← hT]; have := bits_small (N := val xs) (by omega); omega
  have HT := Lib.hid hT; clear hT
  have XA := Lib.hid (box_new w (.bool false) (.slice a n c))
  have HB := Lib.hid (below_one w (.cells #[.bool false, .slice a n c] 24))
  have RA := Lib.hid (hr.later HB.out)
  obtain ⟨hl, hnc, hcm, hnone, hsm, b, off, hor, hc⟩ := hr
  have HL := Lib.hid hl; clear hl
  have HN := Lib.hid hnone; clear hnone hcm
  have HC := Lib.hid hc; clear hc
  have HX := Lib.hid hX; clear hX
  have HXL := Lib.hid hXl; clear hXl
  have HSM := Lib.hid hsm; clear hsm
  rcases hor with rfl | hn0
  all_goals
    go_enter Try.func33, Try.ntmps33
    go_wp2_with fail
    refine (bitsI T RA.out hn HT.out).mono ?_
    rintro e w1 ⟨rfl, hb⟩
    obtain ⟨k0, k1, -, -, -⟩ := XA.out.later hb
    have HCW : Hid (∀ i, i < n → w1.cell? ⟨b, off + i, none⟩ = some (.int .u32 (xs.getD i 0 : Nat))) := fun i hi => by
      have h1 := HC.out i hi
      rw [(bthen HB.out hb).cell (p := ⟨b, off + i, none⟩) h1.1]; exact h1.2
    have HB2 := Lib.hid (bthen HB.out hb); clear hb
    go_wp2
    go_loop [4, 14] (fun m t => ∃ k : Nat, k ≤ n ∧ t = .int .i64 (k : Int) ∧ m = .int .u64 (val (xs.take k) : Nat)) (fun _ t => n - (intOf t).toNat)
    case atStart => exact ⟨0, Nat.zero_le _, rfl, rfl⟩
    case round =>
      obtain ⟨k, hk, rfl, rfl⟩ := hrel
      by_cases hk0 : k < n
      · first
        | (exfalso; omega)
        | (have hcell := HCW.out k hk0
           obtain ⟨x, hx⟩ : ∃ x, x = xs.getD k 0 := ⟨_, rfl⟩
           rw [← hx] at hcell
           have HO := Lib.hid (small_or HSM.out hx (by rw [HX.out]; exact HXL.out))
           clear hx
           have h32 : (0 : Int) ≤ 32 * (k : Int) := by omega
           go_wp2
           go_round
           case rel => exact ⟨k + 1, by omega, by go_num, by rw [HO.out]⟩
           case measure => simp [intOf]; omega)
      · have e : val (xs.take k) = X := by rw [List.take_of_length_le (by rw [HL.out]; omega)]; exact HX.out
        rw [e]
        clear e
        go_wp2
        go_ret2
        exact ⟨rfl, HB2.out⟩

set_option maxHeartbeats 2000000 in
theorem small_off2 (a : Option Addr) (n c : Nat) (xs : List Nat) (X : Nat) (w : World) (hr : Row w a n c xs) (hn : n ≤ 100) (hX : val xs = X) (hXl : X < 18446744073709551616) (h1 : ¬ (X : Int) ≤ 9223372036854775807) (h2 : ¬ (X : Int) ≤ 9223372036854775808) :
    Calls Try.prog 33 #[.agg #[.bool false, .slice a n c]] w fun e w' => e = .returned (.tuple #[.int .i64 0, .bool false]) ∧ Below w.heap.size w w' := by
  obtain ⟨T, hT⟩ : ∃ T : Int, ((bitsOf (val xs)).length : Int) = T := ⟨_, rfl⟩
  have hT64 : T ≤ 64 := by rw [← hT]; have := bits_small (N := val xs) (by omega); omega
  have HT := Lib.hid hT; clear hT
  have XA := Lib.hid (box_new w (.bool false) (.slice a n c))
  have HB := Lib.hid (below_one w (.cells #[.bool false, .slice a n c] 24))
  have RA := Lib.hid (hr.later HB.out)
  obtain ⟨hl, hnc, hcm, hnone, hsm, b, off, hor, hc⟩ := hr
  have HL := Lib.hid hl; clear hl
  have HN := Lib.hid hnone; clear hnone hcm
  have HC := Lib.hid hc; clear hc
  have HX := Lib.hid hX; clear hX
  have HXL := Lib.hid hXl; clear hXl
  have HSM := Lib.hid hsm; clear hsm
  rcases hor with rfl | hn0
  all_goals
    go_enter Try.func33, Try.ntmps33
    go_wp2_with fail
    refine (bitsI T RA.out hn HT.out).mono ?_
    rintro e w1 ⟨rfl, hb⟩
    obtain ⟨k0, k1, -, -, -⟩ := XA.out.later hb
    have HCW : Hid (∀ i, i < n → w1.cell? ⟨b, off + i, none⟩ = some (.int .u32 (xs.getD i 0 : Nat))) := fun i hi => by
      have h1 := HC.out i hi
      rw [(bthen HB.out hb).cell (p := ⟨b, off + i, none⟩) h1.1]; exact h1.2
    have HB2 := Lib.hid (bthen HB.out hb); clear hb
    go_wp2
    go_loop [4, 14] (fun m t => ∃ k : Nat, k ≤ n ∧ t = .int .i64 (k : Int) ∧ m = .int .u64 (val (xs.take k) : Nat)) (fun _ t => n - (intOf t).toNat)
    case atStart => exact ⟨0, Nat.zero_le _, rfl, rfl⟩
    case round =>
      obtain ⟨k, hk, rfl, rfl⟩ := hrel
      by_cases hk0 : k < n
      · first
        | (exfalso; omega)
        | (have hcell := HCW.out k hk0
           obtain ⟨x, hx⟩ : ∃ x, x = xs.getD k 0 := ⟨_, rfl⟩
           rw [← hx] at hcell
           have HO := Lib.hid (small_or HSM.out hx (by rw [HX.out]; exact HXL.out))
           clear hx
           have h32 : (0 : Int) ≤ 32 * (k : Int) := by omega
           go_wp2
           go_round
           case rel => exact ⟨k + 1, by omega, by go_num, by rw [HO.out]⟩
           case measure => simp [intOf]; omega)
      · have e : val (xs.take k) = X := by rw [List.take_of_length_le (by rw [HL.out]; omega)]; exact HX.out
        rw [e]
        clear e
        go_wp2
        go_ret2
        exact ⟨rfl, HB2.out⟩

set_option maxHeartbeats 2000000 in
theorem small_off3 (a : Option Addr) (n c : Nat) (xs : List Nat) (X : Nat) (w : World) (hr : Row w a n c xs) (hn : n ≤ 100) (hX : val xs = X) (hXl : X < 18446744073709551616) (h1 : ¬ (X : Int) ≤ 9223372036854775807) (h2 : ¬ (X : Int) ≤ 9223372036854775808) :
    Calls Try.prog 33 #[.agg #[.bool true, .slice a n c]] w fun e w' => e = .returned (.tuple #[.int .i64 0, .bool false]) ∧ Below w.heap.size w w' := by
  obtain ⟨T, hT⟩ : ∃ T : Int, ((bitsOf (val xs)).length : Int) = T := ⟨_, rfl⟩
  have hT64 : T ≤ 64 := by rw [← hT]; have := bits_small (N := val xs) (by omega); omega
  have HT := Lib.hid hT; clear hT
  have XA := Lib.hid (box_new w (.bool true) (.slice a n c))
  have HB := Lib.hid (below_one w (.cells #[.bool true, .slice a n c] 24))
  have RA := Lib.hid (hr.later HB.out)
  obtain ⟨hl, hnc, hcm, hnone, hsm, b, off, hor, hc⟩ := hr
  have HL := Lib.hid hl; clear hl
  have HN := Lib.hid hnone; clear hnone hcm
  have HC := Lib.hid hc; clear hc
  have HX := Lib.hid hX; clear hX
  have HXL := Lib.hid hXl; clear hXl
  have HSM := Lib.hid hsm; clear hsm
  rcases hor with rfl | hn0
  all_goals
    go_enter Try.func33, Try.ntmps33
    go_wp2_with fail
    refine (bitsI T RA.out hn HT.out).mono ?_
    rintro e w1 ⟨rfl, hb⟩
    obtain ⟨k0, k1, -, -, -⟩ := XA.out.later hb
    have HCW : Hid (∀ i, i < n → w1.cell? ⟨b, off + i, none⟩ = some (.int .u32 (xs.getD i 0 : Nat))) := fun i hi => by
      have h1 := HC.out i hi
      rw [(bthen HB.out hb).cell (p := ⟨b, off + i, none⟩) h1.1]; exact h1.2
    have HB2 := Lib.hid (bthen HB.out hb); clear hb
    go_wp2
    go_loop [4, 14] (fun m t => ∃ k : Nat, k ≤ n ∧ t = .int .i64 (k : Int) ∧ m = .int .u64 (val (xs.take k) : Nat)) (fun _ t => n - (intOf t).toNat)
    case atStart => exact ⟨0, Nat.zero_le _, rfl, rfl⟩
    case round =>
      obtain ⟨k, hk, rfl, rfl⟩ := hrel
      by_cases hk0 : k < n
      · first
        | (exfalso; omega)
        | (have hcell := HCW.out k hk0
           obtain ⟨x, hx⟩ : ∃ x, x = xs.getD k 0 := ⟨_, rfl⟩
           rw [← hx] at hcell
           have HO := Lib.hid (small_or HSM.out hx (by rw [HX.out]; exact HXL.out))
           clear hx
           have h32 : (0 : Int) ≤ 32 * (k : Int) := by omega
           go_wp2
           go_round
           case rel => exact ⟨k + 1, by omega, by go_num, by rw [HO.out]⟩
           case measure => simp [intOf]; omega)
      · have e : val (xs.take k) = X := by rw [List.take_of_length_le (by rw [HL.out]; omega)]; exact HX.out
        rw [e]
        clear e
        go_wp2
        go_ret2
        exact ⟨rfl, HB2.out⟩

set_option maxHeartbeats 1000000 in
theorem small_big (s : Bool) (a : Option Addr) (n c : Nat) (xs : List Nat) (w : World) (hr : Row w a n c xs) (hn : n ≤ 100) (hX : 18446744073709551616 ≤ val xs) :
    Calls Try.prog 33 #[.agg #[.bool s, .slice a n c]] w fun e w' => e = .returned (.tuple #[.int .i64 0, .bool false]) ∧ Below w.heap.size w w' := by
  obtain ⟨T, hT⟩ : ∃ T : Int, ((bitsOf (val xs)).length : Int) = T := ⟨_, rfl⟩
  have hT64 : 64 < T := by rw [← hT]; have := bits_great hX; omega
  have HT := Lib.hid hT; clear hT hX
  have HB := Lib.hid (below_one w (.cells #[.bool s, .slice a n c] 24))
  have RA := Lib.hid (hr.later HB.out); clear hr
  go_enter Try.func33, Try.ntmps33
  go_wp2_with fail
  refine (bitsI T RA.out hn HT.out).mono ?_
  rintro e w1 ⟨rfl, hb⟩
  have HB2 := Lib.hid (bthen HB.out hb); clear hb
  go_wp2
  go_ret2
  exact ⟨rfl, HB2.out⟩

theorem smallI_yes (s : Bool) (a : Option Addr) (n c : Nat) (xs : List Nat) (Z : Int) (w : World) (hr : Row w a n c xs) (hn : n ≤ 100) (hZ : sv s (val xs) = Z) (h0 : -9223372036854775808 ≤ Z) (h1 : Z < 9223372036854775808) :
    Calls Try.prog 33 #[.agg #[.bool s, .slice a n c]] w fun e w' => e = .returned (.tuple #[.int .i64 Z, .bool true]) ∧ Below w.heap.size w w' := by
  subst hZ
  cases s
  · simp only [sv, Bool.false_eq_true, if_false] at h0 h1 ⊢
    exact small_pos a n c xs _ w hr hn rfl (by omega) (by omega)
  · simp only [sv, if_true] at h0 h1 ⊢
    by_cases h : (val xs : Int) ≤ 9223372036854775807
    · exact small_neg a n c xs _ w hr hn rfl (by omega) h (by omega)
    · exact small_least a n c xs _ w hr hn rfl (by omega) (by omega) (by omega)

theorem smallI_no (s : Bool) (a : Option Addr) (n c : Nat) (xs : List Nat) (Z : Int) (w : World) (hr : Row w a n c xs) (hn : n ≤ 100) (hZ : sv s (val xs) = Z) (h : ¬ (-9223372036854775808 ≤ Z ∧ Z < 9223372036854775808)) :
    Calls Try.prog 33 #[.agg #[.bool s, .slice a n c]] w fun e w' => e = .returned (.tuple #[.int .i64 0, .bool false]) ∧ Below w.heap.size w w' := by
  subst hZ
  rcases Nat.lt_or_ge (val xs) 18446744073709551616 with hl | hl
  · cases s
    · simp only [sv, Bool.false_eq_true, if_false] at h
      by_cases h2 : (val xs : Int) ≤ 9223372036854775808
      · exact small_off1 a n c xs _ w hr hn rfl hl (by omega) h2
      · exact small_off2 a n c xs _ w hr hn rfl hl (by omega) (by omega)
    · simp only [sv, if_true] at h
      exact small_off3 a n c xs _ w hr hn rfl hl (by omega) (by omega)
  · exact small_big s a n c xs w hr hn hl
end Go.Proofs.Ytbapgkjkhdlngaa
/- What Small tells, the document's answer's. -/
namespace Go.Proofs.Ytbapgkjkhdlngaa
open Go.RowKit Nums

/-- One round: a limb more, from above. -/
theorem rsmall_or {xs : List Nat} {k M : Nat} (hs : Small xs) (hk : k < xs.length) (hl : xs.length ≤ 2) (hM : M = val (xs.drop (k + 1))) :
    bits BinOp.or IntKind.u64 (IntKind.u64.wrap ((M : Int) * 4294967296)) (IntKind.u64.wrap ((xs.getD k 0 : Nat) : Int)) = ((val (xs.drop k) : Nat) : Int) := by
  have hx := getD_lt xs hs k
  have e1 : val (xs.drop k) = xs.getD k 0 + 4294967296 * M := by
    rw [hM, List.drop_eq_getElem_cons hk]
    simp [val, hk]
  have hM2 : M < 4294967296 := by
    have h1 := val_lt (xs.drop (k + 1)) (fun y hy => hs y (List.mem_of_mem_drop hy))
    have h2 : (xs.drop (k + 1)).length ≤ 1 := by simp; omega
    have h3 := Nat.pow_le_pow_right (show 0 < 4294967296 by omega) h2
    rw [Nat.pow_one] at h3
    omega
  generalize xs.getD k 0 = x at hx e1 ⊢
  have e2 : IntKind.u64.wrap (x : Int) = (x : Int) := by rw [IntKind.wrap_u64]; omega
  have e3 : IntKind.u64.wrap ((M : Int) * 4294967296) = (M : Int) * 4294967296 := by rw [IntKind.wrap_u64]; omega
  rw [e2, e3, or_limbs M x hM2 hx, e1]
  congr 1
  omega

set_option maxRecDepth 100000 in
set_option maxHeartbeats 4000000 in
theorem rsmall_pos (s : Bool) (a : Option Addr) (n c : Nat) (xs : List Nat) (Z : Int) (X : Nat) (w : World) (hr : Row w a n c xs) (hn : n ≤ 60) (hZ : sv s (val xs) = Z) (Y : Int) (hX : Z.natAbs = X) (hY : Y = (X : Int)) (hXl : X < 18446744073709551616) (hS : decide (Z < 0) = false) (h1 : ¬ 9223372036854775808 ≤ Y) :
    Calls Try.prog 34 #[.agg #[.bool s, .slice a n c]] w fun e w' => e = .returned (.tuple #[.int .i64 (wrap64 Y), .bool true]) ∧ Below w.heap.size w w' := by
  have LX : Hid ((limbs X).length ≤ 2) := limbs_len X 2 (by have : (4294967296 : Nat) ^ 2 = 18446744073709551616 := by rfl
                                                            omega)
  have LZ : Hid ((limbs Z.natAbs).length ≤ 2) := by show _ ≤ _; rw [hX]; exact LX.out
  have XA := Lib.hid (box_new w (.bool s) (.slice a n c))
  have HB := Lib.hid (below_one w (.cells #[.bool s, .slice a n c] 24))
  have RA := Lib.hid (hr.later HB.out); clear hr
  have HZ := Lib.hid hZ; clear hZ
  have HS := Lib.hid hS; clear hS
  have HX := Lib.hid hX; clear hX
  have HYX := Lib.hid hY; clear hY
  have HXL := Lib.hid hXl; clear hXl
  have HH := Lib.hid h1; clear h1
  go_enter Try.func34, Try.ntmps34
  go_wp2_with fail
  refine (rnormS 2 Z RA.out HZ.out (by omega) LZ.out HS.out).mono ?_
  rintro e w1 ⟨a1, m1, c1, rfl, hm1, hrow, hb⟩
  obtain ⟨k0, k1, k2, k3, k4⟩ := XA.out.later hb
  have HB2 := Lib.hid (below_put (bthen HB.out hb) (Nat.le_refl _) (.bool false) (.slice a1 m1 c1)); clear hb
  rw [HX.out] at hrow
  have HR1 := Lib.hid (hrow.put k0 k1 (.bool false) (.slice a1 m1 c1)); clear hrow
  rcases (by omega : m1 = 0 ∨ m1 = 1 ∨ m1 = 2) with rfl | rfl | rfl
  · have HL := Lib.hid HR1.out.1
    clear hm1
    go_wp2
    go_loop [4, 5] (fun u t => ∃ k : Nat, k ≤ 0 ∧ t = .int .i64 ((k : Int) - 1) ∧ u = .int .u64 (val ((limbs X).drop k) : Nat)) (fun _ t => (intOf t + 1).toNat)
    case atStart => exact ⟨0, Nat.le_refl _, by go_num, by rw [List.drop_eq_nil_of_le (by rw [HL.out]; exact Nat.le_refl _)]; rfl⟩
    case round =>
      obtain ⟨k, hk, rfl, rfl⟩ := hrel
      by_cases hk0 : 0 < k
      · exfalso; omega
      · obtain rfl : k = 0 := by omega
        rw [List.drop_zero, val_limbs, ← HYX.out]
        have h1 := HH.out
        go_wp2
        go_ret2
        exact ⟨rfl, HB2.out⟩
  · obtain ⟨hl, -, -, -, hsm, b, off, hor, hc⟩ := HR1.out
    have HL := Lib.hid hl; clear hl
    have HSM := Lib.hid hsm; clear hsm
    have HCW := Lib.hid hc; clear hc
    obtain rfl : a1 = some ⟨b, off, none⟩ := by
      rcases hor with h | h
      · exact h
      · omega
    clear hm1
    go_wp2
    go_loop [4, 5] (fun u t => ∃ k : Nat, k ≤ 1 ∧ t = .int .i64 ((k : Int) - 1) ∧ u = .int .u64 (val ((limbs X).drop k) : Nat)) (fun _ t => (intOf t + 1).toNat)
    case atStart => exact ⟨1, Nat.le_refl _, by go_num, by rw [List.drop_eq_nil_of_le (by rw [HL.out]; exact Nat.le_refl _)]; rfl⟩
    case round =>
      obtain ⟨k, hk, rfl, rfl⟩ := hrel
      by_cases hk0 : 0 < k
      · obtain rfl : k = 1 := by omega
        have hcell := (HCW.out 0 (by omega)).2
        rw [Nat.add_zero] at hcell
        have HO := Lib.hid (rsmall_or (k := 0) HSM.out (by rw [HL.out]; omega) (by rw [HL.out]; omega) rfl)
        rw [show 0 + 1 = 1 from rfl, List.drop_one] at HO
        obtain ⟨y, hy⟩ : ∃ y, y = (limbs X).getD 0 0 := ⟨_, rfl⟩
        rw [← hy] at hcell HO
        have HYY := Lib.hid hy; clear hy
        go_wp2
        go_round
        case rel => exact ⟨0, by omega, by go_num, by rw [HO.out]⟩
        case measure => simp [intOf]
      · obtain rfl : k = 0 := by omega
        rw [List.drop_zero, val_limbs, ← HYX.out]
        have h1 := HH.out
        go_wp2
        go_ret2
        exact ⟨rfl, HB2.out⟩
  · obtain ⟨hl, -, -, -, hsm, b, off, hor, hc⟩ := HR1.out
    have HL := Lib.hid hl; clear hl
    have HSM := Lib.hid hsm; clear hsm
    have HCW := Lib.hid hc; clear hc
    obtain rfl : a1 = some ⟨b, off, none⟩ := by
      rcases hor with h | h
      · exact h
      · omega
    clear hm1
    go_wp2
    go_loop [4, 5] (fun u t => ∃ k : Nat, k ≤ 2 ∧ t = .int .i64 ((k : Int) - 1) ∧ u = .int .u64 (val ((limbs X).drop k) : Nat)) (fun _ t => (intOf t + 1).toNat)
    case atStart => exact ⟨2, Nat.le_refl _, by go_num, by rw [List.drop_eq_nil_of_le (by rw [HL.out]; exact Nat.le_refl _)]; rfl⟩
    case round =>
      obtain ⟨k, hk, rfl, rfl⟩ := hrel
      by_cases hk0 : 0 < k
      · have hcell := (HCW.out (k - 1) (by omega)).2
        have e : ((k : Int) - 1).toNat = k - 1 := by omega
        have HO := Lib.hid (rsmall_or (k := k - 1) HSM.out (by rw [HL.out]; omega) (by rw [HL.out]; omega) rfl)
        rw [show k - 1 + 1 = k from by omega] at HO
        obtain ⟨y, hy⟩ : ∃ y, y = (limbs X).getD (k - 1) 0 := ⟨_, rfl⟩
        rw [← hy] at hcell HO
        have HYY := Lib.hid hy; clear hy
        go_wp2
        go_round
        case rel => exact ⟨k - 1, by omega, by go_num, by rw [HO.out]⟩
        case measure => simp [intOf]; omega
      · obtain rfl : k = 0 := by omega
        rw [List.drop_zero, val_limbs, ← HYX.out]
        have h1 := HH.out
        go_wp2
        go_ret2
        exact ⟨rfl, HB2.out⟩

set_option maxRecDepth 100000 in
set_option maxHeartbeats 4000000 in
theorem rsmall_off (s : Bool) (a : Option Addr) (n c : Nat) (xs : List Nat) (Z : Int) (X : Nat) (w : World) (hr : Row w a n c xs) (hn : n ≤ 60) (hZ : sv s (val xs) = Z) (Y : Int) (hX : Z.natAbs = X) (hY : Y = (X : Int)) (hXl : X < 18446744073709551616) (hS : decide (Z < 0) = false) (h1 : 9223372036854775808 ≤ Y) :
    Calls Try.prog 34 #[.agg #[.bool s, .slice a n c]] w fun e w' => e = .returned (.tuple #[.int .i64 0, .bool false]) ∧ Below w.heap.size w w' := by
  have LX : Hid ((limbs X).length ≤ 2) := limbs_len X 2 (by have : (4294967296 : Nat) ^ 2 = 18446744073709551616 := by rfl
                                                            omega)
  have LZ : Hid ((limbs Z.natAbs).length ≤ 2) := by show _ ≤ _; rw [hX]; exact LX.out
  have XA := Lib.hid (box_new w (.bool s) (.slice a n c))
  have HB := Lib.hid (below_one w (.cells #[.bool s, .slice a n c] 24))
  have RA := Lib.hid (hr.later HB.out); clear hr
  have HZ := Lib.hid hZ; clear hZ
  have HS := Lib.hid hS; clear hS
  have HX := Lib.hid hX; clear hX
  have HYX := Lib.hid hY; clear hY
  have HXL := Lib.hid hXl; clear hXl
  have HH := Lib.hid h1; clear h1
  go_enter Try.func34, Try.ntmps34
  go_wp2_with fail
  refine (rnormS 2 Z RA.out HZ.out (by omega) LZ.out HS.out).mono ?_
  rintro e w1 ⟨a1, m1, c1, rfl, hm1, hrow, hb⟩
  obtain ⟨k0, k1, k2, k3, k4⟩ := XA.out.later hb
  have HB2 := Lib.hid (below_put (bthen HB.out hb) (Nat.le_refl _) (.bool false) (.slice a1 m1 c1)); clear hb
  rw [HX.out] at hrow
  have HR1 := Lib.hid (hrow.put k0 k1 (.bool false) (.slice a1 m1 c1)); clear hrow
  rcases (by omega : m1 = 0 ∨ m1 = 1 ∨ m1 = 2) with rfl | rfl | rfl
  · have HL := Lib.hid HR1.out.1
    clear hm1
    go_wp2
    go_loop [4, 5] (fun u t => ∃ k : Nat, k ≤ 0 ∧ t = .int .i64 ((k : Int) - 1) ∧ u = .int .u64 (val ((limbs X).drop k) : Nat)) (fun _ t => (intOf t + 1).toNat)
    case atStart => exact ⟨0, Nat.le_refl _, by go_num, by rw [List.drop_eq_nil_of_le (by rw [HL.out]; exact Nat.le_refl _)]; rfl⟩
    case round =>
      obtain ⟨k, hk, rfl, rfl⟩ := hrel
      by_cases hk0 : 0 < k
      · exfalso; omega
      · obtain rfl : k = 0 := by omega
        rw [List.drop_zero, val_limbs, ← HYX.out]
        have h1 := HH.out
        go_wp2
        go_ret2
        exact ⟨rfl, HB2.out⟩
  · obtain ⟨hl, -, -, -, hsm, b, off, hor, hc⟩ := HR1.out
    have HL := Lib.hid hl; clear hl
    have HSM := Lib.hid hsm; clear hsm
    have HCW := Lib.hid hc; clear hc
    obtain rfl : a1 = some ⟨b, off, none⟩ := by
      rcases hor with h | h
      · exact h
      · omega
    clear hm1
    go_wp2
    go_loop [4, 5] (fun u t => ∃ k : Nat, k ≤ 1 ∧ t = .int .i64 ((k : Int) - 1) ∧ u = .int .u64 (val ((limbs X).drop k) : Nat)) (fun _ t => (intOf t + 1).toNat)
    case atStart => exact ⟨1, Nat.le_refl _, by go_num, by rw [List.drop_eq_nil_of_le (by rw [HL.out]; exact Nat.le_refl _)]; rfl⟩
    case round =>
      obtain ⟨k, hk, rfl, rfl⟩ := hrel
      by_cases hk0 : 0 < k
      · obtain rfl : k = 1 := by omega
        have hcell := (HCW.out 0 (by omega)).2
        rw [Nat.add_zero] at hcell
        have HO := Lib.hid (rsmall_or (k := 0) HSM.out (by rw [HL.out]; omega) (by rw [HL.out]; omega) rfl)
        rw [show 0 + 1 = 1 from rfl, List.drop_one] at HO
        obtain ⟨y, hy⟩ : ∃ y, y = (limbs X).getD 0 0 := ⟨_, rfl⟩
        rw [← hy] at hcell HO
        have HYY := Lib.hid hy; clear hy
        go_wp2
        go_round
        case rel => exact ⟨0, by omega, by go_num, by rw [HO.out]⟩
        case measure => simp [intOf]
      · obtain rfl : k = 0 := by omega
        rw [List.drop_zero, val_limbs, ← HYX.out]
        have h1 := HH.out
        go_wp2
        go_ret2
        exact ⟨rfl, HB2.out⟩
  · obtain ⟨hl, -, -, -, hsm, b, off, hor, hc⟩ := HR1.out
    have HL := Lib.hid hl; clear hl
    have HSM := Lib.hid hsm; clear hsm
    have HCW := Lib.hid hc; clear hc
    obtain rfl : a1 = some ⟨b, off, none⟩ := by
      rcases hor with h | h
      · exact h
      · omega
    clear hm1
    go_wp2
    go_loop [4, 5] (fun u t => ∃ k : Nat, k ≤ 2 ∧ t = .int .i64 ((k : Int) - 1) ∧ u = .int .u64 (val ((limbs X).drop k) : Nat)) (fun _ t => (intOf t + 1).toNat)
    case atStart => exact ⟨2, Nat.le_refl _, by go_num, by rw [List.drop_eq_nil_of_le (by rw [HL.out]; exact Nat.le_refl _)]; rfl⟩
    case round =>
      obtain ⟨k, hk, rfl, rfl⟩ := hrel
      by_cases hk0 : 0 < k
      · have hcell := (HCW.out (k - 1) (by omega)).2
        have e : ((k : Int) - 1).toNat = k - 1 := by omega
        have HO := Lib.hid (rsmall_or (k := k - 1) HSM.out (by rw [HL.out]; omega) (by rw [HL.out]; omega) rfl)
        rw [show k - 1 + 1 = k from by omega] at HO
        obtain ⟨y, hy⟩ : ∃ y, y = (limbs X).getD (k - 1) 0 := ⟨_, rfl⟩
        rw [← hy] at hcell HO
        have HYY := Lib.hid hy; clear hy
        go_wp2
        go_round
        case rel => exact ⟨k - 1, by omega, by go_num, by rw [HO.out]⟩
        case measure => simp [intOf]; omega
      · obtain rfl : k = 0 := by omega
        rw [List.drop_zero, val_limbs, ← HYX.out]
        have h1 := HH.out
        go_wp2
        go_ret2
        exact ⟨rfl, HB2.out⟩

set_option maxRecDepth 100000 in
set_option maxHeartbeats 4000000 in
theorem rsmall_neg (s : Bool) (a : Option Addr) (n c : Nat) (xs : List Nat) (Z : Int) (X : Nat) (w : World) (hr : Row w a n c xs) (hn : n ≤ 60) (hZ : sv s (val xs) = Z) (Y : Int) (hX : Z.natAbs = X) (hY : Y = (X : Int)) (hXl : X < 18446744073709551616) (hS : decide (Z < 0) = true) (h1 : True) :
    Calls Try.prog 34 #[.agg #[.bool s, .slice a n c]] w fun e w' => e = .returned (.tuple #[.int .i64 (wrap64 (IntKind.u64.wrap (-Y))), .bool (decide (Y ≤ 9223372036854775808))]) ∧ Below w.heap.size w w' := by
  have LX : Hid ((limbs X).length ≤ 2) := limbs_len X 2 (by have : (4294967296 : Nat) ^ 2 = 18446744073709551616 := by rfl
                                                            omega)
  have LZ : Hid ((limbs Z.natAbs).length ≤ 2) := by show _ ≤ _; rw [hX]; exact LX.out
  have XA := Lib.hid (box_new w (.bool s) (.slice a n c))
  have HB := Lib.hid (below_one w (.cells #[.bool s, .slice a n c] 24))
  have RA := Lib.hid (hr.later HB.out); clear hr
  have HZ := Lib.hid hZ; clear hZ
  have HS := Lib.hid hS; clear hS
  have HX := Lib.hid hX; clear hX
  have HYX := Lib.hid hY; clear hY
  have HXL := Lib.hid hXl; clear hXl
  have HH := Lib.hid h1; clear h1
  go_enter Try.func34, Try.ntmps34
  go_wp2_with fail
  refine (rnormS 2 Z RA.out HZ.out (by omega) LZ.out HS.out).mono ?_
  rintro e w1 ⟨a1, m1, c1, rfl, hm1, hrow, hb⟩
  obtain ⟨k0, k1, k2, k3, k4⟩ := XA.out.later hb
  have HB2 := Lib.hid (below_put (bthen HB.out hb) (Nat.le_refl _) (.bool true) (.slice a1 m1 c1)); clear hb
  rw [HX.out] at hrow
  have HR1 := Lib.hid (hrow.put k0 k1 (.bool true) (.slice a1 m1 c1)); clear hrow
  rcases (by omega : m1 = 0 ∨ m1 = 1 ∨ m1 = 2) with rfl | rfl | rfl
  · have HL := Lib.hid HR1.out.1
    clear hm1
    go_wp2
    go_loop [4, 5] (fun u t => ∃ k : Nat, k ≤ 0 ∧ t = .int .i64 ((k : Int) - 1) ∧ u = .int .u64 (val ((limbs X).drop k) : Nat)) (fun _ t => (intOf t + 1).toNat)
    case atStart => exact ⟨0, Nat.le_refl _, by go_num, by rw [List.drop_eq_nil_of_le (by rw [HL.out]; exact Nat.le_refl _)]; rfl⟩
    case round =>
      obtain ⟨k, hk, rfl, rfl⟩ := hrel
      by_cases hk0 : 0 < k
      · exfalso; omega
      · obtain rfl : k = 0 := by omega
        rw [List.drop_zero, val_limbs, ← HYX.out]
        have h1 := HH.out
        go_wp2
        go_ret2
        exact ⟨rfl, HB2.out⟩
  · obtain ⟨hl, -, -, -, hsm, b, off, hor, hc⟩ := HR1.out
    have HL := Lib.hid hl; clear hl
    have HSM := Lib.hid hsm; clear hsm
    have HCW := Lib.hid hc; clear hc
    obtain rfl : a1 = some ⟨b, off, none⟩ := by
      rcases hor with h | h
      · exact h
      · omega
    clear hm1
    go_wp2
    go_loop [4, 5] (fun u t => ∃ k : Nat, k ≤ 1 ∧ t = .int .i64 ((k : Int) - 1) ∧ u = .int .u64 (val ((limbs X).drop k) : Nat)) (fun _ t => (intOf t + 1).toNat)
    case atStart => exact ⟨1, Nat.le_refl _, by go_num, by rw [List.drop_eq_nil_of_le (by rw [HL.out]; exact Nat.le_refl _)]; rfl⟩
    case round =>
      obtain ⟨k, hk, rfl, rfl⟩ := hrel
      by_cases hk0 : 0 < k
      · obtain rfl : k = 1 := by omega
        have hcell := (HCW.out 0 (by omega)).2
        rw [Nat.add_zero] at hcell
        have HO := Lib.hid (rsmall_or (k := 0) HSM.out (by rw [HL.out]; omega) (by rw [HL.out]; omega) rfl)
        rw [show 0 + 1 = 1 from rfl, List.drop_one] at HO
        obtain ⟨y, hy⟩ : ∃ y, y = (limbs X).getD 0 0 := ⟨_, rfl⟩
        rw [← hy] at hcell HO
        have HYY := Lib.hid hy; clear hy
        go_wp2
        go_round
        case rel => exact ⟨0, by omega, by go_num, by rw [HO.out]⟩
        case measure => simp [intOf]
      · obtain rfl : k = 0 := by omega
        rw [List.drop_zero, val_limbs, ← HYX.out]
        have h1 := HH.out
        go_wp2
        go_ret2
        exact ⟨rfl, HB2.out⟩
  · obtain ⟨hl, -, -, -, hsm, b, off, hor, hc⟩ := HR1.out
    have HL := Lib.hid hl; clear hl
    have HSM := Lib.hid hsm; clear hsm
    have HCW := Lib.hid hc; clear hc
    obtain rfl : a1 = some ⟨b, off, none⟩ := by
      rcases hor with h | h
      · exact h
      · omega
    clear hm1
    go_wp2
    go_loop [4, 5] (fun u t => ∃ k : Nat, k ≤ 2 ∧ t = .int .i64 ((k : Int) - 1) ∧ u = .int .u64 (val ((limbs X).drop k) : Nat)) (fun _ t => (intOf t + 1).toNat)
    case atStart => exact ⟨2, Nat.le_refl _, by go_num, by rw [List.drop_eq_nil_of_le (by rw [HL.out]; exact Nat.le_refl _)]; rfl⟩
    case round =>
      obtain ⟨k, hk, rfl, rfl⟩ := hrel
      by_cases hk0 : 0 < k
      · have hcell := (HCW.out (k - 1) (by omega)).2
        have e : ((k : Int) - 1).toNat = k - 1 := by omega
        have HO := Lib.hid (rsmall_or (k := k - 1) HSM.out (by rw [HL.out]; omega) (by rw [HL.out]; omega) rfl)
        rw [show k - 1 + 1 = k from by omega] at HO
        obtain ⟨y, hy⟩ : ∃ y, y = (limbs X).getD (k - 1) 0 := ⟨_, rfl⟩
        rw [← hy] at hcell HO
        have HYY := Lib.hid hy; clear hy
        go_wp2
        go_round
        case rel => exact ⟨k - 1, by omega, by go_num, by rw [HO.out]⟩
        case measure => simp [intOf]; omega
      · obtain rfl : k = 0 := by omega
        rw [List.drop_zero, val_limbs, ← HYX.out]
        have h1 := HH.out
        go_wp2
        go_ret2
        exact ⟨rfl, HB2.out⟩

set_option maxRecDepth 100000 in
set_option maxHeartbeats 1000000 in
theorem rsmall_big (s : Bool) (a : Option Addr) (n c : Nat) (xs : List Nat) (Z : Int) (w : World) (hr : Row w a n c xs) (hn : n ≤ 60) (hZ : sv s (val xs) = Z) (hX : 18446744073709551616 ≤ Z.natAbs) :
    Calls Try.prog 34 #[.agg #[.bool s, .slice a n c]] w fun e w' => e = .returned (.tuple #[.int .i64 0, .bool false]) ∧ Below w.heap.size w w' := by
  have LZ : Hid ((limbs Z.natAbs).length ≤ 60) := lenZ_raw hr hn hZ
  have LB : Hid (2 < (limbs Z.natAbs).length) := by
    show 2 < _
    apply Nat.lt_of_not_le
    intro h
    have h1 := lt_pow_len Z.natAbs
    have h2 := Nat.pow_le_pow_right (show 0 < 4294967296 by omega) h
    have : (4294967296 : Nat) ^ 2 = 18446744073709551616 := by rfl
    omega
  have XA := Lib.hid (box_new w (.bool s) (.slice a n c))
  have HB := Lib.hid (below_one w (.cells #[.bool s, .slice a n c] 24))
  have RA := Lib.hid (hr.later HB.out); clear hr
  have HZ := Lib.hid hZ; clear hZ hX
  go_enter Try.func34, Try.ntmps34
  go_wp2_with fail
  refine (rnormS 60 Z RA.out HZ.out (by omega) LZ.out rfl).mono ?_
  rintro e w1 ⟨a1, m1, c1, rfl, hm1, hrow, hb⟩
  obtain ⟨k0, k1, k2, k3, k4⟩ := XA.out.later hb
  have HB2 := Lib.hid (below_put (bthen HB.out hb) (Nat.le_refl _) (.bool (decide (Z < 0))) (.slice a1 m1 c1)); clear hb
  have hm2 : 2 < m1 := by have := hrow.1; have := LB.out; omega
  clear hrow
  go_wp2
  go_ret2
  exact ⟨rfl, HB2.out⟩

theorem rsmallI_yes (s : Bool) (a : Option Addr) (n c : Nat) (xs : List Nat) (Z : Int) (w : World) (hr : Row w a n c xs) (hn : n ≤ 60) (hZ : sv s (val xs) = Z) (h0 : -9223372036854775808 ≤ Z) (h1 : Z < 9223372036854775808) :
    Calls Try.prog 34 #[.agg #[.bool s, .slice a n c]] w fun e w' => e = .returned (.tuple #[.int .i64 Z, .bool true]) ∧ Below w.heap.size w w' := by
  by_cases h : Z < 0
  · refine (rsmall_neg s a n c xs Z _ w hr hn hZ _ rfl rfl (by omega) (by simpa using h) trivial).mono ?_
    rintro e w' ⟨rfl, hb⟩
    refine ⟨?_, hb⟩
    have e : -((Z.natAbs : Nat) : Int) = Z := by omega
    rw [neg_small (by omega), decide_eq_true (show ((Z.natAbs : Nat) : Int) ≤ 9223372036854775808 by omega), e]
  · refine (rsmall_pos s a n c xs Z _ w hr hn hZ _ rfl rfl (by omega) (by simpa using h) (by omega)).mono ?_
    rintro e w' ⟨rfl, hb⟩
    refine ⟨?_, hb⟩
    have e : wrap64 ((Z.natAbs : Nat) : Int) = Z := by unfold wrap64; omega
    rw [e]

def NoSmall (w : World) (e : Ending) (w' : World) : Prop := ∃ K : Int, e = .returned (.tuple #[.int .i64 K, .bool false]) ∧ Below w.heap.size w w'

theorem rsmallI_no (s : Bool) (a : Option Addr) (n c : Nat) (xs : List Nat) (Z : Int) (w : World) (hr : Row w a n c xs) (hn : n ≤ 60) (hZ : sv s (val xs) = Z) (h : ¬ (-9223372036854775808 ≤ Z ∧ Z < 9223372036854775808)) :
    Calls Try.prog 34 #[.agg #[.bool s, .slice a n c]] w (NoSmall w) := by
  rcases Nat.lt_or_ge Z.natAbs 18446744073709551616 with hl | hl
  · by_cases h0 : Z < 0
    · exact (rsmall_neg s a n c xs Z _ w hr hn hZ _ rfl rfl hl (by simpa using h0) trivial).mono (fun e w' ⟨h1, h2⟩ => ⟨wrap64 (IntKind.u64.wrap (-((Z.natAbs : Nat) : Int))), by subst h1; rw [decide_eq_false (show ¬ ((Z.natAbs : Nat) : Int) ≤ 9223372036854775808 by omega)], h2⟩)
    · exact (rsmall_off s a n c xs Z _ w hr hn hZ _ rfl rfl hl (by simpa using h0) (by omega)).mono fun e w' ⟨h1, h2⟩ => ⟨_, h1, h2⟩
  · exact (rsmall_big s a n c xs Z w hr hn hZ hl).mono fun e w' ⟨h1, h2⟩ => ⟨_, h1, h2⟩
end Go.Proofs.Ytbapgkjkhdlngaa
