/- What hasEnough of package safe tells. No condition. · What hasPlace and operands of package safe tell. No condition but bounds. -/
import Derived.Test.YtpcpbpinhdbjiaaZFlE
import Derived.Test.YtpcpbpinhdbjiaaZSfAToSfC
import Derived.Test.YtpcpbpinhdbjiaaZFlOToFlQ
import Derived.Deep.RegionWith
import Derived.OwnWalk
namespace Go.Proofs.Ytpcpbpinhdbjiaa
set_option linter.unusedVariables false
set_option linter.unusedSimpArgs false
set_option maxRecDepth 100000
open Go.RowKit

theorem enS_0 (n : Nat) : enS (bs [108, 105, 116]) n = ((n : Int) == 0) := (show enS (bs [108, 105, 116]) n = (n == 0) from rfl).trans (nat_beq n 0)
theorem enS_1 (n : Nat) : enS (bs [105, 110]) n = ((n : Int) == 0) := (show enS (bs [105, 110]) n = (n == 0) from rfl).trans (nat_beq n 0)
theorem enS_2 (n : Nat) : enS (bs [109, 101, 109]) n = ((n : Int) == 0) := (show enS (bs [109, 101, 109]) n = (n == 0) from rfl).trans (nat_beq n 0)
theorem enS_3 (n : Nat) : enS (bs [99, 111, 110, 116]) n = ((n : Int) == 0) := (show enS (bs [99, 111, 110, 116]) n = (n == 0) from rfl).trans (nat_beq n 0)
theorem enS_4 (n : Nat) : enS (bs [102, 108, 97, 103]) n = ((n : Int) == 0) := (show enS (bs [102, 108, 97, 103]) n = (n == 0) from rfl).trans (nat_beq n 0)
theorem enS_5 (n : Nat) : enS (bs [99, 111, 112, 121]) n = ((n : Int) == 1) := (show enS (bs [99, 111, 112, 121]) n = (n == 1) from rfl).trans (nat_beq n 1)
theorem enS_6 (n : Nat) : enS (bs [110, 101, 103]) n = ((n : Int) == 1) := (show enS (bs [110, 101, 103]) n = (n == 1) from rfl).trans (nat_beq n 1)
theorem enS_7 (n : Nat) : enS (bs [110, 111, 116]) n = ((n : Int) == 1) := (show enS (bs [110, 111, 116]) n = (n == 1) from rfl).trans (nat_beq n 1)
theorem enS_8 (n : Nat) : enS (bs [102, 108, 111, 111, 114]) n = ((n : Int) == 1) := (show enS (bs [102, 108, 111, 111, 114]) n = (n == 1) from rfl).trans (nat_beq n 1)
theorem enS_9 (n : Nat) : enS (bs [114, 97, 116]) n = ((n : Int) == 1) := (show enS (bs [114, 97, 116]) n = (n == 1) from rfl).trans (nat_beq n 1)
theorem enS_10 (n : Nat) : enS (bs [107, 101, 101, 112]) n = ((n : Int) == 1) := (show enS (bs [107, 101, 101, 112]) n = (n == 1) from rfl).trans (nat_beq n 1)
theorem enS_11 (n : Nat) : enS (bs [115, 116, 97, 116, 101]) n = ((n : Int) == 1) := (show enS (bs [115, 116, 97, 116, 101]) n = (n == 1) from rfl).trans (nat_beq n 1)
theorem enS_12 (n : Nat) : enS (bs [111, 117, 116]) n = ((n : Int) == 1) := (show enS (bs [111, 117, 116]) n = (n == 1) from rfl).trans (nat_beq n 1)
theorem enS_13 (n : Nat) : enS (bs [97, 103, 97, 105, 110]) n = ((n : Int) == 1) := (show enS (bs [97, 103, 97, 105, 110]) n = (n == 1) from rfl).trans (nat_beq n 1)
theorem enS_14 (n : Nat) : enS (bs [103, 97, 110, 100]) n = decide ((1 : Int) ≤ (n : Int)) := (show enS (bs [103, 97, 110, 100]) n = decide (1 ≤ n) from rfl).trans (decide_eq_decide.2 (by omega))
theorem enS_15 (n : Nat) : enS (bs [109, 114, 103]) n = decide ((1 : Int) ≤ (n : Int)) := (show enS (bs [109, 114, 103]) n = decide (1 ≤ n) from rfl).trans (decide_eq_decide.2 (by omega))
theorem enS_16 (n : Nat) : enS (bs [43]) n = ((n : Int) == 2) := (show enS (bs [43]) n = (n == 2) from rfl).trans (nat_beq n 2)
theorem enS_17 (n : Nat) : enS (bs [45]) n = ((n : Int) == 2) := (show enS (bs [45]) n = (n == 2) from rfl).trans (nat_beq n 2)
theorem enS_18 (n : Nat) : enS (bs [42]) n = ((n : Int) == 2) := (show enS (bs [42]) n = (n == 2) from rfl).trans (nat_beq n 2)
theorem enS_19 (n : Nat) : enS (bs [47]) n = ((n : Int) == 2) := (show enS (bs [47]) n = (n == 2) from rfl).trans (nat_beq n 2)
theorem enS_20 (n : Nat) : enS (bs [100, 105, 118]) n = ((n : Int) == 2) := (show enS (bs [100, 105, 118]) n = (n == 2) from rfl).trans (nat_beq n 2)
theorem enS_21 (n : Nat) : enS (bs [109, 111, 100]) n = ((n : Int) == 2) := (show enS (bs [109, 111, 100]) n = (n == 2) from rfl).trans (nat_beq n 2)
theorem enS_22 (n : Nat) : enS (bs [60]) n = ((n : Int) == 2) := (show enS (bs [60]) n = (n == 2) from rfl).trans (nat_beq n 2)
theorem enS_23 (n : Nat) : enS (bs [60, 61]) n = ((n : Int) == 2) := (show enS (bs [60, 61]) n = (n == 2) from rfl).trans (nat_beq n 2)
theorem enS_24 (n : Nat) : enS (bs [62]) n = ((n : Int) == 2) := (show enS (bs [62]) n = (n == 2) from rfl).trans (nat_beq n 2)
theorem enS_25 (n : Nat) : enS (bs [62, 61]) n = ((n : Int) == 2) := (show enS (bs [62, 61]) n = (n == 2) from rfl).trans (nat_beq n 2)
theorem enS_26 (n : Nat) : enS (bs [61, 61]) n = ((n : Int) == 2) := (show enS (bs [61, 61]) n = (n == 2) from rfl).trans (nat_beq n 2)
theorem enS_27 (n : Nat) : enS (bs [33, 61]) n = ((n : Int) == 2) := (show enS (bs [33, 61]) n = (n == 2) from rfl).trans (nat_beq n 2)
theorem enS_28 (n : Nat) : enS (bs [97, 110, 100]) n = ((n : Int) == 2) := (show enS (bs [97, 110, 100]) n = (n == 2) from rfl).trans (nat_beq n 2)
theorem enS_29 (n : Nat) : enS (bs [111, 114]) n = ((n : Int) == 2) := (show enS (bs [111, 114]) n = (n == 2) from rfl).trans (nat_beq n 2)
theorem enS_30 (n : Nat) : enS (bs [115, 101, 108]) n = ((n : Int) == 3) := (show enS (bs [115, 101, 108]) n = (n == 3) from rfl).trans (nat_beq n 3)
theorem enS_no (op : ByteArray) (n : Nat) (h0 : ¬ op = bs [108, 105, 116]) (h1 : ¬ op = bs [105, 110]) (h2 : ¬ op = bs [109, 101, 109]) (h3 : ¬ op = bs [99, 111, 110, 116]) (h4 : ¬ op = bs [102, 108, 97, 103]) (h5 : ¬ op = bs [99, 111, 112, 121]) (h6 : ¬ op = bs [110, 101, 103]) (h7 : ¬ op = bs [110, 111, 116]) (h8 : ¬ op = bs [102, 108, 111, 111, 114]) (h9 : ¬ op = bs [114, 97, 116]) (h10 : ¬ op = bs [107, 101, 101, 112]) (h11 : ¬ op = bs [115, 116, 97, 116, 101]) (h12 : ¬ op = bs [111, 117, 116]) (h13 : ¬ op = bs [97, 103, 97, 105, 110]) (h14 : ¬ op = bs [103, 97, 110, 100]) (h15 : ¬ op = bs [109, 114, 103]) (h16 : ¬ op = bs [43]) (h17 : ¬ op = bs [45]) (h18 : ¬ op = bs [42]) (h19 : ¬ op = bs [47]) (h20 : ¬ op = bs [100, 105, 118]) (h21 : ¬ op = bs [109, 111, 100]) (h22 : ¬ op = bs [60]) (h23 : ¬ op = bs [60, 61]) (h24 : ¬ op = bs [62]) (h25 : ¬ op = bs [62, 61]) (h26 : ¬ op = bs [61, 61]) (h27 : ¬ op = bs [33, 61]) (h28 : ¬ op = bs [97, 110, 100]) (h29 : ¬ op = bs [111, 114]) (h30 : ¬ op = bs [115, 101, 108]) : enS op n = false := by
  unfold enS hasOp opsNone opsOne opsEnd opsSome opsTwo opSel
  rw [if_neg (by simp [h0, h1, h2, h3, h4]), if_neg (by simp [h5, h6, h7, h8, h9, h10, h11, h12, h13]), if_neg (by simp [h14, h15]), if_neg (by simp [h16, h17, h18, h19, h20, h21, h22, h23, h24, h25, h26, h27, h28, h29]), if_neg h30]

set_option maxHeartbeats 400000 in
theorem en_0 (q : InsP) (a m d r : Option Addr × Nat × Nat) (w : World) (hm : a.2.1 ≤ maxLen) (h : q.op = bs [108, 105, 116]) : Calls Try.prog 34 #[insU q a m d r] w fun e w' => e = .returned (.bool (enS q.op a.2.1)) ∧ Below w.heap.size w w' := by
  obtain ⟨op, dst, args, k, lit, guard, resets⟩ := q
  obtain ⟨A, n, c⟩ := a
  unfold maxLen at hm
  simp only at hm h
  have HE := Lib.hid (enS_0 n)
  subst h
  unfold bs at HE ⊢
  unfold insU
  go_enter Try.func34, Try.ntmps34
  go_wp2
  all_goals
    go_ret
    exact ⟨by rw [HE.out]; first | rfl | (congr 1; simp; done) | (congr 2; simp; omega), (Below.refl _ _).alloc (Nat.le_refl _) _⟩

set_option maxHeartbeats 400000 in
theorem en_1 (q : InsP) (a m d r : Option Addr × Nat × Nat) (w : World) (hm : a.2.1 ≤ maxLen) (h : q.op = bs [105, 110]) : Calls Try.prog 34 #[insU q a m d r] w fun e w' => e = .returned (.bool (enS q.op a.2.1)) ∧ Below w.heap.size w w' := by
  obtain ⟨op, dst, args, k, lit, guard, resets⟩ := q
  obtain ⟨A, n, c⟩ := a
  unfold maxLen at hm
  simp only at hm h
  have HE := Lib.hid (enS_1 n)
  subst h
  unfold bs at HE ⊢
  unfold insU
  go_enter Try.func34, Try.ntmps34
  go_wp2
  all_goals
    go_ret
    exact ⟨by rw [HE.out]; first | rfl | (congr 1; simp; done) | (congr 2; simp; omega), (Below.refl _ _).alloc (Nat.le_refl _) _⟩

set_option maxHeartbeats 400000 in
theorem en_2 (q : InsP) (a m d r : Option Addr × Nat × Nat) (w : World) (hm : a.2.1 ≤ maxLen) (h : q.op = bs [109, 101, 109]) : Calls Try.prog 34 #[insU q a m d r] w fun e w' => e = .returned (.bool (enS q.op a.2.1)) ∧ Below w.heap.size w w' := by
  obtain ⟨op, dst, args, k, lit, guard, resets⟩ := q
  obtain ⟨A, n, c⟩ := a
  unfold maxLen at hm
  simp only at hm h
  have HE := Lib.hid (enS_2 n)
  subst h
  unfold bs at HE ⊢
  unfold insU
  go_enter Try.func34, Try.ntmps34
  go_wp2
  all_goals
    go_ret
    exact ⟨by rw [HE.out]; first | rfl | (congr 1; simp; done) | (congr 2; simp; omega), (Below.refl _ _).alloc (Nat.le_refl _) _⟩

set_option maxHeartbeats 400000 in
theorem en_3 (q : InsP) (a m d r : Option Addr × Nat × Nat) (w : World) (hm : a.2.1 ≤ maxLen) (h : q.op = bs [99, 111, 110, 116]) : Calls Try.prog 34 #[insU q a m d r] w fun e w' => e = .returned (.bool (enS q.op a.2.1)) ∧ Below w.heap.size w w' := by
  obtain ⟨op, dst, args, k, lit, guard, resets⟩ := q
  obtain ⟨A, n, c⟩ := a
  unfold maxLen at hm
  simp only at hm h
  have HE := Lib.hid (enS_3 n)
  subst h
  unfold bs at HE ⊢
  unfold insU
  go_enter Try.func34, Try.ntmps34
  go_wp2
  all_goals
    go_ret
    exact ⟨by rw [HE.out]; first | rfl | (congr 1; simp; done) | (congr 2; simp; omega), (Below.refl _ _).alloc (Nat.le_refl _) _⟩

set_option maxHeartbeats 400000 in
theorem en_4 (q : InsP) (a m d r : Option Addr × Nat × Nat) (w : World) (hm : a.2.1 ≤ maxLen) (h : q.op = bs [102, 108, 97, 103]) : Calls Try.prog 34 #[insU q a m d r] w fun e w' => e = .returned (.bool (enS q.op a.2.1)) ∧ Below w.heap.size w w' := by
  obtain ⟨op, dst, args, k, lit, guard, resets⟩ := q
  obtain ⟨A, n, c⟩ := a
  unfold maxLen at hm
  simp only at hm h
  have HE := Lib.hid (enS_4 n)
  subst h
  unfold bs at HE ⊢
  unfold insU
  go_enter Try.func34, Try.ntmps34
  go_wp2
  all_goals
    go_ret
    exact ⟨by rw [HE.out]; first | rfl | (congr 1; simp; done) | (congr 2; simp; omega), (Below.refl _ _).alloc (Nat.le_refl _) _⟩

set_option maxHeartbeats 400000 in
theorem en_5 (q : InsP) (a m d r : Option Addr × Nat × Nat) (w : World) (hm : a.2.1 ≤ maxLen) (h : q.op = bs [99, 111, 112, 121]) : Calls Try.prog 34 #[insU q a m d r] w fun e w' => e = .returned (.bool (enS q.op a.2.1)) ∧ Below w.heap.size w w' := by
  obtain ⟨op, dst, args, k, lit, guard, resets⟩ := q
  obtain ⟨A, n, c⟩ := a
  unfold maxLen at hm
  simp only at hm h
  have HE := Lib.hid (enS_5 n)
  subst h
  unfold bs at HE ⊢
  unfold insU
  go_enter Try.func34, Try.ntmps34
  go_wp2
  all_goals
    go_ret
    exact ⟨by rw [HE.out]; first | rfl | (congr 1; simp; done) | (congr 2; simp; omega), (Below.refl _ _).alloc (Nat.le_refl _) _⟩

set_option maxHeartbeats 400000 in
theorem en_6 (q : InsP) (a m d r : Option Addr × Nat × Nat) (w : World) (hm : a.2.1 ≤ maxLen) (h : q.op = bs [110, 101, 103]) : Calls Try.prog 34 #[insU q a m d r] w fun e w' => e = .returned (.bool (enS q.op a.2.1)) ∧ Below w.heap.size w w' := by
  obtain ⟨op, dst, args, k, lit, guard, resets⟩ := q
  obtain ⟨A, n, c⟩ := a
  unfold maxLen at hm
  simp only at hm h
  have HE := Lib.hid (enS_6 n)
  subst h
  unfold bs at HE ⊢
  unfold insU
  go_enter Try.func34, Try.ntmps34
  go_wp2
  all_goals
    go_ret
    exact ⟨by rw [HE.out]; first | rfl | (congr 1; simp; done) | (congr 2; simp; omega), (Below.refl _ _).alloc (Nat.le_refl _) _⟩

set_option maxHeartbeats 400000 in
theorem en_7 (q : InsP) (a m d r : Option Addr × Nat × Nat) (w : World) (hm : a.2.1 ≤ maxLen) (h : q.op = bs [110, 111, 116]) : Calls Try.prog 34 #[insU q a m d r] w fun e w' => e = .returned (.bool (enS q.op a.2.1)) ∧ Below w.heap.size w w' := by
  obtain ⟨op, dst, args, k, lit, guard, resets⟩ := q
  obtain ⟨A, n, c⟩ := a
  unfold maxLen at hm
  simp only at hm h
  have HE := Lib.hid (enS_7 n)
  subst h
  unfold bs at HE ⊢
  unfold insU
  go_enter Try.func34, Try.ntmps34
  go_wp2
  all_goals
    go_ret
    exact ⟨by rw [HE.out]; first | rfl | (congr 1; simp; done) | (congr 2; simp; omega), (Below.refl _ _).alloc (Nat.le_refl _) _⟩

set_option maxHeartbeats 400000 in
theorem en_8 (q : InsP) (a m d r : Option Addr × Nat × Nat) (w : World) (hm : a.2.1 ≤ maxLen) (h : q.op = bs [102, 108, 111, 111, 114]) : Calls Try.prog 34 #[insU q a m d r] w fun e w' => e = .returned (.bool (enS q.op a.2.1)) ∧ Below w.heap.size w w' := by
  obtain ⟨op, dst, args, k, lit, guard, resets⟩ := q
  obtain ⟨A, n, c⟩ := a
  unfold maxLen at hm
  simp only at hm h
  have HE := Lib.hid (enS_8 n)
  subst h
  unfold bs at HE ⊢
  unfold insU
  go_enter Try.func34, Try.ntmps34
  go_wp2
  all_goals
    go_ret
    exact ⟨by rw [HE.out]; first | rfl | (congr 1; simp; done) | (congr 2; simp; omega), (Below.refl _ _).alloc (Nat.le_refl _) _⟩

set_option maxHeartbeats 400000 in
theorem en_9 (q : InsP) (a m d r : Option Addr × Nat × Nat) (w : World) (hm : a.2.1 ≤ maxLen) (h : q.op = bs [114, 97, 116]) : Calls Try.prog 34 #[insU q a m d r] w fun e w' => e = .returned (.bool (enS q.op a.2.1)) ∧ Below w.heap.size w w' := by
  obtain ⟨op, dst, args, k, lit, guard, resets⟩ := q
  obtain ⟨A, n, c⟩ := a
  unfold maxLen at hm
  simp only at hm h
  have HE := Lib.hid (enS_9 n)
  subst h
  unfold bs at HE ⊢
  unfold insU
  go_enter Try.func34, Try.ntmps34
  go_wp2
  all_goals
    go_ret
    exact ⟨by rw [HE.out]; first | rfl | (congr 1; simp; done) | (congr 2; simp; omega), (Below.refl _ _).alloc (Nat.le_refl _) _⟩

set_option maxHeartbeats 400000 in
theorem en_10 (q : InsP) (a m d r : Option Addr × Nat × Nat) (w : World) (hm : a.2.1 ≤ maxLen) (h : q.op = bs [107, 101, 101, 112]) : Calls Try.prog 34 #[insU q a m d r] w fun e w' => e = .returned (.bool (enS q.op a.2.1)) ∧ Below w.heap.size w w' := by
  obtain ⟨op, dst, args, k, lit, guard, resets⟩ := q
  obtain ⟨A, n, c⟩ := a
  unfold maxLen at hm
  simp only at hm h
  have HE := Lib.hid (enS_10 n)
  subst h
  unfold bs at HE ⊢
  unfold insU
  go_enter Try.func34, Try.ntmps34
  go_wp2
  all_goals
    go_ret
    exact ⟨by rw [HE.out]; first | rfl | (congr 1; simp; done) | (congr 2; simp; omega), (Below.refl _ _).alloc (Nat.le_refl _) _⟩

set_option maxHeartbeats 400000 in
theorem en_11 (q : InsP) (a m d r : Option Addr × Nat × Nat) (w : World) (hm : a.2.1 ≤ maxLen) (h : q.op = bs [115, 116, 97, 116, 101]) : Calls Try.prog 34 #[insU q a m d r] w fun e w' => e = .returned (.bool (enS q.op a.2.1)) ∧ Below w.heap.size w w' := by
  obtain ⟨op, dst, args, k, lit, guard, resets⟩ := q
  obtain ⟨A, n, c⟩ := a
  unfold maxLen at hm
  simp only at hm h
  have HE := Lib.hid (enS_11 n)
  subst h
  unfold bs at HE ⊢
  unfold insU
  go_enter Try.func34, Try.ntmps34
  go_wp2
  all_goals
    go_ret
    exact ⟨by rw [HE.out]; first | rfl | (congr 1; simp; done) | (congr 2; simp; omega), (Below.refl _ _).alloc (Nat.le_refl _) _⟩

set_option maxHeartbeats 400000 in
theorem en_12 (q : InsP) (a m d r : Option Addr × Nat × Nat) (w : World) (hm : a.2.1 ≤ maxLen) (h : q.op = bs [111, 117, 116]) : Calls Try.prog 34 #[insU q a m d r] w fun e w' => e = .returned (.bool (enS q.op a.2.1)) ∧ Below w.heap.size w w' := by
  obtain ⟨op, dst, args, k, lit, guard, resets⟩ := q
  obtain ⟨A, n, c⟩ := a
  unfold maxLen at hm
  simp only at hm h
  have HE := Lib.hid (enS_12 n)
  subst h
  unfold bs at HE ⊢
  unfold insU
  go_enter Try.func34, Try.ntmps34
  go_wp2
  all_goals
    go_ret
    exact ⟨by rw [HE.out]; first | rfl | (congr 1; simp; done) | (congr 2; simp; omega), (Below.refl _ _).alloc (Nat.le_refl _) _⟩

set_option maxHeartbeats 400000 in
theorem en_13 (q : InsP) (a m d r : Option Addr × Nat × Nat) (w : World) (hm : a.2.1 ≤ maxLen) (h : q.op = bs [97, 103, 97, 105, 110]) : Calls Try.prog 34 #[insU q a m d r] w fun e w' => e = .returned (.bool (enS q.op a.2.1)) ∧ Below w.heap.size w w' := by
  obtain ⟨op, dst, args, k, lit, guard, resets⟩ := q
  obtain ⟨A, n, c⟩ := a
  unfold maxLen at hm
  simp only at hm h
  have HE := Lib.hid (enS_13 n)
  subst h
  unfold bs at HE ⊢
  unfold insU
  go_enter Try.func34, Try.ntmps34
  go_wp2
  all_goals
    go_ret
    exact ⟨by rw [HE.out]; first | rfl | (congr 1; simp; done) | (congr 2; simp; omega), (Below.refl _ _).alloc (Nat.le_refl _) _⟩

set_option maxHeartbeats 400000 in
theorem en_14 (q : InsP) (a m d r : Option Addr × Nat × Nat) (w : World) (hm : a.2.1 ≤ maxLen) (h : q.op = bs [103, 97, 110, 100]) : Calls Try.prog 34 #[insU q a m d r] w fun e w' => e = .returned (.bool (enS q.op a.2.1)) ∧ Below w.heap.size w w' := by
  obtain ⟨op, dst, args, k, lit, guard, resets⟩ := q
  obtain ⟨A, n, c⟩ := a
  unfold maxLen at hm
  simp only at hm h
  have HE := Lib.hid (enS_14 n)
  subst h
  unfold bs at HE ⊢
  unfold insU
  go_enter Try.func34, Try.ntmps34
  go_wp2
  all_goals
    go_ret
    exact ⟨by rw [HE.out]; first | rfl | (congr 1; simp; done) | (congr 2; simp; omega), (Below.refl _ _).alloc (Nat.le_refl _) _⟩

set_option maxHeartbeats 400000 in
theorem en_15 (q : InsP) (a m d r : Option Addr × Nat × Nat) (w : World) (hm : a.2.1 ≤ maxLen) (h : q.op = bs [109, 114, 103]) : Calls Try.prog 34 #[insU q a m d r] w fun e w' => e = .returned (.bool (enS q.op a.2.1)) ∧ Below w.heap.size w w' := by
  obtain ⟨op, dst, args, k, lit, guard, resets⟩ := q
  obtain ⟨A, n, c⟩ := a
  unfold maxLen at hm
  simp only at hm h
  have HE := Lib.hid (enS_15 n)
  subst h
  unfold bs at HE ⊢
  unfold insU
  go_enter Try.func34, Try.ntmps34
  go_wp2
  all_goals
    go_ret
    exact ⟨by rw [HE.out]; first | rfl | (congr 1; simp; done) | (congr 2; simp; omega), (Below.refl _ _).alloc (Nat.le_refl _) _⟩

set_option maxHeartbeats 400000 in
theorem en_16 (q : InsP) (a m d r : Option Addr × Nat × Nat) (w : World) (hm : a.2.1 ≤ maxLen) (h : q.op = bs [43]) : Calls Try.prog 34 #[insU q a m d r] w fun e w' => e = .returned (.bool (enS q.op a.2.1)) ∧ Below w.heap.size w w' := by
  obtain ⟨op, dst, args, k, lit, guard, resets⟩ := q
  obtain ⟨A, n, c⟩ := a
  unfold maxLen at hm
  simp only at hm h
  have HE := Lib.hid (enS_16 n)
  subst h
  unfold bs at HE ⊢
  unfold insU
  go_enter Try.func34, Try.ntmps34
  go_wp2
  all_goals
    go_ret
    exact ⟨by rw [HE.out]; first | rfl | (congr 1; simp; done) | (congr 2; simp; omega), (Below.refl _ _).alloc (Nat.le_refl _) _⟩

set_option maxHeartbeats 400000 in
theorem en_17 (q : InsP) (a m d r : Option Addr × Nat × Nat) (w : World) (hm : a.2.1 ≤ maxLen) (h : q.op = bs [45]) : Calls Try.prog 34 #[insU q a m d r] w fun e w' => e = .returned (.bool (enS q.op a.2.1)) ∧ Below w.heap.size w w' := by
  obtain ⟨op, dst, args, k, lit, guard, resets⟩ := q
  obtain ⟨A, n, c⟩ := a
  unfold maxLen at hm
  simp only at hm h
  have HE := Lib.hid (enS_17 n)
  subst h
  unfold bs at HE ⊢
  unfold insU
  go_enter Try.func34, Try.ntmps34
  go_wp2
  all_goals
    go_ret
    exact ⟨by rw [HE.out]; first | rfl | (congr 1; simp; done) | (congr 2; simp; omega), (Below.refl _ _).alloc (Nat.le_refl _) _⟩

set_option maxHeartbeats 400000 in
theorem en_18 (q : InsP) (a m d r : Option Addr × Nat × Nat) (w : World) (hm : a.2.1 ≤ maxLen) (h : q.op = bs [42]) : Calls Try.prog 34 #[insU q a m d r] w fun e w' => e = .returned (.bool (enS q.op a.2.1)) ∧ Below w.heap.size w w' := by
  obtain ⟨op, dst, args, k, lit, guard, resets⟩ := q
  obtain ⟨A, n, c⟩ := a
  unfold maxLen at hm
  simp only at hm h
  have HE := Lib.hid (enS_18 n)
  subst h
  unfold bs at HE ⊢
  unfold insU
  go_enter Try.func34, Try.ntmps34
  go_wp2
  all_goals
    go_ret
    exact ⟨by rw [HE.out]; first | rfl | (congr 1; simp; done) | (congr 2; simp; omega), (Below.refl _ _).alloc (Nat.le_refl _) _⟩

set_option maxHeartbeats 400000 in
theorem en_19 (q : InsP) (a m d r : Option Addr × Nat × Nat) (w : World) (hm : a.2.1 ≤ maxLen) (h : q.op = bs [47]) : Calls Try.prog 34 #[insU q a m d r] w fun e w' => e = .returned (.bool (enS q.op a.2.1)) ∧ Below w.heap.size w w' := by
  obtain ⟨op, dst, args, k, lit, guard, resets⟩ := q
  obtain ⟨A, n, c⟩ := a
  unfold maxLen at hm
  simp only at hm h
  have HE := Lib.hid (enS_19 n)
  subst h
  unfold bs at HE ⊢
  unfold insU
  go_enter Try.func34, Try.ntmps34
  go_wp2
  all_goals
    go_ret
    exact ⟨by rw [HE.out]; first | rfl | (congr 1; simp; done) | (congr 2; simp; omega), (Below.refl _ _).alloc (Nat.le_refl _) _⟩

set_option maxHeartbeats 400000 in
theorem en_20 (q : InsP) (a m d r : Option Addr × Nat × Nat) (w : World) (hm : a.2.1 ≤ maxLen) (h : q.op = bs [100, 105, 118]) : Calls Try.prog 34 #[insU q a m d r] w fun e w' => e = .returned (.bool (enS q.op a.2.1)) ∧ Below w.heap.size w w' := by
  obtain ⟨op, dst, args, k, lit, guard, resets⟩ := q
  obtain ⟨A, n, c⟩ := a
  unfold maxLen at hm
  simp only at hm h
  have HE := Lib.hid (enS_20 n)
  subst h
  unfold bs at HE ⊢
  unfold insU
  go_enter Try.func34, Try.ntmps34
  go_wp2
  all_goals
    go_ret
    exact ⟨by rw [HE.out]; first | rfl | (congr 1; simp; done) | (congr 2; simp; omega), (Below.refl _ _).alloc (Nat.le_refl _) _⟩

set_option maxHeartbeats 400000 in
theorem en_21 (q : InsP) (a m d r : Option Addr × Nat × Nat) (w : World) (hm : a.2.1 ≤ maxLen) (h : q.op = bs [109, 111, 100]) : Calls Try.prog 34 #[insU q a m d r] w fun e w' => e = .returned (.bool (enS q.op a.2.1)) ∧ Below w.heap.size w w' := by
  obtain ⟨op, dst, args, k, lit, guard, resets⟩ := q
  obtain ⟨A, n, c⟩ := a
  unfold maxLen at hm
  simp only at hm h
  have HE := Lib.hid (enS_21 n)
  subst h
  unfold bs at HE ⊢
  unfold insU
  go_enter Try.func34, Try.ntmps34
  go_wp2
  all_goals
    go_ret
    exact ⟨by rw [HE.out]; first | rfl | (congr 1; simp; done) | (congr 2; simp; omega), (Below.refl _ _).alloc (Nat.le_refl _) _⟩

set_option maxHeartbeats 400000 in
theorem en_22 (q : InsP) (a m d r : Option Addr × Nat × Nat) (w : World) (hm : a.2.1 ≤ maxLen) (h : q.op = bs [60]) : Calls Try.prog 34 #[insU q a m d r] w fun e w' => e = .returned (.bool (enS q.op a.2.1)) ∧ Below w.heap.size w w' := by
  obtain ⟨op, dst, args, k, lit, guard, resets⟩ := q
  obtain ⟨A, n, c⟩ := a
  unfold maxLen at hm
  simp only at hm h
  have HE := Lib.hid (enS_22 n)
  subst h
  unfold bs at HE ⊢
  unfold insU
  go_enter Try.func34, Try.ntmps34
  go_wp2
  all_goals
    go_ret
    exact ⟨by rw [HE.out]; first | rfl | (congr 1; simp; done) | (congr 2; simp; omega), (Below.refl _ _).alloc (Nat.le_refl _) _⟩

set_option maxHeartbeats 400000 in
theorem en_23 (q : InsP) (a m d r : Option Addr × Nat × Nat) (w : World) (hm : a.2.1 ≤ maxLen) (h : q.op = bs [60, 61]) : Calls Try.prog 34 #[insU q a m d r] w fun e w' => e = .returned (.bool (enS q.op a.2.1)) ∧ Below w.heap.size w w' := by
  obtain ⟨op, dst, args, k, lit, guard, resets⟩ := q
  obtain ⟨A, n, c⟩ := a
  unfold maxLen at hm
  simp only at hm h
  have HE := Lib.hid (enS_23 n)
  subst h
  unfold bs at HE ⊢
  unfold insU
  go_enter Try.func34, Try.ntmps34
  go_wp2
  all_goals
    go_ret
    exact ⟨by rw [HE.out]; first | rfl | (congr 1; simp; done) | (congr 2; simp; omega), (Below.refl _ _).alloc (Nat.le_refl _) _⟩

set_option maxHeartbeats 400000 in
theorem en_24 (q : InsP) (a m d r : Option Addr × Nat × Nat) (w : World) (hm : a.2.1 ≤ maxLen) (h : q.op = bs [62]) : Calls Try.prog 34 #[insU q a m d r] w fun e w' => e = .returned (.bool (enS q.op a.2.1)) ∧ Below w.heap.size w w' := by
  obtain ⟨op, dst, args, k, lit, guard, resets⟩ := q
  obtain ⟨A, n, c⟩ := a
  unfold maxLen at hm
  simp only at hm h
  have HE := Lib.hid (enS_24 n)
  subst h
  unfold bs at HE ⊢
  unfold insU
  go_enter Try.func34, Try.ntmps34
  go_wp2
  all_goals
    go_ret
    exact ⟨by rw [HE.out]; first | rfl | (congr 1; simp; done) | (congr 2; simp; omega), (Below.refl _ _).alloc (Nat.le_refl _) _⟩

set_option maxHeartbeats 400000 in
theorem en_25 (q : InsP) (a m d r : Option Addr × Nat × Nat) (w : World) (hm : a.2.1 ≤ maxLen) (h : q.op = bs [62, 61]) : Calls Try.prog 34 #[insU q a m d r] w fun e w' => e = .returned (.bool (enS q.op a.2.1)) ∧ Below w.heap.size w w' := by
  obtain ⟨op, dst, args, k, lit, guard, resets⟩ := q
  obtain ⟨A, n, c⟩ := a
  unfold maxLen at hm
  simp only at hm h
  have HE := Lib.hid (enS_25 n)
  subst h
  unfold bs at HE ⊢
  unfold insU
  go_enter Try.func34, Try.ntmps34
  go_wp2
  all_goals
    go_ret
    exact ⟨by rw [HE.out]; first | rfl | (congr 1; simp; done) | (congr 2; simp; omega), (Below.refl _ _).alloc (Nat.le_refl _) _⟩

set_option maxHeartbeats 400000 in
theorem en_26 (q : InsP) (a m d r : Option Addr × Nat × Nat) (w : World) (hm : a.2.1 ≤ maxLen) (h : q.op = bs [61, 61]) : Calls Try.prog 34 #[insU q a m d r] w fun e w' => e = .returned (.bool (enS q.op a.2.1)) ∧ Below w.heap.size w w' := by
  obtain ⟨op, dst, args, k, lit, guard, resets⟩ := q
  obtain ⟨A, n, c⟩ := a
  unfold maxLen at hm
  simp only at hm h
  have HE := Lib.hid (enS_26 n)
  subst h
  unfold bs at HE ⊢
  unfold insU
  go_enter Try.func34, Try.ntmps34
  go_wp2
  all_goals
    go_ret
    exact ⟨by rw [HE.out]; first | rfl | (congr 1; simp; done) | (congr 2; simp; omega), (Below.refl _ _).alloc (Nat.le_refl _) _⟩

set_option maxHeartbeats 400000 in
theorem en_27 (q : InsP) (a m d r : Option Addr × Nat × Nat) (w : World) (hm : a.2.1 ≤ maxLen) (h : q.op = bs [33, 61]) : Calls Try.prog 34 #[insU q a m d r] w fun e w' => e = .returned (.bool (enS q.op a.2.1)) ∧ Below w.heap.size w w' := by
  obtain ⟨op, dst, args, k, lit, guard, resets⟩ := q
  obtain ⟨A, n, c⟩ := a
  unfold maxLen at hm
  simp only at hm h
  have HE := Lib.hid (enS_27 n)
  subst h
  unfold bs at HE ⊢
  unfold insU
  go_enter Try.func34, Try.ntmps34
  go_wp2
  all_goals
    go_ret
    exact ⟨by rw [HE.out]; first | rfl | (congr 1; simp; done) | (congr 2; simp; omega), (Below.refl _ _).alloc (Nat.le_refl _) _⟩

set_option maxHeartbeats 400000 in
theorem en_28 (q : InsP) (a m d r : Option Addr × Nat × Nat) (w : World) (hm : a.2.1 ≤ maxLen) (h : q.op = bs [97, 110, 100]) : Calls Try.prog 34 #[insU q a m d r] w fun e w' => e = .returned (.bool (enS q.op a.2.1)) ∧ Below w.heap.size w w' := by
  obtain ⟨op, dst, args, k, lit, guard, resets⟩ := q
  obtain ⟨A, n, c⟩ := a
  unfold maxLen at hm
  simp only at hm h
  have HE := Lib.hid (enS_28 n)
  subst h
  unfold bs at HE ⊢
  unfold insU
  go_enter Try.func34, Try.ntmps34
  go_wp2
  all_goals
    go_ret
    exact ⟨by rw [HE.out]; first | rfl | (congr 1; simp; done) | (congr 2; simp; omega), (Below.refl _ _).alloc (Nat.le_refl _) _⟩

set_option maxHeartbeats 400000 in
theorem en_29 (q : InsP) (a m d r : Option Addr × Nat × Nat) (w : World) (hm : a.2.1 ≤ maxLen) (h : q.op = bs [111, 114]) : Calls Try.prog 34 #[insU q a m d r] w fun e w' => e = .returned (.bool (enS q.op a.2.1)) ∧ Below w.heap.size w w' := by
  obtain ⟨op, dst, args, k, lit, guard, resets⟩ := q
  obtain ⟨A, n, c⟩ := a
  unfold maxLen at hm
  simp only at hm h
  have HE := Lib.hid (enS_29 n)
  subst h
  unfold bs at HE ⊢
  unfold insU
  go_enter Try.func34, Try.ntmps34
  go_wp2
  all_goals
    go_ret
    exact ⟨by rw [HE.out]; first | rfl | (congr 1; simp; done) | (congr 2; simp; omega), (Below.refl _ _).alloc (Nat.le_refl _) _⟩

set_option maxHeartbeats 400000 in
theorem en_30 (q : InsP) (a m d r : Option Addr × Nat × Nat) (w : World) (hm : a.2.1 ≤ maxLen) (h : q.op = bs [115, 101, 108]) : Calls Try.prog 34 #[insU q a m d r] w fun e w' => e = .returned (.bool (enS q.op a.2.1)) ∧ Below w.heap.size w w' := by
  obtain ⟨op, dst, args, k, lit, guard, resets⟩ := q
  obtain ⟨A, n, c⟩ := a
  unfold maxLen at hm
  simp only at hm h
  have HE := Lib.hid (enS_30 n)
  subst h
  unfold bs at HE ⊢
  unfold insU
  go_enter Try.func34, Try.ntmps34
  go_wp2
  all_goals
    go_ret
    exact ⟨by rw [HE.out]; first | rfl | (congr 1; simp; done) | (congr 2; simp; omega), (Below.refl _ _).alloc (Nat.le_refl _) _⟩

set_option maxHeartbeats 400000 in
theorem en_none (q : InsP) (a m d r : Option Addr × Nat × Nat) (w : World) (hm : a.2.1 ≤ maxLen) (h0 : ¬ q.op = bs [108, 105, 116]) (h1 : ¬ q.op = bs [105, 110]) (h2 : ¬ q.op = bs [109, 101, 109]) (h3 : ¬ q.op = bs [99, 111, 110, 116]) (h4 : ¬ q.op = bs [102, 108, 97, 103]) (h5 : ¬ q.op = bs [99, 111, 112, 121]) (h6 : ¬ q.op = bs [110, 101, 103]) (h7 : ¬ q.op = bs [110, 111, 116]) (h8 : ¬ q.op = bs [102, 108, 111, 111, 114]) (h9 : ¬ q.op = bs [114, 97, 116]) (h10 : ¬ q.op = bs [107, 101, 101, 112]) (h11 : ¬ q.op = bs [115, 116, 97, 116, 101]) (h12 : ¬ q.op = bs [111, 117, 116]) (h13 : ¬ q.op = bs [97, 103, 97, 105, 110]) (h14 : ¬ q.op = bs [103, 97, 110, 100]) (h15 : ¬ q.op = bs [109, 114, 103]) (h16 : ¬ q.op = bs [43]) (h17 : ¬ q.op = bs [45]) (h18 : ¬ q.op = bs [42]) (h19 : ¬ q.op = bs [47]) (h20 : ¬ q.op = bs [100, 105, 118]) (h21 : ¬ q.op = bs [109, 111, 100]) (h22 : ¬ q.op = bs [60]) (h23 : ¬ q.op = bs [60, 61]) (h24 : ¬ q.op = bs [62]) (h25 : ¬ q.op = bs [62, 61]) (h26 : ¬ q.op = bs [61, 61]) (h27 : ¬ q.op = bs [33, 61]) (h28 : ¬ q.op = bs [97, 110, 100]) (h29 : ¬ q.op = bs [111, 114]) (h30 : ¬ q.op = bs [115, 101, 108]) : Calls Try.prog 34 #[insU q a m d r] w fun e w' => e = .returned (.bool (enS q.op a.2.1)) ∧ Below w.heap.size w w' := by
  obtain ⟨op, dst, args, k, lit, guard, resets⟩ := q
  obtain ⟨A, n, c⟩ := a
  unfold maxLen at hm
  simp only at hm h0 h1 h2 h3 h4 h5 h6 h7 h8 h9 h10 h11 h12 h13 h14 h15 h16 h17 h18 h19 h20 h21 h22 h23 h24 h25 h26 h27 h28 h29 h30
  have HE := Lib.hid (enS_no op n h0 h1 h2 h3 h4 h5 h6 h7 h8 h9 h10 h11 h12 h13 h14 h15 h16 h17 h18 h19 h20 h21 h22 h23 h24 h25 h26 h27 h28 h29 h30)
  have g0 := str_no h0; clear h0
  have g1 := str_no h1; clear h1
  have g2 := str_no h2; clear h2
  have g3 := str_no h3; clear h3
  have g4 := str_no h4; clear h4
  have g5 := str_no h5; clear h5
  have g6 := str_no h6; clear h6
  have g7 := str_no h7; clear h7
  have g8 := str_no h8; clear h8
  have g9 := str_no h9; clear h9
  have g10 := str_no h10; clear h10
  have g11 := str_no h11; clear h11
  have g12 := str_no h12; clear h12
  have g13 := str_no h13; clear h13
  have g14 := str_no h14; clear h14
  have g15 := str_no h15; clear h15
  have g16 := str_no h16; clear h16
  have g17 := str_no h17; clear h17
  have g18 := str_no h18; clear h18
  have g19 := str_no h19; clear h19
  have g20 := str_no h20; clear h20
  have g21 := str_no h21; clear h21
  have g22 := str_no h22; clear h22
  have g23 := str_no h23; clear h23
  have g24 := str_no h24; clear h24
  have g25 := str_no h25; clear h25
  have g26 := str_no h26; clear h26
  have g27 := str_no h27; clear h27
  have g28 := str_no h28; clear h28
  have g29 := str_no h29; clear h29
  have g30 := str_no h30; clear h30
  unfold insU
  go_enter Try.func34, Try.ntmps34
  go_wp2
  go_ret
  exact ⟨by rw [HE.out]; rfl, (Below.refl _ _).alloc (Nat.le_refl _) _⟩

theorem hasEnough_t (q : InsP) (a m d r : Option Addr × Nat × Nat) (w : World) (hm : a.2.1 ≤ maxLen) : Calls Try.prog 34 #[insU q a m d r] w fun e w' => e = .returned (.bool (enS q.op a.2.1)) ∧ Below w.heap.size w w' := by
  by_cases h0 : q.op = bs [108, 105, 116]
  · exact en_0 q a m d r w hm h0
  by_cases h1 : q.op = bs [105, 110]
  · exact en_1 q a m d r w hm h1
  by_cases h2 : q.op = bs [109, 101, 109]
  · exact en_2 q a m d r w hm h2
  by_cases h3 : q.op = bs [99, 111, 110, 116]
  · exact en_3 q a m d r w hm h3
  by_cases h4 : q.op = bs [102, 108, 97, 103]
  · exact en_4 q a m d r w hm h4
  by_cases h5 : q.op = bs [99, 111, 112, 121]
  · exact en_5 q a m d r w hm h5
  by_cases h6 : q.op = bs [110, 101, 103]
  · exact en_6 q a m d r w hm h6
  by_cases h7 : q.op = bs [110, 111, 116]
  · exact en_7 q a m d r w hm h7
  by_cases h8 : q.op = bs [102, 108, 111, 111, 114]
  · exact en_8 q a m d r w hm h8
  by_cases h9 : q.op = bs [114, 97, 116]
  · exact en_9 q a m d r w hm h9
  by_cases h10 : q.op = bs [107, 101, 101, 112]
  · exact en_10 q a m d r w hm h10
  by_cases h11 : q.op = bs [115, 116, 97, 116, 101]
  · exact en_11 q a m d r w hm h11
  by_cases h12 : q.op = bs [111, 117, 116]
  · exact en_12 q a m d r w hm h12
  by_cases h13 : q.op = bs [97, 103, 97, 105, 110]
  · exact en_13 q a m d r w hm h13
  by_cases h14 : q.op = bs [103, 97, 110, 100]
  · exact en_14 q a m d r w hm h14
  by_cases h15 : q.op = bs [109, 114, 103]
  · exact en_15 q a m d r w hm h15
  by_cases h16 : q.op = bs [43]
  · exact en_16 q a m d r w hm h16
  by_cases h17 : q.op = bs [45]
  · exact en_17 q a m d r w hm h17
  by_cases h18 : q.op = bs [42]
  · exact en_18 q a m d r w hm h18
  by_cases h19 : q.op = bs [47]
  · exact en_19 q a m d r w hm h19
  by_cases h20 : q.op = bs [100, 105, 118]
  · exact en_20 q a m d r w hm h20
  by_cases h21 : q.op = bs [109, 111, 100]
  · exact en_21 q a m d r w hm h21
  by_cases h22 : q.op = bs [60]
  · exact en_22 q a m d r w hm h22
  by_cases h23 : q.op = bs [60, 61]
  · exact en_23 q a m d r w hm h23
  by_cases h24 : q.op = bs [62]
  · exact en_24 q a m d r w hm h24
  by_cases h25 : q.op = bs [62, 61]
  · exact en_25 q a m d r w hm h25
  by_cases h26 : q.op = bs [61, 61]
  · exact en_26 q a m d r w hm h26
  by_cases h27 : q.op = bs [33, 61]
  · exact en_27 q a m d r w hm h27
  by_cases h28 : q.op = bs [97, 110, 100]
  · exact en_28 q a m d r w hm h28
  by_cases h29 : q.op = bs [111, 114]
  · exact en_29 q a m d r w hm h29
  by_cases h30 : q.op = bs [115, 101, 108]
  · exact en_30 q a m d r w hm h30
  exact en_none q a m d r w hm h0 h1 h2 h3 h4 h5 h6 h7 h8 h9 h10 h11 h12 h13 h14 h15 h16 h17 h18 h19 h20 h21 h22 h23 h24 h25 h26 h27 h28 h29 h30

end Go.Proofs.Ytpcpbpinhdbjiaa

namespace Go.Proofs.Ytpcpbpinhdbjiaa
set_option linter.unusedVariables false
set_option linter.unusedSimpArgs false
set_option maxRecDepth 100000
open Go.RowKit

theorem plK_0 (k ni no nm nc nx : Int) : plK (bs [105, 110]) k ni no nm nc nx = inB k ni := rfl
set_option maxHeartbeats 1000000 in
theorem hp_0 (c : CodeM) (v : CodeV) (B g S N gs gl : Nat) (W L : List Int) (q : InsP) (a m d r : Option Addr × Nat × Nat) (w : World) (hr : Rd w B g c v S N gs gl W L) (h : q.op = bs [105, 110]) : Calls Try.prog 35 #[.pointer (some ⟨g, 0, none⟩), insU q a m d r] w fun e w' => e = .returned (.bool (plK q.op q.k c.ins c.outs v.mems.2.1 v.conts.2.1 c.crosses)) ∧ Below w.heap.size w w' := by
  have HR := Lib.hid hr
  obtain ⟨op, dst, args, k, lit, guard, resets⟩ := q
  simp only at h
  have HE := Lib.hid (plK_0 k c.ins c.outs v.mems.2.1 v.conts.2.1 c.crosses)
  have hmm : v.mems.2.1 ≤ maxLen := hr.is.mems.len_le
  have hmc : v.conts.2.1 ≤ maxLen := hr.is.conts.len_le
  unfold maxLen at hmm hmc
  obtain ⟨n0, n1, n2, n3, n4, n5, n6, n7, n8, n9, n10, n11⟩ := HR.out.cells
  have hgl : g < w.heap.size := HR.out.blk.lt
  clear n2 n4 n7 n8 n9 n10 n11
  clear hr
  subst h
  unfold bs at HE ⊢
  unfold insU
  go_enter Try.func35, Try.ntmps35
  go_wp2_with fail
  go_quiet ((go_at_call 43; exact Calls.quiet_of_same (isPlace_t k c.ins _ _ rfl)))
  go_wp2
  go_ret
  exact ⟨by rw [HE.out]; rfl, by first | exact (Below.refl _ _).alloc (Nat.le_refl _) _ | exact below_drewN ((Below.refl _ _).alloc (Nat.le_refl _) _)⟩
theorem plK_1 (k ni no nm nc nx : Int) : plK (bs [111, 117, 116]) k ni no nm nc nx = inB k no := rfl
set_option maxHeartbeats 1000000 in
theorem hp_1 (c : CodeM) (v : CodeV) (B g S N gs gl : Nat) (W L : List Int) (q : InsP) (a m d r : Option Addr × Nat × Nat) (w : World) (hr : Rd w B g c v S N gs gl W L) (h : q.op = bs [111, 117, 116]) : Calls Try.prog 35 #[.pointer (some ⟨g, 0, none⟩), insU q a m d r] w fun e w' => e = .returned (.bool (plK q.op q.k c.ins c.outs v.mems.2.1 v.conts.2.1 c.crosses)) ∧ Below w.heap.size w w' := by
  have HR := Lib.hid hr
  obtain ⟨op, dst, args, k, lit, guard, resets⟩ := q
  simp only at h
  have HE := Lib.hid (plK_1 k c.ins c.outs v.mems.2.1 v.conts.2.1 c.crosses)
  have hmm : v.mems.2.1 ≤ maxLen := hr.is.mems.len_le
  have hmc : v.conts.2.1 ≤ maxLen := hr.is.conts.len_le
  unfold maxLen at hmm hmc
  obtain ⟨n0, n1, n2, n3, n4, n5, n6, n7, n8, n9, n10, n11⟩ := HR.out.cells
  have hgl : g < w.heap.size := HR.out.blk.lt
  clear n2 n4 n7 n8 n9 n10 n11
  clear hr
  subst h
  unfold bs at HE ⊢
  unfold insU
  go_enter Try.func35, Try.ntmps35
  go_wp2_with fail
  go_quiet ((go_at_call 43; exact Calls.quiet_of_same (isPlace_t k c.outs _ _ rfl)))
  go_wp2
  go_ret
  exact ⟨by rw [HE.out]; rfl, by first | exact (Below.refl _ _).alloc (Nat.le_refl _) _ | exact below_drewN ((Below.refl _ _).alloc (Nat.le_refl _) _)⟩
theorem plK_2 (k ni no nm nc nx : Int) : plK (bs [109, 101, 109]) k ni no nm nc nx = inB k nm := rfl
set_option maxHeartbeats 1000000 in
theorem hp_2 (c : CodeM) (v : CodeV) (B g S N gs gl : Nat) (W L : List Int) (q : InsP) (a m d r : Option Addr × Nat × Nat) (w : World) (hr : Rd w B g c v S N gs gl W L) (h : q.op = bs [109, 101, 109]) : Calls Try.prog 35 #[.pointer (some ⟨g, 0, none⟩), insU q a m d r] w fun e w' => e = .returned (.bool (plK q.op q.k c.ins c.outs v.mems.2.1 v.conts.2.1 c.crosses)) ∧ Below w.heap.size w w' := by
  have HR := Lib.hid hr
  obtain ⟨op, dst, args, k, lit, guard, resets⟩ := q
  simp only at h
  have HE := Lib.hid (plK_2 k c.ins c.outs v.mems.2.1 v.conts.2.1 c.crosses)
  have hmm : v.mems.2.1 ≤ maxLen := hr.is.mems.len_le
  have hmc : v.conts.2.1 ≤ maxLen := hr.is.conts.len_le
  unfold maxLen at hmm hmc
  obtain ⟨n0, n1, n2, n3, n4, n5, n6, n7, n8, n9, n10, n11⟩ := HR.out.cells
  have hgl : g < w.heap.size := HR.out.blk.lt
  clear n2 n4 n7 n8 n9 n10 n11
  clear hr
  subst h
  unfold bs at HE ⊢
  unfold insU
  go_enter Try.func35, Try.ntmps35
  go_wp2_with fail
  go_quiet ((go_at_call 43; exact Calls.quiet_of_same (isPlace_t k (v.mems.2.1 : Int) _ _ rfl)))
  go_wp2
  go_ret
  exact ⟨by rw [HE.out]; rfl, by first | exact (Below.refl _ _).alloc (Nat.le_refl _) _ | exact below_drewN ((Below.refl _ _).alloc (Nat.le_refl _) _)⟩
theorem plK_3 (k ni no nm nc nx : Int) : plK (bs [107, 101, 101, 112]) k ni no nm nc nx = inB k nm := rfl
set_option maxHeartbeats 1000000 in
theorem hp_3 (c : CodeM) (v : CodeV) (B g S N gs gl : Nat) (W L : List Int) (q : InsP) (a m d r : Option Addr × Nat × Nat) (w : World) (hr : Rd w B g c v S N gs gl W L) (h : q.op = bs [107, 101, 101, 112]) : Calls Try.prog 35 #[.pointer (some ⟨g, 0, none⟩), insU q a m d r] w fun e w' => e = .returned (.bool (plK q.op q.k c.ins c.outs v.mems.2.1 v.conts.2.1 c.crosses)) ∧ Below w.heap.size w w' := by
  have HR := Lib.hid hr
  obtain ⟨op, dst, args, k, lit, guard, resets⟩ := q
  simp only at h
  have HE := Lib.hid (plK_3 k c.ins c.outs v.mems.2.1 v.conts.2.1 c.crosses)
  have hmm : v.mems.2.1 ≤ maxLen := hr.is.mems.len_le
  have hmc : v.conts.2.1 ≤ maxLen := hr.is.conts.len_le
  unfold maxLen at hmm hmc
  obtain ⟨n0, n1, n2, n3, n4, n5, n6, n7, n8, n9, n10, n11⟩ := HR.out.cells
  have hgl : g < w.heap.size := HR.out.blk.lt
  clear n2 n4 n7 n8 n9 n10 n11
  clear hr
  subst h
  unfold bs at HE ⊢
  unfold insU
  go_enter Try.func35, Try.ntmps35
  go_wp2_with fail
  go_quiet ((go_at_call 43; exact Calls.quiet_of_same (isPlace_t k (v.mems.2.1 : Int) _ _ rfl)))
  go_wp2
  go_ret
  exact ⟨by rw [HE.out]; rfl, by first | exact (Below.refl _ _).alloc (Nat.le_refl _) _ | exact below_drewN ((Below.refl _ _).alloc (Nat.le_refl _) _)⟩
theorem plK_4 (k ni no nm nc nx : Int) : plK (bs [99, 111, 110, 116]) k ni no nm nc nx = inB k nc := rfl
set_option maxHeartbeats 1000000 in
theorem hp_4 (c : CodeM) (v : CodeV) (B g S N gs gl : Nat) (W L : List Int) (q : InsP) (a m d r : Option Addr × Nat × Nat) (w : World) (hr : Rd w B g c v S N gs gl W L) (h : q.op = bs [99, 111, 110, 116]) : Calls Try.prog 35 #[.pointer (some ⟨g, 0, none⟩), insU q a m d r] w fun e w' => e = .returned (.bool (plK q.op q.k c.ins c.outs v.mems.2.1 v.conts.2.1 c.crosses)) ∧ Below w.heap.size w w' := by
  have HR := Lib.hid hr
  obtain ⟨op, dst, args, k, lit, guard, resets⟩ := q
  simp only at h
  have HE := Lib.hid (plK_4 k c.ins c.outs v.mems.2.1 v.conts.2.1 c.crosses)
  have hmm : v.mems.2.1 ≤ maxLen := hr.is.mems.len_le
  have hmc : v.conts.2.1 ≤ maxLen := hr.is.conts.len_le
  unfold maxLen at hmm hmc
  obtain ⟨n0, n1, n2, n3, n4, n5, n6, n7, n8, n9, n10, n11⟩ := HR.out.cells
  have hgl : g < w.heap.size := HR.out.blk.lt
  clear n2 n4 n7 n8 n9 n10 n11
  clear hr
  subst h
  unfold bs at HE ⊢
  unfold insU
  go_enter Try.func35, Try.ntmps35
  go_wp2_with fail
  go_quiet ((go_at_call 43; exact Calls.quiet_of_same (isPlace_t k (v.conts.2.1 : Int) _ _ rfl)))
  go_wp2
  go_ret
  exact ⟨by rw [HE.out]; rfl, by first | exact (Below.refl _ _).alloc (Nat.le_refl _) _ | exact below_drewN ((Below.refl _ _).alloc (Nat.le_refl _) _)⟩
theorem plK_5 (k ni no nm nc nx : Int) : plK (bs [115, 116, 97, 116, 101]) k ni no nm nc nx = inB k nc := rfl
set_option maxHeartbeats 1000000 in
theorem hp_5 (c : CodeM) (v : CodeV) (B g S N gs gl : Nat) (W L : List Int) (q : InsP) (a m d r : Option Addr × Nat × Nat) (w : World) (hr : Rd w B g c v S N gs gl W L) (h : q.op = bs [115, 116, 97, 116, 101]) : Calls Try.prog 35 #[.pointer (some ⟨g, 0, none⟩), insU q a m d r] w fun e w' => e = .returned (.bool (plK q.op q.k c.ins c.outs v.mems.2.1 v.conts.2.1 c.crosses)) ∧ Below w.heap.size w w' := by
  have HR := Lib.hid hr
  obtain ⟨op, dst, args, k, lit, guard, resets⟩ := q
  simp only at h
  have HE := Lib.hid (plK_5 k c.ins c.outs v.mems.2.1 v.conts.2.1 c.crosses)
  have hmm : v.mems.2.1 ≤ maxLen := hr.is.mems.len_le
  have hmc : v.conts.2.1 ≤ maxLen := hr.is.conts.len_le
  unfold maxLen at hmm hmc
  obtain ⟨n0, n1, n2, n3, n4, n5, n6, n7, n8, n9, n10, n11⟩ := HR.out.cells
  have hgl : g < w.heap.size := HR.out.blk.lt
  clear n2 n4 n7 n8 n9 n10 n11
  clear hr
  subst h
  unfold bs at HE ⊢
  unfold insU
  go_enter Try.func35, Try.ntmps35
  go_wp2_with fail
  go_quiet ((go_at_call 43; exact Calls.quiet_of_same (isPlace_t k (v.conts.2.1 : Int) _ _ rfl)))
  go_wp2
  go_ret
  exact ⟨by rw [HE.out]; rfl, by first | exact (Below.refl _ _).alloc (Nat.le_refl _) _ | exact below_drewN ((Below.refl _ _).alloc (Nat.le_refl _) _)⟩
theorem plK_6 (k ni no nm nc nx : Int) : plK (bs [115, 108, 111, 112, 101]) k ni no nm nc nx = inB k nc := rfl
set_option maxHeartbeats 1000000 in
theorem hp_6 (c : CodeM) (v : CodeV) (B g S N gs gl : Nat) (W L : List Int) (q : InsP) (a m d r : Option Addr × Nat × Nat) (w : World) (hr : Rd w B g c v S N gs gl W L) (h : q.op = bs [115, 108, 111, 112, 101]) : Calls Try.prog 35 #[.pointer (some ⟨g, 0, none⟩), insU q a m d r] w fun e w' => e = .returned (.bool (plK q.op q.k c.ins c.outs v.mems.2.1 v.conts.2.1 c.crosses)) ∧ Below w.heap.size w w' := by
  have HR := Lib.hid hr
  obtain ⟨op, dst, args, k, lit, guard, resets⟩ := q
  simp only at h
  have HE := Lib.hid (plK_6 k c.ins c.outs v.mems.2.1 v.conts.2.1 c.crosses)
  have hmm : v.mems.2.1 ≤ maxLen := hr.is.mems.len_le
  have hmc : v.conts.2.1 ≤ maxLen := hr.is.conts.len_le
  unfold maxLen at hmm hmc
  obtain ⟨n0, n1, n2, n3, n4, n5, n6, n7, n8, n9, n10, n11⟩ := HR.out.cells
  have hgl : g < w.heap.size := HR.out.blk.lt
  clear n2 n4 n7 n8 n9 n10 n11
  clear hr
  subst h
  unfold bs at HE ⊢
  unfold insU
  go_enter Try.func35, Try.ntmps35
  go_wp2_with fail
  go_quiet ((go_at_call 43; exact Calls.quiet_of_same (isPlace_t k (v.conts.2.1 : Int) _ _ rfl)))
  go_wp2
  go_ret
  exact ⟨by rw [HE.out]; rfl, by first | exact (Below.refl _ _).alloc (Nat.le_refl _) _ | exact below_drewN ((Below.refl _ _).alloc (Nat.le_refl _) _)⟩
theorem plK_7 (k ni no nm nc nx : Int) : plK (bs [108, 99, 111, 110, 116]) k ni no nm nc nx = inB k nc := rfl
set_option maxHeartbeats 1000000 in
theorem hp_7 (c : CodeM) (v : CodeV) (B g S N gs gl : Nat) (W L : List Int) (q : InsP) (a m d r : Option Addr × Nat × Nat) (w : World) (hr : Rd w B g c v S N gs gl W L) (h : q.op = bs [108, 99, 111, 110, 116]) : Calls Try.prog 35 #[.pointer (some ⟨g, 0, none⟩), insU q a m d r] w fun e w' => e = .returned (.bool (plK q.op q.k c.ins c.outs v.mems.2.1 v.conts.2.1 c.crosses)) ∧ Below w.heap.size w w' := by
  have HR := Lib.hid hr
  obtain ⟨op, dst, args, k, lit, guard, resets⟩ := q
  simp only at h
  have HE := Lib.hid (plK_7 k c.ins c.outs v.mems.2.1 v.conts.2.1 c.crosses)
  have hmm : v.mems.2.1 ≤ maxLen := hr.is.mems.len_le
  have hmc : v.conts.2.1 ≤ maxLen := hr.is.conts.len_le
  unfold maxLen at hmm hmc
  obtain ⟨n0, n1, n2, n3, n4, n5, n6, n7, n8, n9, n10, n11⟩ := HR.out.cells
  have hgl : g < w.heap.size := HR.out.blk.lt
  clear n2 n4 n7 n8 n9 n10 n11
  clear hr
  subst h
  unfold bs at HE ⊢
  unfold insU
  go_enter Try.func35, Try.ntmps35
  go_wp2_with fail
  go_quiet ((go_at_call 43; exact Calls.quiet_of_same (isPlace_t k (v.conts.2.1 : Int) _ _ rfl)))
  go_wp2
  go_ret
  exact ⟨by rw [HE.out]; rfl, by first | exact (Below.refl _ _).alloc (Nat.le_refl _) _ | exact below_drewN ((Below.refl _ _).alloc (Nat.le_refl _) _)⟩
theorem plK_8 (k ni no nm nc nx : Int) : plK (bs [102, 108, 97, 103]) k ni no nm nc nx = inB k nx := rfl
set_option maxHeartbeats 1000000 in
theorem hp_8 (c : CodeM) (v : CodeV) (B g S N gs gl : Nat) (W L : List Int) (q : InsP) (a m d r : Option Addr × Nat × Nat) (w : World) (hr : Rd w B g c v S N gs gl W L) (h : q.op = bs [102, 108, 97, 103]) : Calls Try.prog 35 #[.pointer (some ⟨g, 0, none⟩), insU q a m d r] w fun e w' => e = .returned (.bool (plK q.op q.k c.ins c.outs v.mems.2.1 v.conts.2.1 c.crosses)) ∧ Below w.heap.size w w' := by
  have HR := Lib.hid hr
  obtain ⟨op, dst, args, k, lit, guard, resets⟩ := q
  simp only at h
  have HE := Lib.hid (plK_8 k c.ins c.outs v.mems.2.1 v.conts.2.1 c.crosses)
  have hmm : v.mems.2.1 ≤ maxLen := hr.is.mems.len_le
  have hmc : v.conts.2.1 ≤ maxLen := hr.is.conts.len_le
  unfold maxLen at hmm hmc
  obtain ⟨n0, n1, n2, n3, n4, n5, n6, n7, n8, n9, n10, n11⟩ := HR.out.cells
  have hgl : g < w.heap.size := HR.out.blk.lt
  clear n2 n4 n7 n8 n9 n10 n11
  clear hr
  subst h
  unfold bs at HE ⊢
  unfold insU
  go_enter Try.func35, Try.ntmps35
  go_wp2_with fail
  go_quiet ((go_at_call 43; exact Calls.quiet_of_same (isPlace_t k c.crosses _ _ rfl)))
  go_wp2
  go_ret
  exact ⟨by rw [HE.out]; rfl, by first | exact (Below.refl _ _).alloc (Nat.le_refl _) _ | exact below_drewN ((Below.refl _ _).alloc (Nat.le_refl _) _)⟩
theorem plK_9 (k ni no nm nc nx : Int) : plK (bs [97, 115, 107]) k ni no nm nc nx = inB k nx := rfl
set_option maxHeartbeats 1000000 in
theorem hp_9 (c : CodeM) (v : CodeV) (B g S N gs gl : Nat) (W L : List Int) (q : InsP) (a m d r : Option Addr × Nat × Nat) (w : World) (hr : Rd w B g c v S N gs gl W L) (h : q.op = bs [97, 115, 107]) : Calls Try.prog 35 #[.pointer (some ⟨g, 0, none⟩), insU q a m d r] w fun e w' => e = .returned (.bool (plK q.op q.k c.ins c.outs v.mems.2.1 v.conts.2.1 c.crosses)) ∧ Below w.heap.size w w' := by
  have HR := Lib.hid hr
  obtain ⟨op, dst, args, k, lit, guard, resets⟩ := q
  simp only at h
  have HE := Lib.hid (plK_9 k c.ins c.outs v.mems.2.1 v.conts.2.1 c.crosses)
  have hmm : v.mems.2.1 ≤ maxLen := hr.is.mems.len_le
  have hmc : v.conts.2.1 ≤ maxLen := hr.is.conts.len_le
  unfold maxLen at hmm hmc
  obtain ⟨n0, n1, n2, n3, n4, n5, n6, n7, n8, n9, n10, n11⟩ := HR.out.cells
  have hgl : g < w.heap.size := HR.out.blk.lt
  clear n2 n4 n7 n8 n9 n10 n11
  clear hr
  subst h
  unfold bs at HE ⊢
  unfold insU
  go_enter Try.func35, Try.ntmps35
  go_wp2_with fail
  go_quiet ((go_at_call 43; exact Calls.quiet_of_same (isPlace_t k c.crosses _ _ rfl)))
  go_wp2
  go_ret
  exact ⟨by rw [HE.out]; rfl, by first | exact (Below.refl _ _).alloc (Nat.le_refl _) _ | exact below_drewN ((Below.refl _ _).alloc (Nat.le_refl _) _)⟩
theorem plK_10 (k ni no nm nc nx : Int) : plK (bs [108, 42]) k ni no nm nc nx = inB k 2 := rfl
set_option maxHeartbeats 1000000 in
theorem hp_10 (c : CodeM) (v : CodeV) (B g S N gs gl : Nat) (W L : List Int) (q : InsP) (a m d r : Option Addr × Nat × Nat) (w : World) (hr : Rd w B g c v S N gs gl W L) (h : q.op = bs [108, 42]) : Calls Try.prog 35 #[.pointer (some ⟨g, 0, none⟩), insU q a m d r] w fun e w' => e = .returned (.bool (plK q.op q.k c.ins c.outs v.mems.2.1 v.conts.2.1 c.crosses)) ∧ Below w.heap.size w w' := by
  have HR := Lib.hid hr
  obtain ⟨op, dst, args, k, lit, guard, resets⟩ := q
  simp only at h
  have HE := Lib.hid (plK_10 k c.ins c.outs v.mems.2.1 v.conts.2.1 c.crosses)
  have hmm : v.mems.2.1 ≤ maxLen := hr.is.mems.len_le
  have hmc : v.conts.2.1 ≤ maxLen := hr.is.conts.len_le
  unfold maxLen at hmm hmc
  obtain ⟨n0, n1, n2, n3, n4, n5, n6, n7, n8, n9, n10, n11⟩ := HR.out.cells
  have hgl : g < w.heap.size := HR.out.blk.lt
  clear n2 n4 n7 n8 n9 n10 n11
  clear hr
  subst h
  unfold bs at HE ⊢
  unfold insU
  go_enter Try.func35, Try.ntmps35
  go_wp2_with (go_at_call 43; (with_reducible refine (isPlace_t k 2 _ _ rfl).mono ?_); rintro e w1 ⟨rfl, rfl⟩)
  go_ret
  exact ⟨by rw [HE.out]; rfl, (Below.refl _ _).alloc (Nat.le_refl _) _⟩
theorem plK_no (op : ByteArray) (k ni no nm nc nx : Int) (h0 : ¬ op = bs [105, 110]) (h1 : ¬ op = bs [111, 117, 116]) (h2 : ¬ op = bs [109, 101, 109]) (h3 : ¬ op = bs [107, 101, 101, 112]) (h4 : ¬ op = bs [99, 111, 110, 116]) (h5 : ¬ op = bs [115, 116, 97, 116, 101]) (h6 : ¬ op = bs [115, 108, 111, 112, 101]) (h7 : ¬ op = bs [108, 99, 111, 110, 116]) (h8 : ¬ op = bs [102, 108, 97, 103]) (h9 : ¬ op = bs [97, 115, 107]) (h10 : ¬ op = bs [108, 42]) : plK op k ni no nm nc nx = true := by
  unfold plK opIn opOut hasOp opsMem opsCont opsFlag opLmul
  rw [if_neg h0, if_neg h1, if_neg (by simp [h2, h3]), if_neg (by simp [h4, h5, h6, h7]), if_neg (by simp [h8, h9]), if_neg h10]
set_option maxHeartbeats 1000000 in
theorem hp_none (c : CodeM) (v : CodeV) (B g S N gs gl : Nat) (W L : List Int) (q : InsP) (a m d r : Option Addr × Nat × Nat) (w : World) (hr : Rd w B g c v S N gs gl W L) (h0 : ¬ q.op = bs [105, 110]) (h1 : ¬ q.op = bs [111, 117, 116]) (h2 : ¬ q.op = bs [109, 101, 109]) (h3 : ¬ q.op = bs [107, 101, 101, 112]) (h4 : ¬ q.op = bs [99, 111, 110, 116]) (h5 : ¬ q.op = bs [115, 116, 97, 116, 101]) (h6 : ¬ q.op = bs [115, 108, 111, 112, 101]) (h7 : ¬ q.op = bs [108, 99, 111, 110, 116]) (h8 : ¬ q.op = bs [102, 108, 97, 103]) (h9 : ¬ q.op = bs [97, 115, 107]) (h10 : ¬ q.op = bs [108, 42]) : Calls Try.prog 35 #[.pointer (some ⟨g, 0, none⟩), insU q a m d r] w fun e w' => e = .returned (.bool (plK q.op q.k c.ins c.outs v.mems.2.1 v.conts.2.1 c.crosses)) ∧ Below w.heap.size w w' := by
  obtain ⟨op, dst, args, k, lit, guard, resets⟩ := q
  simp only at h0 h1 h2 h3 h4 h5 h6 h7 h8 h9 h10
  have HE := Lib.hid (plK_no op k c.ins c.outs v.mems.2.1 v.conts.2.1 c.crosses h0 h1 h2 h3 h4 h5 h6 h7 h8 h9 h10)
  clear hr
  have g0 := str_no h0; clear h0
  have g1 := str_no h1; clear h1
  have g2 := str_no h2; clear h2
  have g3 := str_no h3; clear h3
  have g4 := str_no h4; clear h4
  have g5 := str_no h5; clear h5
  have g6 := str_no h6; clear h6
  have g7 := str_no h7; clear h7
  have g8 := str_no h8; clear h8
  have g9 := str_no h9; clear h9
  have g10 := str_no h10; clear h10
  unfold insU
  go_enter Try.func35, Try.ntmps35
  go_wp2
  go_ret
  exact ⟨by rw [HE.out]; rfl, (Below.refl _ _).alloc (Nat.le_refl _) _⟩
theorem hasPlace_t (c : CodeM) (v : CodeV) (B g S N gs gl : Nat) (W L : List Int) (q : InsP) (a m d r : Option Addr × Nat × Nat) (w : World) (hr : Rd w B g c v S N gs gl W L) : Calls Try.prog 35 #[.pointer (some ⟨g, 0, none⟩), insU q a m d r] w fun e w' => e = .returned (.bool (plK q.op q.k c.ins c.outs v.mems.2.1 v.conts.2.1 c.crosses)) ∧ Below w.heap.size w w' := by
  by_cases h0 : q.op = bs [105, 110]
  · exact hp_0 c v B g S N gs gl W L q a m d r w hr h0
  by_cases h1 : q.op = bs [111, 117, 116]
  · exact hp_1 c v B g S N gs gl W L q a m d r w hr h1
  by_cases h2 : q.op = bs [109, 101, 109]
  · exact hp_2 c v B g S N gs gl W L q a m d r w hr h2
  by_cases h3 : q.op = bs [107, 101, 101, 112]
  · exact hp_3 c v B g S N gs gl W L q a m d r w hr h3
  by_cases h4 : q.op = bs [99, 111, 110, 116]
  · exact hp_4 c v B g S N gs gl W L q a m d r w hr h4
  by_cases h5 : q.op = bs [115, 116, 97, 116, 101]
  · exact hp_5 c v B g S N gs gl W L q a m d r w hr h5
  by_cases h6 : q.op = bs [115, 108, 111, 112, 101]
  · exact hp_6 c v B g S N gs gl W L q a m d r w hr h6
  by_cases h7 : q.op = bs [108, 99, 111, 110, 116]
  · exact hp_7 c v B g S N gs gl W L q a m d r w hr h7
  by_cases h8 : q.op = bs [102, 108, 97, 103]
  · exact hp_8 c v B g S N gs gl W L q a m d r w hr h8
  by_cases h9 : q.op = bs [97, 115, 107]
  · exact hp_9 c v B g S N gs gl W L q a m d r w hr h9
  by_cases h10 : q.op = bs [108, 42]
  · exact hp_10 c v B g S N gs gl W L q a m d r w hr h10
  exact hp_none c v B g S N gs gl W L q a m d r w hr h0 h1 h2 h3 h4 h5 h6 h7 h8 h9 h10
/-- what operands tells -/
def opnV : Option (Nat × Nat) → Value
  | none => .tuple #[.int .i64 0, .int .i64 0, .bool false]
  | some (s, l) => .tuple #[.int .i64 (s : Nat), .int .i64 (l : Nat), .bool true]
theorem opd_0 (op : ByteArray) (w : World) (h : op = bs [108, 99, 111, 110, 116]) : Calls Try.prog 42 #[.string op] w fun e w' => e = .returned (opnV (nLn op)) ∧ w' = w := by
  have HE : Hid (nLn (bs [108, 99, 111, 110, 116]) = some (0, 0)) := Lib.hid rfl
  subst h
  unfold bs at HE ⊢
  go_enter Try.func42, Try.ntmps42
  go_wp2
  go_ret3
  exact ⟨by rw [HE.out]; rfl, rfl⟩
theorem opd_1 (op : ByteArray) (w : World) (h : op = bs [108, 118, 97, 114]) : Calls Try.prog 42 #[.string op] w fun e w' => e = .returned (opnV (nLn op)) ∧ w' = w := by
  have HE : Hid (nLn (bs [108, 118, 97, 114]) = some (1, 0)) := Lib.hid rfl
  subst h
  unfold bs at HE ⊢
  go_enter Try.func42, Try.ntmps42
  go_wp2
  go_ret3
  exact ⟨by rw [HE.out]; rfl, rfl⟩
theorem opd_2 (op : ByteArray) (w : World) (h : op = bs [108, 110, 101, 103]) : Calls Try.prog 42 #[.string op] w fun e w' => e = .returned (opnV (nLn op)) ∧ w' = w := by
  have HE : Hid (nLn (bs [108, 110, 101, 103]) = some (0, 1)) := Lib.hid rfl
  subst h
  unfold bs at HE ⊢
  go_enter Try.func42, Try.ntmps42
  go_wp2
  go_ret3
  exact ⟨by rw [HE.out]; rfl, rfl⟩
theorem opd_3 (op : ByteArray) (w : World) (h : op = bs [97, 115, 107]) : Calls Try.prog 42 #[.string op] w fun e w' => e = .returned (opnV (nLn op)) ∧ w' = w := by
  have HE : Hid (nLn (bs [97, 115, 107]) = some (0, 1)) := Lib.hid rfl
  subst h
  unfold bs at HE ⊢
  go_enter Try.func42, Try.ntmps42
  go_wp2
  go_ret3
  exact ⟨by rw [HE.out]; rfl, rfl⟩
theorem opd_4 (op : ByteArray) (w : World) (h : op = bs [108, 43]) : Calls Try.prog 42 #[.string op] w fun e w' => e = .returned (opnV (nLn op)) ∧ w' = w := by
  have HE : Hid (nLn (bs [108, 43]) = some (0, 2)) := Lib.hid rfl
  subst h
  unfold bs at HE ⊢
  go_enter Try.func42, Try.ntmps42
  go_wp2
  go_ret3
  exact ⟨by rw [HE.out]; rfl, rfl⟩
theorem opd_5 (op : ByteArray) (w : World) (h : op = bs [108, 45]) : Calls Try.prog 42 #[.string op] w fun e w' => e = .returned (opnV (nLn op)) ∧ w' = w := by
  have HE : Hid (nLn (bs [108, 45]) = some (0, 2)) := Lib.hid rfl
  subst h
  unfold bs at HE ⊢
  go_enter Try.func42, Try.ntmps42
  go_wp2
  go_ret3
  exact ⟨by rw [HE.out]; rfl, rfl⟩
theorem opd_6 (op : ByteArray) (w : World) (h : op = bs [108, 42]) : Calls Try.prog 42 #[.string op] w fun e w' => e = .returned (opnV (nLn op)) ∧ w' = w := by
  have HE : Hid (nLn (bs [108, 42]) = some (0, 2)) := Lib.hid rfl
  subst h
  unfold bs at HE ⊢
  go_enter Try.func42, Try.ntmps42
  go_wp2
  go_ret3
  exact ⟨by rw [HE.out]; rfl, rfl⟩
theorem opd_7 (op : ByteArray) (w : World) (h : op = bs [108, 47]) : Calls Try.prog 42 #[.string op] w fun e w' => e = .returned (opnV (nLn op)) ∧ w' = w := by
  have HE : Hid (nLn (bs [108, 47]) = some (0, 2)) := Lib.hid rfl
  subst h
  unfold bs at HE ⊢
  go_enter Try.func42, Try.ntmps42
  go_wp2
  go_ret3
  exact ⟨by rw [HE.out]; rfl, rfl⟩
theorem opd_8 (op : ByteArray) (w : World) (h : op = bs [108, 115, 101, 108]) : Calls Try.prog 42 #[.string op] w fun e w' => e = .returned (opnV (nLn op)) ∧ w' = w := by
  have HE : Hid (nLn (bs [108, 115, 101, 108]) = some (1, 2)) := Lib.hid rfl
  subst h
  unfold bs at HE ⊢
  go_enter Try.func42, Try.ntmps42
  go_wp2
  go_ret3
  exact ⟨by rw [HE.out]; rfl, rfl⟩
theorem nLn_no (op : ByteArray) (h0 : ¬ op = bs [108, 99, 111, 110, 116]) (h1 : ¬ op = bs [108, 118, 97, 114]) (h2 : ¬ op = bs [108, 110, 101, 103]) (h3 : ¬ op = bs [97, 115, 107]) (h4 : ¬ op = bs [108, 43]) (h5 : ¬ op = bs [108, 45]) (h6 : ¬ op = bs [108, 42]) (h7 : ¬ op = bs [108, 47]) (h8 : ¬ op = bs [108, 115, 101, 108]) : nLn op = none := by
  unfold nLn hasOp opsL0 opsL1 opsL01 opsL02 opsL12
  rw [if_neg (by simp [h0]), if_neg (by simp [h1]), if_neg (by simp [h2, h3]), if_neg (by simp [h4, h5, h6, h7]), if_neg (by simp [h8])]
theorem opd_none (op : ByteArray) (w : World) (h0 : ¬ op = bs [108, 99, 111, 110, 116]) (h1 : ¬ op = bs [108, 118, 97, 114]) (h2 : ¬ op = bs [108, 110, 101, 103]) (h3 : ¬ op = bs [97, 115, 107]) (h4 : ¬ op = bs [108, 43]) (h5 : ¬ op = bs [108, 45]) (h6 : ¬ op = bs [108, 42]) (h7 : ¬ op = bs [108, 47]) (h8 : ¬ op = bs [108, 115, 101, 108]) : Calls Try.prog 42 #[.string op] w fun e w' => e = .returned (opnV (nLn op)) ∧ w' = w := by
  have HE := Lib.hid (nLn_no op h0 h1 h2 h3 h4 h5 h6 h7 h8)
  have g0 := str_no h0; clear h0
  have g1 := str_no h1; clear h1
  have g2 := str_no h2; clear h2
  have g3 := str_no h3; clear h3
  have g4 := str_no h4; clear h4
  have g5 := str_no h5; clear h5
  have g6 := str_no h6; clear h6
  have g7 := str_no h7; clear h7
  have g8 := str_no h8; clear h8
  go_enter Try.func42, Try.ntmps42
  go_wp2
  go_ret3
  exact ⟨by rw [HE.out]; rfl, rfl⟩
theorem operands_t (op : ByteArray) (w : World) : Calls Try.prog 42 #[.string op] w fun e w' => e = .returned (opnV (nLn op)) ∧ w' = w := by
  by_cases h0 : op = bs [108, 99, 111, 110, 116]
  · exact opd_0 op w h0
  by_cases h1 : op = bs [108, 118, 97, 114]
  · exact opd_1 op w h1
  by_cases h2 : op = bs [108, 110, 101, 103]
  · exact opd_2 op w h2
  by_cases h3 : op = bs [97, 115, 107]
  · exact opd_3 op w h3
  by_cases h4 : op = bs [108, 43]
  · exact opd_4 op w h4
  by_cases h5 : op = bs [108, 45]
  · exact opd_5 op w h5
  by_cases h6 : op = bs [108, 42]
  · exact opd_6 op w h6
  by_cases h7 : op = bs [108, 47]
  · exact opd_7 op w h7
  by_cases h8 : op = bs [108, 115, 101, 108]
  · exact opd_8 op w h8
  exact opd_none op w h0 h1 h2 h3 h4 h5 h6 h7 h8

end Go.Proofs.Ytpcpbpinhdbjiaa
