/- What the laws' few and same tell. -/
import Derived.Test.YtnnoicjnggoffaaGreatQE
import Derived.Test.YtnnoicjnggoffaaGreatQF
import Derived.Test.YtnnoicjnggoffaaGreatIC
import Derived.ProofKit
import Derived.OpenShut
import Derived.ShutString
import Derived.ChangeOld
namespace Go.Proofs.YtnnoicjnggoffaaGreat
set_option linter.unusedVariables false
set_option linter.unusedSimpArgs false
set_option maxRecDepth 100000
open Go.RowKit Nums

set_option maxHeartbeats 2000000 in
theorem few1_yes (g : Nat) (a0 b0 : Option Addr) (n0 c0 m0 d0 : Nat) (w : World) (ka0 : w.cell? ⟨g, 1, none⟩ = some (.slice a0 n0 c0)) (kb0 : w.cell? ⟨g, 2, none⟩ = some (.slice b0 m0 d0)) (hn0 : n0 ≤ 4) (hm0 : m0 ≤ 4) :
    Calls Tryz.prog 10 #[.slice (some ⟨g, 0, none⟩) 1 1] w fun e w' => e = .returned (.bool true) ∧ w = w' := by
  have hnI0 : (n0 : Int) ≤ 4 := by omega
  have hmI0 : (m0 : Int) ≤ 4 := by omega
  go_enter Tryz.func10, Tryz.ntmps10
  go_wp2
  go_loop [3] (fun i => ∃ k : Nat, k ≤ 1 ∧ i = .int .i64 (k : Int)) (fun i => (1 - intOf i).toNat)
  case atStart => exact ⟨0, by omega, rfl⟩
  case round =>
    obtain ⟨k, hk, rfl⟩ := hrel
    rcases (show k = 0 ∨ k = 1 by omega) with rfl | rfl
    · go_wp2
      go_round
      case rel => exact ⟨1, by omega, rfl⟩
      case measure => simp [intOf]
    · go_wp2
      go_ret
      exact ⟨rfl, rfl⟩

set_option maxHeartbeats 2000000 in
theorem few1_no0n (g : Nat) (a0 b0 : Option Addr) (n0 c0 m0 d0 : Nat) (w : World) (ka0 : w.cell? ⟨g, 1, none⟩ = some (.slice a0 n0 c0)) (kb0 : w.cell? ⟨g, 2, none⟩ = some (.slice b0 m0 d0)) (hbad : 4 < n0) :
    Calls Tryz.prog 10 #[.slice (some ⟨g, 0, none⟩) 1 1] w fun e w' => e = .returned (.bool false) ∧ w = w' := by
  have hbI : (4 : Int) < (n0 : Int) := by omega
  go_enter Tryz.func10, Tryz.ntmps10
  go_wp2
  go_loop [3] (fun i => ∃ k : Nat, k ≤ 0 ∧ i = .int .i64 (k : Int)) (fun i => (1 - intOf i).toNat)
  case atStart => exact ⟨0, by omega, rfl⟩
  case round =>
    obtain ⟨k, hk, rfl⟩ := hrel
    obtain rfl : k = 0 := by omega
    go_wp2
    go_ret
    exact ⟨rfl, rfl⟩

set_option maxHeartbeats 2000000 in
theorem few1_no0m (g : Nat) (a0 b0 : Option Addr) (n0 c0 m0 d0 : Nat) (w : World) (ka0 : w.cell? ⟨g, 1, none⟩ = some (.slice a0 n0 c0)) (kb0 : w.cell? ⟨g, 2, none⟩ = some (.slice b0 m0 d0)) (hn0 : n0 ≤ 4) (hbad : 4 < m0) :
    Calls Tryz.prog 10 #[.slice (some ⟨g, 0, none⟩) 1 1] w fun e w' => e = .returned (.bool false) ∧ w = w' := by
  have hnI0 : (n0 : Int) ≤ 4 := by omega
  have hbI : (4 : Int) < (m0 : Int) := by omega
  go_enter Tryz.func10, Tryz.ntmps10
  go_wp2
  go_loop [3] (fun i => ∃ k : Nat, k ≤ 0 ∧ i = .int .i64 (k : Int)) (fun i => (1 - intOf i).toNat)
  case atStart => exact ⟨0, by omega, rfl⟩
  case round =>
    obtain ⟨k, hk, rfl⟩ := hrel
    obtain rfl : k = 0 := by omega
    go_wp2
    go_ret
    exact ⟨rfl, rfl⟩

set_option maxHeartbeats 2000000 in
theorem few2_yes (g : Nat) (a0 b0 : Option Addr) (n0 c0 m0 d0 : Nat) (a1 b1 : Option Addr) (n1 c1 m1 d1 : Nat) (w : World) (ka0 : w.cell? ⟨g, 1, none⟩ = some (.slice a0 n0 c0)) (kb0 : w.cell? ⟨g, 2, none⟩ = some (.slice b0 m0 d0)) (ka1 : w.cell? ⟨g, 4, none⟩ = some (.slice a1 n1 c1)) (kb1 : w.cell? ⟨g, 5, none⟩ = some (.slice b1 m1 d1)) (hn0 : n0 ≤ 4) (hm0 : m0 ≤ 4) (hn1 : n1 ≤ 4) (hm1 : m1 ≤ 4) :
    Calls Tryz.prog 10 #[.slice (some ⟨g, 0, none⟩) 2 2] w fun e w' => e = .returned (.bool true) ∧ w = w' := by
  have hnI0 : (n0 : Int) ≤ 4 := by omega
  have hmI0 : (m0 : Int) ≤ 4 := by omega
  have hnI1 : (n1 : Int) ≤ 4 := by omega
  have hmI1 : (m1 : Int) ≤ 4 := by omega
  go_enter Tryz.func10, Tryz.ntmps10
  go_wp2
  go_loop [3] (fun i => ∃ k : Nat, k ≤ 2 ∧ i = .int .i64 (k : Int)) (fun i => (2 - intOf i).toNat)
  case atStart => exact ⟨0, by omega, rfl⟩
  case round =>
    obtain ⟨k, hk, rfl⟩ := hrel
    rcases (show k = 0 ∨ k = 1 ∨ k = 2 by omega) with rfl | rfl | rfl
    · go_wp2
      go_round
      case rel => exact ⟨1, by omega, rfl⟩
      case measure => simp [intOf]
    · go_wp2
      go_round
      case rel => exact ⟨2, by omega, rfl⟩
      case measure => simp [intOf]
    · go_wp2
      go_ret
      exact ⟨rfl, rfl⟩

set_option maxHeartbeats 2000000 in
theorem few2_no0n (g : Nat) (a0 b0 : Option Addr) (n0 c0 m0 d0 : Nat) (a1 b1 : Option Addr) (n1 c1 m1 d1 : Nat) (w : World) (ka0 : w.cell? ⟨g, 1, none⟩ = some (.slice a0 n0 c0)) (kb0 : w.cell? ⟨g, 2, none⟩ = some (.slice b0 m0 d0)) (ka1 : w.cell? ⟨g, 4, none⟩ = some (.slice a1 n1 c1)) (kb1 : w.cell? ⟨g, 5, none⟩ = some (.slice b1 m1 d1)) (hbad : 4 < n0) :
    Calls Tryz.prog 10 #[.slice (some ⟨g, 0, none⟩) 2 2] w fun e w' => e = .returned (.bool false) ∧ w = w' := by
  have hbI : (4 : Int) < (n0 : Int) := by omega
  go_enter Tryz.func10, Tryz.ntmps10
  go_wp2
  go_loop [3] (fun i => ∃ k : Nat, k ≤ 0 ∧ i = .int .i64 (k : Int)) (fun i => (2 - intOf i).toNat)
  case atStart => exact ⟨0, by omega, rfl⟩
  case round =>
    obtain ⟨k, hk, rfl⟩ := hrel
    obtain rfl : k = 0 := by omega
    go_wp2
    go_ret
    exact ⟨rfl, rfl⟩

set_option maxHeartbeats 2000000 in
theorem few2_no0m (g : Nat) (a0 b0 : Option Addr) (n0 c0 m0 d0 : Nat) (a1 b1 : Option Addr) (n1 c1 m1 d1 : Nat) (w : World) (ka0 : w.cell? ⟨g, 1, none⟩ = some (.slice a0 n0 c0)) (kb0 : w.cell? ⟨g, 2, none⟩ = some (.slice b0 m0 d0)) (ka1 : w.cell? ⟨g, 4, none⟩ = some (.slice a1 n1 c1)) (kb1 : w.cell? ⟨g, 5, none⟩ = some (.slice b1 m1 d1)) (hn0 : n0 ≤ 4) (hbad : 4 < m0) :
    Calls Tryz.prog 10 #[.slice (some ⟨g, 0, none⟩) 2 2] w fun e w' => e = .returned (.bool false) ∧ w = w' := by
  have hnI0 : (n0 : Int) ≤ 4 := by omega
  have hbI : (4 : Int) < (m0 : Int) := by omega
  go_enter Tryz.func10, Tryz.ntmps10
  go_wp2
  go_loop [3] (fun i => ∃ k : Nat, k ≤ 0 ∧ i = .int .i64 (k : Int)) (fun i => (2 - intOf i).toNat)
  case atStart => exact ⟨0, by omega, rfl⟩
  case round =>
    obtain ⟨k, hk, rfl⟩ := hrel
    obtain rfl : k = 0 := by omega
    go_wp2
    go_ret
    exact ⟨rfl, rfl⟩

set_option maxHeartbeats 2000000 in
theorem few2_no1n (g : Nat) (a0 b0 : Option Addr) (n0 c0 m0 d0 : Nat) (a1 b1 : Option Addr) (n1 c1 m1 d1 : Nat) (w : World) (ka0 : w.cell? ⟨g, 1, none⟩ = some (.slice a0 n0 c0)) (kb0 : w.cell? ⟨g, 2, none⟩ = some (.slice b0 m0 d0)) (ka1 : w.cell? ⟨g, 4, none⟩ = some (.slice a1 n1 c1)) (kb1 : w.cell? ⟨g, 5, none⟩ = some (.slice b1 m1 d1)) (hn0 : n0 ≤ 4) (hm0 : m0 ≤ 4) (hbad : 4 < n1) :
    Calls Tryz.prog 10 #[.slice (some ⟨g, 0, none⟩) 2 2] w fun e w' => e = .returned (.bool false) ∧ w = w' := by
  have hnI0 : (n0 : Int) ≤ 4 := by omega
  have hmI0 : (m0 : Int) ≤ 4 := by omega
  have hbI : (4 : Int) < (n1 : Int) := by omega
  go_enter Tryz.func10, Tryz.ntmps10
  go_wp2
  go_loop [3] (fun i => ∃ k : Nat, k ≤ 1 ∧ i = .int .i64 (k : Int)) (fun i => (2 - intOf i).toNat)
  case atStart => exact ⟨0, by omega, rfl⟩
  case round =>
    obtain ⟨k, hk, rfl⟩ := hrel
    rcases (show k = 0 ∨ k = 1 by omega) with rfl | rfl
    · go_wp2
      go_round
      case rel => exact ⟨1, by omega, rfl⟩
      case measure => simp [intOf]
    · go_wp2
      go_ret
      exact ⟨rfl, rfl⟩

set_option maxHeartbeats 2000000 in
theorem few2_no1m (g : Nat) (a0 b0 : Option Addr) (n0 c0 m0 d0 : Nat) (a1 b1 : Option Addr) (n1 c1 m1 d1 : Nat) (w : World) (ka0 : w.cell? ⟨g, 1, none⟩ = some (.slice a0 n0 c0)) (kb0 : w.cell? ⟨g, 2, none⟩ = some (.slice b0 m0 d0)) (ka1 : w.cell? ⟨g, 4, none⟩ = some (.slice a1 n1 c1)) (kb1 : w.cell? ⟨g, 5, none⟩ = some (.slice b1 m1 d1)) (hn0 : n0 ≤ 4) (hm0 : m0 ≤ 4) (hn1 : n1 ≤ 4) (hbad : 4 < m1) :
    Calls Tryz.prog 10 #[.slice (some ⟨g, 0, none⟩) 2 2] w fun e w' => e = .returned (.bool false) ∧ w = w' := by
  have hnI0 : (n0 : Int) ≤ 4 := by omega
  have hmI0 : (m0 : Int) ≤ 4 := by omega
  have hnI1 : (n1 : Int) ≤ 4 := by omega
  have hbI : (4 : Int) < (m1 : Int) := by omega
  go_enter Tryz.func10, Tryz.ntmps10
  go_wp2
  go_loop [3] (fun i => ∃ k : Nat, k ≤ 1 ∧ i = .int .i64 (k : Int)) (fun i => (2 - intOf i).toNat)
  case atStart => exact ⟨0, by omega, rfl⟩
  case round =>
    obtain ⟨k, hk, rfl⟩ := hrel
    rcases (show k = 0 ∨ k = 1 by omega) with rfl | rfl
    · go_wp2
      go_round
      case rel => exact ⟨1, by omega, rfl⟩
      case measure => simp [intOf]
    · go_wp2
      go_ret
      exact ⟨rfl, rfl⟩

set_option maxHeartbeats 2000000 in
theorem few3_yes (g : Nat) (a0 b0 : Option Addr) (n0 c0 m0 d0 : Nat) (a1 b1 : Option Addr) (n1 c1 m1 d1 : Nat) (a2 b2 : Option Addr) (n2 c2 m2 d2 : Nat) (w : World) (ka0 : w.cell? ⟨g, 1, none⟩ = some (.slice a0 n0 c0)) (kb0 : w.cell? ⟨g, 2, none⟩ = some (.slice b0 m0 d0)) (ka1 : w.cell? ⟨g, 4, none⟩ = some (.slice a1 n1 c1)) (kb1 : w.cell? ⟨g, 5, none⟩ = some (.slice b1 m1 d1)) (ka2 : w.cell? ⟨g, 7, none⟩ = some (.slice a2 n2 c2)) (kb2 : w.cell? ⟨g, 8, none⟩ = some (.slice b2 m2 d2)) (hn0 : n0 ≤ 4) (hm0 : m0 ≤ 4) (hn1 : n1 ≤ 4) (hm1 : m1 ≤ 4) (hn2 : n2 ≤ 4) (hm2 : m2 ≤ 4) :
    Calls Tryz.prog 10 #[.slice (some ⟨g, 0, none⟩) 3 3] w fun e w' => e = .returned (.bool true) ∧ w = w' := by
  have hnI0 : (n0 : Int) ≤ 4 := by omega
  have hmI0 : (m0 : Int) ≤ 4 := by omega
  have hnI1 : (n1 : Int) ≤ 4 := by omega
  have hmI1 : (m1 : Int) ≤ 4 := by omega
  have hnI2 : (n2 : Int) ≤ 4 := by omega
  have hmI2 : (m2 : Int) ≤ 4 := by omega
  go_enter Tryz.func10, Tryz.ntmps10
  go_wp2
  go_loop [3] (fun i => ∃ k : Nat, k ≤ 3 ∧ i = .int .i64 (k : Int)) (fun i => (3 - intOf i).toNat)
  case atStart => exact ⟨0, by omega, rfl⟩
  case round =>
    obtain ⟨k, hk, rfl⟩ := hrel
    rcases (show k = 0 ∨ k = 1 ∨ k = 2 ∨ k = 3 by omega) with rfl | rfl | rfl | rfl
    · go_wp2
      go_round
      case rel => exact ⟨1, by omega, rfl⟩
      case measure => simp [intOf]
    · go_wp2
      go_round
      case rel => exact ⟨2, by omega, rfl⟩
      case measure => simp [intOf]
    · go_wp2
      go_round
      case rel => exact ⟨3, by omega, rfl⟩
      case measure => simp [intOf]
    · go_wp2
      go_ret
      exact ⟨rfl, rfl⟩

set_option maxHeartbeats 2000000 in
theorem few3_no0n (g : Nat) (a0 b0 : Option Addr) (n0 c0 m0 d0 : Nat) (a1 b1 : Option Addr) (n1 c1 m1 d1 : Nat) (a2 b2 : Option Addr) (n2 c2 m2 d2 : Nat) (w : World) (ka0 : w.cell? ⟨g, 1, none⟩ = some (.slice a0 n0 c0)) (kb0 : w.cell? ⟨g, 2, none⟩ = some (.slice b0 m0 d0)) (ka1 : w.cell? ⟨g, 4, none⟩ = some (.slice a1 n1 c1)) (kb1 : w.cell? ⟨g, 5, none⟩ = some (.slice b1 m1 d1)) (ka2 : w.cell? ⟨g, 7, none⟩ = some (.slice a2 n2 c2)) (kb2 : w.cell? ⟨g, 8, none⟩ = some (.slice b2 m2 d2)) (hbad : 4 < n0) :
    Calls Tryz.prog 10 #[.slice (some ⟨g, 0, none⟩) 3 3] w fun e w' => e = .returned (.bool false) ∧ w = w' := by
  have hbI : (4 : Int) < (n0 : Int) := by omega
  go_enter Tryz.func10, Tryz.ntmps10
  go_wp2
  go_loop [3] (fun i => ∃ k : Nat, k ≤ 0 ∧ i = .int .i64 (k : Int)) (fun i => (3 - intOf i).toNat)
  case atStart => exact ⟨0, by omega, rfl⟩
  case round =>
    obtain ⟨k, hk, rfl⟩ := hrel
    obtain rfl : k = 0 := by omega
    go_wp2
    go_ret
    exact ⟨rfl, rfl⟩

set_option maxHeartbeats 2000000 in
theorem few3_no0m (g : Nat) (a0 b0 : Option Addr) (n0 c0 m0 d0 : Nat) (a1 b1 : Option Addr) (n1 c1 m1 d1 : Nat) (a2 b2 : Option Addr) (n2 c2 m2 d2 : Nat) (w : World) (ka0 : w.cell? ⟨g, 1, none⟩ = some (.slice a0 n0 c0)) (kb0 : w.cell? ⟨g, 2, none⟩ = some (.slice b0 m0 d0)) (ka1 : w.cell? ⟨g, 4, none⟩ = some (.slice a1 n1 c1)) (kb1 : w.cell? ⟨g, 5, none⟩ = some (.slice b1 m1 d1)) (ka2 : w.cell? ⟨g, 7, none⟩ = some (.slice a2 n2 c2)) (kb2 : w.cell? ⟨g, 8, none⟩ = some (.slice b2 m2 d2)) (hn0 : n0 ≤ 4) (hbad : 4 < m0) :
    Calls Tryz.prog 10 #[.slice (some ⟨g, 0, none⟩) 3 3] w fun e w' => e = .returned (.bool false) ∧ w = w' := by
  have hnI0 : (n0 : Int) ≤ 4 := by omega
  have hbI : (4 : Int) < (m0 : Int) := by omega
  go_enter Tryz.func10, Tryz.ntmps10
  go_wp2
  go_loop [3] (fun i => ∃ k : Nat, k ≤ 0 ∧ i = .int .i64 (k : Int)) (fun i => (3 - intOf i).toNat)
  case atStart => exact ⟨0, by omega, rfl⟩
  case round =>
    obtain ⟨k, hk, rfl⟩ := hrel
    obtain rfl : k = 0 := by omega
    go_wp2
    go_ret
    exact ⟨rfl, rfl⟩

set_option maxHeartbeats 2000000 in
theorem few3_no1n (g : Nat) (a0 b0 : Option Addr) (n0 c0 m0 d0 : Nat) (a1 b1 : Option Addr) (n1 c1 m1 d1 : Nat) (a2 b2 : Option Addr) (n2 c2 m2 d2 : Nat) (w : World) (ka0 : w.cell? ⟨g, 1, none⟩ = some (.slice a0 n0 c0)) (kb0 : w.cell? ⟨g, 2, none⟩ = some (.slice b0 m0 d0)) (ka1 : w.cell? ⟨g, 4, none⟩ = some (.slice a1 n1 c1)) (kb1 : w.cell? ⟨g, 5, none⟩ = some (.slice b1 m1 d1)) (ka2 : w.cell? ⟨g, 7, none⟩ = some (.slice a2 n2 c2)) (kb2 : w.cell? ⟨g, 8, none⟩ = some (.slice b2 m2 d2)) (hn0 : n0 ≤ 4) (hm0 : m0 ≤ 4) (hbad : 4 < n1) :
    Calls Tryz.prog 10 #[.slice (some ⟨g, 0, none⟩) 3 3] w fun e w' => e = .returned (.bool false) ∧ w = w' := by
  have hnI0 : (n0 : Int) ≤ 4 := by omega
  have hmI0 : (m0 : Int) ≤ 4 := by omega
  have hbI : (4 : Int) < (n1 : Int) := by omega
  go_enter Tryz.func10, Tryz.ntmps10
  go_wp2
  go_loop [3] (fun i => ∃ k : Nat, k ≤ 1 ∧ i = .int .i64 (k : Int)) (fun i => (3 - intOf i).toNat)
  case atStart => exact ⟨0, by omega, rfl⟩
  case round =>
    obtain ⟨k, hk, rfl⟩ := hrel
    rcases (show k = 0 ∨ k = 1 by omega) with rfl | rfl
    · go_wp2
      go_round
      case rel => exact ⟨1, by omega, rfl⟩
      case measure => simp [intOf]
    · go_wp2
      go_ret
      exact ⟨rfl, rfl⟩

set_option maxHeartbeats 2000000 in
theorem few3_no1m (g : Nat) (a0 b0 : Option Addr) (n0 c0 m0 d0 : Nat) (a1 b1 : Option Addr) (n1 c1 m1 d1 : Nat) (a2 b2 : Option Addr) (n2 c2 m2 d2 : Nat) (w : World) (ka0 : w.cell? ⟨g, 1, none⟩ = some (.slice a0 n0 c0)) (kb0 : w.cell? ⟨g, 2, none⟩ = some (.slice b0 m0 d0)) (ka1 : w.cell? ⟨g, 4, none⟩ = some (.slice a1 n1 c1)) (kb1 : w.cell? ⟨g, 5, none⟩ = some (.slice b1 m1 d1)) (ka2 : w.cell? ⟨g, 7, none⟩ = some (.slice a2 n2 c2)) (kb2 : w.cell? ⟨g, 8, none⟩ = some (.slice b2 m2 d2)) (hn0 : n0 ≤ 4) (hm0 : m0 ≤ 4) (hn1 : n1 ≤ 4) (hbad : 4 < m1) :
    Calls Tryz.prog 10 #[.slice (some ⟨g, 0, none⟩) 3 3] w fun e w' => e = .returned (.bool false) ∧ w = w' := by
  have hnI0 : (n0 : Int) ≤ 4 := by omega
  have hmI0 : (m0 : Int) ≤ 4 := by omega
  have hnI1 : (n1 : Int) ≤ 4 := by omega
  have hbI : (4 : Int) < (m1 : Int) := by omega
  go_enter Tryz.func10, Tryz.ntmps10
  go_wp2
  go_loop [3] (fun i => ∃ k : Nat, k ≤ 1 ∧ i = .int .i64 (k : Int)) (fun i => (3 - intOf i).toNat)
  case atStart => exact ⟨0, by omega, rfl⟩
  case round =>
    obtain ⟨k, hk, rfl⟩ := hrel
    rcases (show k = 0 ∨ k = 1 by omega) with rfl | rfl
    · go_wp2
      go_round
      case rel => exact ⟨1, by omega, rfl⟩
      case measure => simp [intOf]
    · go_wp2
      go_ret
      exact ⟨rfl, rfl⟩

set_option maxHeartbeats 2000000 in
theorem few3_no2n (g : Nat) (a0 b0 : Option Addr) (n0 c0 m0 d0 : Nat) (a1 b1 : Option Addr) (n1 c1 m1 d1 : Nat) (a2 b2 : Option Addr) (n2 c2 m2 d2 : Nat) (w : World) (ka0 : w.cell? ⟨g, 1, none⟩ = some (.slice a0 n0 c0)) (kb0 : w.cell? ⟨g, 2, none⟩ = some (.slice b0 m0 d0)) (ka1 : w.cell? ⟨g, 4, none⟩ = some (.slice a1 n1 c1)) (kb1 : w.cell? ⟨g, 5, none⟩ = some (.slice b1 m1 d1)) (ka2 : w.cell? ⟨g, 7, none⟩ = some (.slice a2 n2 c2)) (kb2 : w.cell? ⟨g, 8, none⟩ = some (.slice b2 m2 d2)) (hn0 : n0 ≤ 4) (hm0 : m0 ≤ 4) (hn1 : n1 ≤ 4) (hm1 : m1 ≤ 4) (hbad : 4 < n2) :
    Calls Tryz.prog 10 #[.slice (some ⟨g, 0, none⟩) 3 3] w fun e w' => e = .returned (.bool false) ∧ w = w' := by
  have hnI0 : (n0 : Int) ≤ 4 := by omega
  have hmI0 : (m0 : Int) ≤ 4 := by omega
  have hnI1 : (n1 : Int) ≤ 4 := by omega
  have hmI1 : (m1 : Int) ≤ 4 := by omega
  have hbI : (4 : Int) < (n2 : Int) := by omega
  go_enter Tryz.func10, Tryz.ntmps10
  go_wp2
  go_loop [3] (fun i => ∃ k : Nat, k ≤ 2 ∧ i = .int .i64 (k : Int)) (fun i => (3 - intOf i).toNat)
  case atStart => exact ⟨0, by omega, rfl⟩
  case round =>
    obtain ⟨k, hk, rfl⟩ := hrel
    rcases (show k = 0 ∨ k = 1 ∨ k = 2 by omega) with rfl | rfl | rfl
    · go_wp2
      go_round
      case rel => exact ⟨1, by omega, rfl⟩
      case measure => simp [intOf]
    · go_wp2
      go_round
      case rel => exact ⟨2, by omega, rfl⟩
      case measure => simp [intOf]
    · go_wp2
      go_ret
      exact ⟨rfl, rfl⟩

set_option maxHeartbeats 2000000 in
theorem few3_no2m (g : Nat) (a0 b0 : Option Addr) (n0 c0 m0 d0 : Nat) (a1 b1 : Option Addr) (n1 c1 m1 d1 : Nat) (a2 b2 : Option Addr) (n2 c2 m2 d2 : Nat) (w : World) (ka0 : w.cell? ⟨g, 1, none⟩ = some (.slice a0 n0 c0)) (kb0 : w.cell? ⟨g, 2, none⟩ = some (.slice b0 m0 d0)) (ka1 : w.cell? ⟨g, 4, none⟩ = some (.slice a1 n1 c1)) (kb1 : w.cell? ⟨g, 5, none⟩ = some (.slice b1 m1 d1)) (ka2 : w.cell? ⟨g, 7, none⟩ = some (.slice a2 n2 c2)) (kb2 : w.cell? ⟨g, 8, none⟩ = some (.slice b2 m2 d2)) (hn0 : n0 ≤ 4) (hm0 : m0 ≤ 4) (hn1 : n1 ≤ 4) (hm1 : m1 ≤ 4) (hn2 : n2 ≤ 4) (hbad : 4 < m2) :
    Calls Tryz.prog 10 #[.slice (some ⟨g, 0, none⟩) 3 3] w fun e w' => e = .returned (.bool false) ∧ w = w' := by
  have hnI0 : (n0 : Int) ≤ 4 := by omega
  have hmI0 : (m0 : Int) ≤ 4 := by omega
  have hnI1 : (n1 : Int) ≤ 4 := by omega
  have hmI1 : (m1 : Int) ≤ 4 := by omega
  have hnI2 : (n2 : Int) ≤ 4 := by omega
  have hbI : (4 : Int) < (m2 : Int) := by omega
  go_enter Tryz.func10, Tryz.ntmps10
  go_wp2
  go_loop [3] (fun i => ∃ k : Nat, k ≤ 2 ∧ i = .int .i64 (k : Int)) (fun i => (3 - intOf i).toNat)
  case atStart => exact ⟨0, by omega, rfl⟩
  case round =>
    obtain ⟨k, hk, rfl⟩ := hrel
    rcases (show k = 0 ∨ k = 1 ∨ k = 2 by omega) with rfl | rfl | rfl
    · go_wp2
      go_round
      case rel => exact ⟨1, by omega, rfl⟩
      case measure => simp [intOf]
    · go_wp2
      go_round
      case rel => exact ⟨2, by omega, rfl⟩
      case measure => simp [intOf]
    · go_wp2
      go_ret
      exact ⟨rfl, rfl⟩

set_option maxHeartbeats 2000000 in
theorem rsameR_yes {s t : Bool} {a b a' b' : Option Addr} {n c m d n' c' m' d' : Nat} {xs ys us vs : List Nat} {w : World} (h0 : Row w a n c xs) (h1 : Row w b m d ys) (h2 : Row w a' n' c' us) (h3 : Row w b' m' d' vs) (hn : n ≤ 100) (hm : m ≤ 100) (hn' : n' ≤ 100) (hm' : m' ≤ 100) (hs : s = t) (hx : xs = us) (hy : ys = vs) :
    Calls Tryz.prog 52 #[.agg #[.bool s, .slice a n c, .slice b m d], .agg #[.bool t, .slice a' n' c', .slice b' m' d']] w fun e w' => e = .returned (.bool true) ∧ Below w.heap.size w w' := by
  subst hs
  subst hx
  subst hy
  have HB := Lib.hid (below_two w (.cells #[.bool s, .slice a n c, .slice b m d] 26) (.cells #[.bool s, .slice a' n' c', .slice b' m' d'] 26))
  have X0 : Hid (Tri ((w.alloc (.cells #[.bool s, .slice a n c, .slice b m d] 26)).alloc (.cells #[.bool s, .slice a' n' c', .slice b' m' d'] 26)) (w.heap.size) (.bool s) (.slice a n c) (.slice b m d)) := ((tri_new _ (.bool s) (.slice a n c) (.slice b m d)).alloc _)
  have X1 : Hid (Tri ((w.alloc (.cells #[.bool s, .slice a n c, .slice b m d] 26)).alloc (.cells #[.bool s, .slice a' n' c', .slice b' m' d'] 26)) (w.heap.size + 1) (.bool s) (.slice a' n' c') (.slice b' m' d')) := (tri_newE (by simp))
  have R0 := Lib.hid (h0.later HB.out); clear h0
  have R1 := Lib.hid (h1.later HB.out); clear h1
  have R2 := Lib.hid (h2.later HB.out); clear h2
  have R3 := Lib.hid (h3.later HB.out); clear h3
  go_enter Tryz.func52, Tryz.ntmps52
  go_wp2_with fail
  refine (rsame_yes s a a' n c n' c' xs _ R0.out R2.out (by omega)).mono ?_
  rintro e w1 ⟨rfl, hb⟩
  replace R0 := Lib.hid (R0.out.later hb)
  replace R1 := Lib.hid (R1.out.later hb)
  replace R2 := Lib.hid (R2.out.later hb)
  replace R3 := Lib.hid (R3.out.later hb)
  replace X0 := Lib.hid (X0.out.later hb)
  replace X1 := Lib.hid (X1.out.later hb)
  replace HB := Lib.hid (bthen HB.out hb)
  clear hb
  obtain ⟨kX00, kX01, kX02, -, -, -, -⟩ := X0.out
  obtain ⟨kX10, kX11, kX12, -, -, -, -⟩ := X1.out
  go_wp2_with fail
  refine (sameN R1.out R3.out rfl hm).mono ?_
  rintro e w2 ⟨rfl, hb⟩
  replace R0 := Lib.hid (R0.out.later hb)
  replace R1 := Lib.hid (R1.out.later hb)
  replace R2 := Lib.hid (R2.out.later hb)
  replace R3 := Lib.hid (R3.out.later hb)
  replace X0 := Lib.hid (X0.out.later hb)
  replace X1 := Lib.hid (X1.out.later hb)
  replace HB := Lib.hid (bthen HB.out hb)
  clear hb
  clear kX00 kX01 kX02 kX10 kX11 kX12
  go_wp2
  go_ret
  exact ⟨rfl, HB.out⟩

set_option maxHeartbeats 2000000 in
theorem rsameR_num {s t : Bool} {a b a' b' : Option Addr} {n c m d n' c' m' d' : Nat} {xs ys us vs : List Nat} {w : World} (h0 : Row w a n c xs) (h1 : Row w b m d ys) (h2 : Row w a' n' c' us) (h3 : Row w b' m' d' vs) (hn : n ≤ 100) (hm : m ≤ 100) (hn' : n' ≤ 100) (hm' : m' ≤ 100) (hs : s = t) (hx : xs ≠ us) :
    Calls Tryz.prog 52 #[.agg #[.bool s, .slice a n c, .slice b m d], .agg #[.bool t, .slice a' n' c', .slice b' m' d']] w fun e w' => e = .returned (.bool false) ∧ Below w.heap.size w w' := by
  subst hs
  have HB := Lib.hid (below_two w (.cells #[.bool s, .slice a n c, .slice b m d] 26) (.cells #[.bool s, .slice a' n' c', .slice b' m' d'] 26))
  have X0 : Hid (Tri ((w.alloc (.cells #[.bool s, .slice a n c, .slice b m d] 26)).alloc (.cells #[.bool s, .slice a' n' c', .slice b' m' d'] 26)) (w.heap.size) (.bool s) (.slice a n c) (.slice b m d)) := ((tri_new _ (.bool s) (.slice a n c) (.slice b m d)).alloc _)
  have X1 : Hid (Tri ((w.alloc (.cells #[.bool s, .slice a n c, .slice b m d] 26)).alloc (.cells #[.bool s, .slice a' n' c', .slice b' m' d'] 26)) (w.heap.size + 1) (.bool s) (.slice a' n' c') (.slice b' m' d')) := (tri_newE (by simp))
  have R0 := Lib.hid (h0.later HB.out); clear h0
  have R1 := Lib.hid (h1.later HB.out); clear h1
  have R2 := Lib.hid (h2.later HB.out); clear h2
  have R3 := Lib.hid (h3.later HB.out); clear h3
  have HX := Lib.hid hx; clear hx
  go_enter Tryz.func52, Tryz.ntmps52
  go_wp2_with fail
  refine (rsame_no s a a' n c n' c' xs us _ R0.out R2.out (by omega) (by omega) HX.out).mono ?_
  rintro e w1 ⟨rfl, hb⟩
  replace R0 := Lib.hid (R0.out.later hb)
  replace R1 := Lib.hid (R1.out.later hb)
  replace R2 := Lib.hid (R2.out.later hb)
  replace R3 := Lib.hid (R3.out.later hb)
  replace X0 := Lib.hid (X0.out.later hb)
  replace X1 := Lib.hid (X1.out.later hb)
  replace HB := Lib.hid (bthen HB.out hb)
  clear hb
  obtain ⟨kX00, kX01, kX02, -, -, -, -⟩ := X0.out
  obtain ⟨kX10, kX11, kX12, -, -, -, -⟩ := X1.out
  go_wp2
  go_ret
  exact ⟨rfl, HB.out⟩

set_option maxHeartbeats 2000000 in
theorem rsameR_off {s t : Bool} {a b a' b' : Option Addr} {n c m d n' c' m' d' : Nat} {xs ys us vs : List Nat} {w : World} (h0 : Row w a n c xs) (h1 : Row w b m d ys) (h2 : Row w a' n' c' us) (h3 : Row w b' m' d' vs) (hn : n ≤ 100) (hm : m ≤ 100) (hn' : n' ≤ 100) (hm' : m' ≤ 100) (hs : (s == t) = false) :
    Calls Tryz.prog 52 #[.agg #[.bool s, .slice a n c, .slice b m d], .agg #[.bool t, .slice a' n' c', .slice b' m' d']] w fun e w' => e = .returned (.bool false) ∧ Below w.heap.size w w' := by
  have HB := Lib.hid (below_two w (.cells #[.bool s, .slice a n c, .slice b m d] 26) (.cells #[.bool t, .slice a' n' c', .slice b' m' d'] 26))
  have X0 : Hid (Tri ((w.alloc (.cells #[.bool s, .slice a n c, .slice b m d] 26)).alloc (.cells #[.bool t, .slice a' n' c', .slice b' m' d'] 26)) (w.heap.size) (.bool s) (.slice a n c) (.slice b m d)) := ((tri_new _ (.bool s) (.slice a n c) (.slice b m d)).alloc _)
  have X1 : Hid (Tri ((w.alloc (.cells #[.bool s, .slice a n c, .slice b m d] 26)).alloc (.cells #[.bool t, .slice a' n' c', .slice b' m' d'] 26)) (w.heap.size + 1) (.bool t) (.slice a' n' c') (.slice b' m' d')) := (tri_newE (by simp))
  have R0 := Lib.hid (h0.later HB.out); clear h0
  have R1 := Lib.hid (h1.later HB.out); clear h1
  have R2 := Lib.hid (h2.later HB.out); clear h2
  have R3 := Lib.hid (h3.later HB.out); clear h3
  go_enter Tryz.func52, Tryz.ntmps52
  go_wp2_with fail
  refine (rsame_off s t a a' n c n' c' _ hs).mono ?_
  rintro e w1 ⟨rfl, hb⟩
  replace R0 := Lib.hid (R0.out.later hb)
  replace R1 := Lib.hid (R1.out.later hb)
  replace R2 := Lib.hid (R2.out.later hb)
  replace R3 := Lib.hid (R3.out.later hb)
  replace X0 := Lib.hid (X0.out.later hb)
  replace X1 := Lib.hid (X1.out.later hb)
  replace HB := Lib.hid (bthen HB.out hb)
  clear hb
  obtain ⟨kX00, kX01, kX02, -, -, -, -⟩ := X0.out
  obtain ⟨kX10, kX11, kX12, -, -, -, -⟩ := X1.out
  go_wp2
  go_ret
  exact ⟨rfl, HB.out⟩

set_option maxHeartbeats 2000000 in
theorem rsameR_den {s t : Bool} {a b a' b' : Option Addr} {n c m d n' c' m' d' : Nat} {xs ys us vs : List Nat} {w : World} (h0 : Row w a n c xs) (h1 : Row w b m d ys) (h2 : Row w a' n' c' us) (h3 : Row w b' m' d' vs) (hn : n ≤ 100) (hm : m ≤ 100) (hn' : n' ≤ 100) (hm' : m' ≤ 100) (hs : s = t) (hx : xs = us) (hy : ys ≠ vs) :
    Calls Tryz.prog 52 #[.agg #[.bool s, .slice a n c, .slice b m d], .agg #[.bool t, .slice a' n' c', .slice b' m' d']] w fun e w' => e = .returned (.bool false) ∧ Below w.heap.size w w' := by
  subst hs
  subst hx
  have HB := Lib.hid (below_two w (.cells #[.bool s, .slice a n c, .slice b m d] 26) (.cells #[.bool s, .slice a' n' c', .slice b' m' d'] 26))
  have X0 : Hid (Tri ((w.alloc (.cells #[.bool s, .slice a n c, .slice b m d] 26)).alloc (.cells #[.bool s, .slice a' n' c', .slice b' m' d'] 26)) (w.heap.size) (.bool s) (.slice a n c) (.slice b m d)) := ((tri_new _ (.bool s) (.slice a n c) (.slice b m d)).alloc _)
  have X1 : Hid (Tri ((w.alloc (.cells #[.bool s, .slice a n c, .slice b m d] 26)).alloc (.cells #[.bool s, .slice a' n' c', .slice b' m' d'] 26)) (w.heap.size + 1) (.bool s) (.slice a' n' c') (.slice b' m' d')) := (tri_newE (by simp))
  have R0 := Lib.hid (h0.later HB.out); clear h0
  have R1 := Lib.hid (h1.later HB.out); clear h1
  have R2 := Lib.hid (h2.later HB.out); clear h2
  have R3 := Lib.hid (h3.later HB.out); clear h3
  have HY := Lib.hid hy; clear hy
  go_enter Tryz.func52, Tryz.ntmps52
  go_wp2_with fail
  refine (rsame_yes s a a' n c n' c' xs _ R0.out R2.out (by omega)).mono ?_
  rintro e w1 ⟨rfl, hb⟩
  replace R0 := Lib.hid (R0.out.later hb)
  replace R1 := Lib.hid (R1.out.later hb)
  replace R2 := Lib.hid (R2.out.later hb)
  replace R3 := Lib.hid (R3.out.later hb)
  replace X0 := Lib.hid (X0.out.later hb)
  replace X1 := Lib.hid (X1.out.later hb)
  replace HB := Lib.hid (bthen HB.out hb)
  clear hb
  obtain ⟨kX00, kX01, kX02, -, -, -, -⟩ := X0.out
  obtain ⟨kX10, kX11, kX12, -, -, -, -⟩ := X1.out
  go_wp2_with fail
  refine (same_not b b' m d m' d' ys vs _ R1.out R3.out (by omega) (by omega) HY.out).mono ?_
  rintro e w2 ⟨rfl, hb⟩
  replace R0 := Lib.hid (R0.out.later hb)
  replace R1 := Lib.hid (R1.out.later hb)
  replace R2 := Lib.hid (R2.out.later hb)
  replace R3 := Lib.hid (R3.out.later hb)
  replace X0 := Lib.hid (X0.out.later hb)
  replace X1 := Lib.hid (X1.out.later hb)
  replace HB := Lib.hid (bthen HB.out hb)
  clear hb
  clear kX00 kX01 kX02 kX10 kX11 kX12
  go_wp2
  go_ret
  exact ⟨rfl, HB.out⟩

theorem lsameR (B : Bool) {s t : Bool} {a b a' b' : Option Addr} {n c m d n' c' m' d' : Nat} {w : World} (h : Calls Tryz.prog 52 #[.agg #[.bool s, .slice a n c, .slice b m d], .agg #[.bool t, .slice a' n' c', .slice b' m' d']] ((w.alloc (.cells #[.bool s, .slice a n c, .slice b m d] 26)).alloc (.cells #[.bool t, .slice a' n' c', .slice b' m' d'] 26)) fun e w' => e = .returned (.bool B) ∧ Below ((w.alloc (.cells #[.bool s, .slice a n c, .slice b m d] 26)).alloc (.cells #[.bool t, .slice a' n' c', .slice b' m' d'] 26)).heap.size ((w.alloc (.cells #[.bool s, .slice a n c, .slice b m d] 26)).alloc (.cells #[.bool t, .slice a' n' c', .slice b' m' d'] 26)) w') :
    Calls Tryz.prog 13 #[.agg #[.bool s, .slice a n c, .slice b m d], .agg #[.bool t, .slice a' n' c', .slice b' m' d']] w fun e w' => e = .returned (.bool B) ∧ Below w.heap.size w w' := by
  have H := Lib.hid h; clear h
  have HB := Lib.hid (below_two w (.cells #[.bool s, .slice a n c, .slice b m d] 26) (.cells #[.bool t, .slice a' n' c', .slice b' m' d'] 26))
  go_enter Tryz.func13, Tryz.ntmps13
  go_wp2_with fail
  refine H.out.mono ?_
  rintro e w1 ⟨rfl, hb⟩
  replace HB := Lib.hid (bthen HB.out hb); clear hb
  go_wp2
  go_ret
  exact ⟨rfl, HB.out⟩

section
variable {a b a' b' : Option Addr} {n c m d n' c' m' d' : Nat} {w : World} {p q : Rat}
theorem sameT (h0 : Row w a n c (limbs p.num.natAbs)) (h1 : Row w b m d (limbs p.den)) (h2 : Row w a' n' c' (limbs q.num.natAbs)) (h3 : Row w b' m' d' (limbs q.den)) (h : p = q) (hn : n ≤ 100) (hm : m ≤ 100) (hn' : n' ≤ 100) (hm' : m' ≤ 100) :
    Calls Tryz.prog 13 #[.agg #[.bool (decide (p.num < 0)), .slice a n c, .slice b m d], .agg #[.bool (decide (q.num < 0)), .slice a' n' c', .slice b' m' d']] w fun e w' => e = .returned (.bool true) ∧ Below w.heap.size w w' := by
  subst h
  exact lsameR true (rsameR_yes (h0.later (below_two _ _ _)) (h1.later (below_two _ _ _)) (h2.later (below_two _ _ _)) (h3.later (below_two _ _ _)) hn hm hn' hm' rfl rfl rfl)

theorem differT (h0 : Row w a n c (limbs p.num.natAbs)) (h1 : Row w b m d (limbs p.den)) (h2 : Row w a' n' c' (limbs q.num.natAbs)) (h3 : Row w b' m' d' (limbs q.den)) (h : p ≠ q) (hn : n ≤ 100) (hm : m ≤ 100) (hn' : n' ≤ 100) (hm' : m' ≤ 100) :
    Calls Tryz.prog 13 #[.agg #[.bool (decide (p.num < 0)), .slice a n c, .slice b m d], .agg #[.bool (decide (q.num < 0)), .slice a' n' c', .slice b' m' d']] w fun e w' => e = .returned (.bool false) ∧ Below w.heap.size w w' := by
  by_cases hs : decide (p.num < 0) = decide (q.num < 0)
  · by_cases hx : p.num.natAbs = q.num.natAbs
    · have hnum : p.num = q.num := by
        have : (p.num < 0) ↔ (q.num < 0) := by simpa using hs
        omega
      have hd : p.den ≠ q.den := fun e => h (Rat.ext hnum e)
      exact lsameR false (rsameR_den (h0.later (below_two _ _ _)) (h1.later (below_two _ _ _)) (h2.later (below_two _ _ _)) (h3.later (below_two _ _ _)) hn hm hn' hm' hs (by rw [hx]) (fun e => hd (limbs_inj e)))
    · exact lsameR false (rsameR_num (h0.later (below_two _ _ _)) (h1.later (below_two _ _ _)) (h2.later (below_two _ _ _)) (h3.later (below_two _ _ _)) hn hm hn' hm' hs (fun e => hx (limbs_inj e)))
  · exact lsameR false (rsameR_off (h0.later (below_two _ _ _)) (h1.later (below_two _ _ _)) (h2.later (below_two _ _ _)) (h3.later (below_two _ _ _)) hn hm hn' hm' (by rw [beq_eq_false_iff_ne]; exact hs))
end

end Go.Proofs.YtnnoicjnggoffaaGreat
/- What Parse tells of a text of parts; the examples. -/
namespace Go.Proofs.YtnnoicjnggoffaaGreat
set_option linter.unusedVariables false
set_option linter.unusedSimpArgs false
set_option maxRecDepth 100000
open Go.RowKit Nums

theorem digs_len {u : ByteArray} {k : Nat} (hd : allDig u) (hk : 0 < k) (hl : u.size ≤ 6 * k) : (limbs (numOf u.data.toList)).length ≤ k := len_numOf u k hd hk hl

/-- the contracts of the parts of a text, where they say something -/
theorem int_call (k : Nat) (neg : Bool) (h u : ByteArray) (H : Signed h neg u) (h0 : 0 < u.size) (h3 : u.size ≤ 300) (hd : allDig u) (hk : 0 < k) (hl : u.size ≤ 6 * k) (w : World) :
    Calls Tryz.prog 81 #[.string h] w (ParseK k (sv neg (numOf u.data.toList)) w) :=
  parseI_ok k _ h u neg _ w H h3 h0 hd rfl rfl (digs_len hd hk hl)
theorem nat_call (k : Nat) (t : ByteArray) (h0 : 0 < t.size) (h3 : t.size ≤ 300) (hd : allDig t) (hk : 0 < k) (hl : t.size ≤ 6 * k) (w : World) :
    Calls Tryz.prog 120 #[.string t] w (ParseNK k (numOf t.data.toList) w) :=
  (parseN k t w _ h3 h0 hd rfl (digs_len hd hk hl)).mono fun _ _ h => h

theorem parseQ_ok (K : Nat) (q : Rat) (s h t u : ByteArray) (neg : Bool) (w : World) (H : Split s 47 h t) (HS : Signed h neg u) (hu0 : 0 < u.size) (hu3 : u.size ≤ 300) (hud : allDig u) (ht0 : 0 < t.size) (ht3 : t.size ≤ 300) (htd : allDig t) (hK0 : 0 < K) (hK : K ≤ 95) (huK : u.size ≤ 6 * K) (htK : t.size ≤ 6 * K) (hN : 0 < numOf t.data.toList)
    (hq : mkRat (sv neg (numOf u.data.toList)) (numOf t.data.toList) = q) :
    Calls Tryz.prog 38 #[.string s] w (RatRes 0 (ToldAs K K q) w) :=
  parse_slash 0 _ s h t w H (by have := H.size; have := HS.size; rcases HS with ⟨-, e⟩ | ⟨-, e, -⟩; (have := congrArg List.length e; rw [List.length_cons, ← Lib.size_eq h, ← Lib.size_eq u] at this; omega); (subst e; omega))
    (fun w => (quot_ok K K q _ _ h t w hK hK0 hK hN hq (fun w => parts_ok K K _ _ h t w (int_call K neg h u HS hu0 hu3 hud hK0 huK) (nat_call K t ht0 ht3 htd hK0 htK))).mono fun _ _ h => ratRes_ok h)

theorem digs_pow {u : ByteArray} (hd : allDig u) : numOf u.data.toList < 10 ^ u.size := by
  have := numOf_lt _ (digs_list u hd)
  rwa [← Lib.size_eq u] at this

theorem parseD_ok (K : Nat) (q : Rat) (s h t u : ByteArray) (neg : Bool) (w : World) (hno : (47 : UInt8) ∉ s.data.toList) (H : Split s 46 h t) (HS : Signed h neg u) (hu0 : 0 < u.size) (hu3 : u.size ≤ 300) (hud : allDig u) (ht0 : 0 < t.size) (ht3 : t.size ≤ 300) (htd : allDig t) (hK0 : 0 < K) (hK : K ≤ 95) (huK : u.size + t.size ≤ 6 * K)
    (hq : mkRat (sv neg (numOf u.data.toList * 10 ^ t.size + numOf t.data.toList)) (10 ^ t.size) = q) :
    Calls Tryz.prog 38 #[.string s] w (RatRes 0 (ToldAs K K q) w) :=
  parse_point 0 _ s h t w hno H (by have := H.size; have := HS.size; rcases HS with ⟨-, e⟩ | ⟨-, e, -⟩; (have := congrArg List.length e; rw [List.length_cons, ← Lib.size_eq h, ← Lib.size_eq u] at this; omega); (subst e; omega))
    (fun w => (decimal_ok K q neg _ _ h u t w HS ht0 ht3 (by omega) hK hK0 (by
        apply limbs_len
        refine Nat.lt_trans ?_ (pow_room (u.size + t.size) K hK0 huK)
        have h1 := digs_pow hud
        have h2 := digs_pow htd
        rw [Nat.pow_add]
        have : (numOf u.data.toList + 1) * 10 ^ t.size ≤ 10 ^ u.size * 10 ^ t.size := Nat.mul_le_mul_right _ h1
        rw [Nat.add_mul] at this
        omega) hq (fun w => parts_ok K K _ _ h t w (int_call K neg h u HS hu0 hu3 hud hK0 (by omega)) (nat_call K t ht0 ht3 htd hK0 (by omega)))).mono fun _ _ h => ratRes_ok h)

theorem parseQ_zero (s h t u : ByteArray) (neg : Bool) (w : World) (H : Split s 47 h t) (HS : Signed h neg u) (hu0 : 0 < u.size) (hu3 : u.size ≤ 300) (hud : allDig u) (ht0 : 0 < t.size) (ht3 : t.size ≤ 300) (htd : allDig t) (hN : numOf t.data.toList = 0) :
    Calls Tryz.prog 38 #[.string s] w (RatRes 4 NoneAs w) :=
  parse_slash 4 _ s h t w H (by have := H.size; have := HS.size; rcases HS with ⟨-, e⟩ | ⟨-, e, -⟩; (have := congrArg List.length e; rw [List.length_cons, ← Lib.size_eq h, ← Lib.size_eq u] at this; omega); (subst e; omega))
    (fun w => (quot_zero _ h t w (fun w => by
      have := parts_ok 60 60 _ _ h t w (int_call 60 neg h u HS hu0 hu3 hud (by omega) (by omega)) (nat_call 60 t ht0 ht3 htd (by omega) (by omega))
      rw [hN] at this
      exact this)).mono fun _ _ h => ratRes_err h)

theorem parseI_text (K : Nat) (Z : Int) (s u : ByteArray) (neg : Bool) (w : World) (hno1 : (47 : UInt8) ∉ s.data.toList) (hno2 : (46 : UInt8) ∉ s.data.toList) (HS : Signed s neg u) (hu0 : 0 < u.size) (hu3 : u.size ≤ 300) (hud : allDig u) (hK0 : 0 < K) (huK : u.size ≤ 6 * K) (hZ : sv neg (numOf u.data.toList) = Z) :
    Calls Tryz.prog 38 #[.string s] w (RatRes 0 (ToldAs K K (Z : Rat)) w) :=
  parse_int K K Z s w hno1 hno2 hK0 (by subst hZ; exact int_call K neg s u HS hu0 hu3 hud hK0 huK)

theorem num32 : (mkRat 3 2).num = 3 ∧ (mkRat 3 2).den = 2 := by decide +kernel
theorem numM32 : (mkRat (-3) 2).num = -3 ∧ (mkRat (-3) 2).den = 2 := by decide +kernel
theorem floorM32 : (mkRat (-3) 2).floor = -2 := by decide +kernel
theorem str32 : ratStr (mkRat 3 2) = ⟨#[51, 47, 50]⟩ := by
  rw [ratStr, if_neg (by rw [num32.2]; decide), num32.1, num32.2, decI, if_neg (by decide), show (3 : Int).natAbs = 3 from rfl, dec_digit 3 51 (by omega) (by omega) rfl, dec_digit 2 50 (by omega) (by omega) rfl]; rfl
theorem strM32 : ratStr (mkRat (-3) 2) = ⟨#[45, 51, 47, 50]⟩ := by
  rw [ratStr, if_neg (by rw [numM32.2]; decide), numM32.1, numM32.2, decI, if_pos (by decide), show (-3 : Int).natAbs = 3 from rfl, dec_digit 3 51 (by omega) (by omega) rfl, dec_digit 2 50 (by omega) (by omega) rfl]; rfl
theorem decI_m2 : decI (-2) = ⟨#[45, 50]⟩ := by
  rw [decI, if_pos (by decide), show (-2 : Int).natAbs = 2 from rfl, dec_digit 2 50 (by omega) (by omega) rfl]; rfl

theorem lit_a (w : World) : Calls Tryz.prog 38 #[.string ⟨#[45, 49, 46, 53, 48]⟩] w (RatRes 0 (ToldAs 2 2 (mkRat (-3) 2)) w) :=
  parseD_ok 2 _ _ ⟨#[45, 49]⟩ ⟨#[53, 48]⟩ ⟨#[49]⟩ true w (by decide) ⟨by rfl, by decide⟩ (Or.inl ⟨rfl, rfl⟩) (by decide) (by decide) (allDig_of _ (by decide)) (by decide) (by decide) (allDig_of _ (by decide)) (by omega) (by omega) (by decide) (by decide +kernel)
theorem lit_b (w : World) : Calls Tryz.prog 38 #[.string ⟨#[54, 47, 52]⟩] w (RatRes 0 (ToldAs 2 2 (mkRat 3 2)) w) :=
  parseQ_ok 2 _ _ ⟨#[54]⟩ ⟨#[52]⟩ ⟨#[54]⟩ false w ⟨by rfl, by decide⟩ (Or.inr ⟨rfl, rfl, by decide⟩) (by decide) (by decide) (allDig_of _ (by decide)) (by decide) (by decide) (allDig_of _ (by decide)) (by omega) (by omega) (by decide) (by decide) (by decide) (by decide +kernel)
theorem lit_c (w : World) : Calls Tryz.prog 38 #[.string ⟨#[49, 47, 48]⟩] w (RatRes 4 NoneAs w) :=
  parseQ_zero _ ⟨#[49]⟩ ⟨#[48]⟩ ⟨#[49]⟩ false w ⟨by rfl, by decide⟩ (Or.inr ⟨rfl, rfl, by decide⟩) (by decide) (by decide) (allDig_of _ (by decide)) (by decide) (by decide) (allDig_of _ (by decide)) (by decide)

set_option maxHeartbeats 4000000 in
theorem awakeR (w : World) : Calls Tryz.prog 26 #[] w fun e w' => e = .returned (.bool true) ∧ Below w.heap.size w w' := by
  have HB := Lib.hid (Below.refl w.heap.size w)
  obtain ⟨p, hp⟩ : ∃ p, mkRat (-3) 2 = p := ⟨_, rfl⟩
  obtain ⟨q, hq⟩ : ∃ q, mkRat 3 2 = q := ⟨_, rfl⟩
  have PS := Lib.hid (show ratStr p = ⟨#[45, 51, 47, 50]⟩ by rw [← hp]; exact strM32)
  have QS := Lib.hid (show ratStr q = ⟨#[51, 47, 50]⟩ by rw [← hq]; exact str32)
  have PF := Lib.hid (show p.floor = -2 by rw [← hp]; exact floorM32)
  have PD := Lib.hid (show p.den ≠ 1 by rw [← hp, numM32.2]; decide)
  have CA : Hid (∀ w, Calls Tryz.prog 38 #[.string ⟨#[45, 49, 46, 53, 48]⟩] w (RatRes 0 (ToldAs 2 2 p) w)) := by show ∀ w, _; rw [← hp]; exact lit_a
  have CB : Hid (∀ w, Calls Tryz.prog 38 #[.string ⟨#[54, 47, 52]⟩] w (RatRes 0 (ToldAs 2 2 q) w)) := by show ∀ w, _; rw [← hq]; exact lit_b
  clear hp hq
  have LF := Lib.hid (show (decStr (-2 : Int).natAbs).size ≤ 1000 from dec_len (by rw [show (-2 : Int).natAbs = 2 from rfl]; exact limbs_small 2 12 (by omega) (by omega)) (by omega))
  go_enter Tryz.func26, Tryz.ntmps26
  go_wp2_with fail
  refine (CA.out _).mono ?_
  rintro e w1 ⟨sp, ap, np, cp, bp, mp, dp, xsp, ysp, rfl, hp, hr1, hr2, hb⟩
  obtain ⟨rfl, hnp, hmp, rfl, rfl⟩ := hp
  have hb1 := below_one w1 (.cells #[.bool (decide (p.num < 0)), .slice ap np cp, .slice bp mp dp] 26)
  have XP : Hid (Tri _ w1.heap.size (.bool (decide (p.num < 0))) (.slice ap np cp) (.slice bp mp dp)) := tri_new w1 (.bool (decide (p.num < 0))) (.slice ap np cp) (.slice bp mp dp)
  have RP1 := Lib.hid (hr1.later hb1)
  have RP2 := Lib.hid (hr2.later hb1)
  replace HB := Lib.hid (bthen (bthen HB.out hb) hb1)
  clear hr1 hr2 hb hb1
  go_wp2_with fail
  refine (CB.out _).mono ?_
  rintro e w2 ⟨sq, aq, nq, cq, bq, mq, dq, xsq, ysq, rfl, hp, hr1, hr2, hb⟩
  obtain ⟨rfl, hnq, hmq, rfl, rfl⟩ := hp
  replace RP1 := Lib.hid (RP1.out.later hb)
  replace RP2 := Lib.hid (RP2.out.later hb)
  replace XP := Lib.hid (XP.out.later hb)
  replace HB := Lib.hid (bthen HB.out hb)
  have hb1 := below_one w2 (.cells #[.bool (decide (q.num < 0)), .slice aq nq cq, .slice bq mq dq] 26)
  have XQ : Hid (Tri _ w2.heap.size (.bool (decide (q.num < 0))) (.slice aq nq cq) (.slice bq mq dq)) := tri_new w2 (.bool (decide (q.num < 0))) (.slice aq nq cq) (.slice bq mq dq)
  have RQ1 := Lib.hid (hr1.later hb1)
  have RQ2 := Lib.hid (hr2.later hb1)
  clear hr1 hr2 hb
  replace RP1 := Lib.hid (RP1.out.later hb1)
  replace RP2 := Lib.hid (RP2.out.later hb1)
  replace XP := Lib.hid (XP.out.later hb1)
  replace HB := Lib.hid (bthen HB.out hb1)
  clear hb1
  go_wp2_with fail
  refine (lit_c _).mono ?_
  rintro e w3 ⟨sz, az, nz, cz, bz, mz, dz, xsz, ysz, rfl, hp, hr1, hr2, hb⟩
  obtain ⟨rfl, rfl, rfl, rfl, rfl⟩ := hp
  clear hr1 hr2
  replace RP1 := Lib.hid (RP1.out.later hb)
  replace RP2 := Lib.hid (RP2.out.later hb)
  replace RQ1 := Lib.hid (RQ1.out.later hb)
  replace RQ2 := Lib.hid (RQ2.out.later hb)
  replace XP := Lib.hid (XP.out.later hb)
  replace XQ := Lib.hid (XQ.out.later hb)
  replace HB := Lib.hid (bthen HB.out hb)
  have hb1 := below_one w3 (.cells #[.bool false, .slice az 0 cz, .slice bz 0 dz] 26)
  clear hb
  replace RP1 := Lib.hid (RP1.out.later hb1)
  replace RP2 := Lib.hid (RP2.out.later hb1)
  replace RQ1 := Lib.hid (RQ1.out.later hb1)
  replace RQ2 := Lib.hid (RQ2.out.later hb1)
  replace XP := Lib.hid (XP.out.later hb1)
  replace XQ := Lib.hid (XQ.out.later hb1)
  replace HB := Lib.hid (bthen HB.out hb1)
  clear hb1
  obtain ⟨kXP0, kXP1, kXP2, -, -, -, -⟩ := XP.out
  obtain ⟨kXQ0, kXQ1, kXQ2, -, -, -, -⟩ := XQ.out
  go_wp2_with fail
  refine (printR _ p RP1.out RP2.out (rat_limbs p) (by omega) (by omega) PS.out).mono ?_
  rintro e w4 ⟨rfl, hb⟩
  replace RP1 := Lib.hid (RP1.out.later hb)
  replace RP2 := Lib.hid (RP2.out.later hb)
  replace RQ1 := Lib.hid (RQ1.out.later hb)
  replace RQ2 := Lib.hid (RQ2.out.later hb)
  replace XP := Lib.hid (XP.out.later hb)
  replace XQ := Lib.hid (XQ.out.later hb)
  replace HB := Lib.hid (bthen HB.out hb)
  clear hb
  clear kXP0 kXP1 kXP2 kXQ0 kXQ1 kXQ2
  obtain ⟨kXP0, kXP1, kXP2, -, -, -, -⟩ := XP.out
  obtain ⟨kXQ0, kXQ1, kXQ2, -, -, -, -⟩ := XQ.out
  go_wp2_with fail
  refine (printR _ q RQ1.out RQ2.out (rat_limbs q) (by omega) (by omega) QS.out).mono ?_
  rintro e w5 ⟨rfl, hb⟩
  clear RQ1
  clear RQ2
  clear XQ
  replace RP1 := Lib.hid (RP1.out.later hb)
  replace RP2 := Lib.hid (RP2.out.later hb)
  replace XP := Lib.hid (XP.out.later hb)
  replace HB := Lib.hid (bthen HB.out hb)
  clear hb
  clear kXP0 kXP1 kXP2 kXQ0 kXQ1 kXQ2
  obtain ⟨kXP0, kXP1, kXP2, -, -, -, -⟩ := XP.out
  go_wp2_with fail
  refine (floorR 2 p RP1.out RP2.out (rat_limbs p) (by omega) (by omega) (by omega) (by omega)).mono ?_
  rintro e w6 ⟨af, nf, cf, rfl, hnf, hr, hb⟩
  replace RP1 := Lib.hid (RP1.out.later hb)
  replace RP2 := Lib.hid (RP2.out.later hb)
  replace XP := Lib.hid (XP.out.later hb)
  replace HB := Lib.hid (bthen HB.out hb)
  clear hb
  clear kXP0 kXP1 kXP2
  rw [PF.out] at hr ⊢
  have RF := Lib.hid hr; clear hr
  obtain ⟨kXP0, kXP1, kXP2, -, -, -, -⟩ := XP.out
  go_wp2_with fail
  refine (rprintI _ (-2) _ _ _ _ _ _ RF.out (by omega) (sv_limbs _) decI_m2 LF.out).mono ?_
  rintro e w7 ⟨rfl, hb⟩
  clear RF
  replace RP1 := Lib.hid (RP1.out.later hb)
  replace RP2 := Lib.hid (RP2.out.later hb)
  replace XP := Lib.hid (XP.out.later hb)
  replace HB := Lib.hid (bthen HB.out hb)
  clear hb
  clear kXP0 kXP1 kXP2
  obtain ⟨kXP0, kXP1, kXP2, -, -, -, -⟩ := XP.out
  go_wp2_with fail
  refine (wholeR_no p RP1.out RP2.out (rat_limbs p) (by omega) (by omega) PD.out).mono ?_
  rintro e w8 ⟨rfl, hb⟩
  clear RP1
  clear RP2
  replace XP := Lib.hid (XP.out.later hb)
  replace HB := Lib.hid (bthen HB.out hb)
  clear hb
  clear kXP0 kXP1 kXP2
  obtain ⟨kXP0, kXP1, kXP2, -, -, -, -⟩ := XP.out
  go_wp2
  go_ret
  exact ⟨rfl, HB.out⟩

end Go.Proofs.YtnnoicjnggoffaaGreat
/- What is printed is parsed. -/
namespace Go.Proofs.YtnnoicjnggoffaaGreat
set_option linter.unusedVariables false
set_option linter.unusedSimpArgs false
set_option maxRecDepth 100000
open Go.RowKit Nums

theorem dig_not {t : ByteArray} {c : UInt8} (hd : allDig t) (hc : c = 47 ∨ c = 46) : c ∉ t.data.toList := by
  intro h
  have h2 := digs_list t hd c h
  rcases hc with rfl | rfl
  · exact absurd h2.1 (by decide)
  · exact absurd h2.1 (by decide)

theorem decI_not (Z : Int) {c : UInt8} (hc : c = 47 ∨ c = 46) : c ∉ (decI Z).data.toList := by
  unfold decI
  split
  · rw [ByteArray.data_append, Array.toList_append]
    intro h
    rcases List.mem_append.1 h with h | h
    · have : c = 45 := by simpa using h
      rcases hc with rfl | rfl <;> exact absurd this (by decide)
    · exact dig_not (allDig_dec _) hc h
  · exact dig_not (allDig_dec _) hc

/-- what is printed is parsed -/
theorem backR (q : Rat) (hn : (limbs q.num.natAbs).length ≤ 12) (hd : (limbs q.den).length ≤ 12) (w : World) : Calls Tryz.prog 38 #[.string (ratStr q)] w (RatRes 0 (ToldAs 20 20 q) w) := by
  have l1 := dec_len (k := 116) hn (by omega)
  have l2 := dec_len (k := 116) hd (by omega)
  have p1 := size_dec_pos q.num.natAbs
  have p2 := size_dec_pos q.den
  have e1 : sv (decide (q.num < 0)) (numOf (decStr q.num.natAbs).data.toList) = q.num := by rw [numOf_dec, sv_told]
  by_cases h : q.den = 1
  · have e : ((q.num : Int) : Rat) = q := Rat.ext (by rw [Rat.num_intCast]) (by rw [Rat.den_intCast, h])
    have := parseI_text 20 q.num (ratStr q) (decStr q.num.natAbs) (decide (q.num < 0)) w (by rw [ratStr, if_pos h]; exact decI_not _ (Or.inl rfl)) (by rw [ratStr, if_pos h]; exact decI_not _ (Or.inr rfl)) (by rw [ratStr, if_pos h]; exact signed_dec _) p1 (by omega) (allDig_dec _) (by omega) (by omega) e1
    rw [e] at this
    exact this
  · refine parseQ_ok 20 q (ratStr q) (decI q.num) (decStr q.den) (decStr q.num.natAbs) (decide (q.num < 0)) w ⟨?_, decI_not _ (Or.inl rfl)⟩ (signed_dec _) p1 (by omega) (allDig_dec _) p2 (by omega) (allDig_dec _) (by omega) (by omega) (by omega) (by omega) (by rw [numOf_dec]; exact q.den_pos) (by rw [e1, numOf_dec, Rat.mkRat_self])
    rw [ratStr, if_neg h, ByteArray.data_append, Array.toList_append, ByteArray.data_append, Array.toList_append]
    rfl

theorem floor_eq {q : Rat} (h : q.den = 1) : ((q.floor : Int) : Rat) = q := by
  have e : ((q.num : Int) : Rat) = q := Rat.ext (by rw [Rat.num_intCast]) (by rw [Rat.den_intCast, h])
  rw [← e, Rat.floor_intCast]
theorem floor_lt {q : Rat} (h : q.den ≠ 1) : ((q.floor : Int) : Rat) < q := by
  refine Rat.lt_iff_le_and_ne.2 ⟨Rat.floor_le q, fun e => h ?_⟩
  rw [← e, Rat.den_intCast]

theorem one_raw (F : Int) : mkRat (sv (decide (F < 0)) (val (limbs F.natAbs))) (val (limbs 1)) = (F : Rat) := by
  rw [sv_limbs, val_limbs, Rat.mkRat_one]

theorem cell_new (w : World) (vs : Array Value) (T i : Nat) : (w.alloc (.cells vs T)).cell? ⟨w.heap.size, i, none⟩ = vs[i]? := by
  have h := cell_of_row (w.alloc (.cells vs T)) w.heap.size i vs T (0, 0) (heap_alloc_new w (.cells vs T))
  exact h

end Go.Proofs.YtnnoicjnggoffaaGreat
/- A number that came in: a side and two rows. -/
namespace Go.Proofs.YtnnoicjnggoffaaGreat
set_option linter.unusedVariables false
set_option linter.unusedSimpArgs false
set_option maxRecDepth 100000
open Go.ChangeShapes Go.WideShapes Go.ChangeAt Go.RowKit Nums Go.Joins

theorem rat_of_trod {H : Type} {enc : TypeId × Value → H} {r : Reach} {b0 : Nat} {W : World} {v : Value} {d : DataW H} {p : List MemPlace} {base : Nat}
    (hv : Value.okWide Tryz.prog W r b0 26 v) (h : DataW.Trod enc Tryz.prog W base (fun _ => true) true 26 v d p) : ∃ s a n c b m e xs ys, v = .agg #[.bool s, .slice a n c, .slice b m e] ∧ Row W a n c xs ∧ Row W b m e ys := by
  obtain ⟨cs, rfl, hsz⟩ := okWide_struct Tryz.underlying26 hv
  have e3 : Tryz.prog.cellsOf 26 = 3 := by kernel_rfl
  have e2 : Tryz.prog.cellsOf 24 = 2 := by kernel_rfl
  have e1 : Tryz.prog.cellsOf 22 = 1 := by kernel_rfl
  have e0 : Tryz.prog.cellsOf 4 = 1 := by kernel_rfl
  obtain ⟨c0, c1, c2, rfl⟩ := array3 (hsz.trans e3)
  obtain ⟨fuel, hf⟩ := h
  obtain ⟨y0, y1, n, hx, _, h0, h1⟩ := trod_struct2 Tryz.underlying26 hf
  have h0' : DataW.trod enc Tryz.prog W base (fun _ => true) true n 24 [c0, c1] = some y0 := by simpa [Value.cells, e2] using h0
  have h1' : DataW.trod enc Tryz.prog W base (fun _ => true) true n 22 [c2] = some y1 := by simpa [Value.cells, e1] using h1
  obtain ⟨z0, z1, n', hx', _, h00, h01⟩ := trod_struct2 Tryz.underlying24 h0'
  have h00' : DataW.trod enc Tryz.prog W base (fun _ => true) true n' 4 [c0] = some z0 := by simpa [e0] using h00
  have h01' : DataW.trod enc Tryz.prog W base (fun _ => true) true n' 22 [c1] = some z1 := by simpa [e1] using h01
  obtain ⟨s, hs, -⟩ := DataW.trod_bool Tryz.underlying4 h00'
  obtain rfl : c0 = .bool s := by simpa using hs
  have hrow : ∀ {k : Nat} {c : Value} {y : DataW H × List MemPlace}, DataW.trod enc Tryz.prog W base (fun _ => true) true k 22 [c] = some y → ∃ a n m zs, c = .slice a n m ∧ IsRow .u32 W a n m zs := by
    intro k c y hy
    rcases open_ints Tryz.underlying22 Tryz.underlying49 (by kernel_rfl) hy with ⟨hcs, _⟩ | ⟨x, l, m, zs, hcs, _, hl, hm, hz, _, hcell, hwz⟩
    · exact ⟨none, 0, 0, [], by simpa using hcs, .inl ⟨rfl, rfl, rfl, rfl⟩⟩
    · exact ⟨some x, l, m, zs, by simpa using hcs, .inr ⟨_, rfl, hl, hm, by simpa using hz, hcell, hwz⟩⟩
  obtain ⟨a, n1, c', zs, rfl, hr⟩ := hrow h01'
  obtain ⟨b, m1, e', zs', rfl, hr'⟩ := hrow h1'
  obtain ⟨xs, hx1⟩ := row_of_isrow hr
  obtain ⟨ys, hy1⟩ := row_of_isrow hr'
  exact ⟨s, a, n1, c', b, m1, e', xs, ys, rfl, hx1, hy1⟩

end Go.Proofs.YtnnoicjnggoffaaGreat
