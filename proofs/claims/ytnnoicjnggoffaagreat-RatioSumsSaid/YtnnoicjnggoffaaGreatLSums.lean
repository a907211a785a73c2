/- RatioSums holds: the program's sums, differences, products, quotients, opposites and orders of any two fractions are the document's, and so are the fractions as they are told. No condition. -/
import Derived.Test.YtnnoicjnggoffaaGreatQG
import Derived.Test.YtnnoicjnggoffaaGreatQD
import Derived.Test.YtnnoicjnggoffaaGreatQK
import Derived.Test.YtnnoicjnggoffaaGreatQN
import Derived.Test.YtnnoicjnggoffaaGreatQM
import Derived.Deep.RegionHeld3
import Derived.Deep.DeepCutAuto
import Derived.ProofKit
import Derived.OpenShut
import Derived.ShutString
import Derived.ChangeOld
namespace Go.Proofs.YtnnoicjnggoffaaGreat
set_option linter.unusedVariables false
set_option linter.unusedSimpArgs false
set_option maxRecDepth 100000
open Go.RowKit Nums

theorem sameNone (w : World) : Calls Tryz.prog 13 #[.agg #[.bool false, .slice none 0 0, .slice none 0 0], .agg #[.bool false, .slice none 0 0, .slice none 0 0]] w fun e w' => e = .returned (.bool true) ∧ Below w.heap.size w w' :=
  lsameR true (rsameR_yes (row_nil _) (row_nil _) (row_nil _) (row_nil _) (by omega) (by omega) (by omega) (by omega) rfl rfl rfl)

end Go.Proofs.YtnnoicjnggoffaaGreat
/- RatioSums, where a number is long. -/
namespace Go.Proofs.YtnnoicjnggoffaaGreat
set_option linter.unusedVariables false
set_option linter.unusedSimpArgs false
set_option maxRecDepth 100000
open Go.RowKit Nums

set_option maxHeartbeats 4000000 in
theorem ratioSums_out0n (s0 s1 : Bool) (a0 b0 a1 b1 : Option Addr) (n0 c0 m0 d0 n1 c1 m1 d1 : Nat) (w : World) (hbad : 4 < n0) :
    Calls Tryz.prog 3 #[.agg #[.bool s0, .slice a0 n0 c0, .slice b0 m0 d0], .agg #[.bool s1, .slice a1 n1 c1, .slice b1 m1 d1]] w fun e w' => e = .returned (.bool true) ∧ Below w.heap.size w w' := by
  have HB := Lib.hid (below_three w (.cells #[.bool s0, .slice a0 n0 c0, .slice b0 m0 d0] 26) (.cells #[.bool s1, .slice a1 n1 c1, .slice b1 m1 d1] 26) (.cells #[.bool s0, .slice a0 n0 c0, .slice b0 m0 d0, .bool s1, .slice a1 n1 c1, .slice b1 m1 d1] 26))
  have ka0 := cell_new ((w.alloc (.cells #[.bool s0, .slice a0 n0 c0, .slice b0 m0 d0] 26)).alloc (.cells #[.bool s1, .slice a1 n1 c1, .slice b1 m1 d1] 26)) #[.bool s0, .slice a0 n0 c0, .slice b0 m0 d0, .bool s1, .slice a1 n1 c1, .slice b1 m1 d1] 26 1
  have kb0 := cell_new ((w.alloc (.cells #[.bool s0, .slice a0 n0 c0, .slice b0 m0 d0] 26)).alloc (.cells #[.bool s1, .slice a1 n1 c1, .slice b1 m1 d1] 26)) #[.bool s0, .slice a0 n0 c0, .slice b0 m0 d0, .bool s1, .slice a1 n1 c1, .slice b1 m1 d1] 26 2
  have ka1 := cell_new ((w.alloc (.cells #[.bool s0, .slice a0 n0 c0, .slice b0 m0 d0] 26)).alloc (.cells #[.bool s1, .slice a1 n1 c1, .slice b1 m1 d1] 26)) #[.bool s0, .slice a0 n0 c0, .slice b0 m0 d0, .bool s1, .slice a1 n1 c1, .slice b1 m1 d1] 26 4
  have kb1 := cell_new ((w.alloc (.cells #[.bool s0, .slice a0 n0 c0, .slice b0 m0 d0] 26)).alloc (.cells #[.bool s1, .slice a1 n1 c1, .slice b1 m1 d1] 26)) #[.bool s0, .slice a0 n0 c0, .slice b0 m0 d0, .bool s1, .slice a1 n1 c1, .slice b1 m1 d1] 26 5
  rw [show ((w.alloc (.cells #[.bool s0, .slice a0 n0 c0, .slice b0 m0 d0] 26)).alloc (.cells #[.bool s1, .slice a1 n1 c1, .slice b1 m1 d1] 26)).heap.size = w.heap.size + 1 + 1 from by simp] at ka0 kb0 ka1 kb1
  go_enter Tryz.func3, Tryz.ntmps3
  go_wp2_with fail
  refine (few2_no0n (w.heap.size + 1 + 1) a0 b0 n0 c0 m0 d0 a1 b1 n1 c1 m1 d1 _ ka0 kb0 ka1 kb1 hbad).mono ?_
  rintro e w' ⟨rfl, rfl⟩
  go_wp2
  go_ret
  exact ⟨rfl, HB.out⟩

set_option maxHeartbeats 4000000 in
theorem ratioSums_out0m (s0 s1 : Bool) (a0 b0 a1 b1 : Option Addr) (n0 c0 m0 d0 n1 c1 m1 d1 : Nat) (w : World) (hn0 : n0 ≤ 4) (hbad : 4 < m0) :
    Calls Tryz.prog 3 #[.agg #[.bool s0, .slice a0 n0 c0, .slice b0 m0 d0], .agg #[.bool s1, .slice a1 n1 c1, .slice b1 m1 d1]] w fun e w' => e = .returned (.bool true) ∧ Below w.heap.size w w' := by
  have HB := Lib.hid (below_three w (.cells #[.bool s0, .slice a0 n0 c0, .slice b0 m0 d0] 26) (.cells #[.bool s1, .slice a1 n1 c1, .slice b1 m1 d1] 26) (.cells #[.bool s0, .slice a0 n0 c0, .slice b0 m0 d0, .bool s1, .slice a1 n1 c1, .slice b1 m1 d1] 26))
  have ka0 := cell_new ((w.alloc (.cells #[.bool s0, .slice a0 n0 c0, .slice b0 m0 d0] 26)).alloc (.cells #[.bool s1, .slice a1 n1 c1, .slice b1 m1 d1] 26)) #[.bool s0, .slice a0 n0 c0, .slice b0 m0 d0, .bool s1, .slice a1 n1 c1, .slice b1 m1 d1] 26 1
  have kb0 := cell_new ((w.alloc (.cells #[.bool s0, .slice a0 n0 c0, .slice b0 m0 d0] 26)).alloc (.cells #[.bool s1, .slice a1 n1 c1, .slice b1 m1 d1] 26)) #[.bool s0, .slice a0 n0 c0, .slice b0 m0 d0, .bool s1, .slice a1 n1 c1, .slice b1 m1 d1] 26 2
  have ka1 := cell_new ((w.alloc (.cells #[.bool s0, .slice a0 n0 c0, .slice b0 m0 d0] 26)).alloc (.cells #[.bool s1, .slice a1 n1 c1, .slice b1 m1 d1] 26)) #[.bool s0, .slice a0 n0 c0, .slice b0 m0 d0, .bool s1, .slice a1 n1 c1, .slice b1 m1 d1] 26 4
  have kb1 := cell_new ((w.alloc (.cells #[.bool s0, .slice a0 n0 c0, .slice b0 m0 d0] 26)).alloc (.cells #[.bool s1, .slice a1 n1 c1, .slice b1 m1 d1] 26)) #[.bool s0, .slice a0 n0 c0, .slice b0 m0 d0, .bool s1, .slice a1 n1 c1, .slice b1 m1 d1] 26 5
  rw [show ((w.alloc (.cells #[.bool s0, .slice a0 n0 c0, .slice b0 m0 d0] 26)).alloc (.cells #[.bool s1, .slice a1 n1 c1, .slice b1 m1 d1] 26)).heap.size = w.heap.size + 1 + 1 from by simp] at ka0 kb0 ka1 kb1
  go_enter Tryz.func3, Tryz.ntmps3
  go_wp2_with fail
  refine (few2_no0m (w.heap.size + 1 + 1) a0 b0 n0 c0 m0 d0 a1 b1 n1 c1 m1 d1 _ ka0 kb0 ka1 kb1 hn0 hbad).mono ?_
  rintro e w' ⟨rfl, rfl⟩
  go_wp2
  go_ret
  exact ⟨rfl, HB.out⟩

set_option maxHeartbeats 4000000 in
theorem ratioSums_out1n (s0 s1 : Bool) (a0 b0 a1 b1 : Option Addr) (n0 c0 m0 d0 n1 c1 m1 d1 : Nat) (w : World) (hn0 : n0 ≤ 4) (hm0 : m0 ≤ 4) (hbad : 4 < n1) :
    Calls Tryz.prog 3 #[.agg #[.bool s0, .slice a0 n0 c0, .slice b0 m0 d0], .agg #[.bool s1, .slice a1 n1 c1, .slice b1 m1 d1]] w fun e w' => e = .returned (.bool true) ∧ Below w.heap.size w w' := by
  have HB := Lib.hid (below_three w (.cells #[.bool s0, .slice a0 n0 c0, .slice b0 m0 d0] 26) (.cells #[.bool s1, .slice a1 n1 c1, .slice b1 m1 d1] 26) (.cells #[.bool s0, .slice a0 n0 c0, .slice b0 m0 d0, .bool s1, .slice a1 n1 c1, .slice b1 m1 d1] 26))
  have ka0 := cell_new ((w.alloc (.cells #[.bool s0, .slice a0 n0 c0, .slice b0 m0 d0] 26)).alloc (.cells #[.bool s1, .slice a1 n1 c1, .slice b1 m1 d1] 26)) #[.bool s0, .slice a0 n0 c0, .slice b0 m0 d0, .bool s1, .slice a1 n1 c1, .slice b1 m1 d1] 26 1
  have kb0 := cell_new ((w.alloc (.cells #[.bool s0, .slice a0 n0 c0, .slice b0 m0 d0] 26)).alloc (.cells #[.bool s1, .slice a1 n1 c1, .slice b1 m1 d1] 26)) #[.bool s0, .slice a0 n0 c0, .slice b0 m0 d0, .bool s1, .slice a1 n1 c1, .slice b1 m1 d1] 26 2
  have ka1 := cell_new ((w.alloc (.cells #[.bool s0, .slice a0 n0 c0, .slice b0 m0 d0] 26)).alloc (.cells #[.bool s1, .slice a1 n1 c1, .slice b1 m1 d1] 26)) #[.bool s0, .slice a0 n0 c0, .slice b0 m0 d0, .bool s1, .slice a1 n1 c1, .slice b1 m1 d1] 26 4
  have kb1 := cell_new ((w.alloc (.cells #[.bool s0, .slice a0 n0 c0, .slice b0 m0 d0] 26)).alloc (.cells #[.bool s1, .slice a1 n1 c1, .slice b1 m1 d1] 26)) #[.bool s0, .slice a0 n0 c0, .slice b0 m0 d0, .bool s1, .slice a1 n1 c1, .slice b1 m1 d1] 26 5
  rw [show ((w.alloc (.cells #[.bool s0, .slice a0 n0 c0, .slice b0 m0 d0] 26)).alloc (.cells #[.bool s1, .slice a1 n1 c1, .slice b1 m1 d1] 26)).heap.size = w.heap.size + 1 + 1 from by simp] at ka0 kb0 ka1 kb1
  go_enter Tryz.func3, Tryz.ntmps3
  go_wp2_with fail
  refine (few2_no1n (w.heap.size + 1 + 1) a0 b0 n0 c0 m0 d0 a1 b1 n1 c1 m1 d1 _ ka0 kb0 ka1 kb1 hn0 hm0 hbad).mono ?_
  rintro e w' ⟨rfl, rfl⟩
  go_wp2
  go_ret
  exact ⟨rfl, HB.out⟩

set_option maxHeartbeats 4000000 in
theorem ratioSums_out1m (s0 s1 : Bool) (a0 b0 a1 b1 : Option Addr) (n0 c0 m0 d0 n1 c1 m1 d1 : Nat) (w : World) (hn0 : n0 ≤ 4) (hm0 : m0 ≤ 4) (hn1 : n1 ≤ 4) (hbad : 4 < m1) :
    Calls Tryz.prog 3 #[.agg #[.bool s0, .slice a0 n0 c0, .slice b0 m0 d0], .agg #[.bool s1, .slice a1 n1 c1, .slice b1 m1 d1]] w fun e w' => e = .returned (.bool true) ∧ Below w.heap.size w w' := by
  have HB := Lib.hid (below_three w (.cells #[.bool s0, .slice a0 n0 c0, .slice b0 m0 d0] 26) (.cells #[.bool s1, .slice a1 n1 c1, .slice b1 m1 d1] 26) (.cells #[.bool s0, .slice a0 n0 c0, .slice b0 m0 d0, .bool s1, .slice a1 n1 c1, .slice b1 m1 d1] 26))
  have ka0 := cell_new ((w.alloc (.cells #[.bool s0, .slice a0 n0 c0, .slice b0 m0 d0] 26)).alloc (.cells #[.bool s1, .slice a1 n1 c1, .slice b1 m1 d1] 26)) #[.bool s0, .slice a0 n0 c0, .slice b0 m0 d0, .bool s1, .slice a1 n1 c1, .slice b1 m1 d1] 26 1
  have kb0 := cell_new ((w.alloc (.cells #[.bool s0, .slice a0 n0 c0, .slice b0 m0 d0] 26)).alloc (.cells #[.bool s1, .slice a1 n1 c1, .slice b1 m1 d1] 26)) #[.bool s0, .slice a0 n0 c0, .slice b0 m0 d0, .bool s1, .slice a1 n1 c1, .slice b1 m1 d1] 26 2
  have ka1 := cell_new ((w.alloc (.cells #[.bool s0, .slice a0 n0 c0, .slice b0 m0 d0] 26)).alloc (.cells #[.bool s1, .slice a1 n1 c1, .slice b1 m1 d1] 26)) #[.bool s0, .slice a0 n0 c0, .slice b0 m0 d0, .bool s1, .slice a1 n1 c1, .slice b1 m1 d1] 26 4
  have kb1 := cell_new ((w.alloc (.cells #[.bool s0, .slice a0 n0 c0, .slice b0 m0 d0] 26)).alloc (.cells #[.bool s1, .slice a1 n1 c1, .slice b1 m1 d1] 26)) #[.bool s0, .slice a0 n0 c0, .slice b0 m0 d0, .bool s1, .slice a1 n1 c1, .slice b1 m1 d1] 26 5
  rw [show ((w.alloc (.cells #[.bool s0, .slice a0 n0 c0, .slice b0 m0 d0] 26)).alloc (.cells #[.bool s1, .slice a1 n1 c1, .slice b1 m1 d1] 26)).heap.size = w.heap.size + 1 + 1 from by simp] at ka0 kb0 ka1 kb1
  go_enter Tryz.func3, Tryz.ntmps3
  go_wp2_with fail
  refine (few2_no1m (w.heap.size + 1 + 1) a0 b0 n0 c0 m0 d0 a1 b1 n1 c1 m1 d1 _ ka0 kb0 ka1 kb1 hn0 hm0 hn1 hbad).mono ?_
  rintro e w' ⟨rfl, rfl⟩
  go_wp2
  go_ret
  exact ⟨rfl, HB.out⟩

end Go.Proofs.YtnnoicjnggoffaaGreat
/- RatioSums, by nought. -/
namespace Go.Proofs.YtnnoicjnggoffaaGreat
set_option linter.unusedVariables false
set_option linter.unusedSimpArgs false
set_option maxRecDepth 100000
open Go.RowKit Nums

set_option maxHeartbeats 16000000 in
theorem ratioSums_z (p q : Rat) {s0 s1 : Bool} {a0 b0 a1 b1 : Option Addr} {n0 c0 m0 d0 n1 c1 m1 d1 : Nat} {xs0 ys0 xs1 ys1 : List Nat} {w : World} (h00 : Row w a0 n0 c0 xs0) (h01 : Row w b0 m0 d0 ys0) (hq0 : mkRat (sv s0 (val xs0)) (val ys0) = p) (hn0 : n0 ≤ 4) (hm0 : m0 ≤ 4) (h10 : Row w a1 n1 c1 xs1) (h11 : Row w b1 m1 d1 ys1) (hq1 : mkRat (sv s1 (val xs1)) (val ys1) = q) (hn1 : n1 ≤ 4) (hm1 : m1 ≤ 4) (hz : q = 0) :
    Calls Tryz.prog 3 #[.agg #[.bool s0, .slice a0 n0 c0, .slice b0 m0 d0], .agg #[.bool s1, .slice a1 n1 c1, .slice b1 m1 d1]] w fun e w' => e = .returned (.bool true) ∧ Below w.heap.size w w' := by
  obtain ⟨sm, esm⟩ : ∃ z : Rat, p + q = z := ⟨_, rfl⟩
  obtain ⟨sb, esb⟩ : ∃ z : Rat, p - q = z := ⟨_, rfl⟩
  obtain ⟨pm, epm⟩ : ∃ z : Rat, p * q = z := ⟨_, rfl⟩
  obtain ⟨ng, eng⟩ : ∃ z : Rat, -p = z := ⟨_, rfl⟩
  have enn : p = -ng := by rw [← eng, Rat.neg_neg]
  obtain ⟨T, hT⟩ : ∃ T, cmpR p q = T := ⟨_, rfl⟩
  have ESM := Lib.hid esm; clear esm
  have ESB := Lib.hid esb; clear esb
  have EPM := Lib.hid epm; clear epm
  have ENG := Lib.hid eng; clear eng
  have ENN := Lib.hid enn; clear enn
  have HT := Lib.hid hT; clear hT
  have HZ := Lib.hid hz; clear hz
  have HB := Lib.hid (below_three w (.cells #[.bool s0, .slice a0 n0 c0, .slice b0 m0 d0] 26) (.cells #[.bool s1, .slice a1 n1 c1, .slice b1 m1 d1] 26) (.cells #[.bool s0, .slice a0 n0 c0, .slice b0 m0 d0, .bool s1, .slice a1 n1 c1, .slice b1 m1 d1] 26))
  have T0 : Hid (Tri (((w.alloc (.cells #[.bool s0, .slice a0 n0 c0, .slice b0 m0 d0] 26)).alloc (.cells #[.bool s1, .slice a1 n1 c1, .slice b1 m1 d1] 26)).alloc (.cells #[.bool s0, .slice a0 n0 c0, .slice b0 m0 d0, .bool s1, .slice a1 n1 c1, .slice b1 m1 d1] 26)) (w.heap.size) (.bool s0) (.slice a0 n0 c0) (.slice b0 m0 d0)) := (((tri_new w (.bool s0) (.slice a0 n0 c0) (.slice b0 m0 d0)).alloc _).alloc _)
  have T1 : Hid (Tri (((w.alloc (.cells #[.bool s0, .slice a0 n0 c0, .slice b0 m0 d0] 26)).alloc (.cells #[.bool s1, .slice a1 n1 c1, .slice b1 m1 d1] 26)).alloc (.cells #[.bool s0, .slice a0 n0 c0, .slice b0 m0 d0, .bool s1, .slice a1 n1 c1, .slice b1 m1 d1] 26)) (w.heap.size + 1) (.bool s1) (.slice a1 n1 c1) (.slice b1 m1 d1)) := ((tri_newE (by simp)).alloc _)
  have ka0 := cell_new ((w.alloc (.cells #[.bool s0, .slice a0 n0 c0, .slice b0 m0 d0] 26)).alloc (.cells #[.bool s1, .slice a1 n1 c1, .slice b1 m1 d1] 26)) #[.bool s0, .slice a0 n0 c0, .slice b0 m0 d0, .bool s1, .slice a1 n1 c1, .slice b1 m1 d1] 26 1
  have kb0 := cell_new ((w.alloc (.cells #[.bool s0, .slice a0 n0 c0, .slice b0 m0 d0] 26)).alloc (.cells #[.bool s1, .slice a1 n1 c1, .slice b1 m1 d1] 26)) #[.bool s0, .slice a0 n0 c0, .slice b0 m0 d0, .bool s1, .slice a1 n1 c1, .slice b1 m1 d1] 26 2
  have ka1 := cell_new ((w.alloc (.cells #[.bool s0, .slice a0 n0 c0, .slice b0 m0 d0] 26)).alloc (.cells #[.bool s1, .slice a1 n1 c1, .slice b1 m1 d1] 26)) #[.bool s0, .slice a0 n0 c0, .slice b0 m0 d0, .bool s1, .slice a1 n1 c1, .slice b1 m1 d1] 26 4
  have kb1 := cell_new ((w.alloc (.cells #[.bool s0, .slice a0 n0 c0, .slice b0 m0 d0] 26)).alloc (.cells #[.bool s1, .slice a1 n1 c1, .slice b1 m1 d1] 26)) #[.bool s0, .slice a0 n0 c0, .slice b0 m0 d0, .bool s1, .slice a1 n1 c1, .slice b1 m1 d1] 26 5
  rw [show ((w.alloc (.cells #[.bool s0, .slice a0 n0 c0, .slice b0 m0 d0] 26)).alloc (.cells #[.bool s1, .slice a1 n1 c1, .slice b1 m1 d1] 26)).heap.size = w.heap.size + 1 + 1 from by simp] at ka0 kb0 ka1 kb1
  have R00 := Lib.hid (h00.later HB.out); clear h00
  have R01 := Lib.hid (h01.later HB.out); clear h01
  have HQ0 := Lib.hid hq0; clear hq0
  have R10 := Lib.hid (h10.later HB.out); clear h10
  have R11 := Lib.hid (h11.later HB.out); clear h11
  have HQ1 := Lib.hid hq1; clear hq1
  go_enter Tryz.func3, Tryz.ntmps3
  go_wp2_with fail
  refine (few2_yes (w.heap.size + 1 + 1) a0 b0 n0 c0 m0 d0 a1 b1 n1 c1 m1 d1 _ ka0 kb0 ka1 kb1 hn0 hm0 hn1 hm1).mono ?_
  rintro e w0 ⟨rfl, rfl⟩
  clear ka0 kb0 ka1 kb1
  obtain ⟨kT00, kT01, kT02, -, -, -, -⟩ := T0.out
  obtain ⟨kT10, kT11, kT12, -, -, -, -⟩ := T1.out
  go_wp2_with fail
  refine (divR_zero p q R00.out R01.out R10.out R11.out HQ0.out HQ1.out (by omega) (by omega) (by omega) (by omega) HZ.out).mono ?_
  rintro e w21 ⟨rfl, hb⟩
  replace R00 := Lib.hid (R00.out.later hb)
  replace R01 := Lib.hid (R01.out.later hb)
  replace R10 := Lib.hid (R10.out.later hb)
  replace R11 := Lib.hid (R11.out.later hb)
  replace T0 := Lib.hid (T0.out.later hb)
  replace T1 := Lib.hid (T1.out.later hb)
  replace HB := Lib.hid (bthen HB.out hb)
  clear hb
  clear kT00 kT01 kT02 kT10 kT11 kT12
  have hb1 := below_one w21 (.cells #[.bool false, .slice none 0 0, .slice none 0 0] 26)
  have XD : Hid (Tri (w21.alloc (.cells #[.bool false, .slice none 0 0, .slice none 0 0] 26)) w21.heap.size (.bool false) (.slice none 0 0) (.slice none 0 0)) := tri_new w21 _ _ _
  replace R00 := Lib.hid (R00.out.later hb1)
  replace R01 := Lib.hid (R01.out.later hb1)
  replace R10 := Lib.hid (R10.out.later hb1)
  replace R11 := Lib.hid (R11.out.later hb1)
  replace T0 := Lib.hid (T0.out.later hb1)
  replace T1 := Lib.hid (T1.out.later hb1)
  replace HB := Lib.hid (bthen HB.out hb1)
  clear hb1
  obtain ⟨kT00, kT01, kT02, -, -, -, -⟩ := T0.out
  obtain ⟨kT10, kT11, kT12, -, -, -, -⟩ := T1.out
  obtain ⟨kXD0, kXD1, kXD2, -, -, -, -⟩ := XD.out
  go_wp2_with fail
  refine (rdivR_zero 4 4 4 4 8 8 p q R00.out R01.out R10.out R11.out HQ0.out HQ1.out hn0 hm0 hn1 hm1 (by omega) (by omega) (by omega) (by omega) (by omega) (by omega) (by omega) (by omega) (by omega) (by omega) (by omega) (by omega) HZ.out).mono ?_
  rintro e w22 ⟨rfl, hb⟩
  replace R00 := Lib.hid (R00.out.later hb)
  replace R01 := Lib.hid (R01.out.later hb)
  replace R10 := Lib.hid (R10.out.later hb)
  replace R11 := Lib.hid (R11.out.later hb)
  replace T0 := Lib.hid (T0.out.later hb)
  replace T1 := Lib.hid (T1.out.later hb)
  replace XD := Lib.hid (XD.out.later hb)
  replace HB := Lib.hid (bthen HB.out hb)
  clear hb
  clear kT00 kT01 kT02 kT10 kT11 kT12 kXD0 kXD1 kXD2
  have hb1 := below_one w22 (.cells #[.bool false, .slice none 0 0, .slice none 0 0] 26)
  have XE : Hid (Tri (w22.alloc (.cells #[.bool false, .slice none 0 0, .slice none 0 0] 26)) w22.heap.size (.bool false) (.slice none 0 0) (.slice none 0 0)) := tri_new w22 _ _ _
  replace R00 := Lib.hid (R00.out.later hb1)
  replace R01 := Lib.hid (R01.out.later hb1)
  replace R10 := Lib.hid (R10.out.later hb1)
  replace R11 := Lib.hid (R11.out.later hb1)
  replace T0 := Lib.hid (T0.out.later hb1)
  replace T1 := Lib.hid (T1.out.later hb1)
  replace XD := Lib.hid (XD.out.later hb1)
  replace HB := Lib.hid (bthen HB.out hb1)
  clear hb1
  go_wp2_with fail
  obtain ⟨W, hW⟩ : ∃ W, (w22.alloc (.cells #[.bool false, .slice none 0 0, .slice none 0 0] 26)) = W := ⟨_, rfl⟩
  rw [hW] at R00 R01 R10 R11 T0 T1 XD XE HB ⊢
  clear hW
  obtain ⟨gd, hgd⟩ : ∃ gd, w21.heap.size = gd := ⟨_, rfl⟩
  obtain ⟨ge, hge⟩ : ∃ ge, w22.heap.size = ge := ⟨_, rfl⟩
  rw [hgd] at XD ⊢
  rw [hge] at XE ⊢
  clear hgd hge
  obtain ⟨kT00, kT01, kT02, -, -, -, -⟩ := T0.out
  obtain ⟨kT10, kT11, kT12, -, -, -, -⟩ := T1.out
  obtain ⟨kXD0, kXD1, kXD2, -, -, -, -⟩ := XD.out
  obtain ⟨kXE0, kXE1, kXE2, -, -, -, -⟩ := XE.out
  replace R00 := Lib.hid R00.out.drew
  replace R01 := Lib.hid R01.out.drew
  replace R10 := Lib.hid R10.out.drew
  replace R11 := Lib.hid R11.out.drew
  replace T0 := Lib.hid T0.out.drew
  replace T1 := Lib.hid T1.out.drew
  replace XD := Lib.hid XD.out.drew
  replace XE := Lib.hid XE.out.drew
  replace HB := Lib.hid HB.out.drew
  go_region_held3 (fun w' => w'.cell? ⟨w.heap.size, 0, none⟩ = some (.bool s0) ∧ w'.cell? ⟨w.heap.size, 1, none⟩ = some (.slice a0 n0 c0) ∧ w'.cell? ⟨w.heap.size, 2, none⟩ = some (.slice b0 m0 d0) ∧ w'.cell? ⟨w.heap.size + 1, 0, none⟩ = some (.bool s1) ∧ w'.cell? ⟨w.heap.size + 1, 1, none⟩ = some (.slice a1 n1 c1) ∧ w'.cell? ⟨w.heap.size + 1, 2, none⟩ = some (.slice b1 m1 d1) ∧ w'.cell? ⟨gd, 0, none⟩ = some (.bool false) ∧ w'.cell? ⟨gd, 1, none⟩ = some (.slice none 0 0) ∧ w'.cell? ⟨gd, 2, none⟩ = some (.slice none 0 0) ∧ w'.cell? ⟨ge, 0, none⟩ = some (.bool false) ∧ w'.cell? ⟨ge, 1, none⟩ = some (.slice none 0 0) ∧ w'.cell? ⟨ge, 2, none⟩ = some (.slice none 0 0))
    (first | (refine ⟨?_, ?_, ?_, ?_, ?_, ?_, ?_, ?_, ?_, ?_, ?_, ?_⟩ <;> with_reducible assumption) | (go_keep; done) | (refine ⟨?_, ?_, ?_, ?_, ?_, ?_, ?_, ?_, ?_, ?_, ?_, ?_⟩ <;> (repeat rw [cell_other (by first | (simp; done) | (simp; omega))]) <;> with_reducible assumption))
    (first
      | (have mk := G18; clear mk
         try (rw [if_pos (by rfl)]; go_simp)
         go_at_call 26
         refine (awakeR _).mono ?_
         rintro e v19 ⟨rfl, hb⟩
         replace R00 := Lib.hid (R00.out.later hb)
         replace R01 := Lib.hid (R01.out.later hb)
         replace R10 := Lib.hid (R10.out.later hb)
         replace R11 := Lib.hid (R11.out.later hb)
         replace T0 := Lib.hid (T0.out.later hb)
         replace T1 := Lib.hid (T1.out.later hb)
         replace XD := Lib.hid (XD.out.later hb)
         replace XE := Lib.hid (XE.out.later hb)
         replace HB := Lib.hid (bthen HB.out hb); clear hb
         clear kT00 kT01 kT02 kT10 kT11 kT12 kXD0 kXD1 kXD2 kXE0 kXE1 kXE2
         obtain ⟨kT00, kT01, kT02, -, -, -, -⟩ := T0.out
         obtain ⟨kT10, kT11, kT12, -, -, -, -⟩ := T1.out
         obtain ⟨kXD0, kXD1, kXD2, -, -, -, -⟩ := XD.out
         obtain ⟨kXE0, kXE1, kXE2, -, -, -, -⟩ := XE.out
         have G19 : Hid True := trivial
         try go_wp2_with fail)
      | (have mk := G17; clear mk
         try (rw [if_pos (by rfl)]; go_simp)
         go_at_call 25
         refine (rcmpR 4 4 4 4 9 8 T p q R00.out R01.out R10.out R11.out HQ0.out HQ1.out hn0 hm0 hn1 hm1 (by omega) (by omega) (by omega) (by omega) (by omega) (by omega) (by omega) (by omega) (by omega) (by omega) (by omega) (by omega) (by omega) HT.out).mono ?_
         rintro e v18 ⟨rfl, hb⟩
         replace R00 := Lib.hid (R00.out.later hb)
         replace R01 := Lib.hid (R01.out.later hb)
         replace R10 := Lib.hid (R10.out.later hb)
         replace R11 := Lib.hid (R11.out.later hb)
         replace T0 := Lib.hid (T0.out.later hb)
         replace T1 := Lib.hid (T1.out.later hb)
         replace XD := Lib.hid (XD.out.later hb)
         replace XE := Lib.hid (XE.out.later hb)
         replace HB := Lib.hid (bthen HB.out hb); clear hb
         clear kT00 kT01 kT02 kT10 kT11 kT12 kXD0 kXD1 kXD2 kXE0 kXE1 kXE2
         obtain ⟨kT00, kT01, kT02, -, -, -, -⟩ := T0.out
         obtain ⟨kT10, kT11, kT12, -, -, -, -⟩ := T1.out
         obtain ⟨kXD0, kXD1, kXD2, -, -, -, -⟩ := XD.out
         obtain ⟨kXE0, kXE1, kXE2, -, -, -, -⟩ := XE.out
         have G18 : Hid True := trivial
         try go_wp2_with fail)
      | (have mk := G16; clear mk
         try (rw [if_pos (by rfl)]; go_simp)
         go_at_call 24
         refine (cmpRat T p q R00.out R01.out R10.out R11.out HQ0.out HQ1.out (by omega) (by omega) (by omega) (by omega) HT.out).mono ?_
         rintro e v17 ⟨rfl, hb⟩
         replace R00 := Lib.hid (R00.out.later hb)
         replace R01 := Lib.hid (R01.out.later hb)
         replace R10 := Lib.hid (R10.out.later hb)
         replace R11 := Lib.hid (R11.out.later hb)
         replace T0 := Lib.hid (T0.out.later hb)
         replace T1 := Lib.hid (T1.out.later hb)
         replace XD := Lib.hid (XD.out.later hb)
         replace XE := Lib.hid (XE.out.later hb)
         replace HB := Lib.hid (bthen HB.out hb); clear hb
         clear kT00 kT01 kT02 kT10 kT11 kT12 kXD0 kXD1 kXD2 kXE0 kXE1 kXE2
         obtain ⟨kT00, kT01, kT02, -, -, -, -⟩ := T0.out
         obtain ⟨kT10, kT11, kT12, -, -, -, -⟩ := T1.out
         obtain ⟨kXD0, kXD1, kXD2, -, -, -, -⟩ := XD.out
         obtain ⟨kXE0, kXE1, kXE2, -, -, -, -⟩ := XE.out
         have G17 : Hid True := trivial
         try go_wp2_with fail)
      | (have mk := G15; clear mk
         try (rw [if_pos (by rfl)]; go_simp)
         go_at_call 13
         refine (sameNone _).mono ?_
         rintro e v16 ⟨rfl, hb⟩
         replace R00 := Lib.hid (R00.out.later hb)
         replace R01 := Lib.hid (R01.out.later hb)
         replace R10 := Lib.hid (R10.out.later hb)
         replace R11 := Lib.hid (R11.out.later hb)
         replace T0 := Lib.hid (T0.out.later hb)
         replace T1 := Lib.hid (T1.out.later hb)
         replace XD := Lib.hid (XD.out.later hb)
         replace XE := Lib.hid (XE.out.later hb)
         replace HB := Lib.hid (bthen HB.out hb); clear hb
         clear kT00 kT01 kT02 kT10 kT11 kT12 kXD0 kXD1 kXD2 kXE0 kXE1 kXE2
         obtain ⟨kT00, kT01, kT02, -, -, -, -⟩ := T0.out
         obtain ⟨kT10, kT11, kT12, -, -, -, -⟩ := T1.out
         obtain ⟨kXD0, kXD1, kXD2, -, -, -, -⟩ := XD.out
         obtain ⟨kXE0, kXE1, kXE2, -, -, -, -⟩ := XE.out
         have G16 : Hid True := trivial
         try go_wp2_with fail)
      | (have mk := G14; clear mk
         try (rw [if_pos (by rfl)]; go_simp)
         go_at_call 13
         refine (sameT Rx90.out Rx91.out Rxa0.out Rxa1.out rfl (by omega) (by omega) (by omega) (by omega)).mono ?_
         rintro e v15 ⟨rfl, hb⟩
         clear Rx90
         clear Rx91
         clear Rxa0
         clear Rxa1
         replace R00 := Lib.hid (R00.out.later hb)
         replace R01 := Lib.hid (R01.out.later hb)
         replace R10 := Lib.hid (R10.out.later hb)
         replace R11 := Lib.hid (R11.out.later hb)
         replace T0 := Lib.hid (T0.out.later hb)
         replace T1 := Lib.hid (T1.out.later hb)
         replace XD := Lib.hid (XD.out.later hb)
         replace XE := Lib.hid (XE.out.later hb)
         replace HB := Lib.hid (bthen HB.out hb); clear hb
         clear kT00 kT01 kT02 kT10 kT11 kT12 kXD0 kXD1 kXD2 kXE0 kXE1 kXE2
         obtain ⟨kT00, kT01, kT02, -, -, -, -⟩ := T0.out
         obtain ⟨kT10, kT11, kT12, -, -, -, -⟩ := T1.out
         obtain ⟨kXD0, kXD1, kXD2, -, -, -, -⟩ := XD.out
         obtain ⟨kXE0, kXE1, kXE2, -, -, -, -⟩ := XE.out
         have G15 : Hid True := trivial
         try go_wp2_with fail)
      | (have mk := G13; clear mk
         try (rw [if_pos (by rfl)]; go_simp)
         go_at_call 23
         refine (rnegR 4 4 p ng R00.out R01.out HQ0.out ENG.out hn0 hm0 (by omega) (by omega) (by omega) (by omega) ).mono ?_
         rintro e v14 ⟨axa, nxa, cxa, bxa, mxa, dxa, rfl, hnxa, hmxa, hr, hr2, hb⟩
         replace R00 := Lib.hid (R00.out.later hb)
         replace R01 := Lib.hid (R01.out.later hb)
         replace R10 := Lib.hid (R10.out.later hb)
         replace R11 := Lib.hid (R11.out.later hb)
         replace Rx90 := Lib.hid (Rx90.out.later hb)
         replace Rx91 := Lib.hid (Rx91.out.later hb)
         replace T0 := Lib.hid (T0.out.later hb)
         replace T1 := Lib.hid (T1.out.later hb)
         replace XD := Lib.hid (XD.out.later hb)
         replace XE := Lib.hid (XE.out.later hb)
         replace HB := Lib.hid (bthen HB.out hb); clear hb
         clear kT00 kT01 kT02 kT10 kT11 kT12 kXD0 kXD1 kXD2 kXE0 kXE1 kXE2
         obtain ⟨kT00, kT01, kT02, -, -, -, -⟩ := T0.out
         obtain ⟨kT10, kT11, kT12, -, -, -, -⟩ := T1.out
         obtain ⟨kXD0, kXD1, kXD2, -, -, -, -⟩ := XD.out
         obtain ⟨kXE0, kXE1, kXE2, -, -, -, -⟩ := XE.out
         have Rxa0 := Lib.hid hr; clear hr
         have Rxa1 := Lib.hid hr2; clear hr2
         have G14 : Hid True := trivial
         try go_wp2_with fail)
      | (have mk := G12; clear mk
         try (rw [if_pos (by rfl)]; go_simp)
         go_at_call 22
         refine (negR 4 4 ng R00.out R01.out (HQ0.out.trans ENN.out) hn0 hm0 (by omega) (by omega) (by omega) ).mono ?_
         rintro e v13 ⟨ax9, nx9, cx9, bx9, mx9, dx9, rfl, hnx9, hmx9, hr, hr2, hb⟩
         replace R00 := Lib.hid (R00.out.later hb)
         replace R01 := Lib.hid (R01.out.later hb)
         replace R10 := Lib.hid (R10.out.later hb)
         replace R11 := Lib.hid (R11.out.later hb)
         replace T0 := Lib.hid (T0.out.later hb)
         replace T1 := Lib.hid (T1.out.later hb)
         replace XD := Lib.hid (XD.out.later hb)
         replace XE := Lib.hid (XE.out.later hb)
         replace HB := Lib.hid (bthen HB.out hb); clear hb
         clear kT00 kT01 kT02 kT10 kT11 kT12 kXD0 kXD1 kXD2 kXE0 kXE1 kXE2
         obtain ⟨kT00, kT01, kT02, -, -, -, -⟩ := T0.out
         obtain ⟨kT10, kT11, kT12, -, -, -, -⟩ := T1.out
         obtain ⟨kXD0, kXD1, kXD2, -, -, -, -⟩ := XD.out
         obtain ⟨kXE0, kXE1, kXE2, -, -, -, -⟩ := XE.out
         have Rx90 := Lib.hid hr; clear hr
         have Rx91 := Lib.hid hr2; clear hr2
         have G13 : Hid True := trivial
         try go_wp2_with fail)
      | (have mk := G11; clear mk
         try (rw [if_pos (by rfl)]; go_simp)
         go_at_call 13
         refine (sameT Rx70.out Rx71.out Rx80.out Rx81.out rfl (by omega) (by omega) (by omega) (by omega)).mono ?_
         rintro e v12 ⟨rfl, hb⟩
         clear Rx70
         clear Rx71
         clear Rx80
         clear Rx81
         replace R00 := Lib.hid (R00.out.later hb)
         replace R01 := Lib.hid (R01.out.later hb)
         replace R10 := Lib.hid (R10.out.later hb)
         replace R11 := Lib.hid (R11.out.later hb)
         replace T0 := Lib.hid (T0.out.later hb)
         replace T1 := Lib.hid (T1.out.later hb)
         replace XD := Lib.hid (XD.out.later hb)
         replace XE := Lib.hid (XE.out.later hb)
         replace HB := Lib.hid (bthen HB.out hb); clear hb
         clear kT00 kT01 kT02 kT10 kT11 kT12 kXD0 kXD1 kXD2 kXE0 kXE1 kXE2
         obtain ⟨kT00, kT01, kT02, -, -, -, -⟩ := T0.out
         obtain ⟨kT10, kT11, kT12, -, -, -, -⟩ := T1.out
         obtain ⟨kXD0, kXD1, kXD2, -, -, -, -⟩ := XD.out
         obtain ⟨kXE0, kXE1, kXE2, -, -, -, -⟩ := XE.out
         have G12 : Hid True := trivial
         try go_wp2_with fail)
      | (have mk := G10; clear mk
         try (rw [if_pos (by rfl)]; go_simp)
         go_at_call 21
         refine (rmulR 4 4 4 4 8 8 pm p q R00.out R01.out R10.out R11.out HQ0.out HQ1.out hn0 hm0 hn1 hm1 (by omega) (by omega) (by omega) (by omega) (by omega) (by omega) (by omega) (by omega) (by omega) (by omega) (by omega) (by omega) EPM.out).mono ?_
         rintro e v11 ⟨ax8, nx8, cx8, bx8, mx8, dx8, rfl, hnx8, hmx8, hr, hr2, hb⟩
         replace R00 := Lib.hid (R00.out.later hb)
         replace R01 := Lib.hid (R01.out.later hb)
         replace R10 := Lib.hid (R10.out.later hb)
         replace R11 := Lib.hid (R11.out.later hb)
         replace Rx70 := Lib.hid (Rx70.out.later hb)
         replace Rx71 := Lib.hid (Rx71.out.later hb)
         replace T0 := Lib.hid (T0.out.later hb)
         replace T1 := Lib.hid (T1.out.later hb)
         replace XD := Lib.hid (XD.out.later hb)
         replace XE := Lib.hid (XE.out.later hb)
         replace HB := Lib.hid (bthen HB.out hb); clear hb
         clear kT00 kT01 kT02 kT10 kT11 kT12 kXD0 kXD1 kXD2 kXE0 kXE1 kXE2
         obtain ⟨kT00, kT01, kT02, -, -, -, -⟩ := T0.out
         obtain ⟨kT10, kT11, kT12, -, -, -, -⟩ := T1.out
         obtain ⟨kXD0, kXD1, kXD2, -, -, -, -⟩ := XD.out
         obtain ⟨kXE0, kXE1, kXE2, -, -, -, -⟩ := XE.out
         have Rx80 := Lib.hid hr; clear hr
         have Rx81 := Lib.hid hr2; clear hr2
         have G11 : Hid True := trivial
         try go_wp2_with fail)
      | (have mk := G9; clear mk
         try (rw [if_pos (by rfl)]; go_simp)
         go_at_call 20
         refine (mulR 8 8 pm p q R00.out R01.out R10.out R11.out HQ0.out HQ1.out (by omega) (by omega) (by omega) (by omega) (by omega) (by omega) (by omega) (by omega) (by omega) EPM.out).mono ?_
         rintro e v10 ⟨ax7, nx7, cx7, bx7, mx7, dx7, rfl, hnx7, hmx7, hr, hr2, hb⟩
         replace R00 := Lib.hid (R00.out.later hb)
         replace R01 := Lib.hid (R01.out.later hb)
         replace R10 := Lib.hid (R10.out.later hb)
         replace R11 := Lib.hid (R11.out.later hb)
         replace T0 := Lib.hid (T0.out.later hb)
         replace T1 := Lib.hid (T1.out.later hb)
         replace XD := Lib.hid (XD.out.later hb)
         replace XE := Lib.hid (XE.out.later hb)
         replace HB := Lib.hid (bthen HB.out hb); clear hb
         clear kT00 kT01 kT02 kT10 kT11 kT12 kXD0 kXD1 kXD2 kXE0 kXE1 kXE2
         obtain ⟨kT00, kT01, kT02, -, -, -, -⟩ := T0.out
         obtain ⟨kT10, kT11, kT12, -, -, -, -⟩ := T1.out
         obtain ⟨kXD0, kXD1, kXD2, -, -, -, -⟩ := XD.out
         obtain ⟨kXE0, kXE1, kXE2, -, -, -, -⟩ := XE.out
         have Rx70 := Lib.hid hr; clear hr
         have Rx71 := Lib.hid hr2; clear hr2
         have G10 : Hid True := trivial
         try go_wp2_with fail)
      | (have mk := G8; clear mk
         try (rw [if_pos (by rfl)]; go_simp)
         go_at_call 13
         refine (sameT Rx50.out Rx51.out Rx60.out Rx61.out rfl (by omega) (by omega) (by omega) (by omega)).mono ?_
         rintro e v9 ⟨rfl, hb⟩
         clear Rx50
         clear Rx51
         clear Rx60
         clear Rx61
         replace R00 := Lib.hid (R00.out.later hb)
         replace R01 := Lib.hid (R01.out.later hb)
         replace R10 := Lib.hid (R10.out.later hb)
         replace R11 := Lib.hid (R11.out.later hb)
         replace T0 := Lib.hid (T0.out.later hb)
         replace T1 := Lib.hid (T1.out.later hb)
         replace XD := Lib.hid (XD.out.later hb)
         replace XE := Lib.hid (XE.out.later hb)
         replace HB := Lib.hid (bthen HB.out hb); clear hb
         clear kT00 kT01 kT02 kT10 kT11 kT12 kXD0 kXD1 kXD2 kXE0 kXE1 kXE2
         obtain ⟨kT00, kT01, kT02, -, -, -, -⟩ := T0.out
         obtain ⟨kT10, kT11, kT12, -, -, -, -⟩ := T1.out
         obtain ⟨kXD0, kXD1, kXD2, -, -, -, -⟩ := XD.out
         obtain ⟨kXE0, kXE1, kXE2, -, -, -, -⟩ := XE.out
         have G9 : Hid True := trivial
         try go_wp2_with fail)
      | (have mk := G7; clear mk
         try (rw [if_pos (by rfl)]; go_simp)
         go_at_call 19
         refine (rsubR 4 4 4 4 9 8 sb p q R00.out R01.out R10.out R11.out HQ0.out HQ1.out hn0 hm0 hn1 hm1 (by omega) (by omega) (by omega) (by omega) (by omega) (by omega) (by omega) (by omega) (by omega) (by omega) (by omega) (by omega) (by omega) ESB.out).mono ?_
         rintro e v8 ⟨ax6, nx6, cx6, bx6, mx6, dx6, rfl, hnx6, hmx6, hr, hr2, hb⟩
         replace R00 := Lib.hid (R00.out.later hb)
         replace R01 := Lib.hid (R01.out.later hb)
         replace R10 := Lib.hid (R10.out.later hb)
         replace R11 := Lib.hid (R11.out.later hb)
         replace Rx50 := Lib.hid (Rx50.out.later hb)
         replace Rx51 := Lib.hid (Rx51.out.later hb)
         replace T0 := Lib.hid (T0.out.later hb)
         replace T1 := Lib.hid (T1.out.later hb)
         replace XD := Lib.hid (XD.out.later hb)
         replace XE := Lib.hid (XE.out.later hb)
         replace HB := Lib.hid (bthen HB.out hb); clear hb
         clear kT00 kT01 kT02 kT10 kT11 kT12 kXD0 kXD1 kXD2 kXE0 kXE1 kXE2
         obtain ⟨kT00, kT01, kT02, -, -, -, -⟩ := T0.out
         obtain ⟨kT10, kT11, kT12, -, -, -, -⟩ := T1.out
         obtain ⟨kXD0, kXD1, kXD2, -, -, -, -⟩ := XD.out
         obtain ⟨kXE0, kXE1, kXE2, -, -, -, -⟩ := XE.out
         have Rx60 := Lib.hid hr; clear hr
         have Rx61 := Lib.hid hr2; clear hr2
         have G8 : Hid True := trivial
         try go_wp2_with fail)
      | (have mk := G6; clear mk
         try (rw [if_pos (by rfl)]; go_simp)
         go_at_call 18
         refine (subR 4 4 4 4 9 8 sb p q R00.out R01.out R10.out R11.out HQ0.out HQ1.out hn0 hm0 hn1 hm1 (by omega) (by omega) (by omega) (by omega) (by omega) (by omega) (by omega) (by omega) (by omega) (by omega) (by omega) ESB.out).mono ?_
         rintro e v7 ⟨ax5, nx5, cx5, bx5, mx5, dx5, rfl, hnx5, hmx5, hr, hr2, hb⟩
         replace R00 := Lib.hid (R00.out.later hb)
         replace R01 := Lib.hid (R01.out.later hb)
         replace R10 := Lib.hid (R10.out.later hb)
         replace R11 := Lib.hid (R11.out.later hb)
         replace T0 := Lib.hid (T0.out.later hb)
         replace T1 := Lib.hid (T1.out.later hb)
         replace XD := Lib.hid (XD.out.later hb)
         replace XE := Lib.hid (XE.out.later hb)
         replace HB := Lib.hid (bthen HB.out hb); clear hb
         clear kT00 kT01 kT02 kT10 kT11 kT12 kXD0 kXD1 kXD2 kXE0 kXE1 kXE2
         obtain ⟨kT00, kT01, kT02, -, -, -, -⟩ := T0.out
         obtain ⟨kT10, kT11, kT12, -, -, -, -⟩ := T1.out
         obtain ⟨kXD0, kXD1, kXD2, -, -, -, -⟩ := XD.out
         obtain ⟨kXE0, kXE1, kXE2, -, -, -, -⟩ := XE.out
         have Rx50 := Lib.hid hr; clear hr
         have Rx51 := Lib.hid hr2; clear hr2
         have G7 : Hid True := trivial
         try go_wp2_with fail)
      | (have mk := G5; clear mk
         try (rw [if_pos (by rfl)]; go_simp)
         go_at_call 13
         refine (sameT Rx30.out Rx31.out Rx40.out Rx41.out rfl (by omega) (by omega) (by omega) (by omega)).mono ?_
         rintro e v6 ⟨rfl, hb⟩
         clear Rx30
         clear Rx31
         clear Rx40
         clear Rx41
         replace R00 := Lib.hid (R00.out.later hb)
         replace R01 := Lib.hid (R01.out.later hb)
         replace R10 := Lib.hid (R10.out.later hb)
         replace R11 := Lib.hid (R11.out.later hb)
         replace T0 := Lib.hid (T0.out.later hb)
         replace T1 := Lib.hid (T1.out.later hb)
         replace XD := Lib.hid (XD.out.later hb)
         replace XE := Lib.hid (XE.out.later hb)
         replace HB := Lib.hid (bthen HB.out hb); clear hb
         clear kT00 kT01 kT02 kT10 kT11 kT12 kXD0 kXD1 kXD2 kXE0 kXE1 kXE2
         obtain ⟨kT00, kT01, kT02, -, -, -, -⟩ := T0.out
         obtain ⟨kT10, kT11, kT12, -, -, -, -⟩ := T1.out
         obtain ⟨kXD0, kXD1, kXD2, -, -, -, -⟩ := XD.out
         obtain ⟨kXE0, kXE1, kXE2, -, -, -, -⟩ := XE.out
         have G6 : Hid True := trivial
         try go_wp2_with fail)
      | (have mk := G4; clear mk
         try (rw [if_pos (by rfl)]; go_simp)
         go_at_call 17
         refine (raddR 4 4 4 4 9 8 sm p q R00.out R01.out R10.out R11.out HQ0.out HQ1.out hn0 hm0 hn1 hm1 (by omega) (by omega) (by omega) (by omega) (by omega) (by omega) (by omega) (by omega) (by omega) (by omega) (by omega) (by omega) (by omega) ESM.out).mono ?_
         rintro e v5 ⟨ax4, nx4, cx4, bx4, mx4, dx4, rfl, hnx4, hmx4, hr, hr2, hb⟩
         replace R00 := Lib.hid (R00.out.later hb)
         replace R01 := Lib.hid (R01.out.later hb)
         replace R10 := Lib.hid (R10.out.later hb)
         replace R11 := Lib.hid (R11.out.later hb)
         replace Rx30 := Lib.hid (Rx30.out.later hb)
         replace Rx31 := Lib.hid (Rx31.out.later hb)
         replace T0 := Lib.hid (T0.out.later hb)
         replace T1 := Lib.hid (T1.out.later hb)
         replace XD := Lib.hid (XD.out.later hb)
         replace XE := Lib.hid (XE.out.later hb)
         replace HB := Lib.hid (bthen HB.out hb); clear hb
         clear kT00 kT01 kT02 kT10 kT11 kT12 kXD0 kXD1 kXD2 kXE0 kXE1 kXE2
         obtain ⟨kT00, kT01, kT02, -, -, -, -⟩ := T0.out
         obtain ⟨kT10, kT11, kT12, -, -, -, -⟩ := T1.out
         obtain ⟨kXD0, kXD1, kXD2, -, -, -, -⟩ := XD.out
         obtain ⟨kXE0, kXE1, kXE2, -, -, -, -⟩ := XE.out
         have Rx40 := Lib.hid hr; clear hr
         have Rx41 := Lib.hid hr2; clear hr2
         have G5 : Hid True := trivial
         try go_wp2_with fail)
      | (have mk := G3; clear mk
         try (rw [if_pos (by rfl)]; go_simp)
         go_at_call 16
         refine (addR 4 4 4 4 9 8 sm p q R00.out R01.out R10.out R11.out HQ0.out HQ1.out hn0 hm0 hn1 hm1 (by omega) (by omega) (by omega) (by omega) (by omega) (by omega) (by omega) (by omega) (by omega) (by omega) (by omega) ESM.out).mono ?_
         rintro e v4 ⟨ax3, nx3, cx3, bx3, mx3, dx3, rfl, hnx3, hmx3, hr, hr2, hb⟩
         replace R00 := Lib.hid (R00.out.later hb)
         replace R01 := Lib.hid (R01.out.later hb)
         replace R10 := Lib.hid (R10.out.later hb)
         replace R11 := Lib.hid (R11.out.later hb)
         replace T0 := Lib.hid (T0.out.later hb)
         replace T1 := Lib.hid (T1.out.later hb)
         replace XD := Lib.hid (XD.out.later hb)
         replace XE := Lib.hid (XE.out.later hb)
         replace HB := Lib.hid (bthen HB.out hb); clear hb
         clear kT00 kT01 kT02 kT10 kT11 kT12 kXD0 kXD1 kXD2 kXE0 kXE1 kXE2
         obtain ⟨kT00, kT01, kT02, -, -, -, -⟩ := T0.out
         obtain ⟨kT10, kT11, kT12, -, -, -, -⟩ := T1.out
         obtain ⟨kXD0, kXD1, kXD2, -, -, -, -⟩ := XD.out
         obtain ⟨kXE0, kXE1, kXE2, -, -, -, -⟩ := XE.out
         have Rx30 := Lib.hid hr; clear hr
         have Rx31 := Lib.hid hr2; clear hr2
         have G4 : Hid True := trivial
         try go_wp2_with fail)
      | (have mk := G2; clear mk
         try (rw [if_pos (by rfl)]; go_simp)
         go_at_call 13
         refine (sameT Rx10.out Rx11.out Rx20.out Rx21.out rfl (by omega) (by omega) (by omega) (by omega)).mono ?_
         rintro e v3 ⟨rfl, hb⟩
         clear Rx10
         clear Rx11
         clear Rx20
         clear Rx21
         replace R00 := Lib.hid (R00.out.later hb)
         replace R01 := Lib.hid (R01.out.later hb)
         replace R10 := Lib.hid (R10.out.later hb)
         replace R11 := Lib.hid (R11.out.later hb)
         replace T0 := Lib.hid (T0.out.later hb)
         replace T1 := Lib.hid (T1.out.later hb)
         replace XD := Lib.hid (XD.out.later hb)
         replace XE := Lib.hid (XE.out.later hb)
         replace HB := Lib.hid (bthen HB.out hb); clear hb
         clear kT00 kT01 kT02 kT10 kT11 kT12 kXD0 kXD1 kXD2 kXE0 kXE1 kXE2
         obtain ⟨kT00, kT01, kT02, -, -, -, -⟩ := T0.out
         obtain ⟨kT10, kT11, kT12, -, -, -, -⟩ := T1.out
         obtain ⟨kXD0, kXD1, kXD2, -, -, -, -⟩ := XD.out
         obtain ⟨kXE0, kXE1, kXE2, -, -, -, -⟩ := XE.out
         have G3 : Hid True := trivial
         try go_wp2_with fail)
      | (have mk := G1; clear mk
         try (rw [if_pos (by rfl)]; go_simp)
         go_at_call 15
         refine (rnormR 4 4 p R00.out R01.out HQ0.out hn0 hm0 (by omega) (by omega) (by omega) (by omega) ).mono ?_
         rintro e v2 ⟨ax2, nx2, cx2, bx2, mx2, dx2, rfl, hnx2, hmx2, hr, hr2, hb⟩
         replace R00 := Lib.hid (R00.out.later hb)
         replace R01 := Lib.hid (R01.out.later hb)
         replace R10 := Lib.hid (R10.out.later hb)
         replace R11 := Lib.hid (R11.out.later hb)
         replace Rx10 := Lib.hid (Rx10.out.later hb)
         replace Rx11 := Lib.hid (Rx11.out.later hb)
         replace T0 := Lib.hid (T0.out.later hb)
         replace T1 := Lib.hid (T1.out.later hb)
         replace XD := Lib.hid (XD.out.later hb)
         replace XE := Lib.hid (XE.out.later hb)
         replace HB := Lib.hid (bthen HB.out hb); clear hb
         clear kT00 kT01 kT02 kT10 kT11 kT12 kXD0 kXD1 kXD2 kXE0 kXE1 kXE2
         obtain ⟨kT00, kT01, kT02, -, -, -, -⟩ := T0.out
         obtain ⟨kT10, kT11, kT12, -, -, -, -⟩ := T1.out
         obtain ⟨kXD0, kXD1, kXD2, -, -, -, -⟩ := XD.out
         obtain ⟨kXE0, kXE1, kXE2, -, -, -, -⟩ := XE.out
         have Rx20 := Lib.hid hr; clear hr
         have Rx21 := Lib.hid hr2; clear hr2
         have G2 : Hid True := trivial
         try go_wp2_with fail)
      | (skip
         try (rw [if_pos (by rfl)]; go_simp)
         go_at_call 14
         refine (normR 4 4 p R00.out R01.out HQ0.out hn0 hm0 (by omega) (by omega) (by omega) ).mono ?_
         rintro e v1 ⟨ax1, nx1, cx1, bx1, mx1, dx1, rfl, hnx1, hmx1, hr, hr2, hb⟩
         replace R00 := Lib.hid (R00.out.later hb)
         replace R01 := Lib.hid (R01.out.later hb)
         replace R10 := Lib.hid (R10.out.later hb)
         replace R11 := Lib.hid (R11.out.later hb)
         replace T0 := Lib.hid (T0.out.later hb)
         replace T1 := Lib.hid (T1.out.later hb)
         replace XD := Lib.hid (XD.out.later hb)
         replace XE := Lib.hid (XE.out.later hb)
         replace HB := Lib.hid (bthen HB.out hb); clear hb
         clear kT00 kT01 kT02 kT10 kT11 kT12 kXD0 kXD1 kXD2 kXE0 kXE1 kXE2
         obtain ⟨kT00, kT01, kT02, -, -, -, -⟩ := T0.out
         obtain ⟨kT10, kT11, kT12, -, -, -, -⟩ := T1.out
         obtain ⟨kXD0, kXD1, kXD2, -, -, -, -⟩ := XD.out
         obtain ⟨kXE0, kXE1, kXE2, -, -, -, -⟩ := XE.out
         have Rx10 := Lib.hid hr; clear hr
         have Rx11 := Lib.hid hr2; clear hr2
         have G1 : Hid True := trivial
         try go_wp2_with fail))
  go_wp2
  go_ret
  exact ⟨rfl, HB.out⟩

end Go.Proofs.YtnnoicjnggoffaaGreat
/- RatioSums, by what is not nought. -/
namespace Go.Proofs.YtnnoicjnggoffaaGreat
set_option linter.unusedVariables false
set_option linter.unusedSimpArgs false
set_option maxRecDepth 100000
open Go.RowKit Nums

set_option maxHeartbeats 16000000 in
theorem ratioSums_n (p q : Rat) {s0 s1 : Bool} {a0 b0 a1 b1 : Option Addr} {n0 c0 m0 d0 n1 c1 m1 d1 : Nat} {xs0 ys0 xs1 ys1 : List Nat} {w : World} (h00 : Row w a0 n0 c0 xs0) (h01 : Row w b0 m0 d0 ys0) (hq0 : mkRat (sv s0 (val xs0)) (val ys0) = p) (hn0 : n0 ≤ 4) (hm0 : m0 ≤ 4) (h10 : Row w a1 n1 c1 xs1) (h11 : Row w b1 m1 d1 ys1) (hq1 : mkRat (sv s1 (val xs1)) (val ys1) = q) (hn1 : n1 ≤ 4) (hm1 : m1 ≤ 4) (hz : q ≠ 0) :
    Calls Tryz.prog 3 #[.agg #[.bool s0, .slice a0 n0 c0, .slice b0 m0 d0], .agg #[.bool s1, .slice a1 n1 c1, .slice b1 m1 d1]] w fun e w' => e = .returned (.bool true) ∧ Below w.heap.size w w' := by
  obtain ⟨sm, esm⟩ : ∃ z : Rat, p + q = z := ⟨_, rfl⟩
  obtain ⟨sb, esb⟩ : ∃ z : Rat, p - q = z := ⟨_, rfl⟩
  obtain ⟨pm, epm⟩ : ∃ z : Rat, p * q = z := ⟨_, rfl⟩
  obtain ⟨ng, eng⟩ : ∃ z : Rat, -p = z := ⟨_, rfl⟩
  obtain ⟨dv, edv⟩ : ∃ z : Rat, p / q = z := ⟨_, rfl⟩
  have enn : p = -ng := by rw [← eng, Rat.neg_neg]
  obtain ⟨T, hT⟩ : ∃ T, cmpR p q = T := ⟨_, rfl⟩
  have ESM := Lib.hid esm; clear esm
  have ESB := Lib.hid esb; clear esb
  have EPM := Lib.hid epm; clear epm
  have ENG := Lib.hid eng; clear eng
  have EDV := Lib.hid edv; clear edv
  have ENN := Lib.hid enn; clear enn
  have HT := Lib.hid hT; clear hT
  have HZ := Lib.hid hz; clear hz
  have HB := Lib.hid (below_three w (.cells #[.bool s0, .slice a0 n0 c0, .slice b0 m0 d0] 26) (.cells #[.bool s1, .slice a1 n1 c1, .slice b1 m1 d1] 26) (.cells #[.bool s0, .slice a0 n0 c0, .slice b0 m0 d0, .bool s1, .slice a1 n1 c1, .slice b1 m1 d1] 26))
  have T0 : Hid (Tri (((w.alloc (.cells #[.bool s0, .slice a0 n0 c0, .slice b0 m0 d0] 26)).alloc (.cells #[.bool s1, .slice a1 n1 c1, .slice b1 m1 d1] 26)).alloc (.cells #[.bool s0, .slice a0 n0 c0, .slice b0 m0 d0, .bool s1, .slice a1 n1 c1, .slice b1 m1 d1] 26)) (w.heap.size) (.bool s0) (.slice a0 n0 c0) (.slice b0 m0 d0)) := (((tri_new w (.bool s0) (.slice a0 n0 c0) (.slice b0 m0 d0)).alloc _).alloc _)
  have T1 : Hid (Tri (((w.alloc (.cells #[.bool s0, .slice a0 n0 c0, .slice b0 m0 d0] 26)).alloc (.cells #[.bool s1, .slice a1 n1 c1, .slice b1 m1 d1] 26)).alloc (.cells #[.bool s0, .slice a0 n0 c0, .slice b0 m0 d0, .bool s1, .slice a1 n1 c1, .slice b1 m1 d1] 26)) (w.heap.size + 1) (.bool s1) (.slice a1 n1 c1) (.slice b1 m1 d1)) := ((tri_newE (by simp)).alloc _)
  have ka0 := cell_new ((w.alloc (.cells #[.bool s0, .slice a0 n0 c0, .slice b0 m0 d0] 26)).alloc (.cells #[.bool s1, .slice a1 n1 c1, .slice b1 m1 d1] 26)) #[.bool s0, .slice a0 n0 c0, .slice b0 m0 d0, .bool s1, .slice a1 n1 c1, .slice b1 m1 d1] 26 1
  have kb0 := cell_new ((w.alloc (.cells #[.bool s0, .slice a0 n0 c0, .slice b0 m0 d0] 26)).alloc (.cells #[.bool s1, .slice a1 n1 c1, .slice b1 m1 d1] 26)) #[.bool s0, .slice a0 n0 c0, .slice b0 m0 d0, .bool s1, .slice a1 n1 c1, .slice b1 m1 d1] 26 2
  have ka1 := cell_new ((w.alloc (.cells #[.bool s0, .slice a0 n0 c0, .slice b0 m0 d0] 26)).alloc (.cells #[.bool s1, .slice a1 n1 c1, .slice b1 m1 d1] 26)) #[.bool s0, .slice a0 n0 c0, .slice b0 m0 d0, .bool s1, .slice a1 n1 c1, .slice b1 m1 d1] 26 4
  have kb1 := cell_new ((w.alloc (.cells #[.bool s0, .slice a0 n0 c0, .slice b0 m0 d0] 26)).alloc (.cells #[.bool s1, .slice a1 n1 c1, .slice b1 m1 d1] 26)) #[.bool s0, .slice a0 n0 c0, .slice b0 m0 d0, .bool s1, .slice a1 n1 c1, .slice b1 m1 d1] 26 5
  rw [show ((w.alloc (.cells #[.bool s0, .slice a0 n0 c0, .slice b0 m0 d0] 26)).alloc (.cells #[.bool s1, .slice a1 n1 c1, .slice b1 m1 d1] 26)).heap.size = w.heap.size + 1 + 1 from by simp] at ka0 kb0 ka1 kb1
  have R00 := Lib.hid (h00.later HB.out); clear h00
  have R01 := Lib.hid (h01.later HB.out); clear h01
  have HQ0 := Lib.hid hq0; clear hq0
  have R10 := Lib.hid (h10.later HB.out); clear h10
  have R11 := Lib.hid (h11.later HB.out); clear h11
  have HQ1 := Lib.hid hq1; clear hq1
  go_enter Tryz.func3, Tryz.ntmps3
  go_wp2_with fail
  refine (few2_yes (w.heap.size + 1 + 1) a0 b0 n0 c0 m0 d0 a1 b1 n1 c1 m1 d1 _ ka0 kb0 ka1 kb1 hn0 hm0 hn1 hm1).mono ?_
  rintro e w0 ⟨rfl, rfl⟩
  clear ka0 kb0 ka1 kb1
  obtain ⟨kT00, kT01, kT02, -, -, -, -⟩ := T0.out
  obtain ⟨kT10, kT11, kT12, -, -, -, -⟩ := T1.out
  go_wp2_with fail
  refine (divR 4 4 4 4 8 8 dv p q R00.out R01.out R10.out R11.out HQ0.out HQ1.out hn0 hm0 hn1 hm1 (by omega) (by omega) (by omega) (by omega) (by omega) (by omega) (by omega) (by omega) (by omega) (by omega) HZ.out EDV.out).mono ?_
  rintro e w21 ⟨ad, nd, cd, bd', md, dd, rfl, hnd, hmd, hr, hr2, hb⟩
  replace R00 := Lib.hid (R00.out.later hb)
  replace R01 := Lib.hid (R01.out.later hb)
  replace R10 := Lib.hid (R10.out.later hb)
  replace R11 := Lib.hid (R11.out.later hb)
  replace T0 := Lib.hid (T0.out.later hb)
  replace T1 := Lib.hid (T1.out.later hb)
  replace HB := Lib.hid (bthen HB.out hb)
  clear hb
  clear kT00 kT01 kT02 kT10 kT11 kT12
  have Rd0 := Lib.hid hr; clear hr
  have Rd1 := Lib.hid hr2; clear hr2
  have hb1 := below_one w21 (.cells #[.bool (decide (dv.num < 0)), .slice ad nd cd, .slice bd' md dd] 26)
  have XD : Hid (Tri (w21.alloc (.cells #[.bool (decide (dv.num < 0)), .slice ad nd cd, .slice bd' md dd] 26)) w21.heap.size (.bool (decide (dv.num < 0))) (.slice ad nd cd) (.slice bd' md dd)) := tri_new w21 _ _ _
  replace Rd0 := Lib.hid (Rd0.out.later hb1)
  replace Rd1 := Lib.hid (Rd1.out.later hb1)
  replace R00 := Lib.hid (R00.out.later hb1)
  replace R01 := Lib.hid (R01.out.later hb1)
  replace R10 := Lib.hid (R10.out.later hb1)
  replace R11 := Lib.hid (R11.out.later hb1)
  replace T0 := Lib.hid (T0.out.later hb1)
  replace T1 := Lib.hid (T1.out.later hb1)
  replace HB := Lib.hid (bthen HB.out hb1)
  clear hb1
  obtain ⟨kT00, kT01, kT02, -, -, -, -⟩ := T0.out
  obtain ⟨kT10, kT11, kT12, -, -, -, -⟩ := T1.out
  obtain ⟨kXD0, kXD1, kXD2, -, -, -, -⟩ := XD.out
  go_wp2_with fail
  refine (rdivR 4 4 4 4 8 8 dv p q R00.out R01.out R10.out R11.out HQ0.out HQ1.out hn0 hm0 hn1 hm1 (by omega) (by omega) (by omega) (by omega) (by omega) (by omega) (by omega) (by omega) (by omega) (by omega) (by omega) (by omega) HZ.out EDV.out).mono ?_
  rintro e w22 ⟨ae, ne, ce, be', me, de, rfl, hne, hme, hr, hr2, hb⟩
  replace R00 := Lib.hid (R00.out.later hb)
  replace R01 := Lib.hid (R01.out.later hb)
  replace R10 := Lib.hid (R10.out.later hb)
  replace R11 := Lib.hid (R11.out.later hb)
  replace Rd0 := Lib.hid (Rd0.out.later hb)
  replace Rd1 := Lib.hid (Rd1.out.later hb)
  replace T0 := Lib.hid (T0.out.later hb)
  replace T1 := Lib.hid (T1.out.later hb)
  replace XD := Lib.hid (XD.out.later hb)
  replace HB := Lib.hid (bthen HB.out hb)
  clear hb
  clear kT00 kT01 kT02 kT10 kT11 kT12 kXD0 kXD1 kXD2
  have Re0 := Lib.hid hr; clear hr
  have Re1 := Lib.hid hr2; clear hr2
  have hb1 := below_one w22 (.cells #[.bool (decide (dv.num < 0)), .slice ae ne ce, .slice be' me de] 26)
  have XE : Hid (Tri (w22.alloc (.cells #[.bool (decide (dv.num < 0)), .slice ae ne ce, .slice be' me de] 26)) w22.heap.size (.bool (decide (dv.num < 0))) (.slice ae ne ce) (.slice be' me de)) := tri_new w22 _ _ _
  replace Re0 := Lib.hid (Re0.out.later hb1)
  replace Re1 := Lib.hid (Re1.out.later hb1)
  replace R00 := Lib.hid (R00.out.later hb1)
  replace R01 := Lib.hid (R01.out.later hb1)
  replace R10 := Lib.hid (R10.out.later hb1)
  replace R11 := Lib.hid (R11.out.later hb1)
  replace Rd0 := Lib.hid (Rd0.out.later hb1)
  replace Rd1 := Lib.hid (Rd1.out.later hb1)
  replace T0 := Lib.hid (T0.out.later hb1)
  replace T1 := Lib.hid (T1.out.later hb1)
  replace XD := Lib.hid (XD.out.later hb1)
  replace HB := Lib.hid (bthen HB.out hb1)
  clear hb1
  go_wp2_with fail
  obtain ⟨W, hW⟩ : ∃ W, (w22.alloc (.cells #[.bool (decide (dv.num < 0)), .slice ae ne ce, .slice be' me de] 26)) = W := ⟨_, rfl⟩
  rw [hW] at R00 R01 R10 R11 Rd0 Rd1 Re0 Re1 T0 T1 XD XE HB ⊢
  clear hW
  obtain ⟨gd, hgd⟩ : ∃ gd, w21.heap.size = gd := ⟨_, rfl⟩
  obtain ⟨ge, hge⟩ : ∃ ge, w22.heap.size = ge := ⟨_, rfl⟩
  rw [hgd] at XD ⊢
  rw [hge] at XE ⊢
  clear hgd hge
  obtain ⟨kT00, kT01, kT02, -, -, -, -⟩ := T0.out
  obtain ⟨kT10, kT11, kT12, -, -, -, -⟩ := T1.out
  obtain ⟨kXD0, kXD1, kXD2, -, -, -, -⟩ := XD.out
  obtain ⟨kXE0, kXE1, kXE2, -, -, -, -⟩ := XE.out
  replace R00 := Lib.hid R00.out.drew
  replace R01 := Lib.hid R01.out.drew
  replace R10 := Lib.hid R10.out.drew
  replace R11 := Lib.hid R11.out.drew
  replace Rd0 := Lib.hid Rd0.out.drew
  replace Rd1 := Lib.hid Rd1.out.drew
  replace Re0 := Lib.hid Re0.out.drew
  replace Re1 := Lib.hid Re1.out.drew
  replace T0 := Lib.hid T0.out.drew
  replace T1 := Lib.hid T1.out.drew
  replace XD := Lib.hid XD.out.drew
  replace XE := Lib.hid XE.out.drew
  replace HB := Lib.hid HB.out.drew
  go_region_held3 (fun w' => w'.cell? ⟨w.heap.size, 0, none⟩ = some (.bool s0) ∧ w'.cell? ⟨w.heap.size, 1, none⟩ = some (.slice a0 n0 c0) ∧ w'.cell? ⟨w.heap.size, 2, none⟩ = some (.slice b0 m0 d0) ∧ w'.cell? ⟨w.heap.size + 1, 0, none⟩ = some (.bool s1) ∧ w'.cell? ⟨w.heap.size + 1, 1, none⟩ = some (.slice a1 n1 c1) ∧ w'.cell? ⟨w.heap.size + 1, 2, none⟩ = some (.slice b1 m1 d1) ∧ w'.cell? ⟨gd, 0, none⟩ = some (.bool (decide (dv.num < 0))) ∧ w'.cell? ⟨gd, 1, none⟩ = some (.slice ad nd cd) ∧ w'.cell? ⟨gd, 2, none⟩ = some (.slice bd' md dd) ∧ w'.cell? ⟨ge, 0, none⟩ = some (.bool (decide (dv.num < 0))) ∧ w'.cell? ⟨ge, 1, none⟩ = some (.slice ae ne ce) ∧ w'.cell? ⟨ge, 2, none⟩ = some (.slice be' me de))
    (first | (refine ⟨?_, ?_, ?_, ?_, ?_, ?_, ?_, ?_, ?_, ?_, ?_, ?_⟩ <;> with_reducible assumption) | (go_keep; done) | (refine ⟨?_, ?_, ?_, ?_, ?_, ?_, ?_, ?_, ?_, ?_, ?_, ?_⟩ <;> (repeat rw [cell_other (by first | (simp; done) | (simp; omega))]) <;> with_reducible assumption))
    (first
      | (have mk := G18; clear mk
         try (rw [if_pos (by rfl)]; go_simp)
         go_at_call 26
         refine (awakeR _).mono ?_
         rintro e v19 ⟨rfl, hb⟩
         replace R00 := Lib.hid (R00.out.later hb)
         replace R01 := Lib.hid (R01.out.later hb)
         replace R10 := Lib.hid (R10.out.later hb)
         replace R11 := Lib.hid (R11.out.later hb)
         replace Rd0 := Lib.hid (Rd0.out.later hb)
         replace Rd1 := Lib.hid (Rd1.out.later hb)
         replace Re0 := Lib.hid (Re0.out.later hb)
         replace Re1 := Lib.hid (Re1.out.later hb)
         replace T0 := Lib.hid (T0.out.later hb)
         replace T1 := Lib.hid (T1.out.later hb)
         replace XD := Lib.hid (XD.out.later hb)
         replace XE := Lib.hid (XE.out.later hb)
         replace HB := Lib.hid (bthen HB.out hb); clear hb
         clear kT00 kT01 kT02 kT10 kT11 kT12 kXD0 kXD1 kXD2 kXE0 kXE1 kXE2
         obtain ⟨kT00, kT01, kT02, -, -, -, -⟩ := T0.out
         obtain ⟨kT10, kT11, kT12, -, -, -, -⟩ := T1.out
         obtain ⟨kXD0, kXD1, kXD2, -, -, -, -⟩ := XD.out
         obtain ⟨kXE0, kXE1, kXE2, -, -, -, -⟩ := XE.out
         have G19 : Hid True := trivial
         try go_wp2_with fail)
      | (have mk := G17; clear mk
         try (rw [if_pos (by rfl)]; go_simp)
         go_at_call 25
         refine (rcmpR 4 4 4 4 9 8 T p q R00.out R01.out R10.out R11.out HQ0.out HQ1.out hn0 hm0 hn1 hm1 (by omega) (by omega) (by omega) (by omega) (by omega) (by omega) (by omega) (by omega) (by omega) (by omega) (by omega) (by omega) (by omega) HT.out).mono ?_
         rintro e v18 ⟨rfl, hb⟩
         replace R00 := Lib.hid (R00.out.later hb)
         replace R01 := Lib.hid (R01.out.later hb)
         replace R10 := Lib.hid (R10.out.later hb)
         replace R11 := Lib.hid (R11.out.later hb)
         replace Rd0 := Lib.hid (Rd0.out.later hb)
         replace Rd1 := Lib.hid (Rd1.out.later hb)
         replace Re0 := Lib.hid (Re0.out.later hb)
         replace Re1 := Lib.hid (Re1.out.later hb)
         replace T0 := Lib.hid (T0.out.later hb)
         replace T1 := Lib.hid (T1.out.later hb)
         replace XD := Lib.hid (XD.out.later hb)
         replace XE := Lib.hid (XE.out.later hb)
         replace HB := Lib.hid (bthen HB.out hb); clear hb
         clear kT00 kT01 kT02 kT10 kT11 kT12 kXD0 kXD1 kXD2 kXE0 kXE1 kXE2
         obtain ⟨kT00, kT01, kT02, -, -, -, -⟩ := T0.out
         obtain ⟨kT10, kT11, kT12, -, -, -, -⟩ := T1.out
         obtain ⟨kXD0, kXD1, kXD2, -, -, -, -⟩ := XD.out
         obtain ⟨kXE0, kXE1, kXE2, -, -, -, -⟩ := XE.out
         have G18 : Hid True := trivial
         try go_wp2_with fail)
      | (have mk := G16; clear mk
         try (rw [if_pos (by rfl)]; go_simp)
         go_at_call 24
         refine (cmpRat T p q R00.out R01.out R10.out R11.out HQ0.out HQ1.out (by omega) (by omega) (by omega) (by omega) HT.out).mono ?_
         rintro e v17 ⟨rfl, hb⟩
         replace R00 := Lib.hid (R00.out.later hb)
         replace R01 := Lib.hid (R01.out.later hb)
         replace R10 := Lib.hid (R10.out.later hb)
         replace R11 := Lib.hid (R11.out.later hb)
         replace Rd0 := Lib.hid (Rd0.out.later hb)
         replace Rd1 := Lib.hid (Rd1.out.later hb)
         replace Re0 := Lib.hid (Re0.out.later hb)
         replace Re1 := Lib.hid (Re1.out.later hb)
         replace T0 := Lib.hid (T0.out.later hb)
         replace T1 := Lib.hid (T1.out.later hb)
         replace XD := Lib.hid (XD.out.later hb)
         replace XE := Lib.hid (XE.out.later hb)
         replace HB := Lib.hid (bthen HB.out hb); clear hb
         clear kT00 kT01 kT02 kT10 kT11 kT12 kXD0 kXD1 kXD2 kXE0 kXE1 kXE2
         obtain ⟨kT00, kT01, kT02, -, -, -, -⟩ := T0.out
         obtain ⟨kT10, kT11, kT12, -, -, -, -⟩ := T1.out
         obtain ⟨kXD0, kXD1, kXD2, -, -, -, -⟩ := XD.out
         obtain ⟨kXE0, kXE1, kXE2, -, -, -, -⟩ := XE.out
         have G17 : Hid True := trivial
         try go_wp2_with fail)
      | (have mk := G15; clear mk
         try (rw [if_pos (by rfl)]; go_simp)
         go_at_call 13
         refine (sameT Rd0.out Rd1.out Re0.out Re1.out rfl (by omega) (by omega) (by omega) (by omega)).mono ?_
         rintro e v16 ⟨rfl, hb⟩
         replace R00 := Lib.hid (R00.out.later hb)
         replace R01 := Lib.hid (R01.out.later hb)
         replace R10 := Lib.hid (R10.out.later hb)
         replace R11 := Lib.hid (R11.out.later hb)
         replace Rd0 := Lib.hid (Rd0.out.later hb)
         replace Rd1 := Lib.hid (Rd1.out.later hb)
         replace Re0 := Lib.hid (Re0.out.later hb)
         replace Re1 := Lib.hid (Re1.out.later hb)
         replace T0 := Lib.hid (T0.out.later hb)
         replace T1 := Lib.hid (T1.out.later hb)
         replace XD := Lib.hid (XD.out.later hb)
         replace XE := Lib.hid (XE.out.later hb)
         replace HB := Lib.hid (bthen HB.out hb); clear hb
         clear kT00 kT01 kT02 kT10 kT11 kT12 kXD0 kXD1 kXD2 kXE0 kXE1 kXE2
         obtain ⟨kT00, kT01, kT02, -, -, -, -⟩ := T0.out
         obtain ⟨kT10, kT11, kT12, -, -, -, -⟩ := T1.out
         obtain ⟨kXD0, kXD1, kXD2, -, -, -, -⟩ := XD.out
         obtain ⟨kXE0, kXE1, kXE2, -, -, -, -⟩ := XE.out
         have G16 : Hid True := trivial
         try go_wp2_with fail)
      | (have mk := G14; clear mk
         try (rw [if_pos (by rfl)]; go_simp)
         go_at_call 13
         refine (sameT Rx90.out Rx91.out Rxa0.out Rxa1.out rfl (by omega) (by omega) (by omega) (by omega)).mono ?_
         rintro e v15 ⟨rfl, hb⟩
         clear Rx90
         clear Rx91
         clear Rxa0
         clear Rxa1
         replace R00 := Lib.hid (R00.out.later hb)
         replace R01 := Lib.hid (R01.out.later hb)
         replace R10 := Lib.hid (R10.out.later hb)
         replace R11 := Lib.hid (R11.out.later hb)
         replace Rd0 := Lib.hid (Rd0.out.later hb)
         replace Rd1 := Lib.hid (Rd1.out.later hb)
         replace Re0 := Lib.hid (Re0.out.later hb)
         replace Re1 := Lib.hid (Re1.out.later hb)
         replace T0 := Lib.hid (T0.out.later hb)
         replace T1 := Lib.hid (T1.out.later hb)
         replace XD := Lib.hid (XD.out.later hb)
         replace XE := Lib.hid (XE.out.later hb)
         replace HB := Lib.hid (bthen HB.out hb); clear hb
         clear kT00 kT01 kT02 kT10 kT11 kT12 kXD0 kXD1 kXD2 kXE0 kXE1 kXE2
         obtain ⟨kT00, kT01, kT02, -, -, -, -⟩ := T0.out
         obtain ⟨kT10, kT11, kT12, -, -, -, -⟩ := T1.out
         obtain ⟨kXD0, kXD1, kXD2, -, -, -, -⟩ := XD.out
         obtain ⟨kXE0, kXE1, kXE2, -, -, -, -⟩ := XE.out
         have G15 : Hid True := trivial
         try go_wp2_with fail)
      | (have mk := G13; clear mk
         try (rw [if_pos (by rfl)]; go_simp)
         go_at_call 23
         refine (rnegR 4 4 p ng R00.out R01.out HQ0.out ENG.out hn0 hm0 (by omega) (by omega) (by omega) (by omega) ).mono ?_
         rintro e v14 ⟨axa, nxa, cxa, bxa, mxa, dxa, rfl, hnxa, hmxa, hr, hr2, hb⟩
         replace R00 := Lib.hid (R00.out.later hb)
         replace R01 := Lib.hid (R01.out.later hb)
         replace R10 := Lib.hid (R10.out.later hb)
         replace R11 := Lib.hid (R11.out.later hb)
         replace Rd0 := Lib.hid (Rd0.out.later hb)
         replace Rd1 := Lib.hid (Rd1.out.later hb)
         replace Re0 := Lib.hid (Re0.out.later hb)
         replace Re1 := Lib.hid (Re1.out.later hb)
         replace Rx90 := Lib.hid (Rx90.out.later hb)
         replace Rx91 := Lib.hid (Rx91.out.later hb)
         replace T0 := Lib.hid (T0.out.later hb)
         replace T1 := Lib.hid (T1.out.later hb)
         replace XD := Lib.hid (XD.out.later hb)
         replace XE := Lib.hid (XE.out.later hb)
         replace HB := Lib.hid (bthen HB.out hb); clear hb
         clear kT00 kT01 kT02 kT10 kT11 kT12 kXD0 kXD1 kXD2 kXE0 kXE1 kXE2
         obtain ⟨kT00, kT01, kT02, -, -, -, -⟩ := T0.out
         obtain ⟨kT10, kT11, kT12, -, -, -, -⟩ := T1.out
         obtain ⟨kXD0, kXD1, kXD2, -, -, -, -⟩ := XD.out
         obtain ⟨kXE0, kXE1, kXE2, -, -, -, -⟩ := XE.out
         have Rxa0 := Lib.hid hr; clear hr
         have Rxa1 := Lib.hid hr2; clear hr2
         have G14 : Hid True := trivial
         try go_wp2_with fail)
      | (have mk := G12; clear mk
         try (rw [if_pos (by rfl)]; go_simp)
         go_at_call 22
         refine (negR 4 4 ng R00.out R01.out (HQ0.out.trans ENN.out) hn0 hm0 (by omega) (by omega) (by omega) ).mono ?_
         rintro e v13 ⟨ax9, nx9, cx9, bx9, mx9, dx9, rfl, hnx9, hmx9, hr, hr2, hb⟩
         replace R00 := Lib.hid (R00.out.later hb)
         replace R01 := Lib.hid (R01.out.later hb)
         replace R10 := Lib.hid (R10.out.later hb)
         replace R11 := Lib.hid (R11.out.later hb)
         replace Rd0 := Lib.hid (Rd0.out.later hb)
         replace Rd1 := Lib.hid (Rd1.out.later hb)
         replace Re0 := Lib.hid (Re0.out.later hb)
         replace Re1 := Lib.hid (Re1.out.later hb)
         replace T0 := Lib.hid (T0.out.later hb)
         replace T1 := Lib.hid (T1.out.later hb)
         replace XD := Lib.hid (XD.out.later hb)
         replace XE := Lib.hid (XE.out.later hb)
         replace HB := Lib.hid (bthen HB.out hb); clear hb
         clear kT00 kT01 kT02 kT10 kT11 kT12 kXD0 kXD1 kXD2 kXE0 kXE1 kXE2
         obtain ⟨kT00, kT01, kT02, -, -, -, -⟩ := T0.out
         obtain ⟨kT10, kT11, kT12, -, -, -, -⟩ := T1.out
         obtain ⟨kXD0, kXD1, kXD2, -, -, -, -⟩ := XD.out
         obtain ⟨kXE0, kXE1, kXE2, -, -, -, -⟩ := XE.out
         have Rx90 := Lib.hid hr; clear hr
         have Rx91 := Lib.hid hr2; clear hr2
         have G13 : Hid True := trivial
         try go_wp2_with fail)
      | (have mk := G11; clear mk
         try (rw [if_pos (by rfl)]; go_simp)
         go_at_call 13
         refine (sameT Rx70.out Rx71.out Rx80.out Rx81.out rfl (by omega) (by omega) (by omega) (by omega)).mono ?_
         rintro e v12 ⟨rfl, hb⟩
         clear Rx70
         clear Rx71
         clear Rx80
         clear Rx81
         replace R00 := Lib.hid (R00.out.later hb)
         replace R01 := Lib.hid (R01.out.later hb)
         replace R10 := Lib.hid (R10.out.later hb)
         replace R11 := Lib.hid (R11.out.later hb)
         replace Rd0 := Lib.hid (Rd0.out.later hb)
         replace Rd1 := Lib.hid (Rd1.out.later hb)
         replace Re0 := Lib.hid (Re0.out.later hb)
         replace Re1 := Lib.hid (Re1.out.later hb)
         replace T0 := Lib.hid (T0.out.later hb)
         replace T1 := Lib.hid (T1.out.later hb)
         replace XD := Lib.hid (XD.out.later hb)
         replace XE := Lib.hid (XE.out.later hb)
         replace HB := Lib.hid (bthen HB.out hb); clear hb
         clear kT00 kT01 kT02 kT10 kT11 kT12 kXD0 kXD1 kXD2 kXE0 kXE1 kXE2
         obtain ⟨kT00, kT01, kT02, -, -, -, -⟩ := T0.out
         obtain ⟨kT10, kT11, kT12, -, -, -, -⟩ := T1.out
         obtain ⟨kXD0, kXD1, kXD2, -, -, -, -⟩ := XD.out
         obtain ⟨kXE0, kXE1, kXE2, -, -, -, -⟩ := XE.out
         have G12 : Hid True := trivial
         try go_wp2_with fail)
      | (have mk := G10; clear mk
         try (rw [if_pos (by rfl)]; go_simp)
         go_at_call 21
         refine (rmulR 4 4 4 4 8 8 pm p q R00.out R01.out R10.out R11.out HQ0.out HQ1.out hn0 hm0 hn1 hm1 (by omega) (by omega) (by omega) (by omega) (by omega) (by omega) (by omega) (by omega) (by omega) (by omega) (by omega) (by omega) EPM.out).mono ?_
         rintro e v11 ⟨ax8, nx8, cx8, bx8, mx8, dx8, rfl, hnx8, hmx8, hr, hr2, hb⟩
         replace R00 := Lib.hid (R00.out.later hb)
         replace R01 := Lib.hid (R01.out.later hb)
         replace R10 := Lib.hid (R10.out.later hb)
         replace R11 := Lib.hid (R11.out.later hb)
         replace Rd0 := Lib.hid (Rd0.out.later hb)
         replace Rd1 := Lib.hid (Rd1.out.later hb)
         replace Re0 := Lib.hid (Re0.out.later hb)
         replace Re1 := Lib.hid (Re1.out.later hb)
         replace Rx70 := Lib.hid (Rx70.out.later hb)
         replace Rx71 := Lib.hid (Rx71.out.later hb)
         replace T0 := Lib.hid (T0.out.later hb)
         replace T1 := Lib.hid (T1.out.later hb)
         replace XD := Lib.hid (XD.out.later hb)
         replace XE := Lib.hid (XE.out.later hb)
         replace HB := Lib.hid (bthen HB.out hb); clear hb
         clear kT00 kT01 kT02 kT10 kT11 kT12 kXD0 kXD1 kXD2 kXE0 kXE1 kXE2
         obtain ⟨kT00, kT01, kT02, -, -, -, -⟩ := T0.out
         obtain ⟨kT10, kT11, kT12, -, -, -, -⟩ := T1.out
         obtain ⟨kXD0, kXD1, kXD2, -, -, -, -⟩ := XD.out
         obtain ⟨kXE0, kXE1, kXE2, -, -, -, -⟩ := XE.out
         have Rx80 := Lib.hid hr; clear hr
         have Rx81 := Lib.hid hr2; clear hr2
         have G11 : Hid True := trivial
         try go_wp2_with fail)
      | (have mk := G9; clear mk
         try (rw [if_pos (by rfl)]; go_simp)
         go_at_call 20
         refine (mulR 8 8 pm p q R00.out R01.out R10.out R11.out HQ0.out HQ1.out (by omega) (by omega) (by omega) (by omega) (by omega) (by omega) (by omega) (by omega) (by omega) EPM.out).mono ?_
         rintro e v10 ⟨ax7, nx7, cx7, bx7, mx7, dx7, rfl, hnx7, hmx7, hr, hr2, hb⟩
         replace R00 := Lib.hid (R00.out.later hb)
         replace R01 := Lib.hid (R01.out.later hb)
         replace R10 := Lib.hid (R10.out.later hb)
         replace R11 := Lib.hid (R11.out.later hb)
         replace Rd0 := Lib.hid (Rd0.out.later hb)
         replace Rd1 := Lib.hid (Rd1.out.later hb)
         replace Re0 := Lib.hid (Re0.out.later hb)
         replace Re1 := Lib.hid (Re1.out.later hb)
         replace T0 := Lib.hid (T0.out.later hb)
         replace T1 := Lib.hid (T1.out.later hb)
         replace XD := Lib.hid (XD.out.later hb)
         replace XE := Lib.hid (XE.out.later hb)
         replace HB := Lib.hid (bthen HB.out hb); clear hb
         clear kT00 kT01 kT02 kT10 kT11 kT12 kXD0 kXD1 kXD2 kXE0 kXE1 kXE2
         obtain ⟨kT00, kT01, kT02, -, -, -, -⟩ := T0.out
         obtain ⟨kT10, kT11, kT12, -, -, -, -⟩ := T1.out
         obtain ⟨kXD0, kXD1, kXD2, -, -, -, -⟩ := XD.out
         obtain ⟨kXE0, kXE1, kXE2, -, -, -, -⟩ := XE.out
         have Rx70 := Lib.hid hr; clear hr
         have Rx71 := Lib.hid hr2; clear hr2
         have G10 : Hid True := trivial
         try go_wp2_with fail)
      | (have mk := G8; clear mk
         try (rw [if_pos (by rfl)]; go_simp)
         go_at_call 13
         refine (sameT Rx50.out Rx51.out Rx60.out Rx61.out rfl (by omega) (by omega) (by omega) (by omega)).mono ?_
         rintro e v9 ⟨rfl, hb⟩
         clear Rx50
         clear Rx51
         clear Rx60
         clear Rx61
         replace R00 := Lib.hid (R00.out.later hb)
         replace R01 := Lib.hid (R01.out.later hb)
         replace R10 := Lib.hid (R10.out.later hb)
         replace R11 := Lib.hid (R11.out.later hb)
         replace Rd0 := Lib.hid (Rd0.out.later hb)
         replace Rd1 := Lib.hid (Rd1.out.later hb)
         replace Re0 := Lib.hid (Re0.out.later hb)
         replace Re1 := Lib.hid (Re1.out.later hb)
         replace T0 := Lib.hid (T0.out.later hb)
         replace T1 := Lib.hid (T1.out.later hb)
         replace XD := Lib.hid (XD.out.later hb)
         replace XE := Lib.hid (XE.out.later hb)
         replace HB := Lib.hid (bthen HB.out hb); clear hb
         clear kT00 kT01 kT02 kT10 kT11 kT12 kXD0 kXD1 kXD2 kXE0 kXE1 kXE2
         obtain ⟨kT00, kT01, kT02, -, -, -, -⟩ := T0.out
         obtain ⟨kT10, kT11, kT12, -, -, -, -⟩ := T1.out
         obtain ⟨kXD0, kXD1, kXD2, -, -, -, -⟩ := XD.out
         obtain ⟨kXE0, kXE1, kXE2, -, -, -, -⟩ := XE.out
         have G9 : Hid True := trivial
         try go_wp2_with fail)
      | (have mk := G7; clear mk
         try (rw [if_pos (by rfl)]; go_simp)
         go_at_call 19
         refine (rsubR 4 4 4 4 9 8 sb p q R00.out R01.out R10.out R11.out HQ0.out HQ1.out hn0 hm0 hn1 hm1 (by omega) (by omega) (by omega) (by omega) (by omega) (by omega) (by omega) (by omega) (by omega) (by omega) (by omega) (by omega) (by omega) ESB.out).mono ?_
         rintro e v8 ⟨ax6, nx6, cx6, bx6, mx6, dx6, rfl, hnx6, hmx6, hr, hr2, hb⟩
         replace R00 := Lib.hid (R00.out.later hb)
         replace R01 := Lib.hid (R01.out.later hb)
         replace R10 := Lib.hid (R10.out.later hb)
         replace R11 := Lib.hid (R11.out.later hb)
         replace Rd0 := Lib.hid (Rd0.out.later hb)
         replace Rd1 := Lib.hid (Rd1.out.later hb)
         replace Re0 := Lib.hid (Re0.out.later hb)
         replace Re1 := Lib.hid (Re1.out.later hb)
         replace Rx50 := Lib.hid (Rx50.out.later hb)
         replace Rx51 := Lib.hid (Rx51.out.later hb)
         replace T0 := Lib.hid (T0.out.later hb)
         replace T1 := Lib.hid (T1.out.later hb)
         replace XD := Lib.hid (XD.out.later hb)
         replace XE := Lib.hid (XE.out.later hb)
         replace HB := Lib.hid (bthen HB.out hb); clear hb
         clear kT00 kT01 kT02 kT10 kT11 kT12 kXD0 kXD1 kXD2 kXE0 kXE1 kXE2
         obtain ⟨kT00, kT01, kT02, -, -, -, -⟩ := T0.out
         obtain ⟨kT10, kT11, kT12, -, -, -, -⟩ := T1.out
         obtain ⟨kXD0, kXD1, kXD2, -, -, -, -⟩ := XD.out
         obtain ⟨kXE0, kXE1, kXE2, -, -, -, -⟩ := XE.out
         have Rx60 := Lib.hid hr; clear hr
         have Rx61 := Lib.hid hr2; clear hr2
         have G8 : Hid True := trivial
         try go_wp2_with fail)
      | (have mk := G6; clear mk
         try (rw [if_pos (by rfl)]; go_simp)
         go_at_call 18
         refine (subR 4 4 4 4 9 8 sb p q R00.out R01.out R10.out R11.out HQ0.out HQ1.out hn0 hm0 hn1 hm1 (by omega) (by omega) (by omega) (by omega) (by omega) (by omega) (by omega) (by omega) (by omega) (by omega) (by omega) ESB.out).mono ?_
         rintro e v7 ⟨ax5, nx5, cx5, bx5, mx5, dx5, rfl, hnx5, hmx5, hr, hr2, hb⟩
         replace R00 := Lib.hid (R00.out.later hb)
         replace R01 := Lib.hid (R01.out.later hb)
         replace R10 := Lib.hid (R10.out.later hb)
         replace R11 := Lib.hid (R11.out.later hb)
         replace Rd0 := Lib.hid (Rd0.out.later hb)
         replace Rd1 := Lib.hid (Rd1.out.later hb)
         replace Re0 := Lib.hid (Re0.out.later hb)
         replace Re1 := Lib.hid (Re1.out.later hb)
         replace T0 := Lib.hid (T0.out.later hb)
         replace T1 := Lib.hid (T1.out.later hb)
         replace XD := Lib.hid (XD.out.later hb)
         replace XE := Lib.hid (XE.out.later hb)
         replace HB := Lib.hid (bthen HB.out hb); clear hb
         clear kT00 kT01 kT02 kT10 kT11 kT12 kXD0 kXD1 kXD2 kXE0 kXE1 kXE2
         obtain ⟨kT00, kT01, kT02, -, -, -, -⟩ := T0.out
         obtain ⟨kT10, kT11, kT12, -, -, -, -⟩ := T1.out
         obtain ⟨kXD0, kXD1, kXD2, -, -, -, -⟩ := XD.out
         obtain ⟨kXE0, kXE1, kXE2, -, -, -, -⟩ := XE.out
         have Rx50 := Lib.hid hr; clear hr
         have Rx51 := Lib.hid hr2; clear hr2
         have G7 : Hid True := trivial
         try go_wp2_with fail)
      | (have mk := G5; clear mk
         try (rw [if_pos (by rfl)]; go_simp)
         go_at_call 13
         refine (sameT Rx30.out Rx31.out Rx40.out Rx41.out rfl (by omega) (by omega) (by omega) (by omega)).mono ?_
         rintro e v6 ⟨rfl, hb⟩
         clear Rx30
         clear Rx31
         clear Rx40
         clear Rx41
         replace R00 := Lib.hid (R00.out.later hb)
         replace R01 := Lib.hid (R01.out.later hb)
         replace R10 := Lib.hid (R10.out.later hb)
         replace R11 := Lib.hid (R11.out.later hb)
         replace Rd0 := Lib.hid (Rd0.out.later hb)
         replace Rd1 := Lib.hid (Rd1.out.later hb)
         replace Re0 := Lib.hid (Re0.out.later hb)
         replace Re1 := Lib.hid (Re1.out.later hb)
         replace T0 := Lib.hid (T0.out.later hb)
         replace T1 := Lib.hid (T1.out.later hb)
         replace XD := Lib.hid (XD.out.later hb)
         replace XE := Lib.hid (XE.out.later hb)
         replace HB := Lib.hid (bthen HB.out hb); clear hb
         clear kT00 kT01 kT02 kT10 kT11 kT12 kXD0 kXD1 kXD2 kXE0 kXE1 kXE2
         obtain ⟨kT00, kT01, kT02, -, -, -, -⟩ := T0.out
         obtain ⟨kT10, kT11, kT12, -, -, -, -⟩ := T1.out
         obtain ⟨kXD0, kXD1, kXD2, -, -, -, -⟩ := XD.out
         obtain ⟨kXE0, kXE1, kXE2, -, -, -, -⟩ := XE.out
         have G6 : Hid True := trivial
         try go_wp2_with fail)
      | (have mk := G4; clear mk
         try (rw [if_pos (by rfl)]; go_simp)
         go_at_call 17
         refine (raddR 4 4 4 4 9 8 sm p q R00.out R01.out R10.out R11.out HQ0.out HQ1.out hn0 hm0 hn1 hm1 (by omega) (by omega) (by omega) (by omega) (by omega) (by omega) (by omega) (by omega) (by omega) (by omega) (by omega) (by omega) (by omega) ESM.out).mono ?_
         rintro e v5 ⟨ax4, nx4, cx4, bx4, mx4, dx4, rfl, hnx4, hmx4, hr, hr2, hb⟩
         replace R00 := Lib.hid (R00.out.later hb)
         replace R01 := Lib.hid (R01.out.later hb)
         replace R10 := Lib.hid (R10.out.later hb)
         replace R11 := Lib.hid (R11.out.later hb)
         replace Rd0 := Lib.hid (Rd0.out.later hb)
         replace Rd1 := Lib.hid (Rd1.out.later hb)
         replace Re0 := Lib.hid (Re0.out.later hb)
         replace Re1 := Lib.hid (Re1.out.later hb)
         replace Rx30 := Lib.hid (Rx30.out.later hb)
         replace Rx31 := Lib.hid (Rx31.out.later hb)
         replace T0 := Lib.hid (T0.out.later hb)
         replace T1 := Lib.hid (T1.out.later hb)
         replace XD := Lib.hid (XD.out.later hb)
         replace XE := Lib.hid (XE.out.later hb)
         replace HB := Lib.hid (bthen HB.out hb); clear hb
         clear kT00 kT01 kT02 kT10 kT11 kT12 kXD0 kXD1 kXD2 kXE0 kXE1 kXE2
         obtain ⟨kT00, kT01, kT02, -, -, -, -⟩ := T0.out
         obtain ⟨kT10, kT11, kT12, -, -, -, -⟩ := T1.out
         obtain ⟨kXD0, kXD1, kXD2, -, -, -, -⟩ := XD.out
         obtain ⟨kXE0, kXE1, kXE2, -, -, -, -⟩ := XE.out
         have Rx40 := Lib.hid hr; clear hr
         have Rx41 := Lib.hid hr2; clear hr2
         have G5 : Hid True := trivial
         try go_wp2_with fail)
      | (have mk := G3; clear mk
         try (rw [if_pos (by rfl)]; go_simp)
         go_at_call 16
         refine (addR 4 4 4 4 9 8 sm p q R00.out R01.out R10.out R11.out HQ0.out HQ1.out hn0 hm0 hn1 hm1 (by omega) (by omega) (by omega) (by omega) (by omega) (by omega) (by omega) (by omega) (by omega) (by omega) (by omega) ESM.out).mono ?_
         rintro e v4 ⟨ax3, nx3, cx3, bx3, mx3, dx3, rfl, hnx3, hmx3, hr, hr2, hb⟩
         replace R00 := Lib.hid (R00.out.later hb)
         replace R01 := Lib.hid (R01.out.later hb)
         replace R10 := Lib.hid (R10.out.later hb)
         replace R11 := Lib.hid (R11.out.later hb)
         replace Rd0 := Lib.hid (Rd0.out.later hb)
         replace Rd1 := Lib.hid (Rd1.out.later hb)
         replace Re0 := Lib.hid (Re0.out.later hb)
         replace Re1 := Lib.hid (Re1.out.later hb)
         replace T0 := Lib.hid (T0.out.later hb)
         replace T1 := Lib.hid (T1.out.later hb)
         replace XD := Lib.hid (XD.out.later hb)
         replace XE := Lib.hid (XE.out.later hb)
         replace HB := Lib.hid (bthen HB.out hb); clear hb
         clear kT00 kT01 kT02 kT10 kT11 kT12 kXD0 kXD1 kXD2 kXE0 kXE1 kXE2
         obtain ⟨kT00, kT01, kT02, -, -, -, -⟩ := T0.out
         obtain ⟨kT10, kT11, kT12, -, -, -, -⟩ := T1.out
         obtain ⟨kXD0, kXD1, kXD2, -, -, -, -⟩ := XD.out
         obtain ⟨kXE0, kXE1, kXE2, -, -, -, -⟩ := XE.out
         have Rx30 := Lib.hid hr; clear hr
         have Rx31 := Lib.hid hr2; clear hr2
         have G4 : Hid True := trivial
         try go_wp2_with fail)
      | (have mk := G2; clear mk
         try (rw [if_pos (by rfl)]; go_simp)
         go_at_call 13
         refine (sameT Rx10.out Rx11.out Rx20.out Rx21.out rfl (by omega) (by omega) (by omega) (by omega)).mono ?_
         rintro e v3 ⟨rfl, hb⟩
         clear Rx10
         clear Rx11
         clear Rx20
         clear Rx21
         replace R00 := Lib.hid (R00.out.later hb)
         replace R01 := Lib.hid (R01.out.later hb)
         replace R10 := Lib.hid (R10.out.later hb)
         replace R11 := Lib.hid (R11.out.later hb)
         replace Rd0 := Lib.hid (Rd0.out.later hb)
         replace Rd1 := Lib.hid (Rd1.out.later hb)
         replace Re0 := Lib.hid (Re0.out.later hb)
         replace Re1 := Lib.hid (Re1.out.later hb)
         replace T0 := Lib.hid (T0.out.later hb)
         replace T1 := Lib.hid (T1.out.later hb)
         replace XD := Lib.hid (XD.out.later hb)
         replace XE := Lib.hid (XE.out.later hb)
         replace HB := Lib.hid (bthen HB.out hb); clear hb
         clear kT00 kT01 kT02 kT10 kT11 kT12 kXD0 kXD1 kXD2 kXE0 kXE1 kXE2
         obtain ⟨kT00, kT01, kT02, -, -, -, -⟩ := T0.out
         obtain ⟨kT10, kT11, kT12, -, -, -, -⟩ := T1.out
         obtain ⟨kXD0, kXD1, kXD2, -, -, -, -⟩ := XD.out
         obtain ⟨kXE0, kXE1, kXE2, -, -, -, -⟩ := XE.out
         have G3 : Hid True := trivial
         try go_wp2_with fail)
      | (have mk := G1; clear mk
         try (rw [if_pos (by rfl)]; go_simp)
         go_at_call 15
         refine (rnormR 4 4 p R00.out R01.out HQ0.out hn0 hm0 (by omega) (by omega) (by omega) (by omega) ).mono ?_
         rintro e v2 ⟨ax2, nx2, cx2, bx2, mx2, dx2, rfl, hnx2, hmx2, hr, hr2, hb⟩
         replace R00 := Lib.hid (R00.out.later hb)
         replace R01 := Lib.hid (R01.out.later hb)
         replace R10 := Lib.hid (R10.out.later hb)
         replace R11 := Lib.hid (R11.out.later hb)
         replace Rd0 := Lib.hid (Rd0.out.later hb)
         replace Rd1 := Lib.hid (Rd1.out.later hb)
         replace Re0 := Lib.hid (Re0.out.later hb)
         replace Re1 := Lib.hid (Re1.out.later hb)
         replace Rx10 := Lib.hid (Rx10.out.later hb)
         replace Rx11 := Lib.hid (Rx11.out.later hb)
         replace T0 := Lib.hid (T0.out.later hb)
         replace T1 := Lib.hid (T1.out.later hb)
         replace XD := Lib.hid (XD.out.later hb)
         replace XE := Lib.hid (XE.out.later hb)
         replace HB := Lib.hid (bthen HB.out hb); clear hb
         clear kT00 kT01 kT02 kT10 kT11 kT12 kXD0 kXD1 kXD2 kXE0 kXE1 kXE2
         obtain ⟨kT00, kT01, kT02, -, -, -, -⟩ := T0.out
         obtain ⟨kT10, kT11, kT12, -, -, -, -⟩ := T1.out
         obtain ⟨kXD0, kXD1, kXD2, -, -, -, -⟩ := XD.out
         obtain ⟨kXE0, kXE1, kXE2, -, -, -, -⟩ := XE.out
         have Rx20 := Lib.hid hr; clear hr
         have Rx21 := Lib.hid hr2; clear hr2
         have G2 : Hid True := trivial
         try go_wp2_with fail)
      | (skip
         try (rw [if_pos (by rfl)]; go_simp)
         go_at_call 14
         refine (normR 4 4 p R00.out R01.out HQ0.out hn0 hm0 (by omega) (by omega) (by omega) ).mono ?_
         rintro e v1 ⟨ax1, nx1, cx1, bx1, mx1, dx1, rfl, hnx1, hmx1, hr, hr2, hb⟩
         replace R00 := Lib.hid (R00.out.later hb)
         replace R01 := Lib.hid (R01.out.later hb)
         replace R10 := Lib.hid (R10.out.later hb)
         replace R11 := Lib.hid (R11.out.later hb)
         replace Rd0 := Lib.hid (Rd0.out.later hb)
         replace Rd1 := Lib.hid (Rd1.out.later hb)
         replace Re0 := Lib.hid (Re0.out.later hb)
         replace Re1 := Lib.hid (Re1.out.later hb)
         replace T0 := Lib.hid (T0.out.later hb)
         replace T1 := Lib.hid (T1.out.later hb)
         replace XD := Lib.hid (XD.out.later hb)
         replace XE := Lib.hid (XE.out.later hb)
         replace HB := Lib.hid (bthen HB.out hb); clear hb
         clear kT00 kT01 kT02 kT10 kT11 kT12 kXD0 kXD1 kXD2 kXE0 kXE1 kXE2
         obtain ⟨kT00, kT01, kT02, -, -, -, -⟩ := T0.out
         obtain ⟨kT10, kT11, kT12, -, -, -, -⟩ := T1.out
         obtain ⟨kXD0, kXD1, kXD2, -, -, -, -⟩ := XD.out
         obtain ⟨kXE0, kXE1, kXE2, -, -, -, -⟩ := XE.out
         have Rx10 := Lib.hid hr; clear hr
         have Rx11 := Lib.hid hr2; clear hr2
         have G1 : Hid True := trivial
         try go_wp2_with fail))
  go_wp2
  go_ret
  exact ⟨rfl, HB.out⟩

end Go.Proofs.YtnnoicjnggoffaaGreat
/- RatioSums holds: the program's sums, differences, products, quotients, opposites and orders are the document's. No condition. -/
namespace Go.Proofs.YtnnoicjnggoffaaGreat
set_option linter.unusedVariables false
set_option linter.unusedSimpArgs false
set_option maxRecDepth 100000
open Go.ChangeShapes Go.WideShapes Go.ChangeAt Go.RowKit Nums Go.Joins

theorem ratioSums_walk (s0 s1 : Bool) (a0 b0 a1 b1 : Option Addr) (n0 c0 m0 d0 n1 c1 m1 d1 : Nat) (xs0 ys0 xs1 ys1 : List Nat) (w : World) (h00 : Row w a0 n0 c0 xs0) (h01 : Row w b0 m0 d0 ys0) (h10 : Row w a1 n1 c1 xs1) (h11 : Row w b1 m1 d1 ys1) :
    Calls Tryz.prog 3 #[.agg #[.bool s0, .slice a0 n0 c0, .slice b0 m0 d0], .agg #[.bool s1, .slice a1 n1 c1, .slice b1 m1 d1]] w fun e w' => e = .returned (.bool true) ∧ Below w.heap.size w w' := by
  by_cases hn0 : n0 ≤ 4
  · by_cases hm0 : m0 ≤ 4
    · by_cases hn1 : n1 ≤ 4
      · by_cases hm1 : m1 ≤ 4
        · by_cases hz : mkRat (sv s1 (val xs1)) (val ys1) = 0
          · exact ratioSums_z _ _ h00 h01 rfl hn0 hm0 h10 h11 rfl hn1 hm1 hz
          · exact ratioSums_n _ _ h00 h01 rfl hn0 hm0 h10 h11 rfl hn1 hm1 hz
        · exact ratioSums_out1m s0 s1 a0 b0 a1 b1 n0 c0 m0 d0 n1 c1 m1 d1 w hn0 hm0 hn1 (by omega)
      · exact ratioSums_out1n s0 s1 a0 b0 a1 b1 n0 c0 m0 d0 n1 c1 m1 d1 w hn0 hm0 (by omega)
    · exact ratioSums_out0m s0 s1 a0 b0 a1 b1 n0 c0 m0 d0 n1 c1 m1 d1 w  hn0 (by omega)
  · exact ratioSums_out0n s0 s1 a0 b0 a1 b1 n0 c0 m0 d0 n1 c1 m1 d1 w  (by omega)

theorem ratioSums_lifted (os : Os) (started : os.Started) (H : Type) (enc : TypeId × Value → H) :
    ReturnsInHanded {} Tryz.checked os 3 .any (Rows.ratioSumsSpec.pre6 enc Tryz.prog Tryz.f3 Rows.ratioSumsRow.domain false) (Rows.ratioSumsSpec.post enc Tryz.prog Tryz.f3 false true false false) := by
  refine returnsInHanded_of_change (C := Tryz.checked) Tryz.ownKnob started (by kernel_rfl) Tryz.func3
    (ChangeSpec.witness6 (enc := enc) (C := Tryz.checked) false ⟨#[], #[.agg #[.bool false, .slice none 0 0, .slice none 0 0], .agg #[.bool false, .slice none 0 0, .slice none 0 0]], []⟩ 8 (by kernel_rfl) (by kernel_rfl) (by kernel_rfl) (by kernel_rfl)) ?_
  intro W base args ds gs before hval0 hW hcnd _
  have hval : ∀ (j : Nat) t v, Tryz.f3.params[j]? = some t → args[j]? = some v → Value.okWide Tryz.prog W .any base t v := hval0
  have hW' := hW
  obtain ⟨p, q, hA0, hV, rfl, hfz, hnd⟩ := hW
  have hA : DataW.TrodAll enc Tryz.prog W 0 (fun _ => true) true Tryz.f3.params.toList args.toList ds p := hA0
  rw [Tryz.params3] at hA hval
  obtain ⟨v0, vs0, d0, ds0, p0, q0, hargs, rfl, rfl, h0, r0⟩ := trodAll_cons hA
  obtain ⟨v1, vs1, d1, ds1, p1, q1, rfl, rfl, rfl, h1, r1⟩ := trodAll_cons r0
  obtain ⟨rfl, rfl, rfl⟩ := trodAll_nil r1
  obtain rfl : args = #[v0, v1] := by cases args; simp_all
  obtain ⟨rfl, rfl⟩ := trodVars_none hV
  have k0 := h0
  have lt0 : ∀ x ∈ p0, x.block < W.heap.size := by obtain ⟨m, hm⟩ := k0; exact DataW.trod_lt m _ _ _ hm
  obtain ⟨s0, a0, n0, c0, b0, m0, e0, xs0, ys0, rfl, w0, u0⟩ := rat_of_trod (hval 0 26 v0 rfl rfl) h0
  have k1 := h1
  have lt1 : ∀ x ∈ p1, x.block < W.heap.size := by obtain ⟨m, hm⟩ := k1; exact DataW.trod_lt m _ _ _ hm
  obtain ⟨s1, a1, n1, c1, b1, m1, e1, xs1, ys1, rfl, w1, u1⟩ := rat_of_trod (hval 1 26 v1 rfl rfl) h1
  clear hA0 hval0
  refine (ratioSums_walk s0 s1 a0 b0 a1 b1 n0 c0 m0 e0 n1 c1 m1 e1 xs0 ys0 xs1 ys1 W w0 u0 w1 u1).mono fun e W' ⟨he, bel⟩ => ?_
  subst he
  exact ⟨_, rfl, _, _, _, [], _, [], hW', trodAll_mk1 (shut_bool Tryz.underlying4 _), (trodAll_cons_mk (Below.trod Tryz.laidOut (by kernel_rfl) (of_decide_eq_true (by kernel_rfl)) k0 bel lt0) (trodAll_cons_mk (Below.trod Tryz.laidOut (by kernel_rfl) (of_decide_eq_true (by kernel_rfl)) k1 bel lt1) trodAll_mk0)), rfl, bel.frame _, fun h => by cases h⟩

theorem ratioSums_over : Rows.ratioSumsRow.holds Tryz.pinned (OpenSpec.ofChange Rows.ratioSumsSpec) :=
  OpenClaim.holds_of_wide 3 Tryz.f3 rfl rfl rfl rfl rfl rfl rfl ⟨rfl, rfl, rfl, rfl, rfl⟩ rfl rfl rfl rfl rfl (by kernel_rfl) Tryz.func3 (by kernel_rfl)
    (of_decide_eq_true (by kernel_rfl)) (by unfold Func.isWrapper; first | (rw [if_pos (by decide +kernel)]; kernel_rfl) | (rw [if_neg (by decide +kernel)]; exact ⟨rfl, rfl⟩))
    (fun os started H enc _ => ratioSums_lifted os started H enc)

theorem ratioSums_holds : Rows.RatioSumsSaid := ratioSums_over
#print axioms ratioSums_holds
end Go.Proofs.YtnnoicjnggoffaaGreat
