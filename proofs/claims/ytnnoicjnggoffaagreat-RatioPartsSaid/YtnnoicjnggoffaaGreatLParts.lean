/- RatioParts holds: the sign, the bits and the greatest integer below of any fraction, whether it is an integer, and what any two integers make, are the document's. No condition. -/
import Derived.Test.YtnnoicjnggoffaaGreatQG
import Derived.Test.YtnnoicjnggoffaaGreatQH
import Derived.Test.YtnnoicjnggoffaaGreatQM
import Derived.Deep.RegionHeld3
import Derived.Deep.QuietTactic
import Derived.BigQuiet
import Derived.Test.YtnnoicjnggoffaaGreatQE
import Derived.Deep.DeepCutAuto
import Derived.Test.YtnnoicjnggoffaaGreatQI
import Derived.RegionTactic
import Derived.ChangeAlike
import Derived.Test.YtnnoicjnggoffaaGreatQL
import Derived.ProofKit
import Derived.OpenShut
import Derived.ShutString
import Derived.ChangeOld
namespace Go.Proofs.YtnnoicjnggoffaaGreat
set_option linter.unusedVariables false
set_option linter.unusedSimpArgs false
set_option maxRecDepth 100000
open Go.RowKit Nums

theorem sameNone (w : World) : Calls Tryz.prog 13 #[.agg #[.bool false, .slice none 0 0, .slice none 0 0], .agg #[.bool false, .slice none 0 0, .slice none 0 0]] w fun e w' => e = .returned (.bool true) ∧ Below w.heap.size w w' :=
  lsameR true (rsameR_yes (row_nil _) (row_nil _) (row_nil _) (row_nil _) (by omega) (by omega) (by omega) (by omega) rfl rfl rfl)

end Go.Proofs.YtnnoicjnggoffaaGreat
/- What the program's Bits tells. -/
namespace Go.Proofs.YtnnoicjnggoffaaGreat
set_option linter.unusedVariables false
set_option linter.unusedSimpArgs false
set_option maxRecDepth 100000
open Go.RowKit Nums

theorem field_run1 (s : Bool) (a b : Option Addr) (n c m d : Nat) (w : World) : Sem.run Tryz.prog (Instr.field 26 (Value.agg #[.bool s, .slice a n c, .slice b m d]) 1) w = Result.ok (Value.slice b m d) w := rfl

theorem bits_max (x y : Nat) : (bitsOf (max x y)).length = max (bitsOf x).length (bitsOf y).length := by
  rcases Nat.le_total x y with h | h
  · rw [Nat.max_eq_right h, Nat.max_eq_right (bits_mono h)]
  · rw [Nat.max_eq_left h, Nat.max_eq_left (bits_mono h)]

theorem ret_i64 {x y : Int} (h : x = y) : Ending.returned (.int .i64 x) = .returned (.int .i64 y) := by rw [h]

theorem below_drewN {B : Nat} {a w : World} (h : Below B a w) (n : Nat) : Below B a (w.drewN n) := ⟨h.os, h.tape, h.output, h.size, h.block⟩

theorem bitsQuiet (T : Nat) {a : Option Addr} {n c : Nat} {xs : List Nat} {w : World} (h0 : Row w a n c xs) (hn : n ≤ 100) (hT : (bitsOf (val xs)).length = T) :
    Calls Tryz.prog 73 #[.slice a n c] w fun e w' => e = .returned (.int .i64 (T : Int)) ∧ w' = w :=
  (bits_any a n c xs w h0 (by omega)).mono fun e w' ⟨he, hw⟩ => ⟨by rw [he, hT], hw.symm⟩

/-- how many bits a number has -/
def bitsQ (q : Rat) : Nat := max (bitsOf q.num.natAbs).length (bitsOf q.den).length

set_option maxHeartbeats 8000000 in
theorem bitsR_lt (K J T B1 B2 : Nat) (q : Rat) {s : Bool} {a b : Option Addr} {n c m d : Nat} {xs ys : List Nat} {w : World} (h0 : Row w a n c xs) (h1 : Row w b m d ys) (hq : mkRat (sv s (val xs)) (val ys) = q) (hn : n ≤ K) (hm : m ≤ J) (hK : K ≤ 60) (hK2 : 2 ≤ K) (hJ2 : 2 ≤ J) (hJ : J ≤ 60) (hT : bitsQ q = T) (hB1 : (bitsOf q.num.natAbs).length = B1) (hB2 : (bitsOf q.den).length = B2) (ho : B1 < B2) :
    Calls Tryz.prog 31 #[.agg #[.bool s, .slice a n c, .slice b m d]] w fun e w' => e = .returned (.int .i64 (T : Int)) ∧ Below w.heap.size w w' := by
  have e1 : T = B2 := by unfold bitsQ at hT; omega
  have E1 := Lib.hid e1; clear e1
  clear hT
  have HB := Lib.hid (below_one w (.cells #[.bool s, .slice a n c, .slice b m d] 26))
  have X0 : Hid (Tri (w.alloc (.cells #[.bool s, .slice a n c, .slice b m d] 26)) (w.heap.size) (.bool s) (.slice a n c) (.slice b m d)) := (tri_new _ (.bool s) (.slice a n c) (.slice b m d))
  have hoI : (B1 : Int) < (B2 : Int) := by omega
  
  have R0 := Lib.hid (h0.later HB.out); clear h0
  have R1 := Lib.hid (h1.later HB.out); clear h1
  have HQ := Lib.hid hq; clear hq
  have H1 := Lib.hid hB1; clear hB1
  have H2 := Lib.hid hB2; clear hB2
  go_enter Tryz.func31, Tryz.ntmps31
  go_wp2_with fail
  refine (normR K J q R0.out R1.out HQ.out hn hm (by omega) (by omega) (by omega)).mono ?_
  rintro e w1 ⟨a1, n1, c1, b1, m1, d1, rfl, hn1, hm1, hr, hr2, hb⟩
  replace X0 := Lib.hid (X0.out.later hb)
  replace HB := Lib.hid (bthen HB.out hb)
  clear hb
  have RA := Lib.hid hr; clear hr
  have RB := Lib.hid hr2; clear hr2
  have hV1 : B1 ≤ 32 * n1 := by rw [← H1.out]; have := bits_le RA.out; rw [val_limbs] at this; exact this
  have hV2 : B2 ≤ 32 * m1 := by rw [← H2.out]; have := bits_le RB.out; rw [val_limbs] at this; exact this
  obtain ⟨kX00, kX01, kX02, kX03, kX04, kX05, kX06⟩ := X0.out
  have kx := kX00
  clear kX00 kX01 kX02 kX03 kX04 kX05 kX06
  obtain ⟨kX00, kX01, kX02, kX03, kX04, kX05, kX06⟩ := X0.out
  have X0' := Lib.hid X0.out
  replace RA := Lib.hid (RA.out.put3 X0'.out (.bool (decide (q.num < 0))) (.slice a1 n1 c1) (.slice b1 m1 d1))
  replace RB := Lib.hid (RB.out.put3 X0'.out (.bool (decide (q.num < 0))) (.slice a1 n1 c1) (.slice b1 m1 d1))
  replace X0 := Lib.hid (X0.out.put (.bool (decide (q.num < 0))) (.slice a1 n1 c1) (.slice b1 m1 d1))
  replace HB := Lib.hid (below_put3 (g := w.heap.size) HB.out (by omega) (.bool (decide (q.num < 0))) (.slice a1 n1 c1) (.slice b1 m1 d1))
  clear X0'
  go_wp2_with fail
  clear kX00 kX01 kX02 kX03 kX04 kX05 kX06
  obtain ⟨W, hW⟩ : ∃ W, (((w1.setCell ⟨w.heap.size, 0, none⟩ (.bool (decide (q.num < 0)))).setCell ⟨w.heap.size, 1, none⟩ (.slice a1 n1 c1)).setCell ⟨w.heap.size, 2, none⟩ (.slice b1 m1 d1)) = W := ⟨_, rfl⟩
  rw [hW] at RA RB X0 HB ⊢
  clear hW kx
  obtain ⟨kX00, kX01, kX02, -, -, -, -⟩ := X0.out
  have Q1 := Lib.hid (fun n => bitsQuiet B1 (RA.out.later (below_drewN (Below.refl _ W) n)) (by omega) (by rw [val_limbs]; exact H1.out))
  have Q2 := Lib.hid (fun n => bitsQuiet B2 (RB.out.later (below_drewN (Below.refl _ W) n)) (by omega) (by rw [val_limbs]; exact H2.out))
  go_quiet ((first | (go_at_call 73; with_reducible exact Calls.quiet_of_same (Q1.out _)) | (go_at_call 73; with_reducible exact Calls.quiet_of_same (Q2.out _))))
  go_wp2
  go_ret
  exact ⟨by rw [E1.out]; exact ret_i64 (by omega), below_drewN HB.out _⟩

set_option maxHeartbeats 8000000 in
theorem bitsR_ge (K J T B1 B2 : Nat) (q : Rat) {s : Bool} {a b : Option Addr} {n c m d : Nat} {xs ys : List Nat} {w : World} (h0 : Row w a n c xs) (h1 : Row w b m d ys) (hq : mkRat (sv s (val xs)) (val ys) = q) (hn : n ≤ K) (hm : m ≤ J) (hK : K ≤ 60) (hK2 : 2 ≤ K) (hJ2 : 2 ≤ J) (hJ : J ≤ 60) (hT : bitsQ q = T) (hB1 : (bitsOf q.num.natAbs).length = B1) (hB2 : (bitsOf q.den).length = B2) (ho : B2 ≤ B1) :
    Calls Tryz.prog 31 #[.agg #[.bool s, .slice a n c, .slice b m d]] w fun e w' => e = .returned (.int .i64 (T : Int)) ∧ Below w.heap.size w w' := by
  have e1 : T = B1 := by unfold bitsQ at hT; omega
  have E1 := Lib.hid e1; clear e1
  clear hT
  have HB := Lib.hid (below_one w (.cells #[.bool s, .slice a n c, .slice b m d] 26))
  have X0 : Hid (Tri (w.alloc (.cells #[.bool s, .slice a n c, .slice b m d] 26)) (w.heap.size) (.bool s) (.slice a n c) (.slice b m d)) := (tri_new _ (.bool s) (.slice a n c) (.slice b m d))
  have hoI : (B2 : Int) ≤ (B1 : Int) := by omega
  have hoJ : ¬ (B1 : Int) < (B2 : Int) := by omega
  have hoK : ¬ B1 < B2 := by omega
  have R0 := Lib.hid (h0.later HB.out); clear h0
  have R1 := Lib.hid (h1.later HB.out); clear h1
  have HQ := Lib.hid hq; clear hq
  have H1 := Lib.hid hB1; clear hB1
  have H2 := Lib.hid hB2; clear hB2
  go_enter Tryz.func31, Tryz.ntmps31
  go_wp2_with fail
  refine (normR K J q R0.out R1.out HQ.out hn hm (by omega) (by omega) (by omega)).mono ?_
  rintro e w1 ⟨a1, n1, c1, b1, m1, d1, rfl, hn1, hm1, hr, hr2, hb⟩
  replace X0 := Lib.hid (X0.out.later hb)
  replace HB := Lib.hid (bthen HB.out hb)
  clear hb
  have RA := Lib.hid hr; clear hr
  have RB := Lib.hid hr2; clear hr2
  have hV1 : B1 ≤ 32 * n1 := by rw [← H1.out]; have := bits_le RA.out; rw [val_limbs] at this; exact this
  have hV2 : B2 ≤ 32 * m1 := by rw [← H2.out]; have := bits_le RB.out; rw [val_limbs] at this; exact this
  obtain ⟨kX00, kX01, kX02, kX03, kX04, kX05, kX06⟩ := X0.out
  have kx := kX00
  clear kX00 kX01 kX02 kX03 kX04 kX05 kX06
  obtain ⟨kX00, kX01, kX02, kX03, kX04, kX05, kX06⟩ := X0.out
  have X0' := Lib.hid X0.out
  replace RA := Lib.hid (RA.out.put3 X0'.out (.bool (decide (q.num < 0))) (.slice a1 n1 c1) (.slice b1 m1 d1))
  replace RB := Lib.hid (RB.out.put3 X0'.out (.bool (decide (q.num < 0))) (.slice a1 n1 c1) (.slice b1 m1 d1))
  replace X0 := Lib.hid (X0.out.put (.bool (decide (q.num < 0))) (.slice a1 n1 c1) (.slice b1 m1 d1))
  replace HB := Lib.hid (below_put3 (g := w.heap.size) HB.out (by omega) (.bool (decide (q.num < 0))) (.slice a1 n1 c1) (.slice b1 m1 d1))
  clear X0'
  go_wp2_with fail
  clear kX00 kX01 kX02 kX03 kX04 kX05 kX06
  obtain ⟨W, hW⟩ : ∃ W, (((w1.setCell ⟨w.heap.size, 0, none⟩ (.bool (decide (q.num < 0)))).setCell ⟨w.heap.size, 1, none⟩ (.slice a1 n1 c1)).setCell ⟨w.heap.size, 2, none⟩ (.slice b1 m1 d1)) = W := ⟨_, rfl⟩
  rw [hW] at RA RB X0 HB ⊢
  clear hW kx
  obtain ⟨kX00, kX01, kX02, -, -, -, -⟩ := X0.out
  have Q1 := Lib.hid (fun n => bitsQuiet B1 (RA.out.later (below_drewN (Below.refl _ W) n)) (by omega) (by rw [val_limbs]; exact H1.out))
  have Q2 := Lib.hid (fun n => bitsQuiet B2 (RB.out.later (below_drewN (Below.refl _ W) n)) (by omega) (by rw [val_limbs]; exact H2.out))
  go_quiet ((first | (go_at_call 73; with_reducible exact Calls.quiet_of_same (Q1.out _)) | (go_at_call 73; with_reducible exact Calls.quiet_of_same (Q2.out _))))
  go_wp2
  go_ret
  exact ⟨by rw [E1.out]; exact ret_i64 (by omega), below_drewN HB.out _⟩

theorem bitsR (K J T : Nat) (q : Rat) {s : Bool} {a b : Option Addr} {n c m d : Nat} {xs ys : List Nat} {w : World} (h0 : Row w a n c xs) (h1 : Row w b m d ys) (hq : mkRat (sv s (val xs)) (val ys) = q) (hn : n ≤ K) (hm : m ≤ J) (hK : K ≤ 60) (hK2 : 2 ≤ K) (hJ2 : 2 ≤ J) (hJ : J ≤ 60) (hT : bitsQ q = T) :
    Calls Tryz.prog 31 #[.agg #[.bool s, .slice a n c, .slice b m d]] w fun e w' => e = .returned (.int .i64 (T : Int)) ∧ Below w.heap.size w w' := by
  rcases Nat.lt_or_ge (bitsOf q.num.natAbs).length (bitsOf q.den).length with h | h
  · exact bitsR_lt K J T _ _ q h0 h1 hq hn hm hK hK2 hJ2 hJ hT rfl rfl h
  · exact bitsR_ge K J T _ _ q h0 h1 hq hn hm hK hK2 hJ2 hJ hT rfl rfl h

end Go.Proofs.YtnnoicjnggoffaaGreat
/- What the answer's Whole tells. -/
namespace Go.Proofs.YtnnoicjnggoffaaGreat
set_option linter.unusedVariables false
set_option linter.unusedSimpArgs false
set_option maxRecDepth 100000
open Go.RowKit Nums

set_option maxHeartbeats 4000000 in
theorem rwholeR_yes (K J : Nat) (q : Rat) {s : Bool} {a b : Option Addr} {n c m d : Nat} {xs ys : List Nat} {w : World} (h0 : Row w a n c xs) (h1 : Row w b m d ys) (hq : mkRat (sv s (val xs)) (val ys) = q) (hn : n ≤ K) (hm : m ≤ J) (hK : K ≤ 60) (hK2 : 2 ≤ K) (hJ2 : 2 ≤ J) (hJ : J ≤ 60) (hB : q.den = 1) :
    Calls Tryz.prog 37 #[.agg #[.bool s, .slice a n c, .slice b m d]] w fun e w' => e = .returned (.bool true) ∧ Below w.heap.size w w' := by
  have HB := Lib.hid (below_one w (.cells #[.bool s, .slice a n c, .slice b m d] 26))
  have X0 : Hid (Tri (w.alloc (.cells #[.bool s, .slice a n c, .slice b m d] 26)) (w.heap.size) (.bool s) (.slice a n c) (.slice b m d)) := (tri_new _ (.bool s) (.slice a n c) (.slice b m d))
  have R0 := Lib.hid (h0.later HB.out); clear h0
  have R1 := Lib.hid (h1.later HB.out); clear h1
  have HQ := Lib.hid hq; clear hq
  have HD := Lib.hid hB; clear hB
  go_enter Tryz.func37, Tryz.ntmps37
  go_wp2_with fail
  refine (rnormR K J q R0.out R1.out HQ.out hn hm hK hK2 hJ2 hJ).mono ?_
  rintro e w1 ⟨a1, n1, c1, b1, m1, d1, rfl, hn1, hm1, hr, hr2, hb⟩
  replace X0 := Lib.hid (X0.out.later hb)
  replace HB := Lib.hid (bthen HB.out hb)
  clear hb
  have RA := Lib.hid hr; clear hr
  have RB := Lib.hid hr2; clear hr2
  obtain ⟨kX00, kX01, kX02, -, -, -, -⟩ := X0.out
  go_wp2_with fail
  rw [field_run1]
  have hb1 := below_one w1 (.cells #[.int .u32 1] 49)
  have RL := Lib.hid (row_one_here w1)
  replace RB := Lib.hid (RB.out.later hb1)
  replace HB := Lib.hid (bthen HB.out hb1)
  clear hb1 kX00 kX01 kX02
  go_wp2_with fail
  refine (sameN RB.out RL.out (by rw [HD.out, limbs_1]) (by omega)).mono ?_
  rintro e w2 ⟨rfl, hb⟩
  replace HB := Lib.hid (bthen HB.out hb)
  clear hb
  go_wp2
  go_ret
  exact ⟨rfl, HB.out⟩

set_option maxHeartbeats 4000000 in
theorem rwholeR_no (K J : Nat) (q : Rat) {s : Bool} {a b : Option Addr} {n c m d : Nat} {xs ys : List Nat} {w : World} (h0 : Row w a n c xs) (h1 : Row w b m d ys) (hq : mkRat (sv s (val xs)) (val ys) = q) (hn : n ≤ K) (hm : m ≤ J) (hK : K ≤ 60) (hK2 : 2 ≤ K) (hJ2 : 2 ≤ J) (hJ : J ≤ 60) (hB : q.den ≠ 1) :
    Calls Tryz.prog 37 #[.agg #[.bool s, .slice a n c, .slice b m d]] w fun e w' => e = .returned (.bool false) ∧ Below w.heap.size w w' := by
  have HB := Lib.hid (below_one w (.cells #[.bool s, .slice a n c, .slice b m d] 26))
  have X0 : Hid (Tri (w.alloc (.cells #[.bool s, .slice a n c, .slice b m d] 26)) (w.heap.size) (.bool s) (.slice a n c) (.slice b m d)) := (tri_new _ (.bool s) (.slice a n c) (.slice b m d))
  have R0 := Lib.hid (h0.later HB.out); clear h0
  have R1 := Lib.hid (h1.later HB.out); clear h1
  have HQ := Lib.hid hq; clear hq
  have HD := Lib.hid hB; clear hB
  go_enter Tryz.func37, Tryz.ntmps37
  go_wp2_with fail
  refine (rnormR K J q R0.out R1.out HQ.out hn hm hK hK2 hJ2 hJ).mono ?_
  rintro e w1 ⟨a1, n1, c1, b1, m1, d1, rfl, hn1, hm1, hr, hr2, hb⟩
  replace X0 := Lib.hid (X0.out.later hb)
  replace HB := Lib.hid (bthen HB.out hb)
  clear hb
  have RA := Lib.hid hr; clear hr
  have RB := Lib.hid hr2; clear hr2
  obtain ⟨kX00, kX01, kX02, -, -, -, -⟩ := X0.out
  go_wp2_with fail
  rw [field_run1]
  have hb1 := below_one w1 (.cells #[.int .u32 1] 49)
  have RL := Lib.hid (row_one_here w1)
  replace RB := Lib.hid (RB.out.later hb1)
  replace HB := Lib.hid (bthen HB.out hb1)
  clear hb1 kX00 kX01 kX02
  go_wp2_with fail
  refine (same_not _ _ _ _ _ _ _ _ _ RB.out RL.out (by omega) (by omega) (by rw [← limbs_1]; intro h; exact HD.out (by have h2 := congrArg val h; rw [val_limbs, val_limbs] at h2; exact h2))).mono ?_
  rintro e w2 ⟨rfl, hb⟩
  replace HB := Lib.hid (bthen HB.out hb)
  clear hb
  go_wp2
  go_ret
  exact ⟨rfl, HB.out⟩

end Go.Proofs.YtnnoicjnggoffaaGreat
/- What the answer's Bits tells: small numbers. -/
namespace Go.Proofs.YtnnoicjnggoffaaGreat
set_option linter.unusedVariables false
set_option linter.unusedSimpArgs false
set_option maxRecDepth 100000
open Go.RowKit Nums

set_option maxHeartbeats 8000000 in
theorem rbitsR_zero (K J T : Nat) (q : Rat) {s : Bool} {a b : Option Addr} {n c m d : Nat} {xs ys : List Nat} {w : World} (h0 : Row w a n c xs) (h1 : Row w b m d ys) (hq : mkRat (sv s (val xs)) (val ys) = q) (hn : n ≤ K) (hm : m ≤ J) (hK : K ≤ 60) (hK2 : 2 ≤ K) (hJ2 : 2 ≤ J) (hJ : J ≤ 60) (hT : bitsQ q = T) (hn0 : (limbs q.num.natAbs).length = 0) (hm0 : (limbs q.den).length = 1) :
    Calls Tryz.prog 32 #[.agg #[.bool s, .slice a n c, .slice b m d]] w fun e w' => e = .returned (.int .i64 (T : Int)) ∧ Below w.heap.size w w' := by
  have e0 : q.num.natAbs = 0 := length_limbs_zero.1 hn0
  have hT2 : (bitsOf q.den).length = T := by rw [← hT]; unfold bitsQ; rw [e0, bits_zero]; simp
  clear e0
  have HT := Lib.hid hT2; clear hT hT2
  have N0 := Lib.hid hn0; clear hn0
  have M0 := Lib.hid hm0; clear hm0
  have HB := Lib.hid (below_one w (.cells #[.bool s, .slice a n c, .slice b m d] 26))
  have X0 : Hid (Tri (w.alloc (.cells #[.bool s, .slice a n c, .slice b m d] 26)) (w.heap.size) (.bool s) (.slice a n c) (.slice b m d)) := (tri_new _ (.bool s) (.slice a n c) (.slice b m d))
  have R0 := Lib.hid (h0.later HB.out); clear h0
  have R1 := Lib.hid (h1.later HB.out); clear h1
  have HQ := Lib.hid hq; clear hq
  go_enter Tryz.func32, Tryz.ntmps32
  go_wp2_with fail
  refine (rnormR K J q R0.out R1.out HQ.out hn hm hK hK2 hJ2 hJ).mono ?_
  rintro e w1 ⟨a1, n1, c1, b1, m1, d1, rfl, hn1, hm1, hr, hr2, hb⟩
  replace X0 := Lib.hid (X0.out.later hb)
  replace HB := Lib.hid (bthen HB.out hb)
  clear hb
  have RA := Lib.hid hr; clear hr
  have RB := Lib.hid hr2; clear hr2
  have e1 : n1 = 0 := by have := RA.out.1; have := N0.out; omega
  have e2 : m1 = 1 := by have := RB.out.1; have := M0.out; omega
  subst e1
  subst e2
  obtain ⟨kX00, kX01, kX02, kX03, kX04, kX05, kX06⟩ := X0.out
  have X0' := Lib.hid X0.out
  replace RA := Lib.hid (RA.out.put3 X0'.out (.bool (decide (q.num < 0))) (.slice a1 0 c1) (.slice b1 1 d1))
  replace RB := Lib.hid (RB.out.put3 X0'.out (.bool (decide (q.num < 0))) (.slice a1 0 c1) (.slice b1 1 d1))
  replace X0 := Lib.hid (X0.out.put (.bool (decide (q.num < 0))) (.slice a1 0 c1) (.slice b1 1 d1))
  replace HB := Lib.hid (below_put3 (g := w.heap.size) HB.out (by omega) (.bool (decide (q.num < 0))) (.slice a1 0 c1) (.slice b1 1 d1))
  clear X0'
  obtain ⟨y, gy, oy, ey, ly, rfl, hgy, cy⟩ := row_at_one RB.out
  have HY := Lib.hid (show q.den = y by have h := congrArg val ey; rw [val_limbs] at h; simpa [val] using h)
  clear ey
  have hTv : (bitsOf y).length = T := by rw [← HT.out, HY.out]
  have HTV := Lib.hid hTv; clear hTv
  have lT : T ≤ 32 := by rw [← HTV.out]; exact bits_len y 32 (by omega)
  go_wp2
  go_loop [3, 4] (fun nn i => ∃ z k : Nat, nn = .int .u32 (z : Int) ∧ i = .int .i64 (k : Int) ∧ Hid (k + (bitsOf z).length = T) ∧ z < 4294967296 ∧ k ≤ 32) (fun nn _ => (intOf nn).toNat)
  case atStart => exact ⟨y, 0, rfl, rfl, (by show _ = _; rw [Nat.zero_add]; exact HTV.out), ly, by omega⟩
  case round =>
    obtain ⟨z, k, rfl, rfl, hz, lz, lk⟩ := hrel
    rcases Nat.eq_zero_or_pos z with rfl | hp
    · have hk : k = T := by have := hz.out; rw [bits_zero] at this; simpa using this
      subst hk
      go_wp2
      go_ret
      exact ⟨rfl, HB.out⟩
    · have h2 := hz.out
      rw [bits_pos (by omega)] at h2
      simp only [List.length_cons] at h2
      have lk1 : k + 1 ≤ 32 := by omega
      have H2 := Lib.hid h2; clear h2
      have hpI : (0 : Int) < (z : Int) := by omega
      have hzI : (z : Int) < 4294967296 := by omega
      go_wp2
      go_round
      case rel => exact ⟨z / 2, k + 1, by first | rfl | go_num | (congr 1; omega), by go_num, by show _ = _; have := H2.out; omega, by omega, by omega⟩
      case measure => simp [intOf]; omega

set_option maxHeartbeats 8000000 in
theorem rbitsR_le (K J T : Nat) (q : Rat) {s : Bool} {a b : Option Addr} {n c m d : Nat} {xs ys : List Nat} {w : World} (h0 : Row w a n c xs) (h1 : Row w b m d ys) (hq : mkRat (sv s (val xs)) (val ys) = q) (hn : n ≤ K) (hm : m ≤ J) (hK : K ≤ 60) (hK2 : 2 ≤ K) (hJ2 : 2 ≤ J) (hJ : J ≤ 60) (hT : bitsQ q = T) (hn0 : (limbs q.num.natAbs).length = 1) (hm0 : (limbs q.den).length = 1) (ho : q.num.natAbs ≤ q.den) :
    Calls Tryz.prog 32 #[.agg #[.bool s, .slice a n c, .slice b m d]] w fun e w' => e = .returned (.int .i64 (T : Int)) ∧ Below w.heap.size w w' := by
  have hT2 : (bitsOf q.den).length = T := by rw [← hT]; unfold bitsQ; have := bits_mono (ho); omega
  have HT := Lib.hid hT2; clear hT hT2
  have N0 := Lib.hid hn0; clear hn0
  have M0 := Lib.hid hm0; clear hm0
  have HO := Lib.hid ho; clear ho
  have HB := Lib.hid (below_one w (.cells #[.bool s, .slice a n c, .slice b m d] 26))
  have X0 : Hid (Tri (w.alloc (.cells #[.bool s, .slice a n c, .slice b m d] 26)) (w.heap.size) (.bool s) (.slice a n c) (.slice b m d)) := (tri_new _ (.bool s) (.slice a n c) (.slice b m d))
  have R0 := Lib.hid (h0.later HB.out); clear h0
  have R1 := Lib.hid (h1.later HB.out); clear h1
  have HQ := Lib.hid hq; clear hq
  go_enter Tryz.func32, Tryz.ntmps32
  go_wp2_with fail
  refine (rnormR K J q R0.out R1.out HQ.out hn hm hK hK2 hJ2 hJ).mono ?_
  rintro e w1 ⟨a1, n1, c1, b1, m1, d1, rfl, hn1, hm1, hr, hr2, hb⟩
  replace X0 := Lib.hid (X0.out.later hb)
  replace HB := Lib.hid (bthen HB.out hb)
  clear hb
  have RA := Lib.hid hr; clear hr
  have RB := Lib.hid hr2; clear hr2
  have e1 : n1 = 1 := by have := RA.out.1; have := N0.out; omega
  have e2 : m1 = 1 := by have := RB.out.1; have := M0.out; omega
  subst e1
  subst e2
  obtain ⟨kX00, kX01, kX02, kX03, kX04, kX05, kX06⟩ := X0.out
  have X0' := Lib.hid X0.out
  replace RA := Lib.hid (RA.out.put3 X0'.out (.bool (decide (q.num < 0))) (.slice a1 1 c1) (.slice b1 1 d1))
  replace RB := Lib.hid (RB.out.put3 X0'.out (.bool (decide (q.num < 0))) (.slice a1 1 c1) (.slice b1 1 d1))
  replace X0 := Lib.hid (X0.out.put (.bool (decide (q.num < 0))) (.slice a1 1 c1) (.slice b1 1 d1))
  replace HB := Lib.hid (below_put3 (g := w.heap.size) HB.out (by omega) (.bool (decide (q.num < 0))) (.slice a1 1 c1) (.slice b1 1 d1))
  clear X0'
  obtain ⟨y, gy, oy, ey, ly, rfl, hgy, cy⟩ := row_at_one RB.out
  have HY := Lib.hid (show q.den = y by have h := congrArg val ey; rw [val_limbs] at h; simpa [val] using h)
  clear ey
  obtain ⟨x, gx, ox, ex, lx, rfl, hgx, cx⟩ := row_at_one RA.out
  have HX := Lib.hid (show q.num.natAbs = x by have h := congrArg val ex; rw [val_limbs] at h; simpa [val] using h)
  clear ex
  have hxy : (x : Int) ≤ (y : Int) := by have := HO.out; rw [HX.out, HY.out] at this; omega
  have hTv : (bitsOf y).length = T := by rw [← HT.out, HY.out]
  have HTV := Lib.hid hTv; clear hTv
  have lT : T ≤ 32 := by rw [← HTV.out]; exact bits_len y 32 (by omega)
  have mx : max (x : Int) (y : Int) = (y : Int) := by omega
  have mx2 : max (y : Int) (x : Int) = (y : Int) := by omega
  go_wp2
  go_loop [3, 4] (fun nn i => ∃ z k : Nat, nn = .int .u32 (z : Int) ∧ i = .int .i64 (k : Int) ∧ Hid (k + (bitsOf z).length = T) ∧ z < 4294967296 ∧ k ≤ 32) (fun nn _ => (intOf nn).toNat)
  case atStart => exact ⟨y, 0, rfl, rfl, (by show _ = _; rw [Nat.zero_add]; exact HTV.out), ly, by omega⟩
  case round =>
    obtain ⟨z, k, rfl, rfl, hz, lz, lk⟩ := hrel
    rcases Nat.eq_zero_or_pos z with rfl | hp
    · have hk : k = T := by have := hz.out; rw [bits_zero] at this; simpa using this
      subst hk
      go_wp2
      go_ret
      exact ⟨rfl, HB.out⟩
    · have h2 := hz.out
      rw [bits_pos (by omega)] at h2
      simp only [List.length_cons] at h2
      have lk1 : k + 1 ≤ 32 := by omega
      have H2 := Lib.hid h2; clear h2
      have hpI : (0 : Int) < (z : Int) := by omega
      have hzI : (z : Int) < 4294967296 := by omega
      go_wp2
      go_round
      case rel => exact ⟨z / 2, k + 1, by first | rfl | go_num | (congr 1; omega), by go_num, by show _ = _; have := H2.out; omega, by omega, by omega⟩
      case measure => simp [intOf]; omega

set_option maxHeartbeats 8000000 in
theorem rbitsR_gt (K J T : Nat) (q : Rat) {s : Bool} {a b : Option Addr} {n c m d : Nat} {xs ys : List Nat} {w : World} (h0 : Row w a n c xs) (h1 : Row w b m d ys) (hq : mkRat (sv s (val xs)) (val ys) = q) (hn : n ≤ K) (hm : m ≤ J) (hK : K ≤ 60) (hK2 : 2 ≤ K) (hJ2 : 2 ≤ J) (hJ : J ≤ 60) (hT : bitsQ q = T) (hn0 : (limbs q.num.natAbs).length = 1) (hm0 : (limbs q.den).length = 1) (ho : q.den < q.num.natAbs) :
    Calls Tryz.prog 32 #[.agg #[.bool s, .slice a n c, .slice b m d]] w fun e w' => e = .returned (.int .i64 (T : Int)) ∧ Below w.heap.size w w' := by
  have hT2 : (bitsOf q.num.natAbs).length = T := by rw [← hT]; unfold bitsQ; have := bits_mono (Nat.le_of_lt ho); omega
  have HT := Lib.hid hT2; clear hT hT2
  have N0 := Lib.hid hn0; clear hn0
  have M0 := Lib.hid hm0; clear hm0
  have HO := Lib.hid ho; clear ho
  have HB := Lib.hid (below_one w (.cells #[.bool s, .slice a n c, .slice b m d] 26))
  have X0 : Hid (Tri (w.alloc (.cells #[.bool s, .slice a n c, .slice b m d] 26)) (w.heap.size) (.bool s) (.slice a n c) (.slice b m d)) := (tri_new _ (.bool s) (.slice a n c) (.slice b m d))
  have R0 := Lib.hid (h0.later HB.out); clear h0
  have R1 := Lib.hid (h1.later HB.out); clear h1
  have HQ := Lib.hid hq; clear hq
  go_enter Tryz.func32, Tryz.ntmps32
  go_wp2_with fail
  refine (rnormR K J q R0.out R1.out HQ.out hn hm hK hK2 hJ2 hJ).mono ?_
  rintro e w1 ⟨a1, n1, c1, b1, m1, d1, rfl, hn1, hm1, hr, hr2, hb⟩
  replace X0 := Lib.hid (X0.out.later hb)
  replace HB := Lib.hid (bthen HB.out hb)
  clear hb
  have RA := Lib.hid hr; clear hr
  have RB := Lib.hid hr2; clear hr2
  have e1 : n1 = 1 := by have := RA.out.1; have := N0.out; omega
  have e2 : m1 = 1 := by have := RB.out.1; have := M0.out; omega
  subst e1
  subst e2
  obtain ⟨kX00, kX01, kX02, kX03, kX04, kX05, kX06⟩ := X0.out
  have X0' := Lib.hid X0.out
  replace RA := Lib.hid (RA.out.put3 X0'.out (.bool (decide (q.num < 0))) (.slice a1 1 c1) (.slice b1 1 d1))
  replace RB := Lib.hid (RB.out.put3 X0'.out (.bool (decide (q.num < 0))) (.slice a1 1 c1) (.slice b1 1 d1))
  replace X0 := Lib.hid (X0.out.put (.bool (decide (q.num < 0))) (.slice a1 1 c1) (.slice b1 1 d1))
  replace HB := Lib.hid (below_put3 (g := w.heap.size) HB.out (by omega) (.bool (decide (q.num < 0))) (.slice a1 1 c1) (.slice b1 1 d1))
  clear X0'
  obtain ⟨y, gy, oy, ey, ly, rfl, hgy, cy⟩ := row_at_one RB.out
  have HY := Lib.hid (show q.den = y by have h := congrArg val ey; rw [val_limbs] at h; simpa [val] using h)
  clear ey
  obtain ⟨x, gx, ox, ex, lx, rfl, hgx, cx⟩ := row_at_one RA.out
  have HX := Lib.hid (show q.num.natAbs = x by have h := congrArg val ex; rw [val_limbs] at h; simpa [val] using h)
  clear ex
  have hxy : (y : Int) < (x : Int) := by have := HO.out; rw [HX.out, HY.out] at this; omega
  have hTv : (bitsOf x).length = T := by rw [← HT.out, HX.out]
  have HTV := Lib.hid hTv; clear hTv
  have lT : T ≤ 32 := by rw [← HTV.out]; exact bits_len x 32 (by omega)
  have mx : max (x : Int) (y : Int) = (x : Int) := by omega
  have mx2 : max (y : Int) (x : Int) = (x : Int) := by omega
  go_wp2
  go_loop [3, 4] (fun nn i => ∃ z k : Nat, nn = .int .u32 (z : Int) ∧ i = .int .i64 (k : Int) ∧ Hid (k + (bitsOf z).length = T) ∧ z < 4294967296 ∧ k ≤ 32) (fun nn _ => (intOf nn).toNat)
  case atStart => exact ⟨x, 0, rfl, rfl, (by show _ = _; rw [Nat.zero_add]; exact HTV.out), lx, by omega⟩
  case round =>
    obtain ⟨z, k, rfl, rfl, hz, lz, lk⟩ := hrel
    rcases Nat.eq_zero_or_pos z with rfl | hp
    · have hk : k = T := by have := hz.out; rw [bits_zero] at this; simpa using this
      subst hk
      go_wp2
      go_ret
      exact ⟨rfl, HB.out⟩
    · have h2 := hz.out
      rw [bits_pos (by omega)] at h2
      simp only [List.length_cons] at h2
      have lk1 : k + 1 ≤ 32 := by omega
      have H2 := Lib.hid h2; clear h2
      have hpI : (0 : Int) < (z : Int) := by omega
      have hzI : (z : Int) < 4294967296 := by omega
      go_wp2
      go_round
      case rel => exact ⟨z / 2, k + 1, by first | rfl | go_num | (congr 1; omega), by go_num, by show _ = _; have := H2.out; omega, by omega, by omega⟩
      case measure => simp [intOf]; omega

end Go.Proofs.YtnnoicjnggoffaaGreat
/- What the answer's Bits tells: large numbers. -/
namespace Go.Proofs.YtnnoicjnggoffaaGreat
set_option linter.unusedVariables false
set_option linter.unusedSimpArgs false
set_option maxRecDepth 100000
open Go.RowKit Nums

set_option maxHeartbeats 8000000 in
theorem rbitsR_biga_lt (K J T B1 B2 : Nat) (q : Rat) {s : Bool} {a b : Option Addr} {n c m d : Nat} {xs ys : List Nat} {w : World} (h0 : Row w a n c xs) (h1 : Row w b m d ys) (hq : mkRat (sv s (val xs)) (val ys) = q) (hn : n ≤ K) (hm : m ≤ J) (hK : K ≤ 60) (hK2 : 2 ≤ K) (hJ2 : 2 ≤ J) (hJ : J ≤ 60) (hT : bitsQ q = T) (hB1 : (bitsOf q.num.natAbs).length = B1) (hB2 : (bitsOf q.den).length = B2) (ho : B1 < B2) (hs : 1 < (limbs q.num.natAbs).length) :
    Calls Tryz.prog 32 #[.agg #[.bool s, .slice a n c, .slice b m d]] w fun e w' => e = .returned (.int .i64 (T : Int)) ∧ Below w.heap.size w w' := by
  have e1 : T = B2 := by unfold bitsQ at hT; omega
  have E1 := Lib.hid e1; clear e1
  clear hT
  have HB := Lib.hid (below_one w (.cells #[.bool s, .slice a n c, .slice b m d] 26))
  have X0 : Hid (Tri (w.alloc (.cells #[.bool s, .slice a n c, .slice b m d] 26)) (w.heap.size) (.bool s) (.slice a n c) (.slice b m d)) := (tri_new _ (.bool s) (.slice a n c) (.slice b m d))
  have hoI : (B1 : Int) < (B2 : Int) := by omega
  
  have R0 := Lib.hid (h0.later HB.out); clear h0
  have R1 := Lib.hid (h1.later HB.out); clear h1
  have HQ := Lib.hid hq; clear hq
  have H1 := Lib.hid hB1; clear hB1
  have H2 := Lib.hid hB2; clear hB2
  go_enter Tryz.func32, Tryz.ntmps32
  go_wp2_with fail
  refine (rnormR K J q R0.out R1.out HQ.out hn hm hK hK2 hJ2 hJ).mono ?_
  rintro e w1 ⟨a1, n1, c1, b1, m1, d1, rfl, hn1, hm1, hr, hr2, hb⟩
  replace X0 := Lib.hid (X0.out.later hb)
  replace HB := Lib.hid (bthen HB.out hb)
  clear hb
  have RA := Lib.hid hr; clear hr
  have RB := Lib.hid hr2; clear hr2
  have hV1 : B1 ≤ 32 * n1 := by rw [← H1.out]; have := bits_le RA.out; rw [val_limbs] at this; exact this
  have hV2 : B2 ≤ 32 * m1 := by rw [← H2.out]; have := bits_le RB.out; rw [val_limbs] at this; exact this
  have hsI : (1 : Int) < (n1 : Int) := by have := RA.out.1; omega
  have hsJ : ¬ (n1 : Int) ≤ 1 := by omega
  obtain ⟨kX00, kX01, kX02, kX03, kX04, kX05, kX06⟩ := X0.out
  have kx := kX00
  clear kX00 kX01 kX02 kX03 kX04 kX05 kX06
  obtain ⟨kX00, kX01, kX02, kX03, kX04, kX05, kX06⟩ := X0.out
  have X0' := Lib.hid X0.out
  replace RA := Lib.hid (RA.out.put3 X0'.out (.bool (decide (q.num < 0))) (.slice a1 n1 c1) (.slice b1 m1 d1))
  replace RB := Lib.hid (RB.out.put3 X0'.out (.bool (decide (q.num < 0))) (.slice a1 n1 c1) (.slice b1 m1 d1))
  replace X0 := Lib.hid (X0.out.put (.bool (decide (q.num < 0))) (.slice a1 n1 c1) (.slice b1 m1 d1))
  replace HB := Lib.hid (below_put3 (g := w.heap.size) HB.out (by omega) (.bool (decide (q.num < 0))) (.slice a1 n1 c1) (.slice b1 m1 d1))
  clear X0'
  go_wp2_with fail
  clear kX00 kX01 kX02 kX03 kX04 kX05 kX06
  obtain ⟨W, hW⟩ : ∃ W, (((w1.setCell ⟨w.heap.size, 0, none⟩ (.bool (decide (q.num < 0)))).setCell ⟨w.heap.size, 1, none⟩ (.slice a1 n1 c1)).setCell ⟨w.heap.size, 2, none⟩ (.slice b1 m1 d1)) = W := ⟨_, rfl⟩
  rw [hW] at RA RB X0 HB ⊢
  clear hW kx
  obtain ⟨kX00, kX01, kX02, -, -, -, -⟩ := X0.out
  clear kX00 kX01 kX02
  obtain ⟨kX00, kX01, kX02, -, -, -, -⟩ := X0.out
  replace RA := Lib.hid RA.out.drew
  replace RB := Lib.hid RB.out.drew
  replace X0 := Lib.hid X0.out.drew
  replace HB := Lib.hid HB.out.drew
  go_region_held3 (fun w' => w'.cell? ⟨w.heap.size, 0, none⟩ = some (.bool (decide (q.num < 0))) ∧ w'.cell? ⟨w.heap.size, 1, none⟩ = some (.slice a1 n1 c1) ∧ w'.cell? ⟨w.heap.size, 2, none⟩ = some (.slice b1 m1 d1))
    (first | (refine ⟨?_, ?_, ?_⟩ <;> with_reducible assumption) | (go_keep; done) | (refine ⟨?_, ?_, ?_⟩ <;> (repeat rw [cell_other (by first | (simp; done) | (simp; omega))]) <;> with_reducible assumption))
    (first
      | (have mk := G1; clear mk
         go_at_call 74
         refine (rbitsN B2 RB.out (by omega) (by rw [val_limbs]; exact H2.out)).mono ?_
         rintro e v2 ⟨rfl, hb⟩
         replace RA := Lib.hid (RA.out.later hb)
         replace RB := Lib.hid (RB.out.later hb)
         replace X0 := Lib.hid (X0.out.later hb)
         replace HB := Lib.hid (bthen HB.out hb); clear hb
         clear kX00 kX01 kX02
         obtain ⟨kX00, kX01, kX02, -, -, -, -⟩ := X0.out
         have G2 : Hid True := trivial)
      | (skip
         go_at_call 74
         refine (rbitsN B1 RA.out (by omega) (by rw [val_limbs]; exact H1.out)).mono ?_
         rintro e v1 ⟨rfl, hb⟩
         replace RA := Lib.hid (RA.out.later hb)
         replace RB := Lib.hid (RB.out.later hb)
         replace X0 := Lib.hid (X0.out.later hb)
         replace HB := Lib.hid (bthen HB.out hb); clear hb
         clear kX00 kX01 kX02
         obtain ⟨kX00, kX01, kX02, -, -, -, -⟩ := X0.out
         have G1 : Hid True := trivial))
  all_goals
    go_wp2
    go_ret
    exact ⟨by rw [E1.out]; exact ret_i64 (by omega), HB.out⟩

set_option maxHeartbeats 8000000 in
theorem rbitsR_biga_ge (K J T B1 B2 : Nat) (q : Rat) {s : Bool} {a b : Option Addr} {n c m d : Nat} {xs ys : List Nat} {w : World} (h0 : Row w a n c xs) (h1 : Row w b m d ys) (hq : mkRat (sv s (val xs)) (val ys) = q) (hn : n ≤ K) (hm : m ≤ J) (hK : K ≤ 60) (hK2 : 2 ≤ K) (hJ2 : 2 ≤ J) (hJ : J ≤ 60) (hT : bitsQ q = T) (hB1 : (bitsOf q.num.natAbs).length = B1) (hB2 : (bitsOf q.den).length = B2) (ho : B2 ≤ B1) (hs : 1 < (limbs q.num.natAbs).length) :
    Calls Tryz.prog 32 #[.agg #[.bool s, .slice a n c, .slice b m d]] w fun e w' => e = .returned (.int .i64 (T : Int)) ∧ Below w.heap.size w w' := by
  have e1 : T = B1 := by unfold bitsQ at hT; omega
  have E1 := Lib.hid e1; clear e1
  clear hT
  have HB := Lib.hid (below_one w (.cells #[.bool s, .slice a n c, .slice b m d] 26))
  have X0 : Hid (Tri (w.alloc (.cells #[.bool s, .slice a n c, .slice b m d] 26)) (w.heap.size) (.bool s) (.slice a n c) (.slice b m d)) := (tri_new _ (.bool s) (.slice a n c) (.slice b m d))
  have hoI : (B2 : Int) ≤ (B1 : Int) := by omega
  have hoJ : ¬ (B1 : Int) < (B2 : Int) := by omega
  have hoK : ¬ B1 < B2 := by omega
  have R0 := Lib.hid (h0.later HB.out); clear h0
  have R1 := Lib.hid (h1.later HB.out); clear h1
  have HQ := Lib.hid hq; clear hq
  have H1 := Lib.hid hB1; clear hB1
  have H2 := Lib.hid hB2; clear hB2
  go_enter Tryz.func32, Tryz.ntmps32
  go_wp2_with fail
  refine (rnormR K J q R0.out R1.out HQ.out hn hm hK hK2 hJ2 hJ).mono ?_
  rintro e w1 ⟨a1, n1, c1, b1, m1, d1, rfl, hn1, hm1, hr, hr2, hb⟩
  replace X0 := Lib.hid (X0.out.later hb)
  replace HB := Lib.hid (bthen HB.out hb)
  clear hb
  have RA := Lib.hid hr; clear hr
  have RB := Lib.hid hr2; clear hr2
  have hV1 : B1 ≤ 32 * n1 := by rw [← H1.out]; have := bits_le RA.out; rw [val_limbs] at this; exact this
  have hV2 : B2 ≤ 32 * m1 := by rw [← H2.out]; have := bits_le RB.out; rw [val_limbs] at this; exact this
  have hsI : (1 : Int) < (n1 : Int) := by have := RA.out.1; omega
  have hsJ : ¬ (n1 : Int) ≤ 1 := by omega
  obtain ⟨kX00, kX01, kX02, kX03, kX04, kX05, kX06⟩ := X0.out
  have kx := kX00
  clear kX00 kX01 kX02 kX03 kX04 kX05 kX06
  obtain ⟨kX00, kX01, kX02, kX03, kX04, kX05, kX06⟩ := X0.out
  have X0' := Lib.hid X0.out
  replace RA := Lib.hid (RA.out.put3 X0'.out (.bool (decide (q.num < 0))) (.slice a1 n1 c1) (.slice b1 m1 d1))
  replace RB := Lib.hid (RB.out.put3 X0'.out (.bool (decide (q.num < 0))) (.slice a1 n1 c1) (.slice b1 m1 d1))
  replace X0 := Lib.hid (X0.out.put (.bool (decide (q.num < 0))) (.slice a1 n1 c1) (.slice b1 m1 d1))
  replace HB := Lib.hid (below_put3 (g := w.heap.size) HB.out (by omega) (.bool (decide (q.num < 0))) (.slice a1 n1 c1) (.slice b1 m1 d1))
  clear X0'
  go_wp2_with fail
  clear kX00 kX01 kX02 kX03 kX04 kX05 kX06
  obtain ⟨W, hW⟩ : ∃ W, (((w1.setCell ⟨w.heap.size, 0, none⟩ (.bool (decide (q.num < 0)))).setCell ⟨w.heap.size, 1, none⟩ (.slice a1 n1 c1)).setCell ⟨w.heap.size, 2, none⟩ (.slice b1 m1 d1)) = W := ⟨_, rfl⟩
  rw [hW] at RA RB X0 HB ⊢
  clear hW kx
  obtain ⟨kX00, kX01, kX02, -, -, -, -⟩ := X0.out
  clear kX00 kX01 kX02
  obtain ⟨kX00, kX01, kX02, -, -, -, -⟩ := X0.out
  replace RA := Lib.hid RA.out.drew
  replace RB := Lib.hid RB.out.drew
  replace X0 := Lib.hid X0.out.drew
  replace HB := Lib.hid HB.out.drew
  go_region_held3 (fun w' => w'.cell? ⟨w.heap.size, 0, none⟩ = some (.bool (decide (q.num < 0))) ∧ w'.cell? ⟨w.heap.size, 1, none⟩ = some (.slice a1 n1 c1) ∧ w'.cell? ⟨w.heap.size, 2, none⟩ = some (.slice b1 m1 d1))
    (first | (refine ⟨?_, ?_, ?_⟩ <;> with_reducible assumption) | (go_keep; done) | (refine ⟨?_, ?_, ?_⟩ <;> (repeat rw [cell_other (by first | (simp; done) | (simp; omega))]) <;> with_reducible assumption))
    (first
      | (have mk := G1; clear mk
         go_at_call 74
         refine (rbitsN B2 RB.out (by omega) (by rw [val_limbs]; exact H2.out)).mono ?_
         rintro e v2 ⟨rfl, hb⟩
         replace RA := Lib.hid (RA.out.later hb)
         replace RB := Lib.hid (RB.out.later hb)
         replace X0 := Lib.hid (X0.out.later hb)
         replace HB := Lib.hid (bthen HB.out hb); clear hb
         clear kX00 kX01 kX02
         obtain ⟨kX00, kX01, kX02, -, -, -, -⟩ := X0.out
         have G2 : Hid True := trivial)
      | (skip
         go_at_call 74
         refine (rbitsN B1 RA.out (by omega) (by rw [val_limbs]; exact H1.out)).mono ?_
         rintro e v1 ⟨rfl, hb⟩
         replace RA := Lib.hid (RA.out.later hb)
         replace RB := Lib.hid (RB.out.later hb)
         replace X0 := Lib.hid (X0.out.later hb)
         replace HB := Lib.hid (bthen HB.out hb); clear hb
         clear kX00 kX01 kX02
         obtain ⟨kX00, kX01, kX02, -, -, -, -⟩ := X0.out
         have G1 : Hid True := trivial))
  all_goals
    go_wp2
    go_ret
    exact ⟨by rw [E1.out]; exact ret_i64 (by omega), HB.out⟩

set_option maxHeartbeats 8000000 in
theorem rbitsR_bigb_lt (K J T B1 B2 : Nat) (q : Rat) {s : Bool} {a b : Option Addr} {n c m d : Nat} {xs ys : List Nat} {w : World} (h0 : Row w a n c xs) (h1 : Row w b m d ys) (hq : mkRat (sv s (val xs)) (val ys) = q) (hn : n ≤ K) (hm : m ≤ J) (hK : K ≤ 60) (hK2 : 2 ≤ K) (hJ2 : 2 ≤ J) (hJ : J ≤ 60) (hT : bitsQ q = T) (hB1 : (bitsOf q.num.natAbs).length = B1) (hB2 : (bitsOf q.den).length = B2) (ho : B1 < B2) (hs : (limbs q.num.natAbs).length ≤ 1) (hs2 : (limbs q.den).length ≠ 1) :
    Calls Tryz.prog 32 #[.agg #[.bool s, .slice a n c, .slice b m d]] w fun e w' => e = .returned (.int .i64 (T : Int)) ∧ Below w.heap.size w w' := by
  have e1 : T = B2 := by unfold bitsQ at hT; omega
  have E1 := Lib.hid e1; clear e1
  clear hT
  have HB := Lib.hid (below_one w (.cells #[.bool s, .slice a n c, .slice b m d] 26))
  have X0 : Hid (Tri (w.alloc (.cells #[.bool s, .slice a n c, .slice b m d] 26)) (w.heap.size) (.bool s) (.slice a n c) (.slice b m d)) := (tri_new _ (.bool s) (.slice a n c) (.slice b m d))
  have hoI : (B1 : Int) < (B2 : Int) := by omega
  
  have R0 := Lib.hid (h0.later HB.out); clear h0
  have R1 := Lib.hid (h1.later HB.out); clear h1
  have HQ := Lib.hid hq; clear hq
  have H1 := Lib.hid hB1; clear hB1
  have H2 := Lib.hid hB2; clear hB2
  go_enter Tryz.func32, Tryz.ntmps32
  go_wp2_with fail
  refine (rnormR K J q R0.out R1.out HQ.out hn hm hK hK2 hJ2 hJ).mono ?_
  rintro e w1 ⟨a1, n1, c1, b1, m1, d1, rfl, hn1, hm1, hr, hr2, hb⟩
  replace X0 := Lib.hid (X0.out.later hb)
  replace HB := Lib.hid (bthen HB.out hb)
  clear hb
  have RA := Lib.hid hr; clear hr
  have RB := Lib.hid hr2; clear hr2
  have hV1 : B1 ≤ 32 * n1 := by rw [← H1.out]; have := bits_le RA.out; rw [val_limbs] at this; exact this
  have hV2 : B2 ≤ 32 * m1 := by rw [← H2.out]; have := bits_le RB.out; rw [val_limbs] at this; exact this
  have hsI : (n1 : Int) ≤ 1 := by have := RA.out.1; omega
  have hsJ : ((m1 : Int) == 1) = false := by rw [beq_eq_false_iff_ne]; have := RB.out.1; omega
  obtain ⟨kX00, kX01, kX02, kX03, kX04, kX05, kX06⟩ := X0.out
  have kx := kX00
  clear kX00 kX01 kX02 kX03 kX04 kX05 kX06
  obtain ⟨kX00, kX01, kX02, kX03, kX04, kX05, kX06⟩ := X0.out
  have X0' := Lib.hid X0.out
  replace RA := Lib.hid (RA.out.put3 X0'.out (.bool (decide (q.num < 0))) (.slice a1 n1 c1) (.slice b1 m1 d1))
  replace RB := Lib.hid (RB.out.put3 X0'.out (.bool (decide (q.num < 0))) (.slice a1 n1 c1) (.slice b1 m1 d1))
  replace X0 := Lib.hid (X0.out.put (.bool (decide (q.num < 0))) (.slice a1 n1 c1) (.slice b1 m1 d1))
  replace HB := Lib.hid (below_put3 (g := w.heap.size) HB.out (by omega) (.bool (decide (q.num < 0))) (.slice a1 n1 c1) (.slice b1 m1 d1))
  clear X0'
  go_wp2_with fail
  clear kX00 kX01 kX02 kX03 kX04 kX05 kX06
  obtain ⟨W, hW⟩ : ∃ W, (((w1.setCell ⟨w.heap.size, 0, none⟩ (.bool (decide (q.num < 0)))).setCell ⟨w.heap.size, 1, none⟩ (.slice a1 n1 c1)).setCell ⟨w.heap.size, 2, none⟩ (.slice b1 m1 d1)) = W := ⟨_, rfl⟩
  rw [hW] at RA RB X0 HB ⊢
  clear hW kx
  obtain ⟨kX00, kX01, kX02, -, -, -, -⟩ := X0.out
  clear kX00 kX01 kX02
  obtain ⟨kX00, kX01, kX02, -, -, -, -⟩ := X0.out
  replace RA := Lib.hid RA.out.drew
  replace RB := Lib.hid RB.out.drew
  replace X0 := Lib.hid X0.out.drew
  replace HB := Lib.hid HB.out.drew
  go_region_held3 (fun w' => w'.cell? ⟨w.heap.size, 0, none⟩ = some (.bool (decide (q.num < 0))) ∧ w'.cell? ⟨w.heap.size, 1, none⟩ = some (.slice a1 n1 c1) ∧ w'.cell? ⟨w.heap.size, 2, none⟩ = some (.slice b1 m1 d1))
    (first | (refine ⟨?_, ?_, ?_⟩ <;> with_reducible assumption) | (go_keep; done) | (refine ⟨?_, ?_, ?_⟩ <;> (repeat rw [cell_other (by first | (simp; done) | (simp; omega))]) <;> with_reducible assumption))
    (first
      | (have mk := G1; clear mk
         go_at_call 74
         refine (rbitsN B2 RB.out (by omega) (by rw [val_limbs]; exact H2.out)).mono ?_
         rintro e v2 ⟨rfl, hb⟩
         replace RA := Lib.hid (RA.out.later hb)
         replace RB := Lib.hid (RB.out.later hb)
         replace X0 := Lib.hid (X0.out.later hb)
         replace HB := Lib.hid (bthen HB.out hb); clear hb
         clear kX00 kX01 kX02
         obtain ⟨kX00, kX01, kX02, -, -, -, -⟩ := X0.out
         have G2 : Hid True := trivial)
      | (skip
         go_at_call 74
         refine (rbitsN B1 RA.out (by omega) (by rw [val_limbs]; exact H1.out)).mono ?_
         rintro e v1 ⟨rfl, hb⟩
         replace RA := Lib.hid (RA.out.later hb)
         replace RB := Lib.hid (RB.out.later hb)
         replace X0 := Lib.hid (X0.out.later hb)
         replace HB := Lib.hid (bthen HB.out hb); clear hb
         clear kX00 kX01 kX02
         obtain ⟨kX00, kX01, kX02, -, -, -, -⟩ := X0.out
         have G1 : Hid True := trivial))
  all_goals
    go_wp2
    go_ret
    exact ⟨by rw [E1.out]; exact ret_i64 (by omega), HB.out⟩

set_option maxHeartbeats 8000000 in
theorem rbitsR_bigb_ge (K J T B1 B2 : Nat) (q : Rat) {s : Bool} {a b : Option Addr} {n c m d : Nat} {xs ys : List Nat} {w : World} (h0 : Row w a n c xs) (h1 : Row w b m d ys) (hq : mkRat (sv s (val xs)) (val ys) = q) (hn : n ≤ K) (hm : m ≤ J) (hK : K ≤ 60) (hK2 : 2 ≤ K) (hJ2 : 2 ≤ J) (hJ : J ≤ 60) (hT : bitsQ q = T) (hB1 : (bitsOf q.num.natAbs).length = B1) (hB2 : (bitsOf q.den).length = B2) (ho : B2 ≤ B1) (hs : (limbs q.num.natAbs).length ≤ 1) (hs2 : (limbs q.den).length ≠ 1) :
    Calls Tryz.prog 32 #[.agg #[.bool s, .slice a n c, .slice b m d]] w fun e w' => e = .returned (.int .i64 (T : Int)) ∧ Below w.heap.size w w' := by
  have e1 : T = B1 := by unfold bitsQ at hT; omega
  have E1 := Lib.hid e1; clear e1
  clear hT
  have HB := Lib.hid (below_one w (.cells #[.bool s, .slice a n c, .slice b m d] 26))
  have X0 : Hid (Tri (w.alloc (.cells #[.bool s, .slice a n c, .slice b m d] 26)) (w.heap.size) (.bool s) (.slice a n c) (.slice b m d)) := (tri_new _ (.bool s) (.slice a n c) (.slice b m d))
  have hoI : (B2 : Int) ≤ (B1 : Int) := by omega
  have hoJ : ¬ (B1 : Int) < (B2 : Int) := by omega
  have hoK : ¬ B1 < B2 := by omega
  have R0 := Lib.hid (h0.later HB.out); clear h0
  have R1 := Lib.hid (h1.later HB.out); clear h1
  have HQ := Lib.hid hq; clear hq
  have H1 := Lib.hid hB1; clear hB1
  have H2 := Lib.hid hB2; clear hB2
  go_enter Tryz.func32, Tryz.ntmps32
  go_wp2_with fail
  refine (rnormR K J q R0.out R1.out HQ.out hn hm hK hK2 hJ2 hJ).mono ?_
  rintro e w1 ⟨a1, n1, c1, b1, m1, d1, rfl, hn1, hm1, hr, hr2, hb⟩
  replace X0 := Lib.hid (X0.out.later hb)
  replace HB := Lib.hid (bthen HB.out hb)
  clear hb
  have RA := Lib.hid hr; clear hr
  have RB := Lib.hid hr2; clear hr2
  have hV1 : B1 ≤ 32 * n1 := by rw [← H1.out]; have := bits_le RA.out; rw [val_limbs] at this; exact this
  have hV2 : B2 ≤ 32 * m1 := by rw [← H2.out]; have := bits_le RB.out; rw [val_limbs] at this; exact this
  have hsI : (n1 : Int) ≤ 1 := by have := RA.out.1; omega
  have hsJ : ((m1 : Int) == 1) = false := by rw [beq_eq_false_iff_ne]; have := RB.out.1; omega
  obtain ⟨kX00, kX01, kX02, kX03, kX04, kX05, kX06⟩ := X0.out
  have kx := kX00
  clear kX00 kX01 kX02 kX03 kX04 kX05 kX06
  obtain ⟨kX00, kX01, kX02, kX03, kX04, kX05, kX06⟩ := X0.out
  have X0' := Lib.hid X0.out
  replace RA := Lib.hid (RA.out.put3 X0'.out (.bool (decide (q.num < 0))) (.slice a1 n1 c1) (.slice b1 m1 d1))
  replace RB := Lib.hid (RB.out.put3 X0'.out (.bool (decide (q.num < 0))) (.slice a1 n1 c1) (.slice b1 m1 d1))
  replace X0 := Lib.hid (X0.out.put (.bool (decide (q.num < 0))) (.slice a1 n1 c1) (.slice b1 m1 d1))
  replace HB := Lib.hid (below_put3 (g := w.heap.size) HB.out (by omega) (.bool (decide (q.num < 0))) (.slice a1 n1 c1) (.slice b1 m1 d1))
  clear X0'
  go_wp2_with fail
  clear kX00 kX01 kX02 kX03 kX04 kX05 kX06
  obtain ⟨W, hW⟩ : ∃ W, (((w1.setCell ⟨w.heap.size, 0, none⟩ (.bool (decide (q.num < 0)))).setCell ⟨w.heap.size, 1, none⟩ (.slice a1 n1 c1)).setCell ⟨w.heap.size, 2, none⟩ (.slice b1 m1 d1)) = W := ⟨_, rfl⟩
  rw [hW] at RA RB X0 HB ⊢
  clear hW kx
  obtain ⟨kX00, kX01, kX02, -, -, -, -⟩ := X0.out
  clear kX00 kX01 kX02
  obtain ⟨kX00, kX01, kX02, -, -, -, -⟩ := X0.out
  replace RA := Lib.hid RA.out.drew
  replace RB := Lib.hid RB.out.drew
  replace X0 := Lib.hid X0.out.drew
  replace HB := Lib.hid HB.out.drew
  go_region_held3 (fun w' => w'.cell? ⟨w.heap.size, 0, none⟩ = some (.bool (decide (q.num < 0))) ∧ w'.cell? ⟨w.heap.size, 1, none⟩ = some (.slice a1 n1 c1) ∧ w'.cell? ⟨w.heap.size, 2, none⟩ = some (.slice b1 m1 d1))
    (first | (refine ⟨?_, ?_, ?_⟩ <;> with_reducible assumption) | (go_keep; done) | (refine ⟨?_, ?_, ?_⟩ <;> (repeat rw [cell_other (by first | (simp; done) | (simp; omega))]) <;> with_reducible assumption))
    (first
      | (have mk := G1; clear mk
         go_at_call 74
         refine (rbitsN B2 RB.out (by omega) (by rw [val_limbs]; exact H2.out)).mono ?_
         rintro e v2 ⟨rfl, hb⟩
         replace RA := Lib.hid (RA.out.later hb)
         replace RB := Lib.hid (RB.out.later hb)
         replace X0 := Lib.hid (X0.out.later hb)
         replace HB := Lib.hid (bthen HB.out hb); clear hb
         clear kX00 kX01 kX02
         obtain ⟨kX00, kX01, kX02, -, -, -, -⟩ := X0.out
         have G2 : Hid True := trivial)
      | (skip
         go_at_call 74
         refine (rbitsN B1 RA.out (by omega) (by rw [val_limbs]; exact H1.out)).mono ?_
         rintro e v1 ⟨rfl, hb⟩
         replace RA := Lib.hid (RA.out.later hb)
         replace RB := Lib.hid (RB.out.later hb)
         replace X0 := Lib.hid (X0.out.later hb)
         replace HB := Lib.hid (bthen HB.out hb); clear hb
         clear kX00 kX01 kX02
         obtain ⟨kX00, kX01, kX02, -, -, -, -⟩ := X0.out
         have G1 : Hid True := trivial))
  all_goals
    go_wp2
    go_ret
    exact ⟨by rw [E1.out]; exact ret_i64 (by omega), HB.out⟩

end Go.Proofs.YtnnoicjnggoffaaGreat
/- RatioParts: where a number is long; two numbers that are none. -/
namespace Go.Proofs.YtnnoicjnggoffaaGreat
set_option linter.unusedVariables false
set_option linter.unusedSimpArgs false
set_option maxRecDepth 100000
open Go.RowKit Nums

theorem wholeR (B : Bool) (q : Rat) {s : Bool} {a b : Option Addr} {n c m d : Nat} {xs ys : List Nat} {w : World} (h0 : Row w a n c xs) (h1 : Row w b m d ys) (hq : mkRat (sv s (val xs)) (val ys) = q) (hn : n ≤ 90) (hm : m ≤ 90) (hB : decide (q.den = 1) = B) :
    Calls Tryz.prog 36 #[.agg #[.bool s, .slice a n c, .slice b m d]] w fun e w' => e = .returned (.bool B) ∧ Below w.heap.size w w' := by
  subst hB
  by_cases h : q.den = 1
  · rw [decide_eq_true h]; exact wholeR_yes q h0 h1 hq hn hm h
  · rw [decide_eq_false h]; exact wholeR_no q h0 h1 hq hn hm h

theorem rwholeR (K J : Nat) (B : Bool) (q : Rat) {s : Bool} {a b : Option Addr} {n c m d : Nat} {xs ys : List Nat} {w : World} (h0 : Row w a n c xs) (h1 : Row w b m d ys) (hq : mkRat (sv s (val xs)) (val ys) = q) (hn : n ≤ K) (hm : m ≤ J) (hK : K ≤ 60) (hK2 : 2 ≤ K) (hJ2 : 2 ≤ J) (hJ : J ≤ 60) (hB : decide (q.den = 1) = B) :
    Calls Tryz.prog 37 #[.agg #[.bool s, .slice a n c, .slice b m d]] w fun e w' => e = .returned (.bool B) ∧ Below w.heap.size w w' := by
  subst hB
  by_cases h : q.den = 1
  · rw [decide_eq_true h]; exact rwholeR_yes K J q h0 h1 hq hn hm hK hK2 hJ2 hJ h
  · rw [decide_eq_false h]; exact rwholeR_no K J q h0 h1 hq hn hm hK hK2 hJ2 hJ h

theorem rbitsR (K J T : Nat) (q : Rat) {s : Bool} {a b : Option Addr} {n c m d : Nat} {xs ys : List Nat} {w : World} (h0 : Row w a n c xs) (h1 : Row w b m d ys) (hq : mkRat (sv s (val xs)) (val ys) = q) (hn : n ≤ K) (hm : m ≤ J) (hK : K ≤ 60) (hK2 : 2 ≤ K) (hJ2 : 2 ≤ J) (hJ : J ≤ 60) (hT : bitsQ q = T) :
    Calls Tryz.prog 32 #[.agg #[.bool s, .slice a n c, .slice b m d]] w fun e w' => e = .returned (.int .i64 (T : Int)) ∧ Below w.heap.size w w' := by
  by_cases hs : (limbs q.num.natAbs).length ≤ 1 ∧ (limbs q.den).length = 1
  · rcases (show (limbs q.num.natAbs).length = 0 ∨ (limbs q.num.natAbs).length = 1 by omega) with h | h
    · exact rbitsR_zero K J T q h0 h1 hq hn hm hK hK2 hJ2 hJ hT h hs.2
    · rcases Nat.lt_or_ge q.den q.num.natAbs with ho | ho
      · exact rbitsR_gt K J T q h0 h1 hq hn hm hK hK2 hJ2 hJ hT h hs.2 ho
      · exact rbitsR_le K J T q h0 h1 hq hn hm hK hK2 hJ2 hJ hT h hs.2 ho
  · rcases Nat.lt_or_ge (bitsOf q.num.natAbs).length (bitsOf q.den).length with h | h <;> rcases Nat.lt_or_ge 1 (limbs q.num.natAbs).length with h2 | h2
    · exact rbitsR_biga_lt K J T _ _ q h0 h1 hq hn hm hK hK2 hJ2 hJ hT rfl rfl h h2
    · exact rbitsR_bigb_lt K J T _ _ q h0 h1 hq hn hm hK hK2 hJ2 hJ hT rfl rfl h h2 (by omega)
    · exact rbitsR_biga_ge K J T _ _ q h0 h1 hq hn hm hK hK2 hJ2 hJ hT rfl rfl h h2
    · exact rbitsR_bigb_ge K J T _ _ q h0 h1 hq hn hm hK hK2 hJ2 hJ hT rfl rfl h h2 (by omega)

set_option maxHeartbeats 4000000 in
theorem ratioParts_outa (s0 s1 s2 : Bool) (a0 b0 a1 a2 : Option Addr) (n0 c0 m0 d0 n1 c1 n2 c2 : Nat) (w : World) (hbad : 4 < n0) :
    Calls Tryz.prog 4 #[.agg #[.bool s0, .slice a0 n0 c0, .slice b0 m0 d0], .agg #[.bool s1, .slice a1 n1 c1], .agg #[.bool s2, .slice a2 n2 c2]] w fun e w' => e = .returned (.bool true) ∧ Below w.heap.size w w' := by
  have HB := Lib.hid (below_four w (.cells #[.bool s0, .slice a0 n0 c0, .slice b0 m0 d0] 26) (.cells #[.bool s1, .slice a1 n1 c1] 24) (.cells #[.bool s2, .slice a2 n2 c2] 24) (.cells #[.bool s0, .slice a0 n0 c0, .slice b0 m0 d0] 26))
  have ka := cell_new (((w.alloc (.cells #[.bool s0, .slice a0 n0 c0, .slice b0 m0 d0] 26)).alloc (.cells #[.bool s1, .slice a1 n1 c1] 24)).alloc (.cells #[.bool s2, .slice a2 n2 c2] 24)) #[.bool s0, .slice a0 n0 c0, .slice b0 m0 d0] 26 1
  have kb := cell_new (((w.alloc (.cells #[.bool s0, .slice a0 n0 c0, .slice b0 m0 d0] 26)).alloc (.cells #[.bool s1, .slice a1 n1 c1] 24)).alloc (.cells #[.bool s2, .slice a2 n2 c2] 24)) #[.bool s0, .slice a0 n0 c0, .slice b0 m0 d0] 26 2
  rw [show (((w.alloc (.cells #[.bool s0, .slice a0 n0 c0, .slice b0 m0 d0] 26)).alloc (.cells #[.bool s1, .slice a1 n1 c1] 24)).alloc (.cells #[.bool s2, .slice a2 n2 c2] 24)).heap.size = w.heap.size + 1 + 1 + 1 from by simp] at ka kb
  go_enter Tryz.func4, Tryz.ntmps4
  go_wp2_with fail
  refine (few1_no0n (w.heap.size + 1 + 1 + 1) a0 b0 n0 c0 m0 d0 _ ka kb hbad).mono ?_
  rintro e w' ⟨rfl, rfl⟩
  clear ka kb
  go_wp2
  go_ret
  exact ⟨rfl, HB.out⟩

set_option maxHeartbeats 4000000 in
theorem ratioParts_outb (s0 s1 s2 : Bool) (a0 b0 a1 a2 : Option Addr) (n0 c0 m0 d0 n1 c1 n2 c2 : Nat) (w : World) (hn0 : n0 ≤ 4) (hbad : 4 < m0) :
    Calls Tryz.prog 4 #[.agg #[.bool s0, .slice a0 n0 c0, .slice b0 m0 d0], .agg #[.bool s1, .slice a1 n1 c1], .agg #[.bool s2, .slice a2 n2 c2]] w fun e w' => e = .returned (.bool true) ∧ Below w.heap.size w w' := by
  have HB := Lib.hid (below_four w (.cells #[.bool s0, .slice a0 n0 c0, .slice b0 m0 d0] 26) (.cells #[.bool s1, .slice a1 n1 c1] 24) (.cells #[.bool s2, .slice a2 n2 c2] 24) (.cells #[.bool s0, .slice a0 n0 c0, .slice b0 m0 d0] 26))
  have ka := cell_new (((w.alloc (.cells #[.bool s0, .slice a0 n0 c0, .slice b0 m0 d0] 26)).alloc (.cells #[.bool s1, .slice a1 n1 c1] 24)).alloc (.cells #[.bool s2, .slice a2 n2 c2] 24)) #[.bool s0, .slice a0 n0 c0, .slice b0 m0 d0] 26 1
  have kb := cell_new (((w.alloc (.cells #[.bool s0, .slice a0 n0 c0, .slice b0 m0 d0] 26)).alloc (.cells #[.bool s1, .slice a1 n1 c1] 24)).alloc (.cells #[.bool s2, .slice a2 n2 c2] 24)) #[.bool s0, .slice a0 n0 c0, .slice b0 m0 d0] 26 2
  rw [show (((w.alloc (.cells #[.bool s0, .slice a0 n0 c0, .slice b0 m0 d0] 26)).alloc (.cells #[.bool s1, .slice a1 n1 c1] 24)).alloc (.cells #[.bool s2, .slice a2 n2 c2] 24)).heap.size = w.heap.size + 1 + 1 + 1 from by simp] at ka kb
  go_enter Tryz.func4, Tryz.ntmps4
  go_wp2_with fail
  refine (few1_no0m (w.heap.size + 1 + 1 + 1) a0 b0 n0 c0 m0 d0 _ ka kb hn0 hbad).mono ?_
  rintro e w' ⟨rfl, rfl⟩
  clear ka kb
  go_wp2
  go_ret
  exact ⟨rfl, HB.out⟩

set_option maxHeartbeats 4000000 in
theorem ratioParts_outc (s0 s1 s2 : Bool) (a0 b0 a1 a2 : Option Addr) (n0 c0 m0 d0 n1 c1 n2 c2 : Nat) (w : World) (hn0 : n0 ≤ 4) (hm0 : m0 ≤ 4) (hbad : 4 < n1) :
    Calls Tryz.prog 4 #[.agg #[.bool s0, .slice a0 n0 c0, .slice b0 m0 d0], .agg #[.bool s1, .slice a1 n1 c1], .agg #[.bool s2, .slice a2 n2 c2]] w fun e w' => e = .returned (.bool true) ∧ Below w.heap.size w w' := by
  have HB := Lib.hid (below_four w (.cells #[.bool s0, .slice a0 n0 c0, .slice b0 m0 d0] 26) (.cells #[.bool s1, .slice a1 n1 c1] 24) (.cells #[.bool s2, .slice a2 n2 c2] 24) (.cells #[.bool s0, .slice a0 n0 c0, .slice b0 m0 d0] 26))
  have ka := cell_new (((w.alloc (.cells #[.bool s0, .slice a0 n0 c0, .slice b0 m0 d0] 26)).alloc (.cells #[.bool s1, .slice a1 n1 c1] 24)).alloc (.cells #[.bool s2, .slice a2 n2 c2] 24)) #[.bool s0, .slice a0 n0 c0, .slice b0 m0 d0] 26 1
  have kb := cell_new (((w.alloc (.cells #[.bool s0, .slice a0 n0 c0, .slice b0 m0 d0] 26)).alloc (.cells #[.bool s1, .slice a1 n1 c1] 24)).alloc (.cells #[.bool s2, .slice a2 n2 c2] 24)) #[.bool s0, .slice a0 n0 c0, .slice b0 m0 d0] 26 2
  rw [show (((w.alloc (.cells #[.bool s0, .slice a0 n0 c0, .slice b0 m0 d0] 26)).alloc (.cells #[.bool s1, .slice a1 n1 c1] 24)).alloc (.cells #[.bool s2, .slice a2 n2 c2] 24)).heap.size = w.heap.size + 1 + 1 + 1 from by simp] at ka kb
  have hI : (4 : Int) < (n1 : Int) := by omega
  go_enter Tryz.func4, Tryz.ntmps4
  go_wp2_with fail
  refine (few1_yes (w.heap.size + 1 + 1 + 1) a0 b0 n0 c0 m0 d0 _ ka kb hn0 hm0).mono ?_
  rintro e w' ⟨rfl, rfl⟩
  clear ka kb
  go_wp2
  go_ret
  exact ⟨rfl, HB.out⟩

set_option maxHeartbeats 4000000 in
theorem ratioParts_outd (s0 s1 s2 : Bool) (a0 b0 a1 a2 : Option Addr) (n0 c0 m0 d0 n1 c1 n2 c2 : Nat) (w : World) (hn0 : n0 ≤ 4) (hm0 : m0 ≤ 4) (hn1 : n1 ≤ 4) (hbad : 4 < n2) :
    Calls Tryz.prog 4 #[.agg #[.bool s0, .slice a0 n0 c0, .slice b0 m0 d0], .agg #[.bool s1, .slice a1 n1 c1], .agg #[.bool s2, .slice a2 n2 c2]] w fun e w' => e = .returned (.bool true) ∧ Below w.heap.size w w' := by
  have HB := Lib.hid (below_four w (.cells #[.bool s0, .slice a0 n0 c0, .slice b0 m0 d0] 26) (.cells #[.bool s1, .slice a1 n1 c1] 24) (.cells #[.bool s2, .slice a2 n2 c2] 24) (.cells #[.bool s0, .slice a0 n0 c0, .slice b0 m0 d0] 26))
  have ka := cell_new (((w.alloc (.cells #[.bool s0, .slice a0 n0 c0, .slice b0 m0 d0] 26)).alloc (.cells #[.bool s1, .slice a1 n1 c1] 24)).alloc (.cells #[.bool s2, .slice a2 n2 c2] 24)) #[.bool s0, .slice a0 n0 c0, .slice b0 m0 d0] 26 1
  have kb := cell_new (((w.alloc (.cells #[.bool s0, .slice a0 n0 c0, .slice b0 m0 d0] 26)).alloc (.cells #[.bool s1, .slice a1 n1 c1] 24)).alloc (.cells #[.bool s2, .slice a2 n2 c2] 24)) #[.bool s0, .slice a0 n0 c0, .slice b0 m0 d0] 26 2
  rw [show (((w.alloc (.cells #[.bool s0, .slice a0 n0 c0, .slice b0 m0 d0] 26)).alloc (.cells #[.bool s1, .slice a1 n1 c1] 24)).alloc (.cells #[.bool s2, .slice a2 n2 c2] 24)).heap.size = w.heap.size + 1 + 1 + 1 from by simp] at ka kb
  have hI : (4 : Int) < (n2 : Int) := by omega
  have hJ : (n1 : Int) ≤ 4 := by omega
  have hJ2 : ¬ (4 : Int) < (n1 : Int) := by omega
  go_enter Tryz.func4, Tryz.ntmps4
  go_wp2_with fail
  refine (few1_yes (w.heap.size + 1 + 1 + 1) a0 b0 n0 c0 m0 d0 _ ka kb hn0 hm0).mono ?_
  rintro e w' ⟨rfl, rfl⟩
  clear ka kb
  go_wp2
  go_ret
  exact ⟨rfl, HB.out⟩

end Go.Proofs.YtnnoicjnggoffaaGreat
/- What the answer's Floor tells. -/
namespace Go.Proofs.YtnnoicjnggoffaaGreat
set_option linter.unusedVariables false
set_option linter.unusedSimpArgs false
set_option maxRecDepth 100000
open Go.RowKit Nums

def CutF (K J : Nat) (w : World) (F R : Int) (g4 g5 : Nat) (wx : World) : Prop :=
  g4 ≠ g5 ∧ w.heap.size + 1 < g4 ∧ w.heap.size + 1 < g5 ∧ ∃ aq mq cq, Box wx g4 (.bool (decide (F < 0))) (.slice aq mq cq) ∧ mq ≤ K ∧ Row wx aq mq cq (limbs F.natAbs) ∧ Box wx (w.heap.size + 1) (.bool false) (.slice none 0 0) ∧ Below w.heap.size w wx

set_option maxHeartbeats 8000000 in
theorem rfloorR (q : Rat) {s : Bool} {a b : Option Addr} {n c m d : Nat} {xs ys : List Nat} {w : World} (h0 : Row w a n c xs) (h1 : Row w b m d ys) (hq : mkRat (sv s (val xs)) (val ys) = q) (hn : n ≤ 8) (hm : m ≤ 8) :
    Calls Tryz.prog 35 #[.agg #[.bool s, .slice a n c, .slice b m d]] w (IntK 11 q.floor w) := by
  have HB := Lib.hid (below_two w (.cells #[.bool s, .slice a n c, .slice b m d] 26) (.cells #[.bool false, .slice none 0 0] 24))
  have X0 : Hid (Tri ((w.alloc (.cells #[.bool s, .slice a n c, .slice b m d] 26)).alloc (.cells #[.bool false, .slice none 0 0] 24)) (w.heap.size) (.bool s) (.slice a n c) (.slice b m d)) := ((tri_new _ (.bool s) (.slice a n c) (.slice b m d)).alloc _)
  have Z0 : Hid (Box ((w.alloc (.cells #[.bool s, .slice a n c, .slice b m d] 26)).alloc (.cells #[.bool false, .slice none 0 0] 24)) (w.heap.size + 1) (.bool false) (.slice none 0 0)) := (box_newE (by simp))
  have R0 := Lib.hid (h0.later HB.out); clear h0
  have R1 := Lib.hid (h1.later HB.out); clear h1
  have HQ := Lib.hid hq; clear hq
  go_enter Tryz.func35, Tryz.ntmps35
  go_wp2_with fail
  refine (rnormR 8 8 q R0.out R1.out HQ.out hn hm (by omega) (by omega) (by omega) (by omega)).mono ?_
  rintro e w1 ⟨a1, n1, c1, b1, m1, d1, rfl, hn1, hm1, hr, hr2, hb⟩
  replace Z0 := Lib.hid (Z0.out.later hb)
  replace X0 := Lib.hid (X0.out.later hb)
  replace HB := Lib.hid (bthen HB.out hb)
  clear hb
  clear R0 R1 HQ
  have RA := Lib.hid hr; clear hr
  have RB := Lib.hid hr2; clear hr2
  obtain ⟨kZ00, kZ01, -, -, -⟩ := Z0.out
  obtain ⟨kX00, kX01, kX02, kX03, kX04, kX05, kX06⟩ := X0.out
  obtain ⟨V, hV⟩ : ∃ V, q.num = V := ⟨_, rfl⟩
  obtain ⟨E, hE⟩ : ∃ E, (q.den : Int) = E := ⟨_, rfl⟩
  have hvE : E ≠ 0 := by have := q.den_pos; omega
  have hfl := floor_raw q.den_pos (Rat.mkRat_self q)
  rw [hV, hE] at hfl
  obtain ⟨R, hR⟩ : ∃ R, V.fmod E = R := ⟨_, rfl⟩
  obtain ⟨F, hF⟩ : ∃ F, q.floor = F := ⟨_, rfl⟩
  rw [hF] at hfl ⊢
  rw [hV] at RA ⊢
  have HV := Lib.hid (show sv (decide (V < 0)) (val (limbs V.natAbs)) = V from sv_limbs V)
  have HE := Lib.hid (show sv false (val (limbs q.den)) = E by rw [val_limbs, ← hE]; rfl); clear hE hV
  have HN := Lib.hid hvE; clear hvE
  have HFL := Lib.hid hfl; clear hfl
  have HR := Lib.hid hR; clear hR
  have HF := Lib.hid hF; clear hF
  clear kZ00 kZ01 kX00 kX01 kX02 kX03 kX04 kX05 kX06
  obtain ⟨kX00, kX01, kX02, kX03, kX04, kX05, kX06⟩ := X0.out
  have X0' := Lib.hid X0.out
  replace RA := Lib.hid (RA.out.put3 X0'.out (.bool (decide (V < 0))) (.slice a1 n1 c1) (.slice b1 m1 d1))
  replace RB := Lib.hid (RB.out.put3 X0'.out (.bool (decide (V < 0))) (.slice a1 n1 c1) (.slice b1 m1 d1))
  replace Z0 := Lib.hid (Z0.out.far3 (g' := w.heap.size) (by omega) (.bool (decide (V < 0))) (.slice a1 n1 c1) (.slice b1 m1 d1))
  replace X0 := Lib.hid (X0.out.put (.bool (decide (V < 0))) (.slice a1 n1 c1) (.slice b1 m1 d1))
  replace HB := Lib.hid (below_put3 (g := w.heap.size) HB.out (by omega) (.bool (decide (V < 0))) (.slice a1 n1 c1) (.slice b1 m1 d1))
  clear X0'
  have lw : w.heap.size + 1 < w1.heap.size := by have := Z0.out.2.2.2.2; simpa using this
  go_wp2_with fail
  clear kX00 kX01 kX02 kX03 kX04 kX05 kX06
  obtain ⟨W, hW⟩ : ∃ W, (((w1.setCell ⟨w.heap.size, 0, none⟩ (.bool (decide (V < 0)))).setCell ⟨w.heap.size, 1, none⟩ (.slice a1 n1 c1)).setCell ⟨w.heap.size, 2, none⟩ (.slice b1 m1 d1)) = W := ⟨_, rfl⟩
  rw [hW] at RA RB X0 Z0 HB ⊢
  have lW : w.heap.size + 1 < W.heap.size := Z0.out.2.2.2.2
  clear hW lw
  obtain ⟨kX00, kX01, kX02, -, -, -, -⟩ := X0.out
  go_upto_region 2 with fail
  go_cut [3, 4] (fun s3 s4 wx => ∃ (g4 g5 : Nat), s3 = .pointer (some ⟨g4, 0, none⟩) ∧ s4 = .pointer (some ⟨g5, 0, none⟩) ∧ Hid (CutF 11 22 w F R g4 g5 wx))
  case first =>
    go_region_held3 (fun w' => w'.cell? ⟨w.heap.size, 0, none⟩ = some (.bool (decide (V < 0))) ∧ w'.cell? ⟨w.heap.size, 1, none⟩ = some (.slice a1 n1 c1) ∧ w'.cell? ⟨w.heap.size, 2, none⟩ = some (.slice b1 m1 d1))
      (first | (refine ⟨?_, ?_, ?_⟩ <;> with_reducible assumption) | ((refine tri_cells ?_ <;> repeat' (first | with_reducible exact X0.out | with_reducible refine Tri.far2 ?_ ?_ _ _ | with_reducible refine Tri.alloc ?_ _ | with_reducible refine Tri.drew ?_ | omega)); done) | (go_keep; done))
      (first
          | (go_at_call 76
             refine (rdivI F R (RA.out.later (by first | exact Below.refl _ _ | exact (Below.refl _ _).drew | exact below_one _ _ | exact (below_one _ _).drew | exact below_two _ _ _ | exact (below_two _ _ _).drew)) (RB.out.later (by first | exact Below.refl _ _ | exact (Below.refl _ _).drew | exact below_one _ _ | exact (below_one _ _).drew | exact below_two _ _ _ | exact (below_two _ _ _).drew)) HV.out HE.out (by omega) (by omega) HN.out HFL.out HR.out).mono ?_
             rintro e v2 ⟨aq, mq, cq, ar, mr, cr, rfl, bq, br, hq, hr, hb⟩
             have hbb : Below v1.heap.size v1 v2 := bthen (by first | exact Below.refl _ _ | exact (Below.refl _ _).drew | exact below_one _ _ | exact (below_one _ _).drew | exact below_two _ _ _ | exact (below_two _ _ _).drew) hb
             replace RA := Lib.hid (RA.out.later hbb)
             replace RB := Lib.hid (RB.out.later hbb)
             replace X0 := Lib.hid (X0.out.later hbb)
             replace Z0 := Lib.hid (Z0.out.later hbb)
             replace HB := Lib.hid (bthen HB.out hbb)
             (first | (replace Y0 := Lib.hid (Y0.out.later hbb); replace Y1 := Lib.hid (Y1.out.later hbb); clear kY00 kY01 kY02 kY03 kY04 kY10 kY11 kY12 kY13 kY14; obtain ⟨kY00, kY01, kY02, kY03, kY04⟩ := Y0.out; obtain ⟨kY10, kY11, kY12, kY13, kY14⟩ := Y1.out) | (replace Y0 := Lib.hid (Y0.out.later hbb); clear kY00 kY01 kY02 kY03 kY04; obtain ⟨kY00, kY01, kY02, kY03, kY04⟩ := Y0.out) | skip)
             (first | (have U0 : Hid (Box v2 v1.heap.size (.bool false) (.slice none 0 0)) := ((box_new v1 (.bool false) (.slice none 0 0)).alloc (.cells #[.bool false, .slice none 0 0] 24)).later hb; have U1 : Hid (Box v2 (v1.heap.size + 1) (.bool false) (.slice none 0 0)) := (box_next v1 (.cells #[.bool false, .slice none 0 0] 24) (.bool false) (.slice none 0 0)).later hb; obtain ⟨kU00, kU01, kU02, kU03, kU04⟩ := U0.out; obtain ⟨kU10, kU11, kU12, kU13, kU14⟩ := U1.out) | (have U0 : Hid (Box v2 v1.heap.size (.bool false) (.slice none 0 0)) := (box_new v1 (.bool false) (.slice none 0 0)).later hb; obtain ⟨kU00, kU01, kU02, kU03, kU04⟩ := U0.out) | skip)
             (try have lu0 : v1.heap.size < v2.heap.size := U0.out.2.2.2.2)
             (try have lu1 : v1.heap.size + 1 < v2.heap.size := U1.out.2.2.2.2)
             have RQ := Lib.hid hq; clear hq hr
             have l2 : v1.heap.size ≤ v2.heap.size := hbb.size
             clear hb hbb
             clear kX00 kX01 kX02
             obtain ⟨kX00, kX01, kX02, -, -, -, -⟩ := X0.out)
          | (go_at_call 51
             refine (rden_any _ _ _ _ _ _ _ _).mono ?_
             rintro e v1 ⟨rfl, hb⟩
             have hbb : Below W.heap.size W v1 := bthen (by first | exact Below.refl _ _ | exact (Below.refl _ _).drew | exact below_one _ _ | exact (below_one _ _).drew | exact below_two _ _ _ | exact (below_two _ _ _).drew) hb
             replace RA := Lib.hid (RA.out.later hbb)
             replace RB := Lib.hid (RB.out.later hbb)
             replace X0 := Lib.hid (X0.out.later hbb)
             replace Z0 := Lib.hid (Z0.out.later hbb)
             replace HB := Lib.hid (bthen HB.out hbb)
             (first | (have Y0 : Hid (Box v1 W.heap.size (.bool false) (.slice none 0 0)) := ((box_new W (.bool false) (.slice none 0 0)).alloc (.cells #[.bool false, .slice none 0 0] 24)).drew.later hb; have Y1 : Hid (Box v1 (W.heap.size + 1) (.bool false) (.slice none 0 0)) := (box_next W (.cells #[.bool false, .slice none 0 0] 24) (.bool false) (.slice none 0 0)).drew.later hb; obtain ⟨kY00, kY01, kY02, kY03, kY04⟩ := Y0.out; obtain ⟨kY10, kY11, kY12, kY13, kY14⟩ := Y1.out) | (have Y0 : Hid (Box v1 W.heap.size (.bool false) (.slice none 0 0)) := (box_new W (.bool false) (.slice none 0 0)).drew.later hb; obtain ⟨kY00, kY01, kY02, kY03, kY04⟩ := Y0.out) | skip)
             (try have ly0 : W.heap.size < v1.heap.size := Y0.out.2.2.2.2)
             (try have ly1 : W.heap.size + 1 < v1.heap.size := Y1.out.2.2.2.2)
             have l1 : W.heap.size ≤ v1.heap.size := hbb.size
             clear hb hbb
             clear kX00 kX01 kX02
             obtain ⟨kX00, kX01, kX02, -, -, -, -⟩ := X0.out))
    all_goals
      go_wp2_with fail
      go_meet
      refine ⟨_, _, rfl, rfl, ?_, ?_, ?_, aq, mq, cq, ?_, bq, ?_, ?_, ?_⟩
      · repeat' (first | omega | (simp; done) | (simp; omega))
      · repeat' (first | omega | (simp; done) | (simp; omega))
      · repeat' (first | omega | (simp; done) | (simp; omega))
      · repeat' (first | with_reducible exact Y0.out | with_reducible exact Y1.out | with_reducible exact U0.out | with_reducible exact U1.out | with_reducible exact Z0.out | with_reducible refine box_newE ?_ | with_reducible refine Box.put (u := .bool false) (v := .slice none 0 0) ?_ _ _ | with_reducible refine Box.far ?_ ?_ _ _ | with_reducible refine Box.alloc ?_ _ | omega | (simp; done))
      · repeat' (first | with_reducible exact RQ.out | with_reducible refine Row.later ?_ (below_one _ _) | with_reducible refine Row.putB (s := false) (b := none) (m := 0) (d := 0) ?_ ?_ _ _ | with_reducible exact Y0.out | with_reducible exact Y1.out | with_reducible exact U0.out | with_reducible exact U1.out | with_reducible exact Z0.out | with_reducible refine box_newE ?_ | with_reducible refine Box.put (u := .bool false) (v := .slice none 0 0) ?_ _ _ | with_reducible refine Box.far ?_ ?_ _ _ | with_reducible refine Box.alloc ?_ _ | omega | (simp; done))
      · repeat' (first | with_reducible exact Y0.out | with_reducible exact Y1.out | with_reducible exact U0.out | with_reducible exact U1.out | with_reducible exact Z0.out | with_reducible refine box_newE ?_ | with_reducible refine Box.put (u := .bool false) (v := .slice none 0 0) ?_ _ _ | with_reducible refine Box.far ?_ ?_ _ _ | with_reducible refine Box.alloc ?_ _ | omega | (simp; done))
      · repeat' (first | with_reducible exact HB.out | with_reducible refine Below.alloc ?_ ?_ _ | with_reducible refine below_put ?_ ?_ _ _ | omega | (simp; omega))
  case rest =>
    obtain ⟨g4, g5, rfl, rfl, hm⟩ := hcut
    obtain ⟨ne, la, lb, aq, mq, cq, y4, bq, rq, z0, hb⟩ := hm.out
    clear hm RA RB X0 Z0 HB kX00 kX01 kX02
    have Y4 := Lib.hid y4; clear y4
    have Z0 := Lib.hid z0; clear z0
    have RQ := Lib.hid rq; clear rq
    have HB := Lib.hid hb; clear hb
    obtain ⟨kZ00, kZ01, kZ02, kZ03, kZ04⟩ := Z0.out
    obtain ⟨kY40, kY41, -, -, -⟩ := Y4.out
    go_wp2
    exact bodyPost_ret (v := .agg #[.bool (decide (F < 0)), .slice aq mq cq]) (by simp [results, Tryz.results35, go_sem, *]) rfl ⟨aq, mq, cq, by rw [HF.out], bq, by rw [HF.out]; exact RQ.out.putB Z0.out _ _, below_put HB.out (by omega) _ _⟩

end Go.Proofs.YtnnoicjnggoffaaGreat
/- RatioParts, over nought. -/
namespace Go.Proofs.YtnnoicjnggoffaaGreat
set_option linter.unusedVariables false
set_option linter.unusedSimpArgs false
set_option maxRecDepth 100000
open Go.RowKit Nums

set_option maxHeartbeats 16000000 in
theorem ratioParts_z (p : Rat) (X Y : Int) {s0 s1 s2 : Bool} {a0 b0 a1 a2 : Option Addr} {n0 c0 m0 d0 n1 c1 n2 c2 : Nat} {xs0 ys0 xs1 xs2 : List Nat} {w : World} (h00 : Row w a0 n0 c0 xs0) (h01 : Row w b0 m0 d0 ys0) (hq0 : mkRat (sv s0 (val xs0)) (val ys0) = p) (hn0 : n0 ≤ 4) (hm0 : m0 ≤ 4) (h1 : Row w a1 n1 c1 xs1) (h2 : Row w a2 n2 c2 xs2) (hX : sv s1 (val xs1) = X) (hY : sv s2 (val xs2) = Y) (hn1 : n1 ≤ 4) (hn2 : n2 ≤ 4) (hz : Y = 0) :
    Calls Tryz.prog 4 #[.agg #[.bool s0, .slice a0 n0 c0, .slice b0 m0 d0], .agg #[.bool s1, .slice a1 n1 c1], .agg #[.bool s2, .slice a2 n2 c2]] w fun e w' => e = .returned (.bool true) ∧ Below w.heap.size w w' := by
  have hS : sgn Y = 0 := by rw [hz]; rfl
  have HS := Lib.hid hS; clear hS
  obtain ⟨T, hT⟩ : ∃ T, sgn p.num = T := ⟨_, rfl⟩
  have HT := Lib.hid hT; clear hT
  obtain ⟨Bi, hBi⟩ : ∃ B, bitsQ p = B := ⟨_, rfl⟩
  have HBI := Lib.hid hBi; clear hBi
  obtain ⟨F, hF⟩ : ∃ F, p.floor = F := ⟨_, rfl⟩
  have HF := Lib.hid hF; clear hF
  obtain ⟨Wh, hWh⟩ : ∃ B, decide (p.den = 1) = B := ⟨_, rfl⟩
  have HWH := Lib.hid hWh; clear hWh
  have HZ := Lib.hid hz; clear hz
  have HX := Lib.hid hX; clear hX
  have HY := Lib.hid hY; clear hY
  have HB := Lib.hid (below_four w (.cells #[.bool s0, .slice a0 n0 c0, .slice b0 m0 d0] 26) (.cells #[.bool s1, .slice a1 n1 c1] 24) (.cells #[.bool s2, .slice a2 n2 c2] 24) (.cells #[.bool s0, .slice a0 n0 c0, .slice b0 m0 d0] 26))
  have T0 : Hid (Tri ((((w.alloc (.cells #[.bool s0, .slice a0 n0 c0, .slice b0 m0 d0] 26)).alloc (.cells #[.bool s1, .slice a1 n1 c1] 24)).alloc (.cells #[.bool s2, .slice a2 n2 c2] 24)).alloc (.cells #[.bool s0, .slice a0 n0 c0, .slice b0 m0 d0] 26)) w.heap.size (.bool s0) (.slice a0 n0 c0) (.slice b0 m0 d0)) := ((((tri_new w (.bool s0) (.slice a0 n0 c0) (.slice b0 m0 d0)).alloc _).alloc _).alloc _)
  have X1 : Hid (Box ((((w.alloc (.cells #[.bool s0, .slice a0 n0 c0, .slice b0 m0 d0] 26)).alloc (.cells #[.bool s1, .slice a1 n1 c1] 24)).alloc (.cells #[.bool s2, .slice a2 n2 c2] 24)).alloc (.cells #[.bool s0, .slice a0 n0 c0, .slice b0 m0 d0] 26)) (w.heap.size + 1) (.bool s1) (.slice a1 n1 c1)) := (((box_newE (by simp)).alloc _).alloc _)
  have X2 : Hid (Box ((((w.alloc (.cells #[.bool s0, .slice a0 n0 c0, .slice b0 m0 d0] 26)).alloc (.cells #[.bool s1, .slice a1 n1 c1] 24)).alloc (.cells #[.bool s2, .slice a2 n2 c2] 24)).alloc (.cells #[.bool s0, .slice a0 n0 c0, .slice b0 m0 d0] 26)) (w.heap.size + 1 + 1) (.bool s2) (.slice a2 n2 c2)) := ((box_newE (by simp)).alloc _)
  have ka := cell_new (((w.alloc (.cells #[.bool s0, .slice a0 n0 c0, .slice b0 m0 d0] 26)).alloc (.cells #[.bool s1, .slice a1 n1 c1] 24)).alloc (.cells #[.bool s2, .slice a2 n2 c2] 24)) #[.bool s0, .slice a0 n0 c0, .slice b0 m0 d0] 26 1
  have kb := cell_new (((w.alloc (.cells #[.bool s0, .slice a0 n0 c0, .slice b0 m0 d0] 26)).alloc (.cells #[.bool s1, .slice a1 n1 c1] 24)).alloc (.cells #[.bool s2, .slice a2 n2 c2] 24)) #[.bool s0, .slice a0 n0 c0, .slice b0 m0 d0] 26 2
  rw [show (((w.alloc (.cells #[.bool s0, .slice a0 n0 c0, .slice b0 m0 d0] 26)).alloc (.cells #[.bool s1, .slice a1 n1 c1] 24)).alloc (.cells #[.bool s2, .slice a2 n2 c2] 24)).heap.size = w.heap.size + 1 + 1 + 1 from by simp] at ka kb
  have R00 := Lib.hid (h00.later HB.out); clear h00
  have R01 := Lib.hid (h01.later HB.out); clear h01
  have HQ0 := Lib.hid hq0; clear hq0
  have R1 := Lib.hid (h1.later HB.out); clear h1
  have R2 := Lib.hid (h2.later HB.out); clear h2
  have hI1 : (n1 : Int) ≤ 4 := by omega
  have hI2 : (n2 : Int) ≤ 4 := by omega
  go_enter Tryz.func4, Tryz.ntmps4
  go_wp2_with fail
  refine (few1_yes (w.heap.size + 1 + 1 + 1) a0 b0 n0 c0 m0 d0 _ ka kb hn0 hm0).mono ?_
  rintro e w0 ⟨rfl, rfl⟩
  clear ka kb
  obtain ⟨kX10, kX11, -, -, -⟩ := X1.out
  obtain ⟨kX20, kX21, -, -, -⟩ := X2.out
  obtain ⟨kT00, kT01, kT02, -, -, -, -⟩ := T0.out
  go_wp2_with fail
  refine (makeR_zero Y R1.out R2.out HY.out (by omega) HS.out).mono ?_
  rintro e w21 ⟨rfl, hb⟩
  replace R00 := Lib.hid (R00.out.later hb)
  replace R01 := Lib.hid (R01.out.later hb)
  replace R1 := Lib.hid (R1.out.later hb)
  replace R2 := Lib.hid (R2.out.later hb)
  replace X1 := Lib.hid (X1.out.later hb)
  replace X2 := Lib.hid (X2.out.later hb)
  replace T0 := Lib.hid (T0.out.later hb)
  replace HB := Lib.hid (bthen HB.out hb)
  clear hb
  clear kX10 kX11 kX20 kX21 kT00 kT01 kT02
  have hb1 := below_one w21 (.cells #[.bool false, .slice none 0 0, .slice none 0 0] 26)
  have XD : Hid (Tri (w21.alloc (.cells #[.bool false, .slice none 0 0, .slice none 0 0] 26)) w21.heap.size (.bool false) (.slice none 0 0) (.slice none 0 0)) := tri_new w21 _ _ _
  replace R00 := Lib.hid (R00.out.later hb1)
  replace R01 := Lib.hid (R01.out.later hb1)
  replace R1 := Lib.hid (R1.out.later hb1)
  replace R2 := Lib.hid (R2.out.later hb1)
  replace X1 := Lib.hid (X1.out.later hb1)
  replace X2 := Lib.hid (X2.out.later hb1)
  replace T0 := Lib.hid (T0.out.later hb1)
  replace HB := Lib.hid (bthen HB.out hb1)
  clear hb1
  obtain ⟨kX10, kX11, -, -, -⟩ := X1.out
  obtain ⟨kX20, kX21, -, -, -⟩ := X2.out
  obtain ⟨kT00, kT01, kT02, -, -, -, -⟩ := T0.out
  obtain ⟨kXD0, kXD1, kXD2, -, -, -, -⟩ := XD.out
  go_wp2_with fail
  refine (rmakeR_zero s1 a1 n1 c1 Y R2.out HY.out (by omega) HS.out).mono ?_
  rintro e w22 ⟨rfl, hb⟩
  replace R00 := Lib.hid (R00.out.later hb)
  replace R01 := Lib.hid (R01.out.later hb)
  replace R1 := Lib.hid (R1.out.later hb)
  replace R2 := Lib.hid (R2.out.later hb)
  replace X1 := Lib.hid (X1.out.later hb)
  replace X2 := Lib.hid (X2.out.later hb)
  replace T0 := Lib.hid (T0.out.later hb)
  replace XD := Lib.hid (XD.out.later hb)
  replace HB := Lib.hid (bthen HB.out hb)
  clear hb
  clear kX10 kX11 kX20 kX21 kT00 kT01 kT02 kXD0 kXD1 kXD2
  have hb1 := below_one w22 (.cells #[.bool false, .slice none 0 0, .slice none 0 0] 26)
  have XE : Hid (Tri (w22.alloc (.cells #[.bool false, .slice none 0 0, .slice none 0 0] 26)) w22.heap.size (.bool false) (.slice none 0 0) (.slice none 0 0)) := tri_new w22 _ _ _
  replace R00 := Lib.hid (R00.out.later hb1)
  replace R01 := Lib.hid (R01.out.later hb1)
  replace R1 := Lib.hid (R1.out.later hb1)
  replace R2 := Lib.hid (R2.out.later hb1)
  replace X1 := Lib.hid (X1.out.later hb1)
  replace X2 := Lib.hid (X2.out.later hb1)
  replace T0 := Lib.hid (T0.out.later hb1)
  replace XD := Lib.hid (XD.out.later hb1)
  replace HB := Lib.hid (bthen HB.out hb1)
  clear hb1
  clear R1
  clear R2
  clear X1
  clear X2
  go_wp2_with fail
  obtain ⟨W, hW⟩ : ∃ W, (w22.alloc (.cells #[.bool false, .slice none 0 0, .slice none 0 0] 26)) = W := ⟨_, rfl⟩
  rw [hW] at R00 R01 T0 XD XE HB ⊢
  clear hW
  obtain ⟨gd, hgd⟩ : ∃ gd, w21.heap.size = gd := ⟨_, rfl⟩
  obtain ⟨ge, hge⟩ : ∃ ge, w22.heap.size = ge := ⟨_, rfl⟩
  rw [hgd] at XD ⊢
  rw [hge] at XE ⊢
  clear hgd hge
  obtain ⟨kT00, kT01, kT02, -, -, -, -⟩ := T0.out
  obtain ⟨kXD0, kXD1, kXD2, -, -, -, -⟩ := XD.out
  obtain ⟨kXE0, kXE1, kXE2, -, -, -, -⟩ := XE.out
  replace R00 := Lib.hid R00.out.drew
  replace R01 := Lib.hid R01.out.drew
  replace T0 := Lib.hid T0.out.drew
  replace XD := Lib.hid XD.out.drew
  replace XE := Lib.hid XE.out.drew
  replace HB := Lib.hid HB.out.drew
  go_region_held3 (fun w' => w'.cell? ⟨w.heap.size, 0, none⟩ = some (.bool s0) ∧ w'.cell? ⟨w.heap.size, 1, none⟩ = some (.slice a0 n0 c0) ∧ w'.cell? ⟨w.heap.size, 2, none⟩ = some (.slice b0 m0 d0) ∧ w'.cell? ⟨gd, 0, none⟩ = some (.bool false) ∧ w'.cell? ⟨gd, 1, none⟩ = some (.slice none 0 0) ∧ w'.cell? ⟨gd, 2, none⟩ = some (.slice none 0 0) ∧ w'.cell? ⟨ge, 0, none⟩ = some (.bool false) ∧ w'.cell? ⟨ge, 1, none⟩ = some (.slice none 0 0) ∧ w'.cell? ⟨ge, 2, none⟩ = some (.slice none 0 0))
    (first | (refine ⟨?_, ?_, ?_, ?_, ?_, ?_, ?_, ?_, ?_⟩ <;> with_reducible assumption) | (go_keep; done) | (refine ⟨?_, ?_, ?_, ?_, ?_, ?_, ?_, ?_, ?_⟩ <;> (repeat rw [cell_other (by first | (simp; done) | (simp; omega))]) <;> with_reducible assumption))
    (first
      | (have mk := G10; clear mk
         try (rw [if_pos (by rfl)]; go_simp)
         go_at_call 26
         refine (awakeR _).mono ?_
         rintro e v11 ⟨rfl, hb⟩
         replace R00 := Lib.hid (R00.out.later hb)
         replace R01 := Lib.hid (R01.out.later hb)
         replace T0 := Lib.hid (T0.out.later hb)
         replace XD := Lib.hid (XD.out.later hb)
         replace XE := Lib.hid (XE.out.later hb)
         replace HB := Lib.hid (bthen HB.out hb); clear hb
         clear kT00 kT01 kT02 kXD0 kXD1 kXD2 kXE0 kXE1 kXE2
         obtain ⟨kT00, kT01, kT02, -, -, -, -⟩ := T0.out
         obtain ⟨kXD0, kXD1, kXD2, -, -, -, -⟩ := XD.out
         obtain ⟨kXE0, kXE1, kXE2, -, -, -, -⟩ := XE.out
         have G11 : Hid True := trivial
         try go_wp2_with fail)
      | (have mk := G9; clear mk
         try (rw [if_pos (by rfl)]; go_simp)
         go_at_call 13
         refine (sameNone _).mono ?_
         rintro e v10 ⟨rfl, hb⟩
         replace R00 := Lib.hid (R00.out.later hb)
         replace R01 := Lib.hid (R01.out.later hb)
         replace T0 := Lib.hid (T0.out.later hb)
         replace XD := Lib.hid (XD.out.later hb)
         replace XE := Lib.hid (XE.out.later hb)
         replace HB := Lib.hid (bthen HB.out hb); clear hb
         clear kT00 kT01 kT02 kXD0 kXD1 kXD2 kXE0 kXE1 kXE2
         obtain ⟨kT00, kT01, kT02, -, -, -, -⟩ := T0.out
         obtain ⟨kXD0, kXD1, kXD2, -, -, -, -⟩ := XD.out
         obtain ⟨kXE0, kXE1, kXE2, -, -, -, -⟩ := XE.out
         have G10 : Hid True := trivial
         try go_wp2_with fail)
      | (have mk := G8; clear mk
         try (rw [if_pos (by rfl)]; go_simp)
         go_at_call 37
         refine (rwholeR 4 4 Wh p R00.out R01.out HQ0.out hn0 hm0 (by omega) (by omega) (by omega) (by omega) HWH.out).mono ?_
         rintro e v9 ⟨rfl, hb⟩
         replace R00 := Lib.hid (R00.out.later hb)
         replace R01 := Lib.hid (R01.out.later hb)
         replace T0 := Lib.hid (T0.out.later hb)
         replace XD := Lib.hid (XD.out.later hb)
         replace XE := Lib.hid (XE.out.later hb)
         replace HB := Lib.hid (bthen HB.out hb); clear hb
         clear kT00 kT01 kT02 kXD0 kXD1 kXD2 kXE0 kXE1 kXE2
         obtain ⟨kT00, kT01, kT02, -, -, -, -⟩ := T0.out
         obtain ⟨kXD0, kXD1, kXD2, -, -, -, -⟩ := XD.out
         obtain ⟨kXE0, kXE1, kXE2, -, -, -, -⟩ := XE.out
         have G9 : Hid True := trivial
         try go_wp2_with fail)
      | (have mk := G7; clear mk
         try (rw [if_pos (by rfl)]; go_simp)
         go_at_call 36
         refine (wholeR Wh p R00.out R01.out HQ0.out (by omega) (by omega) HWH.out).mono ?_
         rintro e v8 ⟨rfl, hb⟩
         replace R00 := Lib.hid (R00.out.later hb)
         replace R01 := Lib.hid (R01.out.later hb)
         replace T0 := Lib.hid (T0.out.later hb)
         replace XD := Lib.hid (XD.out.later hb)
         replace XE := Lib.hid (XE.out.later hb)
         replace HB := Lib.hid (bthen HB.out hb); clear hb
         clear kT00 kT01 kT02 kXD0 kXD1 kXD2 kXE0 kXE1 kXE2
         obtain ⟨kT00, kT01, kT02, -, -, -, -⟩ := T0.out
         obtain ⟨kXD0, kXD1, kXD2, -, -, -, -⟩ := XD.out
         obtain ⟨kXE0, kXE1, kXE2, -, -, -, -⟩ := XE.out
         have G8 : Hid True := trivial
         try go_wp2_with fail)
      | (have mk := G6; clear mk
         try (rw [if_pos (by rfl)]; go_simp)
         go_at_call 33
         refine (rsame_yes _ _ _ _ _ _ _ _ _ Rf.out Rh.out (by omega)).mono ?_
         rintro e v7 ⟨rfl, hb⟩
         clear Rf
         clear Rh
         replace R00 := Lib.hid (R00.out.later hb)
         replace R01 := Lib.hid (R01.out.later hb)
         replace T0 := Lib.hid (T0.out.later hb)
         replace XD := Lib.hid (XD.out.later hb)
         replace XE := Lib.hid (XE.out.later hb)
         replace HB := Lib.hid (bthen HB.out hb); clear hb
         clear kT00 kT01 kT02 kXD0 kXD1 kXD2 kXE0 kXE1 kXE2
         obtain ⟨kT00, kT01, kT02, -, -, -, -⟩ := T0.out
         obtain ⟨kXD0, kXD1, kXD2, -, -, -, -⟩ := XD.out
         obtain ⟨kXE0, kXE1, kXE2, -, -, -, -⟩ := XE.out
         have G7 : Hid True := trivial
         try go_wp2_with fail)
      | (have mk := G5; clear mk
         try (rw [if_pos (by rfl)]; go_simp)
         go_at_call 35
         refine (rfloorR p R00.out R01.out HQ0.out (by omega) (by omega)).mono ?_
         rintro e v6 ⟨ah, nh, ch, rfl, hnh, hr, hb⟩
         replace R00 := Lib.hid (R00.out.later hb)
         replace R01 := Lib.hid (R01.out.later hb)
         replace Rf := Lib.hid (Rf.out.later hb)
         replace T0 := Lib.hid (T0.out.later hb)
         replace XD := Lib.hid (XD.out.later hb)
         replace XE := Lib.hid (XE.out.later hb)
         replace HB := Lib.hid (bthen HB.out hb); clear hb
         clear kT00 kT01 kT02 kXD0 kXD1 kXD2 kXE0 kXE1 kXE2
         obtain ⟨kT00, kT01, kT02, -, -, -, -⟩ := T0.out
         obtain ⟨kXD0, kXD1, kXD2, -, -, -, -⟩ := XD.out
         obtain ⟨kXE0, kXE1, kXE2, -, -, -, -⟩ := XE.out
         have Rh := Lib.hid hr; clear hr
         have G6 : Hid True := trivial
         try go_wp2_with fail)
      | (have mk := G4; clear mk
         try (rw [if_pos (by rfl)]; go_simp)
         go_at_call 34
         refine (floorR 4 p R00.out R01.out HQ0.out hn0 (by omega) (by omega) (by omega)).mono ?_
         rintro e v5 ⟨af, nf, cf, rfl, hnf, hr, hb⟩
         replace R00 := Lib.hid (R00.out.later hb)
         replace R01 := Lib.hid (R01.out.later hb)
         replace T0 := Lib.hid (T0.out.later hb)
         replace XD := Lib.hid (XD.out.later hb)
         replace XE := Lib.hid (XE.out.later hb)
         replace HB := Lib.hid (bthen HB.out hb); clear hb
         clear kT00 kT01 kT02 kXD0 kXD1 kXD2 kXE0 kXE1 kXE2
         obtain ⟨kT00, kT01, kT02, -, -, -, -⟩ := T0.out
         obtain ⟨kXD0, kXD1, kXD2, -, -, -, -⟩ := XD.out
         obtain ⟨kXE0, kXE1, kXE2, -, -, -, -⟩ := XE.out
         have Rf := Lib.hid hr; clear hr
         have G5 : Hid True := trivial
         try go_wp2_with fail)
      | (have mk := G3; clear mk
         try (rw [if_pos (by rfl)]; go_simp)
         go_at_call 32
         refine (rbitsR 4 4 Bi p R00.out R01.out HQ0.out hn0 hm0 (by omega) (by omega) (by omega) (by omega) HBI.out).mono ?_
         rintro e v4 ⟨rfl, hb⟩
         replace R00 := Lib.hid (R00.out.later hb)
         replace R01 := Lib.hid (R01.out.later hb)
         replace T0 := Lib.hid (T0.out.later hb)
         replace XD := Lib.hid (XD.out.later hb)
         replace XE := Lib.hid (XE.out.later hb)
         replace HB := Lib.hid (bthen HB.out hb); clear hb
         clear kT00 kT01 kT02 kXD0 kXD1 kXD2 kXE0 kXE1 kXE2
         obtain ⟨kT00, kT01, kT02, -, -, -, -⟩ := T0.out
         obtain ⟨kXD0, kXD1, kXD2, -, -, -, -⟩ := XD.out
         obtain ⟨kXE0, kXE1, kXE2, -, -, -, -⟩ := XE.out
         have G4 : Hid True := trivial
         try go_wp2_with fail)
      | (have mk := G2; clear mk
         try (rw [if_pos (by rfl)]; go_simp)
         go_at_call 31
         refine (bitsR 4 4 Bi p R00.out R01.out HQ0.out hn0 hm0 (by omega) (by omega) (by omega) (by omega) HBI.out).mono ?_
         rintro e v3 ⟨rfl, hb⟩
         replace R00 := Lib.hid (R00.out.later hb)
         replace R01 := Lib.hid (R01.out.later hb)
         replace T0 := Lib.hid (T0.out.later hb)
         replace XD := Lib.hid (XD.out.later hb)
         replace XE := Lib.hid (XE.out.later hb)
         replace HB := Lib.hid (bthen HB.out hb); clear hb
         clear kT00 kT01 kT02 kXD0 kXD1 kXD2 kXE0 kXE1 kXE2
         obtain ⟨kT00, kT01, kT02, -, -, -, -⟩ := T0.out
         obtain ⟨kXD0, kXD1, kXD2, -, -, -, -⟩ := XD.out
         obtain ⟨kXE0, kXE1, kXE2, -, -, -, -⟩ := XE.out
         have G3 : Hid True := trivial
         try go_wp2_with fail)
      | (have mk := G1; clear mk
         go_at_call 30
         refine (rsignR 4 4 T p R00.out R01.out HQ0.out hn0 hm0 (by omega) (by omega) (by omega) (by omega) HT.out).mono ?_
         rintro e v2 ⟨rfl, hb⟩
         replace R00 := Lib.hid (R00.out.later hb)
         replace R01 := Lib.hid (R01.out.later hb)
         replace T0 := Lib.hid (T0.out.later hb)
         replace XD := Lib.hid (XD.out.later hb)
         replace XE := Lib.hid (XE.out.later hb)
         replace HB := Lib.hid (bthen HB.out hb); clear hb
         clear kT00 kT01 kT02 kXD0 kXD1 kXD2 kXE0 kXE1 kXE2
         obtain ⟨kT00, kT01, kT02, -, -, -, -⟩ := T0.out
         obtain ⟨kXD0, kXD1, kXD2, -, -, -, -⟩ := XD.out
         obtain ⟨kXE0, kXE1, kXE2, -, -, -, -⟩ := XE.out
         have G2 : Hid True := trivial)
      | (skip
         go_at_call 29
         refine (signR T p R00.out R01.out HQ0.out (by omega) (by omega) HT.out).mono ?_
         rintro e v1 ⟨rfl, hb⟩
         replace R00 := Lib.hid (R00.out.later hb)
         replace R01 := Lib.hid (R01.out.later hb)
         replace T0 := Lib.hid (T0.out.later hb)
         replace XD := Lib.hid (XD.out.later hb)
         replace XE := Lib.hid (XE.out.later hb)
         replace HB := Lib.hid (bthen HB.out hb); clear hb
         clear kT00 kT01 kT02 kXD0 kXD1 kXD2 kXE0 kXE1 kXE2
         obtain ⟨kT00, kT01, kT02, -, -, -, -⟩ := T0.out
         obtain ⟨kXD0, kXD1, kXD2, -, -, -, -⟩ := XD.out
         obtain ⟨kXE0, kXE1, kXE2, -, -, -, -⟩ := XE.out
         have G1 : Hid True := trivial))
  go_wp2
  go_ret
  exact ⟨rfl, HB.out⟩

end Go.Proofs.YtnnoicjnggoffaaGreat
/- RatioParts, over what is not nought. -/
namespace Go.Proofs.YtnnoicjnggoffaaGreat
set_option linter.unusedVariables false
set_option linter.unusedSimpArgs false
set_option maxRecDepth 100000
open Go.RowKit Nums

set_option maxHeartbeats 16000000 in
theorem ratioParts_n (p : Rat) (X Y : Int) {s0 s1 s2 : Bool} {a0 b0 a1 a2 : Option Addr} {n0 c0 m0 d0 n1 c1 n2 c2 : Nat} {xs0 ys0 xs1 xs2 : List Nat} {w : World} (h00 : Row w a0 n0 c0 xs0) (h01 : Row w b0 m0 d0 ys0) (hq0 : mkRat (sv s0 (val xs0)) (val ys0) = p) (hn0 : n0 ≤ 4) (hm0 : m0 ≤ 4) (h1 : Row w a1 n1 c1 xs1) (h2 : Row w a2 n2 c2 xs2) (hX : sv s1 (val xs1) = X) (hY : sv s2 (val xs2) = Y) (hn1 : n1 ≤ 4) (hn2 : n2 ≤ 4) (hz : Y ≠ 0) :
    Calls Tryz.prog 4 #[.agg #[.bool s0, .slice a0 n0 c0, .slice b0 m0 d0], .agg #[.bool s1, .slice a1 n1 c1], .agg #[.bool s2, .slice a2 n2 c2]] w fun e w' => e = .returned (.bool true) ∧ Below w.heap.size w w' := by
  obtain ⟨dv, edv⟩ : ∃ z : Rat, (X : Rat) / (Y : Rat) = z := ⟨_, rfl⟩
  have EDV := Lib.hid edv; clear edv
  obtain ⟨T, hT⟩ : ∃ T, sgn p.num = T := ⟨_, rfl⟩
  have HT := Lib.hid hT; clear hT
  obtain ⟨Bi, hBi⟩ : ∃ B, bitsQ p = B := ⟨_, rfl⟩
  have HBI := Lib.hid hBi; clear hBi
  obtain ⟨F, hF⟩ : ∃ F, p.floor = F := ⟨_, rfl⟩
  have HF := Lib.hid hF; clear hF
  obtain ⟨Wh, hWh⟩ : ∃ B, decide (p.den = 1) = B := ⟨_, rfl⟩
  have HWH := Lib.hid hWh; clear hWh
  have HZ := Lib.hid hz; clear hz
  have HX := Lib.hid hX; clear hX
  have HY := Lib.hid hY; clear hY
  have HB := Lib.hid (below_four w (.cells #[.bool s0, .slice a0 n0 c0, .slice b0 m0 d0] 26) (.cells #[.bool s1, .slice a1 n1 c1] 24) (.cells #[.bool s2, .slice a2 n2 c2] 24) (.cells #[.bool s0, .slice a0 n0 c0, .slice b0 m0 d0] 26))
  have T0 : Hid (Tri ((((w.alloc (.cells #[.bool s0, .slice a0 n0 c0, .slice b0 m0 d0] 26)).alloc (.cells #[.bool s1, .slice a1 n1 c1] 24)).alloc (.cells #[.bool s2, .slice a2 n2 c2] 24)).alloc (.cells #[.bool s0, .slice a0 n0 c0, .slice b0 m0 d0] 26)) w.heap.size (.bool s0) (.slice a0 n0 c0) (.slice b0 m0 d0)) := ((((tri_new w (.bool s0) (.slice a0 n0 c0) (.slice b0 m0 d0)).alloc _).alloc _).alloc _)
  have X1 : Hid (Box ((((w.alloc (.cells #[.bool s0, .slice a0 n0 c0, .slice b0 m0 d0] 26)).alloc (.cells #[.bool s1, .slice a1 n1 c1] 24)).alloc (.cells #[.bool s2, .slice a2 n2 c2] 24)).alloc (.cells #[.bool s0, .slice a0 n0 c0, .slice b0 m0 d0] 26)) (w.heap.size + 1) (.bool s1) (.slice a1 n1 c1)) := (((box_newE (by simp)).alloc _).alloc _)
  have X2 : Hid (Box ((((w.alloc (.cells #[.bool s0, .slice a0 n0 c0, .slice b0 m0 d0] 26)).alloc (.cells #[.bool s1, .slice a1 n1 c1] 24)).alloc (.cells #[.bool s2, .slice a2 n2 c2] 24)).alloc (.cells #[.bool s0, .slice a0 n0 c0, .slice b0 m0 d0] 26)) (w.heap.size + 1 + 1) (.bool s2) (.slice a2 n2 c2)) := ((box_newE (by simp)).alloc _)
  have ka := cell_new (((w.alloc (.cells #[.bool s0, .slice a0 n0 c0, .slice b0 m0 d0] 26)).alloc (.cells #[.bool s1, .slice a1 n1 c1] 24)).alloc (.cells #[.bool s2, .slice a2 n2 c2] 24)) #[.bool s0, .slice a0 n0 c0, .slice b0 m0 d0] 26 1
  have kb := cell_new (((w.alloc (.cells #[.bool s0, .slice a0 n0 c0, .slice b0 m0 d0] 26)).alloc (.cells #[.bool s1, .slice a1 n1 c1] 24)).alloc (.cells #[.bool s2, .slice a2 n2 c2] 24)) #[.bool s0, .slice a0 n0 c0, .slice b0 m0 d0] 26 2
  rw [show (((w.alloc (.cells #[.bool s0, .slice a0 n0 c0, .slice b0 m0 d0] 26)).alloc (.cells #[.bool s1, .slice a1 n1 c1] 24)).alloc (.cells #[.bool s2, .slice a2 n2 c2] 24)).heap.size = w.heap.size + 1 + 1 + 1 from by simp] at ka kb
  have R00 := Lib.hid (h00.later HB.out); clear h00
  have R01 := Lib.hid (h01.later HB.out); clear h01
  have HQ0 := Lib.hid hq0; clear hq0
  have R1 := Lib.hid (h1.later HB.out); clear h1
  have R2 := Lib.hid (h2.later HB.out); clear h2
  have hI1 : (n1 : Int) ≤ 4 := by omega
  have hI2 : (n2 : Int) ≤ 4 := by omega
  go_enter Tryz.func4, Tryz.ntmps4
  go_wp2_with fail
  refine (few1_yes (w.heap.size + 1 + 1 + 1) a0 b0 n0 c0 m0 d0 _ ka kb hn0 hm0).mono ?_
  rintro e w0 ⟨rfl, rfl⟩
  clear ka kb
  obtain ⟨kX10, kX11, -, -, -⟩ := X1.out
  obtain ⟨kX20, kX21, -, -, -⟩ := X2.out
  obtain ⟨kT00, kT01, kT02, -, -, -, -⟩ := T0.out
  go_wp2_with fail
  refine (makeR 4 4 dv X Y R1.out R2.out HX.out HY.out hn1 hn2 (by omega) (by omega) (by omega) HZ.out EDV.out).mono ?_
  rintro e w21 ⟨ad, nd, cd, bd', md, dd, rfl, hnd, hmd, hr, hr2, hb⟩
  replace R00 := Lib.hid (R00.out.later hb)
  replace R01 := Lib.hid (R01.out.later hb)
  replace R1 := Lib.hid (R1.out.later hb)
  replace R2 := Lib.hid (R2.out.later hb)
  replace X1 := Lib.hid (X1.out.later hb)
  replace X2 := Lib.hid (X2.out.later hb)
  replace T0 := Lib.hid (T0.out.later hb)
  replace HB := Lib.hid (bthen HB.out hb)
  clear hb
  clear kX10 kX11 kX20 kX21 kT00 kT01 kT02
  have Rd0 := Lib.hid hr; clear hr
  have Rd1 := Lib.hid hr2; clear hr2
  have hb1 := below_one w21 (.cells #[.bool (decide (dv.num < 0)), .slice ad nd cd, .slice bd' md dd] 26)
  have XD : Hid (Tri (w21.alloc (.cells #[.bool (decide (dv.num < 0)), .slice ad nd cd, .slice bd' md dd] 26)) w21.heap.size (.bool (decide (dv.num < 0))) (.slice ad nd cd) (.slice bd' md dd)) := tri_new w21 _ _ _
  replace Rd0 := Lib.hid (Rd0.out.later hb1)
  replace Rd1 := Lib.hid (Rd1.out.later hb1)
  replace R00 := Lib.hid (R00.out.later hb1)
  replace R01 := Lib.hid (R01.out.later hb1)
  replace R1 := Lib.hid (R1.out.later hb1)
  replace R2 := Lib.hid (R2.out.later hb1)
  replace X1 := Lib.hid (X1.out.later hb1)
  replace X2 := Lib.hid (X2.out.later hb1)
  replace T0 := Lib.hid (T0.out.later hb1)
  replace HB := Lib.hid (bthen HB.out hb1)
  clear hb1
  obtain ⟨kX10, kX11, -, -, -⟩ := X1.out
  obtain ⟨kX20, kX21, -, -, -⟩ := X2.out
  obtain ⟨kT00, kT01, kT02, -, -, -, -⟩ := T0.out
  obtain ⟨kXD0, kXD1, kXD2, -, -, -, -⟩ := XD.out
  go_wp2_with fail
  refine (rmakeR 4 4 dv X Y R1.out R2.out HX.out HY.out hn1 hn2 (by omega) (by omega) (by omega) (by omega) HZ.out EDV.out).mono ?_
  rintro e w22 ⟨ae, ne, ce, be', me, de, rfl, hne, hme, hr, hr2, hb⟩
  replace R00 := Lib.hid (R00.out.later hb)
  replace R01 := Lib.hid (R01.out.later hb)
  replace R1 := Lib.hid (R1.out.later hb)
  replace R2 := Lib.hid (R2.out.later hb)
  replace Rd0 := Lib.hid (Rd0.out.later hb)
  replace Rd1 := Lib.hid (Rd1.out.later hb)
  replace X1 := Lib.hid (X1.out.later hb)
  replace X2 := Lib.hid (X2.out.later hb)
  replace T0 := Lib.hid (T0.out.later hb)
  replace XD := Lib.hid (XD.out.later hb)
  replace HB := Lib.hid (bthen HB.out hb)
  clear hb
  clear kX10 kX11 kX20 kX21 kT00 kT01 kT02 kXD0 kXD1 kXD2
  have Re0 := Lib.hid hr; clear hr
  have Re1 := Lib.hid hr2; clear hr2
  have hb1 := below_one w22 (.cells #[.bool (decide (dv.num < 0)), .slice ae ne ce, .slice be' me de] 26)
  have XE : Hid (Tri (w22.alloc (.cells #[.bool (decide (dv.num < 0)), .slice ae ne ce, .slice be' me de] 26)) w22.heap.size (.bool (decide (dv.num < 0))) (.slice ae ne ce) (.slice be' me de)) := tri_new w22 _ _ _
  replace Re0 := Lib.hid (Re0.out.later hb1)
  replace Re1 := Lib.hid (Re1.out.later hb1)
  replace R00 := Lib.hid (R00.out.later hb1)
  replace R01 := Lib.hid (R01.out.later hb1)
  replace R1 := Lib.hid (R1.out.later hb1)
  replace R2 := Lib.hid (R2.out.later hb1)
  replace Rd0 := Lib.hid (Rd0.out.later hb1)
  replace Rd1 := Lib.hid (Rd1.out.later hb1)
  replace X1 := Lib.hid (X1.out.later hb1)
  replace X2 := Lib.hid (X2.out.later hb1)
  replace T0 := Lib.hid (T0.out.later hb1)
  replace XD := Lib.hid (XD.out.later hb1)
  replace HB := Lib.hid (bthen HB.out hb1)
  clear hb1
  clear R1
  clear R2
  clear X1
  clear X2
  go_wp2_with fail
  obtain ⟨W, hW⟩ : ∃ W, (w22.alloc (.cells #[.bool (decide (dv.num < 0)), .slice ae ne ce, .slice be' me de] 26)) = W := ⟨_, rfl⟩
  rw [hW] at R00 R01 Rd0 Rd1 Re0 Re1 T0 XD XE HB ⊢
  clear hW
  obtain ⟨gd, hgd⟩ : ∃ gd, w21.heap.size = gd := ⟨_, rfl⟩
  obtain ⟨ge, hge⟩ : ∃ ge, w22.heap.size = ge := ⟨_, rfl⟩
  rw [hgd] at XD ⊢
  rw [hge] at XE ⊢
  clear hgd hge
  obtain ⟨kT00, kT01, kT02, -, -, -, -⟩ := T0.out
  obtain ⟨kXD0, kXD1, kXD2, -, -, -, -⟩ := XD.out
  obtain ⟨kXE0, kXE1, kXE2, -, -, -, -⟩ := XE.out
  replace R00 := Lib.hid R00.out.drew
  replace R01 := Lib.hid R01.out.drew
  replace Rd0 := Lib.hid Rd0.out.drew
  replace Rd1 := Lib.hid Rd1.out.drew
  replace Re0 := Lib.hid Re0.out.drew
  replace Re1 := Lib.hid Re1.out.drew
  replace T0 := Lib.hid T0.out.drew
  replace XD := Lib.hid XD.out.drew
  replace XE := Lib.hid XE.out.drew
  replace HB := Lib.hid HB.out.drew
  go_region_held3 (fun w' => w'.cell? ⟨w.heap.size, 0, none⟩ = some (.bool s0) ∧ w'.cell? ⟨w.heap.size, 1, none⟩ = some (.slice a0 n0 c0) ∧ w'.cell? ⟨w.heap.size, 2, none⟩ = some (.slice b0 m0 d0) ∧ w'.cell? ⟨gd, 0, none⟩ = some (.bool (decide (dv.num < 0))) ∧ w'.cell? ⟨gd, 1, none⟩ = some (.slice ad nd cd) ∧ w'.cell? ⟨gd, 2, none⟩ = some (.slice bd' md dd) ∧ w'.cell? ⟨ge, 0, none⟩ = some (.bool (decide (dv.num < 0))) ∧ w'.cell? ⟨ge, 1, none⟩ = some (.slice ae ne ce) ∧ w'.cell? ⟨ge, 2, none⟩ = some (.slice be' me de))
    (first | (refine ⟨?_, ?_, ?_, ?_, ?_, ?_, ?_, ?_, ?_⟩ <;> with_reducible assumption) | (go_keep; done) | (refine ⟨?_, ?_, ?_, ?_, ?_, ?_, ?_, ?_, ?_⟩ <;> (repeat rw [cell_other (by first | (simp; done) | (simp; omega))]) <;> with_reducible assumption))
    (first
      | (have mk := G10; clear mk
         try (rw [if_pos (by rfl)]; go_simp)
         go_at_call 26
         refine (awakeR _).mono ?_
         rintro e v11 ⟨rfl, hb⟩
         replace R00 := Lib.hid (R00.out.later hb)
         replace R01 := Lib.hid (R01.out.later hb)
         replace Rd0 := Lib.hid (Rd0.out.later hb)
         replace Rd1 := Lib.hid (Rd1.out.later hb)
         replace Re0 := Lib.hid (Re0.out.later hb)
         replace Re1 := Lib.hid (Re1.out.later hb)
         replace T0 := Lib.hid (T0.out.later hb)
         replace XD := Lib.hid (XD.out.later hb)
         replace XE := Lib.hid (XE.out.later hb)
         replace HB := Lib.hid (bthen HB.out hb); clear hb
         clear kT00 kT01 kT02 kXD0 kXD1 kXD2 kXE0 kXE1 kXE2
         obtain ⟨kT00, kT01, kT02, -, -, -, -⟩ := T0.out
         obtain ⟨kXD0, kXD1, kXD2, -, -, -, -⟩ := XD.out
         obtain ⟨kXE0, kXE1, kXE2, -, -, -, -⟩ := XE.out
         have G11 : Hid True := trivial
         try go_wp2_with fail)
      | (have mk := G9; clear mk
         try (rw [if_pos (by rfl)]; go_simp)
         go_at_call 13
         refine (sameT Rd0.out Rd1.out Re0.out Re1.out rfl (by omega) (by omega) (by omega) (by omega)).mono ?_
         rintro e v10 ⟨rfl, hb⟩
         replace R00 := Lib.hid (R00.out.later hb)
         replace R01 := Lib.hid (R01.out.later hb)
         replace Rd0 := Lib.hid (Rd0.out.later hb)
         replace Rd1 := Lib.hid (Rd1.out.later hb)
         replace Re0 := Lib.hid (Re0.out.later hb)
         replace Re1 := Lib.hid (Re1.out.later hb)
         replace T0 := Lib.hid (T0.out.later hb)
         replace XD := Lib.hid (XD.out.later hb)
         replace XE := Lib.hid (XE.out.later hb)
         replace HB := Lib.hid (bthen HB.out hb); clear hb
         clear kT00 kT01 kT02 kXD0 kXD1 kXD2 kXE0 kXE1 kXE2
         obtain ⟨kT00, kT01, kT02, -, -, -, -⟩ := T0.out
         obtain ⟨kXD0, kXD1, kXD2, -, -, -, -⟩ := XD.out
         obtain ⟨kXE0, kXE1, kXE2, -, -, -, -⟩ := XE.out
         have G10 : Hid True := trivial
         try go_wp2_with fail)
      | (have mk := G8; clear mk
         try (rw [if_pos (by rfl)]; go_simp)
         go_at_call 37
         refine (rwholeR 4 4 Wh p R00.out R01.out HQ0.out hn0 hm0 (by omega) (by omega) (by omega) (by omega) HWH.out).mono ?_
         rintro e v9 ⟨rfl, hb⟩
         replace R00 := Lib.hid (R00.out.later hb)
         replace R01 := Lib.hid (R01.out.later hb)
         replace Rd0 := Lib.hid (Rd0.out.later hb)
         replace Rd1 := Lib.hid (Rd1.out.later hb)
         replace Re0 := Lib.hid (Re0.out.later hb)
         replace Re1 := Lib.hid (Re1.out.later hb)
         replace T0 := Lib.hid (T0.out.later hb)
         replace XD := Lib.hid (XD.out.later hb)
         replace XE := Lib.hid (XE.out.later hb)
         replace HB := Lib.hid (bthen HB.out hb); clear hb
         clear kT00 kT01 kT02 kXD0 kXD1 kXD2 kXE0 kXE1 kXE2
         obtain ⟨kT00, kT01, kT02, -, -, -, -⟩ := T0.out
         obtain ⟨kXD0, kXD1, kXD2, -, -, -, -⟩ := XD.out
         obtain ⟨kXE0, kXE1, kXE2, -, -, -, -⟩ := XE.out
         have G9 : Hid True := trivial
         try go_wp2_with fail)
      | (have mk := G7; clear mk
         try (rw [if_pos (by rfl)]; go_simp)
         go_at_call 36
         refine (wholeR Wh p R00.out R01.out HQ0.out (by omega) (by omega) HWH.out).mono ?_
         rintro e v8 ⟨rfl, hb⟩
         replace R00 := Lib.hid (R00.out.later hb)
         replace R01 := Lib.hid (R01.out.later hb)
         replace Rd0 := Lib.hid (Rd0.out.later hb)
         replace Rd1 := Lib.hid (Rd1.out.later hb)
         replace Re0 := Lib.hid (Re0.out.later hb)
         replace Re1 := Lib.hid (Re1.out.later hb)
         replace T0 := Lib.hid (T0.out.later hb)
         replace XD := Lib.hid (XD.out.later hb)
         replace XE := Lib.hid (XE.out.later hb)
         replace HB := Lib.hid (bthen HB.out hb); clear hb
         clear kT00 kT01 kT02 kXD0 kXD1 kXD2 kXE0 kXE1 kXE2
         obtain ⟨kT00, kT01, kT02, -, -, -, -⟩ := T0.out
         obtain ⟨kXD0, kXD1, kXD2, -, -, -, -⟩ := XD.out
         obtain ⟨kXE0, kXE1, kXE2, -, -, -, -⟩ := XE.out
         have G8 : Hid True := trivial
         try go_wp2_with fail)
      | (have mk := G6; clear mk
         try (rw [if_pos (by rfl)]; go_simp)
         go_at_call 33
         refine (rsame_yes _ _ _ _ _ _ _ _ _ Rf.out Rh.out (by omega)).mono ?_
         rintro e v7 ⟨rfl, hb⟩
         clear Rf
         clear Rh
         replace R00 := Lib.hid (R00.out.later hb)
         replace R01 := Lib.hid (R01.out.later hb)
         replace Rd0 := Lib.hid (Rd0.out.later hb)
         replace Rd1 := Lib.hid (Rd1.out.later hb)
         replace Re0 := Lib.hid (Re0.out.later hb)
         replace Re1 := Lib.hid (Re1.out.later hb)
         replace T0 := Lib.hid (T0.out.later hb)
         replace XD := Lib.hid (XD.out.later hb)
         replace XE := Lib.hid (XE.out.later hb)
         replace HB := Lib.hid (bthen HB.out hb); clear hb
         clear kT00 kT01 kT02 kXD0 kXD1 kXD2 kXE0 kXE1 kXE2
         obtain ⟨kT00, kT01, kT02, -, -, -, -⟩ := T0.out
         obtain ⟨kXD0, kXD1, kXD2, -, -, -, -⟩ := XD.out
         obtain ⟨kXE0, kXE1, kXE2, -, -, -, -⟩ := XE.out
         have G7 : Hid True := trivial
         try go_wp2_with fail)
      | (have mk := G5; clear mk
         try (rw [if_pos (by rfl)]; go_simp)
         go_at_call 35
         refine (rfloorR p R00.out R01.out HQ0.out (by omega) (by omega)).mono ?_
         rintro e v6 ⟨ah, nh, ch, rfl, hnh, hr, hb⟩
         replace R00 := Lib.hid (R00.out.later hb)
         replace R01 := Lib.hid (R01.out.later hb)
         replace Rd0 := Lib.hid (Rd0.out.later hb)
         replace Rd1 := Lib.hid (Rd1.out.later hb)
         replace Re0 := Lib.hid (Re0.out.later hb)
         replace Re1 := Lib.hid (Re1.out.later hb)
         replace Rf := Lib.hid (Rf.out.later hb)
         replace T0 := Lib.hid (T0.out.later hb)
         replace XD := Lib.hid (XD.out.later hb)
         replace XE := Lib.hid (XE.out.later hb)
         replace HB := Lib.hid (bthen HB.out hb); clear hb
         clear kT00 kT01 kT02 kXD0 kXD1 kXD2 kXE0 kXE1 kXE2
         obtain ⟨kT00, kT01, kT02, -, -, -, -⟩ := T0.out
         obtain ⟨kXD0, kXD1, kXD2, -, -, -, -⟩ := XD.out
         obtain ⟨kXE0, kXE1, kXE2, -, -, -, -⟩ := XE.out
         have Rh := Lib.hid hr; clear hr
         have G6 : Hid True := trivial
         try go_wp2_with fail)
      | (have mk := G4; clear mk
         try (rw [if_pos (by rfl)]; go_simp)
         go_at_call 34
         refine (floorR 4 p R00.out R01.out HQ0.out hn0 (by omega) (by omega) (by omega)).mono ?_
         rintro e v5 ⟨af, nf, cf, rfl, hnf, hr, hb⟩
         replace R00 := Lib.hid (R00.out.later hb)
         replace R01 := Lib.hid (R01.out.later hb)
         replace Rd0 := Lib.hid (Rd0.out.later hb)
         replace Rd1 := Lib.hid (Rd1.out.later hb)
         replace Re0 := Lib.hid (Re0.out.later hb)
         replace Re1 := Lib.hid (Re1.out.later hb)
         replace T0 := Lib.hid (T0.out.later hb)
         replace XD := Lib.hid (XD.out.later hb)
         replace XE := Lib.hid (XE.out.later hb)
         replace HB := Lib.hid (bthen HB.out hb); clear hb
         clear kT00 kT01 kT02 kXD0 kXD1 kXD2 kXE0 kXE1 kXE2
         obtain ⟨kT00, kT01, kT02, -, -, -, -⟩ := T0.out
         obtain ⟨kXD0, kXD1, kXD2, -, -, -, -⟩ := XD.out
         obtain ⟨kXE0, kXE1, kXE2, -, -, -, -⟩ := XE.out
         have Rf := Lib.hid hr; clear hr
         have G5 : Hid True := trivial
         try go_wp2_with fail)
      | (have mk := G3; clear mk
         try (rw [if_pos (by rfl)]; go_simp)
         go_at_call 32
         refine (rbitsR 4 4 Bi p R00.out R01.out HQ0.out hn0 hm0 (by omega) (by omega) (by omega) (by omega) HBI.out).mono ?_
         rintro e v4 ⟨rfl, hb⟩
         replace R00 := Lib.hid (R00.out.later hb)
         replace R01 := Lib.hid (R01.out.later hb)
         replace Rd0 := Lib.hid (Rd0.out.later hb)
         replace Rd1 := Lib.hid (Rd1.out.later hb)
         replace Re0 := Lib.hid (Re0.out.later hb)
         replace Re1 := Lib.hid (Re1.out.later hb)
         replace T0 := Lib.hid (T0.out.later hb)
         replace XD := Lib.hid (XD.out.later hb)
         replace XE := Lib.hid (XE.out.later hb)
         replace HB := Lib.hid (bthen HB.out hb); clear hb
         clear kT00 kT01 kT02 kXD0 kXD1 kXD2 kXE0 kXE1 kXE2
         obtain ⟨kT00, kT01, kT02, -, -, -, -⟩ := T0.out
         obtain ⟨kXD0, kXD1, kXD2, -, -, -, -⟩ := XD.out
         obtain ⟨kXE0, kXE1, kXE2, -, -, -, -⟩ := XE.out
         have G4 : Hid True := trivial
         try go_wp2_with fail)
      | (have mk := G2; clear mk
         try (rw [if_pos (by rfl)]; go_simp)
         go_at_call 31
         refine (bitsR 4 4 Bi p R00.out R01.out HQ0.out hn0 hm0 (by omega) (by omega) (by omega) (by omega) HBI.out).mono ?_
         rintro e v3 ⟨rfl, hb⟩
         replace R00 := Lib.hid (R00.out.later hb)
         replace R01 := Lib.hid (R01.out.later hb)
         replace Rd0 := Lib.hid (Rd0.out.later hb)
         replace Rd1 := Lib.hid (Rd1.out.later hb)
         replace Re0 := Lib.hid (Re0.out.later hb)
         replace Re1 := Lib.hid (Re1.out.later hb)
         replace T0 := Lib.hid (T0.out.later hb)
         replace XD := Lib.hid (XD.out.later hb)
         replace XE := Lib.hid (XE.out.later hb)
         replace HB := Lib.hid (bthen HB.out hb); clear hb
         clear kT00 kT01 kT02 kXD0 kXD1 kXD2 kXE0 kXE1 kXE2
         obtain ⟨kT00, kT01, kT02, -, -, -, -⟩ := T0.out
         obtain ⟨kXD0, kXD1, kXD2, -, -, -, -⟩ := XD.out
         obtain ⟨kXE0, kXE1, kXE2, -, -, -, -⟩ := XE.out
         have G3 : Hid True := trivial
         try go_wp2_with fail)
      | (have mk := G1; clear mk
         go_at_call 30
         refine (rsignR 4 4 T p R00.out R01.out HQ0.out hn0 hm0 (by omega) (by omega) (by omega) (by omega) HT.out).mono ?_
         rintro e v2 ⟨rfl, hb⟩
         replace R00 := Lib.hid (R00.out.later hb)
         replace R01 := Lib.hid (R01.out.later hb)
         replace Rd0 := Lib.hid (Rd0.out.later hb)
         replace Rd1 := Lib.hid (Rd1.out.later hb)
         replace Re0 := Lib.hid (Re0.out.later hb)
         replace Re1 := Lib.hid (Re1.out.later hb)
         replace T0 := Lib.hid (T0.out.later hb)
         replace XD := Lib.hid (XD.out.later hb)
         replace XE := Lib.hid (XE.out.later hb)
         replace HB := Lib.hid (bthen HB.out hb); clear hb
         clear kT00 kT01 kT02 kXD0 kXD1 kXD2 kXE0 kXE1 kXE2
         obtain ⟨kT00, kT01, kT02, -, -, -, -⟩ := T0.out
         obtain ⟨kXD0, kXD1, kXD2, -, -, -, -⟩ := XD.out
         obtain ⟨kXE0, kXE1, kXE2, -, -, -, -⟩ := XE.out
         have G2 : Hid True := trivial)
      | (skip
         go_at_call 29
         refine (signR T p R00.out R01.out HQ0.out (by omega) (by omega) HT.out).mono ?_
         rintro e v1 ⟨rfl, hb⟩
         replace R00 := Lib.hid (R00.out.later hb)
         replace R01 := Lib.hid (R01.out.later hb)
         replace Rd0 := Lib.hid (Rd0.out.later hb)
         replace Rd1 := Lib.hid (Rd1.out.later hb)
         replace Re0 := Lib.hid (Re0.out.later hb)
         replace Re1 := Lib.hid (Re1.out.later hb)
         replace T0 := Lib.hid (T0.out.later hb)
         replace XD := Lib.hid (XD.out.later hb)
         replace XE := Lib.hid (XE.out.later hb)
         replace HB := Lib.hid (bthen HB.out hb); clear hb
         clear kT00 kT01 kT02 kXD0 kXD1 kXD2 kXE0 kXE1 kXE2
         obtain ⟨kT00, kT01, kT02, -, -, -, -⟩ := T0.out
         obtain ⟨kXD0, kXD1, kXD2, -, -, -, -⟩ := XD.out
         obtain ⟨kXE0, kXE1, kXE2, -, -, -, -⟩ := XE.out
         have G1 : Hid True := trivial))
  go_wp2
  go_ret
  exact ⟨rfl, HB.out⟩

end Go.Proofs.YtnnoicjnggoffaaGreat
/- RatioParts holds: sign, bits, the greatest integer below, whether a number is an integer, and what two integers make are the document's. No condition. -/
namespace Go.Proofs.YtnnoicjnggoffaaGreat
set_option linter.unusedVariables false
set_option linter.unusedSimpArgs false
set_option maxRecDepth 100000
open Go.ChangeShapes Go.WideShapes Go.ChangeAt Go.RowKit Nums Go.Joins

theorem ratioParts_walk (s0 s1 s2 : Bool) (a0 b0 a1 a2 : Option Addr) (n0 c0 m0 d0 n1 c1 n2 c2 : Nat) (xs0 ys0 xs1 xs2 : List Nat) (w : World) (h00 : Row w a0 n0 c0 xs0) (h01 : Row w b0 m0 d0 ys0) (h1 : Row w a1 n1 c1 xs1) (h2 : Row w a2 n2 c2 xs2) :
    Calls Tryz.prog 4 #[.agg #[.bool s0, .slice a0 n0 c0, .slice b0 m0 d0], .agg #[.bool s1, .slice a1 n1 c1], .agg #[.bool s2, .slice a2 n2 c2]] w fun e w' => e = .returned (.bool true) ∧ Below w.heap.size w w' := by
  by_cases hn0 : n0 ≤ 4
  · by_cases hm0 : m0 ≤ 4
    · by_cases hn1 : n1 ≤ 4
      · by_cases hn2 : n2 ≤ 4
        · by_cases hz : sv s2 (val xs2) = 0
          · exact ratioParts_z _ _ _ h00 h01 rfl hn0 hm0 h1 h2 rfl rfl hn1 hn2 hz
          · exact ratioParts_n _ _ _ h00 h01 rfl hn0 hm0 h1 h2 rfl rfl hn1 hn2 hz
        · exact ratioParts_outd s0 s1 s2 a0 b0 a1 a2 n0 c0 m0 d0 n1 c1 n2 c2 w hn0 hm0 hn1 (by omega)
      · exact ratioParts_outc s0 s1 s2 a0 b0 a1 a2 n0 c0 m0 d0 n1 c1 n2 c2 w hn0 hm0 (by omega)
    · exact ratioParts_outb s0 s1 s2 a0 b0 a1 a2 n0 c0 m0 d0 n1 c1 n2 c2 w hn0 (by omega)
  · exact ratioParts_outa s0 s1 s2 a0 b0 a1 a2 n0 c0 m0 d0 n1 c1 n2 c2 w (by omega)

theorem ratioParts_lifted (os : Os) (started : os.Started) (H : Type) (enc : TypeId × Value → H) :
    ReturnsInHanded {} Tryz.checked os 4 .any (Rows.ratioPartsSpec.pre6 enc Tryz.prog Tryz.f4 Rows.ratioPartsRow.domain false) (Rows.ratioPartsSpec.post enc Tryz.prog Tryz.f4 false true false false) := by
  refine returnsInHanded_of_change (C := Tryz.checked) Tryz.ownKnob started (by kernel_rfl) Tryz.func4
    (ChangeSpec.witness6 (enc := enc) (C := Tryz.checked) false ⟨#[], #[.agg #[.bool false, .slice none 0 0, .slice none 0 0], .agg #[.bool false, .slice none 0 0], .agg #[.bool false, .slice none 0 0]], []⟩ 8 (by kernel_rfl) (by kernel_rfl) (by kernel_rfl) (by kernel_rfl)) ?_
  intro W base args ds gs before hval0 hW hcnd _
  have hval : ∀ (j : Nat) t v, Tryz.f4.params[j]? = some t → args[j]? = some v → Value.okWide Tryz.prog W .any base t v := hval0
  have hW' := hW
  obtain ⟨p, q, hA0, hV, rfl, hfz, hnd⟩ := hW
  have hA : DataW.TrodAll enc Tryz.prog W 0 (fun _ => true) true Tryz.f4.params.toList args.toList ds p := hA0
  rw [Tryz.params4] at hA hval
  obtain ⟨v0, vs0, d0, ds0, p0, q0, hargs, rfl, rfl, h0, r0⟩ := trodAll_cons hA
  obtain ⟨v1, vs1, d1, ds1, p1, q1, rfl, rfl, rfl, h1, r1⟩ := trodAll_cons r0
  obtain ⟨v2, vs2, d2, ds2, p2, q2, rfl, rfl, rfl, h2, r2⟩ := trodAll_cons r1
  obtain ⟨rfl, rfl, rfl⟩ := trodAll_nil r2
  obtain rfl : args = #[v0, v1, v2] := by cases args; simp_all
  obtain ⟨rfl, rfl⟩ := trodVars_none hV
  have k0 := h0
  have lt0 : ∀ x ∈ p0, x.block < W.heap.size := by obtain ⟨m, hm⟩ := k0; exact DataW.trod_lt m _ _ _ hm
  obtain ⟨s0, a0, n0, c0, b0, m0, e0, xs0, ys0, rfl, w0, u0⟩ := rat_of_trod (hval 0 26 v0 rfl rfl) h0
  have k1 := h1
  have lt1 : ∀ x ∈ p1, x.block < W.heap.size := by obtain ⟨m, hm⟩ := k1; exact DataW.trod_lt m _ _ _ hm
  obtain ⟨s1, a1, n1, c1, xs1, rfl, w1⟩ := int_of_trod (hval 1 24 v1 rfl rfl) h1
  have k2 := h2
  have lt2 : ∀ x ∈ p2, x.block < W.heap.size := by obtain ⟨m, hm⟩ := k2; exact DataW.trod_lt m _ _ _ hm
  obtain ⟨s2, a2, n2, c2, xs2, rfl, w2⟩ := int_of_trod (hval 2 24 v2 rfl rfl) h2
  clear hA0 hval0
  refine (ratioParts_walk s0 s1 s2 a0 b0 a1 a2 n0 c0 m0 e0 n1 c1 n2 c2 xs0 ys0 xs1 xs2 W w0 u0 w1 w2).mono fun e W' ⟨he, bel⟩ => ?_
  subst he
  exact ⟨_, rfl, _, _, _, [], _, [], hW', trodAll_mk1 (shut_bool Tryz.underlying4 _), (trodAll_cons_mk (Below.trod Tryz.laidOut (by kernel_rfl) (of_decide_eq_true (by kernel_rfl)) k0 bel lt0) (trodAll_cons_mk (Below.trod Tryz.laidOut (by kernel_rfl) (of_decide_eq_true (by kernel_rfl)) k1 bel lt1) (trodAll_cons_mk (Below.trod Tryz.laidOut (by kernel_rfl) (of_decide_eq_true (by kernel_rfl)) k2 bel lt2) trodAll_mk0))), rfl, bel.frame _, fun h => by cases h⟩

theorem ratioParts_over : Rows.ratioPartsRow.holds Tryz.pinned (OpenSpec.ofChange Rows.ratioPartsSpec) :=
  OpenClaim.holds_of_wide 4 Tryz.f4 rfl rfl rfl rfl rfl rfl rfl ⟨rfl, rfl, rfl, rfl, rfl⟩ rfl rfl rfl rfl rfl (by kernel_rfl) Tryz.func4 (by kernel_rfl)
    (of_decide_eq_true (by kernel_rfl)) (by unfold Func.isWrapper; first | (rw [if_pos (by decide +kernel)]; kernel_rfl) | (rw [if_neg (by decide +kernel)]; exact ⟨rfl, rfl⟩))
    (fun os started H enc _ => ratioParts_lifted os started H enc)

theorem ratioParts_holds : Rows.RatioPartsSaid := ratioParts_over
#print axioms ratioParts_holds
end Go.Proofs.YtnnoicjnggoffaaGreat
