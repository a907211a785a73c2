/- RatioTexts holds: the text of any fraction, the fraction of any text (200 bytes at most), and the fraction of any int64, are the document's. No condition. -/
import Derived.Test.YtkcgikoploohkaaGreatDoorQH
import Derived.Test.YtkcgikoploohkaaGreatDoorQM
import Derived.Deep.RegionHeld3
import Derived.Deep.QuietTactic
import Derived.BigQuiet
import Derived.Test.YtkcgikoploohkaaGreatDoorQE
import Derived.Test.YtkcgikoploohkaaGreatDoorIG
import Derived.Test.YtkcgikoploohkaaGreatDoorQF
import Derived.Test.YtkcgikoploohkaaGreatDoorQG
import Derived.Deep.DeepCutAuto
import Derived.ProofKit
import Derived.OpenShut
import Derived.ShutString
import Derived.ChangeOld
import Derived.ChangeMaps5
namespace Go.Proofs.YtkcgikoploohkaaGreatDoor
set_option linter.unusedVariables false
set_option linter.unusedSimpArgs false
set_option maxRecDepth 100000
open Go.RowKit Nums

theorem field_run1 (s : Bool) (a b : Option Addr) (n c m d : Nat) (w : World) : Sem.run Tryz.prog (Instr.field 27 (Value.agg #[.bool s, .slice a n c, .slice b m d]) 1) w = Result.ok (Value.slice b m d) w := rfl

theorem bits_max (x y : Nat) : (bitsOf (max x y)).length = max (bitsOf x).length (bitsOf y).length := by
  rcases Nat.le_total x y with h | h
  · rw [Nat.max_eq_right h, Nat.max_eq_right (bits_mono h)]
  · rw [Nat.max_eq_left h, Nat.max_eq_left (bits_mono h)]

theorem ret_i64 {x y : Int} (h : x = y) : Ending.returned (.int .i64 x) = .returned (.int .i64 y) := by rw [h]

theorem below_drewN {B : Nat} {a w : World} (h : Below B a w) (n : Nat) : Below B a (w.drewN n) := ⟨h.os, h.tape, h.output, h.size, h.block⟩

theorem bitsQuiet (T : Nat) {a : Option Addr} {n c : Nat} {xs : List Nat} {w : World} (h0 : Row w a n c xs) (hn : n ≤ 100) (hT : (bitsOf (val xs)).length = T) :
    Calls Tryz.prog 131 #[.slice a n c] w fun e w' => e = .returned (.int .i64 (T : Int)) ∧ w' = w :=
  (bits_any a n c xs w h0 (by omega)).mono fun e w' ⟨he, hw⟩ => ⟨by rw [he, hT], hw.symm⟩

/-- how many bits a number has -/
def bitsQ (q : Rat) : Nat := max (bitsOf q.num.natAbs).length (bitsOf q.den).length

end Go.Proofs.YtkcgikoploohkaaGreatDoor
/- What the answer's Whole tells. -/
namespace Go.Proofs.YtkcgikoploohkaaGreatDoor
set_option linter.unusedVariables false
set_option linter.unusedSimpArgs false
set_option maxRecDepth 100000
open Go.RowKit Nums

set_option maxHeartbeats 4000000 in
theorem rwholeR_yes (K J : Nat) (q : Rat) {s : Bool} {a b : Option Addr} {n c m d : Nat} {xs ys : List Nat} {w : World} (h0 : Row w a n c xs) (h1 : Row w b m d ys) (hq : mkRat (sv s (val xs)) (val ys) = q) (hn : n ≤ K) (hm : m ≤ J) (hK : K ≤ 70) (hK2 : 2 ≤ K) (hJ2 : 2 ≤ J) (hJ : J ≤ 70) (hB : q.den = 1) :
    Calls Tryz.prog 86 #[.agg #[.bool s, .slice a n c, .slice b m d]] w fun e w' => e = .returned (.bool true) ∧ Below w.heap.size w w' := by
  have HB := Lib.hid (below_one w (.cells #[.bool s, .slice a n c, .slice b m d] 27))
  have X0 : Hid (Tri (w.alloc (.cells #[.bool s, .slice a n c, .slice b m d] 27)) (w.heap.size) (.bool s) (.slice a n c) (.slice b m d)) := (tri_new _ (.bool s) (.slice a n c) (.slice b m d))
  have R0 := Lib.hid (h0.later HB.out); clear h0
  have R1 := Lib.hid (h1.later HB.out); clear h1
  have HQ := Lib.hid hq; clear hq
  have HD := Lib.hid hB; clear hB
  go_enter Tryz.func86, Tryz.ntmps86
  go_wp2_with fail
  refine (rnormR K J q R0.out R1.out HQ.out hn hm hK hK2 hJ2 hJ).mono ?_
  rintro e w1 ⟨a1, n1, c1, b1, m1, d1, rfl, hn1, hm1, hr, hr2, hb⟩
  replace X0 := Lib.hid (X0.out.later hb)
  replace HB := Lib.hid (bthen HB.out hb)
  clear hb
  have RA := Lib.hid hr; clear hr
  have RB := Lib.hid hr2; clear hr2
  obtain ⟨kX00, kX01, kX02, -, -, -, -⟩ := X0.out
  go_wp2_with fail
  rw [field_run1]
  have hb1 := below_one w1 (.cells #[.int .u32 1] 89)
  have RL := Lib.hid (row_one_here w1)
  replace RB := Lib.hid (RB.out.later hb1)
  replace HB := Lib.hid (bthen HB.out hb1)
  clear hb1 kX00 kX01 kX02
  go_wp2_with fail
  refine (sameN RB.out RL.out (by rw [HD.out, limbs_1]) (by omega)).mono ?_
  rintro e w2 ⟨rfl, hb⟩
  replace HB := Lib.hid (bthen HB.out hb)
  clear hb
  go_wp2
  go_ret
  exact ⟨rfl, HB.out⟩

set_option maxHeartbeats 4000000 in
theorem rwholeR_no (K J : Nat) (q : Rat) {s : Bool} {a b : Option Addr} {n c m d : Nat} {xs ys : List Nat} {w : World} (h0 : Row w a n c xs) (h1 : Row w b m d ys) (hq : mkRat (sv s (val xs)) (val ys) = q) (hn : n ≤ K) (hm : m ≤ J) (hK : K ≤ 70) (hK2 : 2 ≤ K) (hJ2 : 2 ≤ J) (hJ : J ≤ 70) (hB : q.den ≠ 1) :
    Calls Tryz.prog 86 #[.agg #[.bool s, .slice a n c, .slice b m d]] w fun e w' => e = .returned (.bool false) ∧ Below w.heap.size w w' := by
  have HB := Lib.hid (below_one w (.cells #[.bool s, .slice a n c, .slice b m d] 27))
  have X0 : Hid (Tri (w.alloc (.cells #[.bool s, .slice a n c, .slice b m d] 27)) (w.heap.size) (.bool s) (.slice a n c) (.slice b m d)) := (tri_new _ (.bool s) (.slice a n c) (.slice b m d))
  have R0 := Lib.hid (h0.later HB.out); clear h0
  have R1 := Lib.hid (h1.later HB.out); clear h1
  have HQ := Lib.hid hq; clear hq
  have HD := Lib.hid hB; clear hB
  go_enter Tryz.func86, Tryz.ntmps86
  go_wp2_with fail
  refine (rnormR K J q R0.out R1.out HQ.out hn hm hK hK2 hJ2 hJ).mono ?_
  rintro e w1 ⟨a1, n1, c1, b1, m1, d1, rfl, hn1, hm1, hr, hr2, hb⟩
  replace X0 := Lib.hid (X0.out.later hb)
  replace HB := Lib.hid (bthen HB.out hb)
  clear hb
  have RA := Lib.hid hr; clear hr
  have RB := Lib.hid hr2; clear hr2
  obtain ⟨kX00, kX01, kX02, -, -, -, -⟩ := X0.out
  go_wp2_with fail
  rw [field_run1]
  have hb1 := below_one w1 (.cells #[.int .u32 1] 89)
  have RL := Lib.hid (row_one_here w1)
  replace RB := Lib.hid (RB.out.later hb1)
  replace HB := Lib.hid (bthen HB.out hb1)
  clear hb1 kX00 kX01 kX02
  go_wp2_with fail
  refine (same_not _ _ _ _ _ _ _ _ _ RB.out RL.out (by omega) (by omega) (by rw [← limbs_1]; intro h; exact HD.out (by have h2 := congrArg val h; rw [val_limbs, val_limbs] at h2; exact h2))).mono ?_
  rintro e w2 ⟨rfl, hb⟩
  replace HB := Lib.hid (bthen HB.out hb)
  clear hb
  go_wp2
  go_ret
  exact ⟨rfl, HB.out⟩

end Go.Proofs.YtkcgikoploohkaaGreatDoor
/- What the answer's find and worse tell, and Of. -/
namespace Go.Proofs.YtkcgikoploohkaaGreatDoor
set_option linter.unusedVariables false
set_option linter.unusedSimpArgs false
set_option maxRecDepth 100000
open Go.RowKit Nums

theorem byte_ne {s : ByteArray} {c : UInt8} {C : Int} {k n : Nat} (hC : (c.toNat : Int) = C) {l r : List UInt8} (hs : s.data.toList = l ++ r) (hl : l.length = n) (H : c ∉ l) (hk : k < n) (h : k < s.size) : ((s[k].toNat : Int) == C) = false := by
  rw [beq_eq_false_iff_ne]
  intro e
  apply H
  have e1 : s[k] = s.data.toList[k]'(by simpa using h) := by simp [ByteArray.getElem_eq_getElem_data]
  have e2 : s[k] = c := by apply UInt8.toNat_inj.1; omega
  have hk' : k < l.length := by omega
  have e3 : s.data.toList[k]'(by simpa using h) = l[k] := by
    have e4 : (l ++ r)[k]? = some l[k] := by rw [List.getElem?_append_left hk', List.getElem?_eq_getElem hk']
    rw [← hs] at e4
    exact (List.getElem?_eq_some_iff.1 e4).2
  rw [← e2, e1, e3]
  exact List.getElem_mem _

theorem byte_eq {s h t : ByteArray} {c : UInt8} {C : Int} (hC : (c.toNat : Int) = C) (H : Split s c h t) (hk : h.size < s.size) : ((s[h.size].toNat : Int) == C) = true := by
  have e1 : s[h.size] = s.data.toList[h.size]'(by simpa using hk) := by simp [ByteArray.getElem_eq_getElem_data]
  have e3 : s.data.toList[h.size]'(by simpa using hk) = c := by
    have e4 : (h.data.toList ++ c :: t.data.toList)[h.size]? = some c := by
      rw [List.getElem?_append_right (by rw [Lib.size_eq h]; exact Nat.le_refl _), Lib.size_eq h, Nat.sub_self]
      rfl
    rw [← H.1] at e4
    exact (List.getElem?_eq_some_iff.1 e4).2
  rw [e1, e3, hC]; simp

set_option maxHeartbeats 1000000 in
theorem find_miss (C : Int) (c : UInt8) (s : ByteArray) (w : World) (hC : (c.toNat : Int) = C) (H : c ∉ s.data.toList) (hs : s.size ≤ 1000000) :
    Calls Tryz.prog 68 #[.string s, .int .u8 C] w fun e w' => e = .returned (.int .i64 (-1)) ∧ w = w' := by
  have HM := Lib.hid (fun (k : Nat) (h : k < s.size) => byte_ne (n := s.size) hC (l := s.data.toList) (r := []) (by simp) (by simp) H h h)
  clear H hC
  go_enter Tryz.func68, Tryz.ntmps68
  go_wp2
  go_loop [5] (fun i => ∃ k : Nat, k ≤ s.size ∧ i = .int .i64 (k : Int)) (fun i => s.size - (intOf i).toNat)
  case atStart => exact ⟨0, Nat.zero_le _, rfl⟩
  case round =>
    obtain ⟨k, hk, rfl⟩ := hrel
    by_cases hlt : k < s.size
    · have hne := HM.out k hlt
      go_wp2
      go_round
      case rel => exact ⟨k + 1, by omega, by go_num⟩
      case measure => simp [intOf]; omega
    · go_wp2
      go_ret
      exact ⟨rfl, rfl⟩

set_option maxHeartbeats 1000000 in
theorem find_hit (C : Int) (c : UInt8) (s h t : ByteArray) (w : World) (hC : (c.toNat : Int) = C) (H : Split s c h t) (hs : s.size ≤ 1000000) :
    Calls Tryz.prog 68 #[.string s, .int .u8 C] w fun e w' => e = .returned (.int .i64 (h.size : Int)) ∧ w = w' := by
  have HM := Lib.hid (fun (k : Nat) (hk : k < h.size) (h' : k < s.size) => byte_ne (n := h.size) hC (l := h.data.toList) (r := c :: t.data.toList) H.1 (Lib.size_eq h).symm H.2 hk h')
  have hz := H.size
  have HE := Lib.hid (fun hk : h.size < s.size => byte_eq hC H hk)
  obtain ⟨i, hi⟩ : ∃ i, h.size = i := ⟨_, rfl⟩
  rw [hi] at hz ⊢
  simp only [hi] at HM HE
  have hlt : i < s.size := by omega
  have heq0 : ((s[i].toNat : Int) == C) = true := HE.out hlt
  have HEQ := Lib.hid heq0
  clear heq0 H hC HE hz
  go_enter Tryz.func68, Tryz.ntmps68
  go_wp2
  go_loop [5] (fun j => ∃ k : Nat, k ≤ i ∧ j = .int .i64 (k : Int)) (fun j => s.size - (intOf j).toNat)
  case atStart => exact ⟨0, Nat.zero_le _, rfl⟩
  case round =>
    obtain ⟨k, hk, rfl⟩ := hrel
    by_cases hki : k < i
    · have hlk : k < s.size := by omega
      have hne := HM.out k hki hlk
      go_wp2
      go_round
      case rel => exact ⟨k + 1, by omega, by go_num⟩
      case measure => simp [intOf]; omega
    · obtain rfl : k = i := by omega
      have heq := HEQ.out
      go_wp2
      go_ret
      exact ⟨rfl, rfl⟩

theorem find_any (C : Int) (c : UInt8) (s : ByteArray) (hC : (c.toNat : Int) = C) (hs : s.size ≤ 1000000) :
    ∃ v : Int, ∀ w, Calls Tryz.prog 68 #[.string s, .int .u8 C] w fun e w' => e = .returned (.int .i64 v) ∧ w = w' := by
  rcases splits_any s c with h | ⟨h, t, H⟩
  · exact ⟨-1, fun w => find_miss C c s w hC h hs⟩
  · exact ⟨_, fun w => find_hit C c s h t w hC H hs⟩

set_option maxHeartbeats 1000000 in
theorem worse_00 (w : World) : Calls Tryz.prog 71 #[.int .i64 0, .int .i64 0] w fun e w' => e = .returned (.int .i64 0) ∧ w = w' := by
  go_enter Tryz.func71, Tryz.ntmps71
  go_wp2
  go_ret
  exact ⟨rfl, rfl⟩

set_option maxHeartbeats 1000000 in
theorem worse_40 (w : World) : Calls Tryz.prog 71 #[.int .i64 4, .int .i64 0] w fun e w' => e = .returned (.int .i64 4) ∧ w = w' := by
  go_enter Tryz.func71, Tryz.ntmps71
  go_wp2
  go_ret
  exact ⟨rfl, rfl⟩

set_option maxHeartbeats 1000000 in
theorem worse_04 (w : World) : Calls Tryz.prog 71 #[.int .i64 0, .int .i64 4] w fun e w' => e = .returned (.int .i64 4) ∧ w = w' := by
  go_enter Tryz.func71, Tryz.ntmps71
  go_wp2
  go_ret
  exact ⟨rfl, rfl⟩

set_option maxHeartbeats 1000000 in
theorem worse_44 (w : World) : Calls Tryz.prog 71 #[.int .i64 4, .int .i64 4] w fun e w' => e = .returned (.int .i64 4) ∧ w = w' := by
  go_enter Tryz.func71, Tryz.ntmps71
  go_wp2
  go_ret
  exact ⟨rfl, rfl⟩

set_option maxHeartbeats 4000000 in
theorem rofR_neg (Z : Int) (w : World) (h0 : Z < 0) (h1 : -9223372036854775808 ≤ Z) :
    Calls Tryz.prog 19 #[.int .i64 Z] w (RatK 2 1 (Z : Rat) w) := by
  have HB := Lib.hid (below_one w (.cells #[.bool false, .slice none 0 0, .slice none 0 0] 27))
  have X0 := Lib.hid (tri_new w (.bool false) (.slice none 0 0) (.slice none 0 0))
  have HX : Hid (IntKind.u64.wrap (-IntKind.u64.wrap Z) = ((Z.natAbs : Nat) : Int)) := by show _ = _; rw [u64_neg h0 h1]
  have hlt : Z.natAbs < 18446744073709551616 := by omega
  have HS := Lib.hid (show decide (Z < 0) = true by exact decide_eq_true h0)
  
  obtain ⟨k1, k2, k3, k4, k5, k6, k7⟩ := X0.out
  go_enter Tryz.func19, Tryz.ntmps19
  go_wp2_with fail
  refine (qlimbs Z.natAbs _ _ (by first | exact HX.out | omega | (go_simp; exact HX.out)) hlt).mono ?_
  rintro e w1 ⟨a, n, rfl, hn, hr, hb⟩
  have RL := Lib.hid (row_lit w1 1 1 rfl (by omega) (by omega))
  have b1 := below_one w1 (.cells #[.int .u32 1] 89)
  replace HB := Lib.hid (bthen (bthen HB.out hb) b1)
  replace X0 := Lib.hid ((X0.out.later hb).later b1)
  have R0 := Lib.hid (hr.later b1); clear hr hb b1 k1 k2 k3 k4 k5 k6 k7
  obtain ⟨k1, k2, k3, k4, k5, k6, k7⟩ := X0.out
  go_wp2
  exact bodyPost_ret (v := .agg #[.bool true, .slice a n n, .slice (some ⟨w1.heap.size, 0, none⟩) 1 1]) (by simp [results, Tryz.results19, go_sem, *]) rfl
    ⟨a, n, n, _, 1, 1, by rw [Rat.num_intCast, HS.out], hn, Nat.le_refl _, by rw [Rat.num_intCast]; exact R0.out.put3 X0.out _ _ _, by rw [Rat.den_intCast]; exact RL.out.put3 X0.out _ _ _, below_put3 HB.out (by simp) _ _ _⟩

set_option maxHeartbeats 4000000 in
theorem rofR_pos (Z : Int) (w : World) (h0 : 0 ≤ Z) (h1 : Z < 9223372036854775808) :
    Calls Tryz.prog 19 #[.int .i64 Z] w (RatK 2 1 (Z : Rat) w) := by
  have HB := Lib.hid (below_one w (.cells #[.bool false, .slice none 0 0, .slice none 0 0] 27))
  have X0 := Lib.hid (tri_new w (.bool false) (.slice none 0 0) (.slice none 0 0))
  have HX : Hid (IntKind.u64.wrap Z = ((Z.natAbs : Nat) : Int)) := by show _ = _; rw [IntKind.wrap_u64]; omega
  have hlt : Z.natAbs < 18446744073709551616 := by omega
  have HS := Lib.hid (show decide (Z < 0) = false by exact decide_eq_false (by omega))
  have h2 : ¬ Z < 0 := by omega
  obtain ⟨k1, k2, k3, k4, k5, k6, k7⟩ := X0.out
  go_enter Tryz.func19, Tryz.ntmps19
  go_wp2_with fail
  refine (qlimbs Z.natAbs _ _ (by first | exact HX.out | omega | (go_simp; exact HX.out)) hlt).mono ?_
  rintro e w1 ⟨a, n, rfl, hn, hr, hb⟩
  have RL := Lib.hid (row_lit w1 1 1 rfl (by omega) (by omega))
  have b1 := below_one w1 (.cells #[.int .u32 1] 89)
  replace HB := Lib.hid (bthen (bthen HB.out hb) b1)
  replace X0 := Lib.hid ((X0.out.later hb).later b1)
  have R0 := Lib.hid (hr.later b1); clear hr hb b1 k1 k2 k3 k4 k5 k6 k7
  obtain ⟨k1, k2, k3, k4, k5, k6, k7⟩ := X0.out
  go_wp2
  exact bodyPost_ret (v := .agg #[.bool false, .slice a n n, .slice (some ⟨w1.heap.size, 0, none⟩) 1 1]) (by simp [results, Tryz.results19, go_sem, *]) rfl
    ⟨a, n, n, _, 1, 1, by rw [Rat.num_intCast, HS.out], hn, Nat.le_refl _, by rw [Rat.num_intCast]; exact R0.out.put3 X0.out _ _ _, by rw [Rat.den_intCast]; exact RL.out.put3 X0.out _ _ _, below_put3 HB.out (by simp) _ _ _⟩

theorem rofR (Z : Int) (w : World) (h0 : -9223372036854775808 ≤ Z) (h1 : Z < 9223372036854775808) : Calls Tryz.prog 19 #[.int .i64 Z] w (RatK 2 1 (Z : Rat) w) := by
  by_cases h : Z < 0
  · exact rofR_neg Z w h h0
  · exact rofR_pos Z w (by omega) h1

end Go.Proofs.YtkcgikoploohkaaGreatDoor
/- What the answer's Print tells. -/
namespace Go.Proofs.YtkcgikoploohkaaGreatDoor
set_option linter.unusedVariables false
set_option linter.unusedSimpArgs false
set_option maxRecDepth 100000
open Go.RowKit Nums

set_option maxHeartbeats 8000000 in
theorem rprintR_one (T : ByteArray) (q : Rat) {s : Bool} {a b : Option Addr} {n c m d : Nat} {xs ys : List Nat} {w : World} (h0 : Row w a n c xs) (h1 : Row w b m d ys) (hq : mkRat (sv s (val xs)) (val ys) = q) (hn : n ≤ 12) (hm : m ≤ 12) (hD : q.den = 1) (hT : ratStr q = T) :
    Calls Tryz.prog 49 #[.agg #[.bool s, .slice a n c, .slice b m d]] w fun e w' => e = .returned (.string T) ∧ Below w.heap.size w w' := by
  have HB := Lib.hid (below_one w (.cells #[.bool s, .slice a n c, .slice b m d] 27))
  have X0 : Hid (Tri (w.alloc (.cells #[.bool s, .slice a n c, .slice b m d] 27)) (w.heap.size) (.bool s) (.slice a n c) (.slice b m d)) := (tri_new _ (.bool s) (.slice a n c) (.slice b m d))
  have R0 := Lib.hid (h0.later HB.out); clear h0
  have R1 := Lib.hid (h1.later HB.out); clear h1
  have HQ := Lib.hid hq; clear hq
  have HD := Lib.hid hD
  go_enter Tryz.func49, Tryz.ntmps49
  go_wp2_with fail
  refine (rnormR 12 12 q R0.out R1.out HQ.out hn hm (by omega) (by omega) (by omega) (by omega)).mono ?_
  rintro e w1 ⟨ar, nr, cr, br, mr, dr, rfl, h2, h3, hr, hr2, hb⟩
  replace X0 := Lib.hid (X0.out.later hb)
  replace HB := Lib.hid (bthen HB.out hb)
  clear hb
  have RA := Lib.hid hr; clear hr
  have RB := Lib.hid hr2; clear hr2 R0 R1 HQ
  obtain ⟨kX00, kX01, kX02, kX03, kX04, kX05, kX06⟩ := X0.out
  have X0' := Lib.hid X0.out
  replace RA := Lib.hid (RA.out.put3 X0'.out (.bool (decide (q.num < 0))) (.slice ar nr cr) (.slice br mr dr))
  replace RB := Lib.hid (RB.out.put3 X0'.out (.bool (decide (q.num < 0))) (.slice ar nr cr) (.slice br mr dr))
  replace X0 := Lib.hid (X0.out.put (.bool (decide (q.num < 0))) (.slice ar nr cr) (.slice br mr dr))
  replace HB := Lib.hid (below_put3 (g := w.heap.size) HB.out (by omega) (.bool (decide (q.num < 0))) (.slice ar nr cr) (.slice br mr dr))
  clear X0'
  obtain ⟨U, hU⟩ : ∃ U, decI q.num = U := ⟨_, rfl⟩
  obtain ⟨V, hV⟩ : ∃ V, decStr q.den = V := ⟨_, rfl⟩
  have lU : U.size ≤ 117 := by rw [← hU]; exact decI_len (by rw [RA.out.1]; omega)
  have lV : V.size ≤ 116 := by rw [← hV]; exact dec_len (by rw [RB.out.1]; omega) (by omega)
  have LQ := Lib.hid (show (decStr q.num.natAbs).size ≤ 1000 from dec_len (by rw [RA.out.1]; omega) (by omega))
  have hTU : T = U := by rw [← hT, ← hU, ratStr, if_pos hD]
  subst hTU
  have HU := Lib.hid hU
  have HV := Lib.hid (show decStr (val (limbs q.den)) = V by rw [val_limbs]; exact hV)
  clear hU hV hT hD
  go_wp2_with fail
  refine (rwholeR_yes 12 12 q RA.out RB.out (rat_limbs q) h2 h3 (by omega) (by omega) (by omega) (by omega) HD.out).mono ?_
  rintro e w2 ⟨rfl, hb⟩
  replace RA := Lib.hid (RA.out.later hb)
  replace RB := Lib.hid (RB.out.later hb)
  replace X0 := Lib.hid (X0.out.later hb)
  replace HB := Lib.hid (bthen HB.out hb)
  clear hb
  clear kX00 kX01 kX02 kX03 kX04 kX05 kX06
  obtain ⟨kX00, kX01, kX02, -, -, -, -⟩ := X0.out
  go_wp2_with fail
  refine (rprintI T q.num _ _ _ _ _ _ RA.out h2 (sv_limbs _) HU.out LQ.out).mono ?_
  rintro e w3 ⟨rfl, hb⟩
  replace RA := Lib.hid (RA.out.later hb)
  replace RB := Lib.hid (RB.out.later hb)
  replace X0 := Lib.hid (X0.out.later hb)
  replace HB := Lib.hid (bthen HB.out hb)
  clear hb
  clear kX00 kX01 kX02
  obtain ⟨kX00, kX01, kX02, -, -, -, -⟩ := X0.out
  go_wp2
  go_ret
  exact ⟨rfl, HB.out⟩

set_option maxHeartbeats 8000000 in
theorem rprintR_two (T : ByteArray) (q : Rat) {s : Bool} {a b : Option Addr} {n c m d : Nat} {xs ys : List Nat} {w : World} (h0 : Row w a n c xs) (h1 : Row w b m d ys) (hq : mkRat (sv s (val xs)) (val ys) = q) (hn : n ≤ 12) (hm : m ≤ 12) (hD : q.den ≠ 1) (hT : ratStr q = T) :
    Calls Tryz.prog 49 #[.agg #[.bool s, .slice a n c, .slice b m d]] w fun e w' => e = .returned (.string T) ∧ Below w.heap.size w w' := by
  have HB := Lib.hid (below_one w (.cells #[.bool s, .slice a n c, .slice b m d] 27))
  have X0 : Hid (Tri (w.alloc (.cells #[.bool s, .slice a n c, .slice b m d] 27)) (w.heap.size) (.bool s) (.slice a n c) (.slice b m d)) := (tri_new _ (.bool s) (.slice a n c) (.slice b m d))
  have R0 := Lib.hid (h0.later HB.out); clear h0
  have R1 := Lib.hid (h1.later HB.out); clear h1
  have HQ := Lib.hid hq; clear hq
  have HD := Lib.hid hD
  go_enter Tryz.func49, Tryz.ntmps49
  go_wp2_with fail
  refine (rnormR 12 12 q R0.out R1.out HQ.out hn hm (by omega) (by omega) (by omega) (by omega)).mono ?_
  rintro e w1 ⟨ar, nr, cr, br, mr, dr, rfl, h2, h3, hr, hr2, hb⟩
  replace X0 := Lib.hid (X0.out.later hb)
  replace HB := Lib.hid (bthen HB.out hb)
  clear hb
  have RA := Lib.hid hr; clear hr
  have RB := Lib.hid hr2; clear hr2 R0 R1 HQ
  obtain ⟨kX00, kX01, kX02, kX03, kX04, kX05, kX06⟩ := X0.out
  have X0' := Lib.hid X0.out
  replace RA := Lib.hid (RA.out.put3 X0'.out (.bool (decide (q.num < 0))) (.slice ar nr cr) (.slice br mr dr))
  replace RB := Lib.hid (RB.out.put3 X0'.out (.bool (decide (q.num < 0))) (.slice ar nr cr) (.slice br mr dr))
  replace X0 := Lib.hid (X0.out.put (.bool (decide (q.num < 0))) (.slice ar nr cr) (.slice br mr dr))
  replace HB := Lib.hid (below_put3 (g := w.heap.size) HB.out (by omega) (.bool (decide (q.num < 0))) (.slice ar nr cr) (.slice br mr dr))
  clear X0'
  obtain ⟨U, hU⟩ : ∃ U, decI q.num = U := ⟨_, rfl⟩
  obtain ⟨V, hV⟩ : ∃ V, decStr q.den = V := ⟨_, rfl⟩
  have lU : U.size ≤ 117 := by rw [← hU]; exact decI_len (by rw [RA.out.1]; omega)
  have lV : V.size ≤ 116 := by rw [← hV]; exact dec_len (by rw [RB.out.1]; omega) (by omega)
  have LQ := Lib.hid (show (decStr q.num.natAbs).size ≤ 1000 from dec_len (by rw [RA.out.1]; omega) (by omega))
  have hTU : T = U ++ (⟨#[47]⟩ ++ V) := by rw [← hT, ← hU, ← hV, ratStr, if_neg hD]
  have HTU := Lib.hid hTU; clear hTU
  have s1 : U.size + 1 ≤ 9223372036854775807 := by omega
  have s2 : U.size + 1 + V.size ≤ 9223372036854775807 := by omega
  have s3 : U.size ≤ 9223372036854775807 := by omega
  have s4 : V.size ≤ 9223372036854775807 := by omega
  have s5 : ¬ 9223372036854775807 < U.size + 1 := by omega
  have s6 : ¬ 9223372036854775807 < U.size + 1 + V.size := by omega
  have HU := Lib.hid hU
  have HV := Lib.hid (show decStr (val (limbs q.den)) = V by rw [val_limbs]; exact hV)
  clear hU hV hT hD
  go_wp2_with fail
  refine (rwholeR_no 12 12 q RA.out RB.out (rat_limbs q) h2 h3 (by omega) (by omega) (by omega) (by omega) HD.out).mono ?_
  rintro e w2 ⟨rfl, hb⟩
  replace RA := Lib.hid (RA.out.later hb)
  replace RB := Lib.hid (RB.out.later hb)
  replace X0 := Lib.hid (X0.out.later hb)
  replace HB := Lib.hid (bthen HB.out hb)
  clear hb
  clear kX00 kX01 kX02 kX03 kX04 kX05 kX06
  obtain ⟨kX00, kX01, kX02, -, -, -, -⟩ := X0.out
  go_wp2_with fail
  clear kX00 kX01 kX02
  obtain ⟨W, hW⟩ : ∃ W, w2 = W := ⟨_, rfl⟩
  rw [hW] at RA RB X0 HB ⊢
  clear hW
  obtain ⟨kX00, kX01, kX02, -, -, -, -⟩ := X0.out
  replace X0 := Lib.hid X0.out.drew
  replace RA := Lib.hid RA.out.drew
  replace RB := Lib.hid RB.out.drew
  replace HB := Lib.hid HB.out.drew
  go_region_held3 (fun w' => w'.cell? ⟨w.heap.size, 0, none⟩ = some (.bool (decide (q.num < 0))) ∧ w'.cell? ⟨w.heap.size, 1, none⟩ = some (.slice ar nr cr) ∧ w'.cell? ⟨w.heap.size, 2, none⟩ = some (.slice br mr dr))
    (first | (refine ⟨?_, ?_, ?_⟩ <;> with_reducible assumption) | (go_keep; done))
    (first | (go_at_call 87; refine (rprintI U q.num _ _ _ _ _ _ RA.out h2 (sv_limbs _) HU.out LQ.out).mono ?_; rintro e v ⟨rfl, hb⟩; replace RA := Lib.hid (RA.out.later hb); replace RB := Lib.hid (RB.out.later hb); replace X0 := Lib.hid (X0.out.later hb); replace HB := Lib.hid (bthen HB.out hb); clear hb; clear kX00 kX01 kX02; obtain ⟨kX00, kX01, kX02, -, -, -, -⟩ := X0.out) | (go_at_call 74; refine (rprintN V RB.out h3 HV.out).mono ?_; rintro e v ⟨rfl, hb⟩; replace RA := Lib.hid (RA.out.later hb); replace RB := Lib.hid (RB.out.later hb); replace X0 := Lib.hid (X0.out.later hb); replace HB := Lib.hid (bthen HB.out hb); clear hb; clear kX00 kX01 kX02; obtain ⟨kX00, kX01, kX02, -, -, -, -⟩ := X0.out))
  all_goals
    go_wp2
    go_ret
    exact ⟨by rw [HTU.out, ← ByteArray.append_assoc]; rfl, HB.out⟩

theorem rprintR (T : ByteArray) (q : Rat) {s : Bool} {a b : Option Addr} {n c m d : Nat} {xs ys : List Nat} {w : World} (h0 : Row w a n c xs) (h1 : Row w b m d ys) (hq : mkRat (sv s (val xs)) (val ys) = q) (hn : n ≤ 12) (hm : m ≤ 12) (hT : ratStr q = T) :
    Calls Tryz.prog 49 #[.agg #[.bool s, .slice a n c, .slice b m d]] w fun e w' => e = .returned (.string T) ∧ Below w.heap.size w w' := by
  by_cases h : q.den = 1
  · exact rprintR_one T q h0 h1 hq hn hm h hT
  · exact rprintR_two T q h0 h1 hq hn hm h hT

end Go.Proofs.YtkcgikoploohkaaGreatDoor
/- What the answer's Parse tells: a quotient, an integer. -/
namespace Go.Proofs.YtkcgikoploohkaaGreatDoor
set_option linter.unusedVariables false
set_option linter.unusedSimpArgs false
set_option maxRecDepth 100000
open Go.RowKit Nums

/-- digits, as the answer tells them -/
def RNatK (k N : Nat) (w : World) (e : Ending) (w' : World) : Prop := ∃ a m c, e = .returned (.tuple #[.slice a m c, .int .i64 0]) ∧ m ≤ k ∧ Row w' a m c (limbs N) ∧ Below w.heap.size w w'

theorem first_byte {s h t u : ByteArray} {neg : Bool} (H : Split s 46 h t) (hs : Signed h neg u) (hu : 0 < u.size) (h0 : 0 < s.size) : ((s[0].toNat : Int) == 45) = neg := by
  have e1 : s[0] = s.data.toList[0]'(by simpa using h0) := by simp [ByteArray.getElem_eq_getElem_data]
  rcases hs with ⟨rfl, e⟩ | ⟨rfl, rfl, e⟩
  · have e2 : s.data.toList[0]'(by simpa using h0) = 45 := by simp only [H.1, e, List.cons_append, List.getElem_cons_zero]
    rw [e1, e2]; rfl
  · have hl : 0 < h.data.toList.length := by rw [← Lib.size_eq h]; exact hu
    have e2 : s.data.toList[0]'(by simpa using h0) = h.data.toList[0] := by
      simp only [H.1]; exact List.getElem_append_left hl
    rw [e1, e2, beq_eq_false_iff_ne]
    intro hh
    apply e
    rw [List.head?_eq_getElem?, List.getElem?_eq_getElem hl]
    congr 1
    apply UInt8.toNat_inj.1
    have : ((45 : UInt8).toNat : Int) = 45 := rfl
    omega

theorem pow_limbs (k T K : Nat) (hk : k ≤ T) (hT : T ≤ 6 * K) (hK : 0 < K) : (limbs (10 ^ k)).length ≤ K := by
  apply limbs_len
  exact Nat.lt_of_le_of_lt (Nat.pow_le_pow_right (by omega) hk) (pow_room T K hK hT)

set_option maxHeartbeats 8000000 in
theorem rslash_ok (K : Nat) (q : Rat) (X : Int) (N : Nat) (s h t : ByteArray) (w : World) (H : Split s 47 h t) (hs : s.size ≤ 1000000) (hH : ∀ w, Calls Tryz.prog 69 #[.string h] w (ParseK K X w)) (hT : ∀ w, Calls Tryz.prog 70 #[.string t] w (RNatK K N w)) (hK : K ≤ 70) (hK2 : 2 ≤ K) (hN : 0 < N) (hr : mkRat X N = q) :
    Calls Tryz.prog 34 #[.string s] w (RatRes 0 (ToldAs K K q) w) := by
  have H1 := H.head
  have H2 := H.tail
  have hz := H.size
  have HF := Lib.hid (fun w => find_hit 47 47 s h t w rfl H hs)
  obtain ⟨v, hv⟩ := find_any 46 46 s rfl hs
  have HP := Lib.hid hv; clear hv
  obtain ⟨i, hi⟩ : ∃ i, h.size = i := ⟨_, rfl⟩
  rw [hi] at H1 H2 HF hz
  rw [← H1] at hH
  rw [← H2] at hT
  have HH := Lib.hid hH; clear hH
  have HT := Lib.hid hT; clear hT
  have hle : i + 1 ≤ s.size := by omega
  have hle2 : (i : Int) + 1 ≤ (s.size : Int) := by omega
  have hle3 : (i : Int) ≤ (s.size : Int) := by omega
  have hle4 : (0 : Int) ≤ (i : Int) := by omega
  clear H1 H2 hz H hi
  have HR := Lib.hid (show mkRat (sv (decide (X < 0)) (val (limbs X.natAbs))) (val (limbs N)) = q by rw [sv_limbs, val_limbs]; exact hr); clear hr
  have HB := Lib.hid (below_one w (.cells #[.bool false, .slice none 0 0, .slice none 0 0] 27))
  have Z : Hid (Tri (w.alloc (.cells #[.bool false, .slice none 0 0, .slice none 0 0] 27)) w.heap.size (.bool false) (.slice none 0 0) (.slice none 0 0)) := tri_new w _ _ _
  go_enter Tryz.func34, Tryz.ntmps34
  go_wp2_with fail
  refine (HF.out _).mono ?_
  rintro e w1 ⟨rfl, rfl⟩
  go_wp2_with fail
  refine (HP.out _).mono ?_
  rintro e w1 ⟨rfl, rfl⟩
  go_wp2_with fail
  refine (HH.out _).mono ?_
  rintro e w11 ⟨a, n, c, rfl, hn, hr, hb⟩
  replace Z := Lib.hid (Z.out.later hb)
  replace HB := Lib.hid (bthen HB.out hb)
  clear hb
  have RA := Lib.hid hr; clear hr
  have hb1 := below_one w11 (.cells #[.bool (decide (X < 0)), .slice a n c] 25)
  have XN : Hid (Box (w11.alloc (.cells #[.bool (decide (X < 0)), .slice a n c] 25)) w11.heap.size (.bool (decide (X < 0))) (.slice a n c)) := box_new w11 _ _
  replace RA := Lib.hid (RA.out.later hb1)
  replace Z := Lib.hid (Z.out.later hb1)
  replace HB := Lib.hid (bthen HB.out hb1)
  clear hb1
  go_wp2_with fail
  refine (HT.out _).mono ?_
  rintro e w12 ⟨b, m, d, rfl, hm, hr, hb⟩
  replace RA := Lib.hid (RA.out.later hb)
  replace XN := Lib.hid (XN.out.later hb)
  replace Z := Lib.hid (Z.out.later hb)
  replace HB := Lib.hid (bthen HB.out hb)
  clear hb
  have RB := Lib.hid hr; clear hr
  have hm0 : ((m : Int) == 0) = false := by
    rw [beq_eq_false_iff_ne]; have := RB.out.1
    have : (limbs N).length ≠ 0 := fun h => by have := length_limbs_zero.1 h; omega
    omega
  go_wp2_with fail
  refine (worse_00 _).mono ?_
  rintro e wz ⟨rfl, rfl⟩
  obtain ⟨kXN0, kXN1, -, -, -⟩ := XN.out
  go_wp2_with fail
  refine (rnormR K K q RA.out RB.out HR.out hn hm hK hK2 hK2 hK).mono ?_
  rintro e w13 ⟨a1, n1, c1, b1, m1, d1, rfl, hn1, hm1, hr, hr2, hb⟩
  replace RA := Lib.hid (RA.out.later hb)
  replace RB := Lib.hid (RB.out.later hb)
  replace XN := Lib.hid (XN.out.later hb)
  replace Z := Lib.hid (Z.out.later hb)
  replace HB := Lib.hid (bthen HB.out hb)
  clear hb
  clear kXN0 kXN1
  have RX := Lib.hid hr; clear hr
  have RY := Lib.hid hr2; clear hr2
  obtain ⟨kZ0, kZ1, kZ2, kZ3, kZ4, kZ5, kZ6⟩ := Z.out
  go_wp2
  exact bodyPost_ret (v := .tuple #[.agg #[.bool (decide (q.num < 0)), .slice a1 n1 c1, .slice b1 m1 d1], .int .i64 0]) (by simp [results, Tryz.results34, go_sem, *]) rfl
    (ratRes_sink rfl ⟨rfl, hn1, hm1, rfl, rfl⟩ (RX.out.put3 Z.out _ _ _) (RY.out.put3 Z.out _ _ _) (below_put3 HB.out (by omega) _ _ _))

set_option maxHeartbeats 8000000 in
theorem rslash_zero (K : Nat) (X : Int) (N : Nat) (s h t : ByteArray) (w : World) (H : Split s 47 h t) (hs : s.size ≤ 1000000) (hH : ∀ w, Calls Tryz.prog 69 #[.string h] w (ParseK K X w)) (hT : ∀ w, Calls Tryz.prog 70 #[.string t] w (RNatK K N w)) (hK : K ≤ 70) (hK2 : 2 ≤ K) (hN : N = 0) :
    Calls Tryz.prog 34 #[.string s] w (RatRes 4 NoneAs w) := by
  have H1 := H.head
  have H2 := H.tail
  have hz := H.size
  have HF := Lib.hid (fun w => find_hit 47 47 s h t w rfl H hs)
  obtain ⟨v, hv⟩ := find_any 46 46 s rfl hs
  have HP := Lib.hid hv; clear hv
  obtain ⟨i, hi⟩ : ∃ i, h.size = i := ⟨_, rfl⟩
  rw [hi] at H1 H2 HF hz
  rw [← H1] at hH
  rw [← H2] at hT
  have HH := Lib.hid hH; clear hH
  have HT := Lib.hid hT; clear hT
  have hle : i + 1 ≤ s.size := by omega
  have hle2 : (i : Int) + 1 ≤ (s.size : Int) := by omega
  have hle3 : (i : Int) ≤ (s.size : Int) := by omega
  have hle4 : (0 : Int) ≤ (i : Int) := by omega
  clear H1 H2 hz H hi
  have HB := Lib.hid (below_one w (.cells #[.bool false, .slice none 0 0, .slice none 0 0] 27))
  have Z : Hid (Tri (w.alloc (.cells #[.bool false, .slice none 0 0, .slice none 0 0] 27)) w.heap.size (.bool false) (.slice none 0 0) (.slice none 0 0)) := tri_new w _ _ _
  go_enter Tryz.func34, Tryz.ntmps34
  go_wp2_with fail
  refine (HF.out _).mono ?_
  rintro e w1 ⟨rfl, rfl⟩
  go_wp2_with fail
  refine (HP.out _).mono ?_
  rintro e w1 ⟨rfl, rfl⟩
  go_wp2_with fail
  refine (HH.out _).mono ?_
  rintro e w11 ⟨a, n, c, rfl, hn, hr, hb⟩
  replace Z := Lib.hid (Z.out.later hb)
  replace HB := Lib.hid (bthen HB.out hb)
  clear hb
  have RA := Lib.hid hr; clear hr
  have hb1 := below_one w11 (.cells #[.bool (decide (X < 0)), .slice a n c] 25)
  have XN : Hid (Box (w11.alloc (.cells #[.bool (decide (X < 0)), .slice a n c] 25)) w11.heap.size (.bool (decide (X < 0))) (.slice a n c)) := box_new w11 _ _
  replace RA := Lib.hid (RA.out.later hb1)
  replace Z := Lib.hid (Z.out.later hb1)
  replace HB := Lib.hid (bthen HB.out hb1)
  clear hb1
  go_wp2_with fail
  refine (HT.out _).mono ?_
  rintro e w12 ⟨b, m, d, rfl, hm, hr, hb⟩
  replace RA := Lib.hid (RA.out.later hb)
  replace XN := Lib.hid (XN.out.later hb)
  replace Z := Lib.hid (Z.out.later hb)
  replace HB := Lib.hid (bthen HB.out hb)
  clear hb
  have RB := Lib.hid hr; clear hr
  have hm0 : m = 0 := by have h := RB.out.1; rw [hN, limbs_zero] at h; simpa using h.symm
  subst hm0
  go_wp2_with fail
  refine (worse_00 _).mono ?_
  rintro e wz ⟨rfl, rfl⟩
  obtain ⟨kZ0, kZ1, kZ2, kZ3, kZ4, kZ5, kZ6⟩ := Z.out
  have RN := Lib.hid (row_nil w12)
  go_wp2
  exact bodyPost_ret (v := .tuple #[.agg #[.bool false, .slice none 0 0, .slice none 0 0], .int .i64 4]) (by simp [results, Tryz.results34, go_sem, *]) rfl
    (ratRes_sink rfl ⟨rfl, rfl, rfl, rfl, rfl⟩ (RN.out.put3 Z.out _ _ _) (RN.out.put3 Z.out _ _ _) (below_put3 HB.out (by omega) _ _ _))

set_option maxHeartbeats 8000000 in
theorem rslash_bad (E F : Int) (s h t : ByteArray) (w : World) (H : Split s 47 h t) (hs : s.size ≤ 1000000) (hH : ∀ w, Calls Tryz.prog 69 #[.string h] w (AnyI E w)) (hT : ∀ w, Calls Tryz.prog 70 #[.string t] w (AnyN F w)) (hW : ∀ w, Calls Tryz.prog 71 #[.int .i64 E, .int .i64 F] w fun e w' => e = .returned (.int .i64 4) ∧ w = w') :
    Calls Tryz.prog 34 #[.string s] w (RatRes 4 NoneAs w) := by
  have H1 := H.head
  have H2 := H.tail
  have hz := H.size
  have HF := Lib.hid (fun w => find_hit 47 47 s h t w rfl H hs)
  obtain ⟨v, hv⟩ := find_any 46 46 s rfl hs
  have HP := Lib.hid hv; clear hv
  obtain ⟨i, hi⟩ : ∃ i, h.size = i := ⟨_, rfl⟩
  rw [hi] at H1 H2 HF hz
  rw [← H1] at hH
  rw [← H2] at hT
  have HH := Lib.hid hH; clear hH
  have HT := Lib.hid hT; clear hT
  have hle : i + 1 ≤ s.size := by omega
  have hle2 : (i : Int) + 1 ≤ (s.size : Int) := by omega
  have hle3 : (i : Int) ≤ (s.size : Int) := by omega
  have hle4 : (0 : Int) ≤ (i : Int) := by omega
  clear H1 H2 hz H hi
  have HW := Lib.hid hW; clear hW
  have HB := Lib.hid (below_one w (.cells #[.bool false, .slice none 0 0, .slice none 0 0] 27))
  have Z : Hid (Tri (w.alloc (.cells #[.bool false, .slice none 0 0, .slice none 0 0] 27)) w.heap.size (.bool false) (.slice none 0 0) (.slice none 0 0)) := tri_new w _ _ _
  go_enter Tryz.func34, Tryz.ntmps34
  go_wp2_with fail
  refine (HF.out _).mono ?_
  rintro e w1 ⟨rfl, rfl⟩
  go_wp2_with fail
  refine (HP.out _).mono ?_
  rintro e w1 ⟨rfl, rfl⟩
  go_wp2_with fail
  refine (HH.out _).mono ?_
  rintro e w11 ⟨sx, a, n, c, rfl, hb⟩
  replace Z := Lib.hid (Z.out.later hb)
  replace HB := Lib.hid (bthen HB.out hb)
  clear hb
  have hb1 := below_one w11 (.cells #[.bool sx, .slice a n c] 25)
  have XN : Hid (Box (w11.alloc (.cells #[.bool sx, .slice a n c] 25)) w11.heap.size (.bool sx) (.slice a n c)) := box_new w11 _ _
  replace Z := Lib.hid (Z.out.later hb1)
  replace HB := Lib.hid (bthen HB.out hb1)
  clear hb1
  go_wp2_with fail
  refine (HT.out _).mono ?_
  rintro e w12 ⟨b, m, d, rfl, hb⟩
  replace XN := Lib.hid (XN.out.later hb)
  replace Z := Lib.hid (Z.out.later hb)
  replace HB := Lib.hid (bthen HB.out hb)
  clear hb
  go_wp2_with fail
  refine (HW.out _).mono ?_
  rintro e wz ⟨rfl, rfl⟩
  obtain ⟨kZ0, kZ1, kZ2, kZ3, kZ4, kZ5, kZ6⟩ := Z.out
  have RN := Lib.hid (row_nil w12)
  go_wp2
  exact bodyPost_ret (v := .tuple #[.agg #[.bool false, .slice none 0 0, .slice none 0 0], .int .i64 4]) (by simp [results, Tryz.results34, go_sem, *]) rfl
    (ratRes_sink rfl ⟨rfl, rfl, rfl, rfl, rfl⟩ (RN.out.put3 Z.out _ _ _) (RN.out.put3 Z.out _ _ _) (below_put3 HB.out (by omega) _ _ _))

set_option maxHeartbeats 8000000 in
theorem rint_ok (K J : Nat) (X : Int) (s : ByteArray) (w : World) (hn1 : (47 : UInt8) ∉ s.data.toList) (hn2 : (46 : UInt8) ∉ s.data.toList) (hs : s.size ≤ 1000000) (hJ : 1 ≤ J) (hH : ∀ w, Calls Tryz.prog 69 #[.string s] w (ParseK K X w)) :
    Calls Tryz.prog 34 #[.string s] w (RatRes 0 (ToldAs K J (X : Rat)) w) := by
  have HF := Lib.hid (fun w => find_miss 47 47 s w rfl hn1 hs)
  have HP := Lib.hid (fun w => find_miss 46 46 s w rfl hn2 hs)
  have HH := Lib.hid hH; clear hH hn1 hn2
  have HB := Lib.hid (below_one w (.cells #[.bool false, .slice none 0 0, .slice none 0 0] 27))
  have Z : Hid (Tri (w.alloc (.cells #[.bool false, .slice none 0 0, .slice none 0 0] 27)) w.heap.size (.bool false) (.slice none 0 0) (.slice none 0 0)) := tri_new w _ _ _
  go_enter Tryz.func34, Tryz.ntmps34
  go_wp2_with fail
  refine (HF.out _).mono ?_
  rintro e w1 ⟨rfl, rfl⟩
  go_wp2_with fail
  refine (HP.out _).mono ?_
  rintro e w1 ⟨rfl, rfl⟩
  go_wp2_with fail
  refine (HH.out _).mono ?_
  rintro e w11 ⟨a, n, c, rfl, hn, hr, hb⟩
  replace Z := Lib.hid (Z.out.later hb)
  replace HB := Lib.hid (bthen HB.out hb)
  clear hb
  have RA := Lib.hid hr; clear hr
  have hb1 := below_one w11 (.cells #[.bool (decide (X < 0)), .slice a n c] 25)
  replace RA := Lib.hid (RA.out.later hb1)
  replace Z := Lib.hid (Z.out.later hb1)
  replace HB := Lib.hid (bthen HB.out hb1)
  clear hb1
  have b2 := below_one (w11.alloc (.cells #[.bool (decide (X < 0)), .slice a n c] 25)) (.cells #[.int .u32 1] 89)
  have RL := Lib.hid (row_lit (w11.alloc (.cells #[.bool (decide (X < 0)), .slice a n c] 25)) 1 1 rfl (by omega) (by omega))
  rw [show (w11.alloc (.cells #[.bool (decide (X < 0)), .slice a n c] 25)).heap.size = w11.heap.size + 1 from by simp] at RL
  replace RA := Lib.hid (RA.out.later b2)
  replace Z := Lib.hid (Z.out.later b2)
  replace HB := Lib.hid (bthen HB.out b2)
  clear b2
  obtain ⟨kZ0, kZ1, kZ2, kZ3, kZ4, kZ5, kZ6⟩ := Z.out
  go_wp2
  exact bodyPost_ret (v := .tuple #[.agg #[.bool (decide (X < 0)), .slice a n c, .slice (some ⟨w11.heap.size + 1, 0, none⟩) 1 1], .int .i64 0]) (by simp [results, Tryz.results34, go_sem, *]) rfl
    (ratRes_sink rfl ⟨by rw [Rat.num_intCast], hn, hJ, by rw [Rat.num_intCast], by rw [Rat.den_intCast]⟩ (RA.out.put3 Z.out _ _ _) (RL.out.put3 Z.out _ _ _) (below_put3 HB.out (by omega) _ _ _))

set_option maxHeartbeats 8000000 in
theorem rint_bad  (s : ByteArray) (w : World) (hn1 : (47 : UInt8) ∉ s.data.toList) (hn2 : (46 : UInt8) ∉ s.data.toList) (hs : s.size ≤ 1000000) (hH : ∀ w, Calls Tryz.prog 69 #[.string s] w (AnyI 4 w)) :
    Calls Tryz.prog 34 #[.string s] w (RatRes 4 NoneAs w) := by
  have HF := Lib.hid (fun w => find_miss 47 47 s w rfl hn1 hs)
  have HP := Lib.hid (fun w => find_miss 46 46 s w rfl hn2 hs)
  have HH := Lib.hid hH; clear hH hn1 hn2
  have HB := Lib.hid (below_one w (.cells #[.bool false, .slice none 0 0, .slice none 0 0] 27))
  have Z : Hid (Tri (w.alloc (.cells #[.bool false, .slice none 0 0, .slice none 0 0] 27)) w.heap.size (.bool false) (.slice none 0 0) (.slice none 0 0)) := tri_new w _ _ _
  go_enter Tryz.func34, Tryz.ntmps34
  go_wp2_with fail
  refine (HF.out _).mono ?_
  rintro e w1 ⟨rfl, rfl⟩
  go_wp2_with fail
  refine (HP.out _).mono ?_
  rintro e w1 ⟨rfl, rfl⟩
  go_wp2_with fail
  refine (HH.out _).mono ?_
  rintro e w11 ⟨sx, a, n, c, rfl, hb⟩
  replace Z := Lib.hid (Z.out.later hb)
  replace HB := Lib.hid (bthen HB.out hb)
  clear hb
  have hb1 := below_one w11 (.cells #[.bool sx, .slice a n c] 25)
  replace Z := Lib.hid (Z.out.later hb1)
  replace HB := Lib.hid (bthen HB.out hb1)
  clear hb1
  obtain ⟨kZ0, kZ1, kZ2, kZ3, kZ4, kZ5, kZ6⟩ := Z.out
  have RN := Lib.hid (row_nil (w11.alloc (.cells #[.bool sx, .slice a n c] 25)))
  go_wp2
  exact bodyPost_ret (v := .tuple #[.agg #[.bool false, .slice none 0 0, .slice none 0 0], .int .i64 4]) (by simp [results, Tryz.results34, go_sem, *]) rfl
    (ratRes_sink rfl ⟨rfl, rfl, rfl, rfl, rfl⟩ (RN.out.put3 Z.out _ _ _) (RN.out.put3 Z.out _ _ _) (below_put3 HB.out (by omega) _ _ _))

end Go.Proofs.YtkcgikoploohkaaGreatDoor
/- What the answer's Parse tells: a decimal. -/
namespace Go.Proofs.YtkcgikoploohkaaGreatDoor
set_option linter.unusedVariables false
set_option linter.unusedSimpArgs false
set_option maxRecDepth 100000
open Go.RowKit Nums

set_option maxHeartbeats 16000000 in
theorem rpoint_bad (E F : Int) (s h t : ByteArray) (w : World) (hno : (47 : UInt8) ∉ s.data.toList) (H : Split s 46 h t) (hs : s.size ≤ 1000000) (hH : ∀ w, Calls Tryz.prog 69 #[.string h] w (AnyI E w)) (hT : ∀ w, Calls Tryz.prog 70 #[.string t] w (AnyN F w)) (hW : ∀ w, Calls Tryz.prog 71 #[.int .i64 E, .int .i64 F] w fun e w' => e = .returned (.int .i64 4) ∧ w = w') :
    Calls Tryz.prog 34 #[.string s] w (RatRes 4 NoneAs w) := by
  have H1 := H.head
  have H2 := H.tail
  have hz := H.size
  have HF := Lib.hid (fun w => find_miss 47 47 s w rfl hno hs)
  have HP := Lib.hid (fun w => find_hit 46 46 s h t w rfl H hs)
  obtain ⟨i, hi⟩ : ∃ i, h.size = i := ⟨_, rfl⟩
  rw [hi] at H1 H2 HP hz
  rw [← H1] at hH
  rw [← H2] at hT
  have HH := Lib.hid hH; clear hH
  have HT := Lib.hid hT; clear hT
  have hle : i + 1 ≤ s.size := by omega
  have hle2 : (i : Int) + 1 ≤ (s.size : Int) := by omega
  have hle3 : (i : Int) ≤ (s.size : Int) := by omega
  have hle4 : (0 : Int) ≤ (i : Int) := by omega
  have hle5 : ¬ (i : Int) < 0 := by omega
  clear H1 H2 H hi hno hz
  have HW := Lib.hid hW; clear hW
  have HB := Lib.hid (below_one w (.cells #[.bool false, .slice none 0 0, .slice none 0 0] 27))
  have Z : Hid (Tri (w.alloc (.cells #[.bool false, .slice none 0 0, .slice none 0 0] 27)) w.heap.size (.bool false) (.slice none 0 0) (.slice none 0 0)) := tri_new w _ _ _
  go_enter Tryz.func34, Tryz.ntmps34
  go_wp2_with fail
  refine (HF.out _).mono ?_
  rintro e w1 ⟨rfl, rfl⟩
  go_wp2_with fail
  refine (HP.out _).mono ?_
  rintro e w1 ⟨rfl, rfl⟩
  go_wp2_with fail
  refine (HH.out _).mono ?_
  rintro e w11 ⟨sx, a, n, c, rfl, hb⟩
  replace Z := Lib.hid (Z.out.later hb)
  replace HB := Lib.hid (bthen HB.out hb)
  clear hb
  have hb1 := below_one w11 (.cells #[.bool sx, .slice a n c] 25)
  have XN : Hid (Box (w11.alloc (.cells #[.bool sx, .slice a n c] 25)) w11.heap.size (.bool sx) (.slice a n c)) := box_new w11 _ _
  replace Z := Lib.hid (Z.out.later hb1)
  replace HB := Lib.hid (bthen HB.out hb1)
  clear hb1
  go_wp2_with fail
  refine (HT.out _).mono ?_
  rintro e w12 ⟨b, m, d, rfl, hb⟩
  replace XN := Lib.hid (XN.out.later hb)
  replace Z := Lib.hid (Z.out.later hb)
  replace HB := Lib.hid (bthen HB.out hb)
  clear hb
  go_wp2_with fail
  refine (HW.out _).mono ?_
  rintro e wz ⟨rfl, rfl⟩
  obtain ⟨kZ0, kZ1, kZ2, kZ3, kZ4, kZ5, kZ6⟩ := Z.out
  have RN := Lib.hid (row_nil w12)
  go_wp2
  exact bodyPost_ret (v := .tuple #[.agg #[.bool false, .slice none 0 0, .slice none 0 0], .int .i64 4]) (by simp [results, Tryz.results34, go_sem, *]) rfl
    (ratRes_sink rfl ⟨rfl, rfl, rfl, rfl, rfl⟩ (RN.out.put3 Z.out _ _ _) (RN.out.put3 Z.out _ _ _) (below_put3 HB.out (by omega) _ _ _))

end Go.Proofs.YtkcgikoploohkaaGreatDoor
/- What the answer's Parse tells: a decimal that is one. -/
namespace Go.Proofs.YtkcgikoploohkaaGreatDoor
set_option linter.unusedVariables false
set_option linter.unusedSimpArgs false
set_option maxRecDepth 100000
open Go.RowKit Nums

set_option maxHeartbeats 16000000 in
theorem rpoint_ok (K : Nat) (q : Rat) (neg : Bool) (M N : Nat) (u : ByteArray) (s h t : ByteArray) (w : World) (hno : (47 : UInt8) ∉ s.data.toList) (H : Split s 46 h t) (hs : s.size ≤ 1000000) (hH : ∀ w, Calls Tryz.prog 69 #[.string h] w (ParseK K (sv neg M) w)) (hT : ∀ w, Calls Tryz.prog 70 #[.string t] w (RNatK K N w)) (hK : K ≤ 70) (hK2 : 2 ≤ K) (hsg : Signed h neg u) (hu : 0 < u.size) (htK : t.size ≤ 6 * K) (hL : (limbs (M * 10 ^ t.size + N)).length ≤ K) (hL2 : (limbs (M * 10 ^ t.size)).length ≤ K) (hr : mkRat (sv neg (M * 10 ^ t.size + N)) (10 ^ t.size) = q) :
    Calls Tryz.prog 34 #[.string s] w (RatRes 0 (ToldAs K K q) w) := by
  have hs0 : 0 < s.size := by have := H.size; omega
  have hneg := first_byte H hsg hu hs0
  have H1 := H.head
  have H2 := H.tail
  have hz := H.size
  have HF := Lib.hid (fun w => find_miss 47 47 s w rfl hno hs)
  have HP := Lib.hid (fun w => find_hit 46 46 s h t w rfl H hs)
  obtain ⟨i, hi⟩ : ∃ i, h.size = i := ⟨_, rfl⟩
  rw [hi] at H1 H2 HP hz
  rw [← H1] at hH
  rw [← H2] at hT
  have HH := Lib.hid hH; clear hH
  have HT := Lib.hid hT; clear hT
  have hle : i + 1 ≤ s.size := by omega
  have hle2 : (i : Int) + 1 ≤ (s.size : Int) := by omega
  have hle3 : (i : Int) ≤ (s.size : Int) := by omega
  have hle4 : (0 : Int) ≤ (i : Int) := by omega
  have hle5 : ¬ (i : Int) < 0 := by omega
  obtain ⟨T, hT⟩ : ∃ T, t.size = T := ⟨_, rfl⟩
  rw [hT] at hz htK hL hL2 hr
  have hz1 : i + 1 + T ≤ s.size := by omega
  have hz2 : s.size ≤ i + 1 + T := by omega
  have HNEG := Lib.hid hneg; clear hneg
  obtain ⟨V, hV⟩ : ∃ V, sv neg M = V := ⟨_, rfl⟩
  rw [hV] at HH
  have HVN := Lib.hid (show V.natAbs = M by rw [← hV, natAbs_sv])
  have HL := Lib.hid hL; clear hL
  have HL2 := Lib.hid hL2; clear hL2
  have HR := Lib.hid (show mkRat (sv neg (val (limbs (M * 10 ^ T + N)))) (val (limbs (10 ^ T))) = q by rw [val_limbs, val_limbs]; exact hr); clear hr hV hT hsg hz
  have HLP := Lib.hid (fun k (hk : k ≤ T) => pow_limbs k T K hk htK (by omega))
  clear H1 H2 H hi hno
  have HB := Lib.hid (below_one w (.cells #[.bool false, .slice none 0 0, .slice none 0 0] 27))
  have Z : Hid (Tri (w.alloc (.cells #[.bool false, .slice none 0 0, .slice none 0 0] 27)) w.heap.size (.bool false) (.slice none 0 0) (.slice none 0 0)) := tri_new w _ _ _
  go_enter Tryz.func34, Tryz.ntmps34
  go_wp2_with fail
  refine (HF.out _).mono ?_
  rintro e w1 ⟨rfl, rfl⟩
  go_wp2_with fail
  refine (HP.out _).mono ?_
  rintro e w1 ⟨rfl, rfl⟩
  go_wp2_with fail
  refine (HH.out _).mono ?_
  rintro e w11 ⟨a, n, c, rfl, hn, hr, hb⟩
  replace Z := Lib.hid (Z.out.later hb)
  replace HB := Lib.hid (bthen HB.out hb)
  clear hb
  have RA := Lib.hid hr; clear hr
  have hb1 := below_one w11 (.cells #[.bool (decide (V < 0)), .slice a n c] 25)
  have XN : Hid (Box (w11.alloc (.cells #[.bool (decide (V < 0)), .slice a n c] 25)) w11.heap.size (.bool (decide (V < 0))) (.slice a n c)) := box_new w11 _ _
  replace RA := Lib.hid (RA.out.later hb1)
  replace Z := Lib.hid (Z.out.later hb1)
  replace HB := Lib.hid (bthen HB.out hb1)
  clear hb1
  go_wp2_with fail
  refine (HT.out _).mono ?_
  rintro e w12 ⟨b, m, d, rfl, hm, hr, hb⟩
  replace RA := Lib.hid (RA.out.later hb)
  replace XN := Lib.hid (XN.out.later hb)
  replace Z := Lib.hid (Z.out.later hb)
  replace HB := Lib.hid (bthen HB.out hb)
  clear hb
  have RB := Lib.hid hr; clear hr
  go_wp2_with fail
  refine (worse_00 _).mono ?_
  rintro e wz ⟨rfl, rfl⟩
  have hb1 := below_one w12 (.cells #[.int .u32 1] 89)
  have RS := Lib.hid (row_lit w12 1 1 rfl (by omega) (by omega))
  replace RA := Lib.hid (RA.out.later hb1)
  replace RB := Lib.hid (RB.out.later hb1)
  replace XN := Lib.hid (XN.out.later hb1)
  replace Z := Lib.hid (Z.out.later hb1)
  replace HB := Lib.hid (bthen HB.out hb1)
  clear hb1
  go_wp2_with fail
  go_loopw [18, 19] (fun v t wr => ∃ (k : Nat) (ao : Option Addr) (mo co : Nat), k ≤ T ∧ t = .int .i64 ((i + 1 + k : Nat) : Int) ∧ v = .slice ao mo co ∧ mo ≤ K ∧ Hid (Row wr ao mo co (limbs (10 ^ k)) ∧ Row wr a n c (limbs V.natAbs) ∧ Row wr b m d (limbs N) ∧ Box wr w11.heap.size (.bool (decide (V < 0))) (.slice a n c) ∧ Tri wr w.heap.size (.bool false) (.slice none 0 0) (.slice none 0 0)) ∧ Below w.heap.size w wr) (fun _ t _ => s.size - (intOf t).toNat)
  case atStart => exact ⟨0, _, 1, 1, Nat.zero_le _, by go_num, rfl, by omega, ⟨RS.out, RA.out, RB.out, XN.out, Z.out⟩, HB.out⟩
  case round =>
    obtain ⟨k, ao, mo, co, hk, rfl, rfl, hmo, hh, hbr⟩ := hrel
    clear RA RB RS XN Z HB
    obtain ⟨wq, rfl⟩ : ∃ wq : World, wq = wr := ⟨_, rfl⟩
    obtain ⟨rs, ra, rb, xn, z⟩ := hh.out
    clear hh
    have RS := Lib.hid rs; clear rs
    have RA := Lib.hid ra; clear ra
    have RB := Lib.hid rb; clear rb
    have XN := Lib.hid xn; clear xn
    have Z := Lib.hid z; clear z
    have HB := Lib.hid hbr; clear hbr
    by_cases hkT : k < T
    · have hlt : i + 1 + k < s.size := by omega
      have hltI : ((i + 1 + k : Nat) : Int) < (s.size : Int) := by omega
      have b1 := below_one wq (.cells #[.int .u32 10] 89)
      have R10 := Lib.hid (row_lit wq 10 10 rfl (by omega) (by omega))
      replace RS := Lib.hid (RS.out.later b1)
      replace RA := Lib.hid (RA.out.later b1)
      replace RB := Lib.hid (RB.out.later b1)
      replace XN := Lib.hid (XN.out.later b1)
      replace Z := Lib.hid (Z.out.later b1)
      replace HB := Lib.hid (bthen HB.out b1)
      clear b1
      have LP := Lib.hid (HLP.out (k + 1) (by omega))
      go_wp2_with fail
      refine (rmulN K (10 ^ (k + 1)) RS.out R10.out (val_limbs _) (val_limbs _) (by omega) (by omega) (by rw [Nat.pow_succ]) LP.out).mono ?_
      rintro e wv ⟨ap, mp, cp, rfl, hmp, hr, hb⟩
      have RP := Lib.hid hr; clear hr RS R10
      replace RA := Lib.hid (RA.out.later hb)
      replace RB := Lib.hid (RB.out.later hb)
      replace XN := Lib.hid (XN.out.later hb)
      replace Z := Lib.hid (Z.out.later hb)
      replace HB := Lib.hid (bthen HB.out hb)
      clear hb
      go_wp2
      go_roundw
      case rel => exact ⟨k + 1, ap, mp, cp, by omega, by first | rfl | (congr 1; push_cast; omega) | (congr 2; omega) | go_num, rfl, hmp, ⟨RP.out, RA.out, RB.out, XN.out, Z.out⟩, HB.out⟩
      case measure => simp [intOf]; omega
    · obtain rfl : k = T := by omega
      have hnlt : ¬ ((i + 1 + k : Nat) : Int) < (s.size : Int) := by omega
      obtain ⟨kXN0, kXN1, -, -, -⟩ := XN.out
      go_wp2_with fail
      refine (rmulN K (M * 10 ^ k) RA.out RS.out (val_limbs _) (val_limbs _) (by omega) (by omega) (by rw [HVN.out]) HL2.out).mono ?_
      rintro e wv ⟨ap, mp, cp, rfl, hmp, hr, hb⟩
      have RP := Lib.hid hr; clear hr
      replace RS := Lib.hid (RS.out.later hb)
      replace RB := Lib.hid (RB.out.later hb)
      replace Z := Lib.hid (Z.out.later hb)
      replace HB := Lib.hid (bthen HB.out hb)
      clear hb kXN0 kXN1 RA XN
      go_wp2_with fail
      refine (raddN K (M * 10 ^ k + N) RP.out RB.out (val_limbs _) (val_limbs _) (by omega) (by omega) rfl HL.out).mono ?_
      rintro e wu ⟨at', mt, ct, rfl, hmt, hr, hb⟩
      have RT := Lib.hid hr; clear hr RP RB
      replace RS := Lib.hid (RS.out.later hb)
      replace Z := Lib.hid (Z.out.later hb)
      replace HB := Lib.hid (bthen HB.out hb)
      clear hb
      have hneg := HNEG.out
      go_wp2_with fail
      first | rw [hneg] | skip
      clear hneg
      refine (rnormR K K q RT.out RS.out HR.out hmt hmo hK hK2 hK2 hK).mono ?_
      rintro e wt ⟨a1, n1, c1, b1, m1, d1, rfl, hn1, hm1, hr, hr2, hb⟩
      have RX := Lib.hid hr; clear hr
      have RY := Lib.hid hr2; clear hr2 RT RS
      replace Z := Lib.hid (Z.out.later hb)
      replace HB := Lib.hid (bthen HB.out hb)
      clear hb
      obtain ⟨kZ0, kZ1, kZ2, kZ3, kZ4, kZ5, kZ6⟩ := Z.out
      go_wp2
      exact bodyPost_ret (v := .tuple #[.agg #[.bool (decide (q.num < 0)), .slice a1 n1 c1, .slice b1 m1 d1], .int .i64 0]) (by simp [results, Tryz.results34, go_sem, *]) rfl
        (ratRes_sink rfl ⟨rfl, hn1, hm1, rfl, rfl⟩ (RX.out.put3 Z.out _ _ _) (RY.out.put3 Z.out _ _ _) (below_put3 HB.out (by omega) _ _ _))

end Go.Proofs.YtkcgikoploohkaaGreatDoor
/- RatioTexts: where a number or a text is long; the two parsers tell the same. -/
namespace Go.Proofs.YtkcgikoploohkaaGreatDoor
set_option linter.unusedVariables false
set_option linter.unusedSimpArgs false
set_option maxRecDepth 100000
open Go.RowKit Nums

theorem anyI_of {k : Nat} {Z : Int} {w : World} {e : Ending} {w' : World} (h : ParseK k Z w e w') : AnyI 0 w e w' := by
  obtain ⟨a, m, c, rfl, -, -, hb⟩ := h
  exact ⟨_, a, m, c, rfl, hb⟩
theorem anyI_err {E : Int} {w : World} {e : Ending} {w' : World} (h : ParseErr E w e w') : AnyI E w e w' := ⟨_, _, _, _, h.1, h.2⟩
theorem anyN_of {k N : Nat} {w : World} {e : Ending} {w' : World} (h : ParseNK k N w e w') : AnyN 0 w e w' := by
  obtain ⟨a, m, rfl, -, -, hb⟩ := h
  exact ⟨a, m, m, rfl, hb⟩
theorem anyN_ofR {k N : Nat} {w : World} {e : Ending} {w' : World} (h : RNatK k N w e w') : AnyN 0 w e w' := by
  obtain ⟨a, m, c, rfl, -, -, hb⟩ := h
  exact ⟨a, m, c, rfl, hb⟩

theorem int_bad (h u : ByteArray) (neg : Bool) (HS : Signed h neg u) (hs : u.size ≤ 1000) (hb : ¬ (0 < u.size ∧ allDig u)) :
    (∀ w, Calls Tryz.prog 110 #[.string h] w (AnyI 4 w)) ∧ (∀ w, Calls Tryz.prog 69 #[.string h] w (AnyI 4 w)) := by
  have hz : u.size = 0 ∨ ¬ allDig u := by
    rcases Nat.eq_zero_or_pos u.size with h | h
    · exact .inl h
    · exact .inr fun hd => hb ⟨h, hd⟩
  exact ⟨fun w => (parseI_err 4 h u neg w HS (by decide) (fun w => parse_bad u w (by omega) hz)).mono fun _ _ h => anyI_err h,
    fun w => (rparseI_err 4 h u neg w HS (by decide) (fun w => rparse_bad u w (by omega) hz)).mono fun _ _ h => anyI_err h⟩
theorem int_fine (K : Nat) (h u : ByteArray) (neg : Bool) (HS : Signed h neg u) (h3 : u.size ≤ 300) (hd : 0 < u.size ∧ allDig u) (hK0 : 0 < K) (hK : K ≤ 95) (huK : u.size ≤ 6 * K) :
    (∀ w, Calls Tryz.prog 110 #[.string h] w (ParseK K (sv neg (numOf u.data.toList)) w)) ∧ (∀ w, Calls Tryz.prog 69 #[.string h] w (ParseK K (sv neg (numOf u.data.toList)) w)) :=
  ⟨int_call K neg h u HS hd.1 h3 hd.2 hK0 huK, fun w => rparseI_ok K _ h u neg _ w HS h3 hd.1 hd.2 rfl rfl (len_numOf u K hd.2 hK0 huK) (by omega)⟩
theorem nat_bad (t : ByteArray) (hs : t.size ≤ 1000) (hb : ¬ (0 < t.size ∧ allDig t)) :
    (∀ w, Calls Tryz.prog 155 #[.string t] w (AnyN 4 w)) ∧ (∀ w, Calls Tryz.prog 70 #[.string t] w (AnyN 4 w)) := by
  have hz : t.size = 0 ∨ ¬ allDig t := by
    rcases Nat.eq_zero_or_pos t.size with h | h
    · exact .inl h
    · exact .inr fun hd => hb ⟨h, hd⟩
  refine ⟨fun w => (parse_bad t w (by omega) hz).mono ?_, fun w => (rparse_bad t w (by omega) hz).mono ?_⟩
  · rintro e w' ⟨rfl, rfl⟩; exact ⟨_, _, _, rfl, Below.refl _ _⟩
  · rintro e w' ⟨rfl, rfl⟩; exact ⟨_, _, _, rfl, Below.refl _ _⟩
theorem nat_fine (K : Nat) (t : ByteArray) (h3 : t.size ≤ 300) (hd : 0 < t.size ∧ allDig t) (hK0 : 0 < K) (htK : t.size ≤ 6 * K) :
    (∀ w, Calls Tryz.prog 155 #[.string t] w (ParseNK K (numOf t.data.toList) w)) ∧ (∀ w, Calls Tryz.prog 70 #[.string t] w (RNatK K (numOf t.data.toList) w)) :=
  ⟨nat_call K t hd.1 h3 hd.2 hK0 htK, fun w => rparseN K t w _ h3 hd.1 hd.2 rfl (len_numOf t K hd.2 hK0 htK)⟩

theorem parts_bad (h t : ByteArray) (hb : ((∀ w, Calls Tryz.prog 110 #[.string h] w (AnyI 4 w)) ∧ ∃ F, ∀ w, Calls Tryz.prog 155 #[.string t] w (AnyN F w)) ∨ ((∀ w, Calls Tryz.prog 110 #[.string h] w (AnyI 0 w)) ∧ ∀ w, Calls Tryz.prog 155 #[.string t] w (AnyN 4 w))) (w : World) :
    Calls Tryz.prog 148 #[.string h, .string t] w (PartsErr 4 w) := by
  rcases hb with ⟨h1, F, h2⟩ | ⟨h1, h2⟩
  · exact parts_form1 F h t w h1 h2
  · exact parts_form2 0 h t w h1 h2 (by decide)

theorem signed_size {s u : ByteArray} {neg : Bool} (h : Signed s neg u) : u.size ≤ s.size := by
  rcases h with ⟨-, e⟩ | ⟨-, e, -⟩
  · have := congrArg List.length e
    rw [List.length_cons, ← Lib.size_eq s, ← Lib.size_eq u] at this
    omega
  · subst e; exact Nat.le_refl _

/-- a text's number, or none: the program's and the answer's -/
def Both (s : ByteArray) : Prop :=
  (∃ q : Rat, (∀ w, Calls Tryz.prog 63 #[.string s] w (RatRes 0 (ToldAs 34 34 q) w)) ∧ ∀ w, Calls Tryz.prog 34 #[.string s] w (RatRes 0 (ToldAs 34 34 q) w)) ∨
  ((∀ w, Calls Tryz.prog 63 #[.string s] w (RatRes 4 NoneAs w)) ∧ ∀ w, Calls Tryz.prog 34 #[.string s] w (RatRes 4 NoneAs w))

theorem both_int (s : ByteArray) (hs : s.size ≤ 200) (h1 : (47 : UInt8) ∉ s.data.toList) (h2 : (46 : UInt8) ∉ s.data.toList) : Both s := by
  obtain ⟨neg, u, HS⟩ := signed_any s
  have hu := signed_size HS
  by_cases hd : 0 < u.size ∧ allDig u
  · obtain ⟨f1, f2⟩ := int_fine 34 s u neg HS (by omega) hd (by omega) (by omega) (by omega)
    exact .inl ⟨_, fun w => parse_int 34 34 _ s w h1 h2 (by omega) f1, fun w => rint_ok 34 34 _ s w h1 h2 (by omega) (by omega) f2⟩
  · obtain ⟨f1, f2⟩ := int_bad s u neg HS (by omega) hd
    exact .inr ⟨fun w => parse_int_err 4 s w h1 h2 (by decide) f1, fun w => rint_bad s w h1 h2 (by omega) f2⟩

theorem both_slash (s h t : ByteArray) (hs : s.size ≤ 200) (H : Split s 47 h t) : Both s := by
  obtain ⟨neg, u, HS⟩ := signed_any h
  have hu := signed_size HS
  have hz := H.size
  have bad : (((∀ w, Calls Tryz.prog 110 #[.string h] w (AnyI 4 w)) ∧ ∃ F, ∀ w, Calls Tryz.prog 155 #[.string t] w (AnyN F w)) ∨ ((∀ w, Calls Tryz.prog 110 #[.string h] w (AnyI 0 w)) ∧ ∀ w, Calls Tryz.prog 155 #[.string t] w (AnyN 4 w))) →
      (∃ E F : Int, (∀ w, Calls Tryz.prog 69 #[.string h] w (AnyI E w)) ∧ (∀ w, Calls Tryz.prog 70 #[.string t] w (AnyN F w)) ∧ ∀ w, Calls Tryz.prog 71 #[.int .i64 E, .int .i64 F] w fun e w' => e = .returned (.int .i64 4) ∧ w = w') → Both s := by
    rintro hb ⟨E, F, g1, g2, g3⟩
    exact .inr ⟨fun w => parse_slash 4 _ s h t w H (by omega) (fun w => (quot_err 4 h t w (by decide) (parts_bad h t hb)).mono fun _ _ h => ratRes_err h), fun w => rslash_bad E F s h t w H (by omega) g1 g2 g3⟩
  by_cases hd : 0 < u.size ∧ allDig u <;> by_cases ht : 0 < t.size ∧ allDig t
  · obtain ⟨f1, f2⟩ := int_fine 34 h u neg HS (by omega) hd (by omega) (by omega) (by omega)
    obtain ⟨f3, f4⟩ := nat_fine 34 t (by omega) ht (by omega) (by omega)
    rcases Nat.eq_zero_or_pos (numOf t.data.toList) with hN | hN
    · exact .inr ⟨fun w => parseQ_zero s h t u neg w H HS hd.1 (by omega) hd.2 ht.1 (by omega) ht.2 hN, fun w => rslash_zero 34 _ _ s h t w H (by omega) f2 f4 (by omega) (by omega) hN⟩
    · exact .inl ⟨_, fun w => parseQ_ok 34 _ s h t u neg w H HS hd.1 (by omega) hd.2 ht.1 (by omega) ht.2 (by omega) (by omega) (by omega) (by omega) hN rfl, fun w => rslash_ok 34 _ _ _ s h t w H (by omega) f2 f4 (by omega) (by omega) hN rfl⟩
  · obtain ⟨f1, f2⟩ := int_fine 34 h u neg HS (by omega) hd (by omega) (by omega) (by omega)
    obtain ⟨f3, f4⟩ := nat_bad t (by omega) ht
    exact bad (.inr ⟨fun w => (f1 w).mono fun _ _ h => anyI_of h, f3⟩) ⟨0, 4, fun w => (f2 w).mono fun _ _ h => anyI_of h, f4, worse_04⟩
  · obtain ⟨f1, f2⟩ := int_bad h u neg HS (by omega) hd
    obtain ⟨f3, f4⟩ := nat_fine 34 t (by omega) ht (by omega) (by omega)
    exact bad (.inl ⟨f1, 0, fun w => (f3 w).mono fun _ _ h => anyN_of h⟩) ⟨4, 0, f2, fun w => (f4 w).mono fun _ _ h => anyN_ofR h, worse_40⟩
  · obtain ⟨f1, f2⟩ := int_bad h u neg HS (by omega) hd
    obtain ⟨f3, f4⟩ := nat_bad t (by omega) ht
    exact bad (.inl ⟨f1, 4, f3⟩) ⟨4, 4, f2, f4, worse_44⟩

theorem both_point (s h t : ByteArray) (hs : s.size ≤ 200) (hno : (47 : UInt8) ∉ s.data.toList) (H : Split s 46 h t) : Both s := by
  obtain ⟨neg, u, HS⟩ := signed_any h
  have hu := signed_size HS
  have hz := H.size
  have bad : (((∀ w, Calls Tryz.prog 110 #[.string h] w (AnyI 4 w)) ∧ ∃ F, ∀ w, Calls Tryz.prog 155 #[.string t] w (AnyN F w)) ∨ ((∀ w, Calls Tryz.prog 110 #[.string h] w (AnyI 0 w)) ∧ ∀ w, Calls Tryz.prog 155 #[.string t] w (AnyN 4 w))) →
      (∃ E F : Int, (∀ w, Calls Tryz.prog 69 #[.string h] w (AnyI E w)) ∧ (∀ w, Calls Tryz.prog 70 #[.string t] w (AnyN F w)) ∧ ∀ w, Calls Tryz.prog 71 #[.int .i64 E, .int .i64 F] w fun e w' => e = .returned (.int .i64 4) ∧ w = w') → Both s := by
    rintro hb ⟨E, F, g1, g2, g3⟩
    exact .inr ⟨fun w => parse_point 4 _ s h t w hno H (by omega) (fun w => (decimal_err 4 h t w (by decide) (parts_bad h t hb)).mono fun _ _ h => ratRes_err h), fun w => rpoint_bad E F s h t w hno H (by omega) g1 g2 g3⟩
  by_cases hd : 0 < u.size ∧ allDig u <;> by_cases ht : 0 < t.size ∧ allDig t
  · obtain ⟨f1, f2⟩ := int_fine 34 h u neg HS (by omega) hd (by omega) (by omega) (by omega)
    obtain ⟨f3, f4⟩ := nat_fine 34 t (by omega) ht (by omega) (by omega)
    have h1 := digs_pow hd.2
    have h2 := digs_pow ht.2
    have hlt : numOf u.data.toList * 10 ^ t.size + numOf t.data.toList < 10 ^ (u.size + t.size) := by
      rw [Nat.pow_add]
      have : (numOf u.data.toList + 1) * 10 ^ t.size ≤ 10 ^ u.size * 10 ^ t.size := Nat.mul_le_mul_right _ h1
      rw [Nat.add_mul] at this
      omega
    have hp := pow_room (u.size + t.size) 34 (by omega) (by omega)
    exact .inl ⟨_, fun w => parseD_ok 34 _ s h t u neg w hno H HS hd.1 (by omega) hd.2 ht.1 (by omega) ht.2 (by omega) (by omega) (by omega) rfl,
      fun w => rpoint_ok 34 _ neg _ _ u s h t w hno H (by omega) f2 f4 (by omega) (by omega) HS hd.1 (by omega) (by apply limbs_len; exact Nat.lt_trans hlt hp) (by apply limbs_len; exact Nat.lt_of_le_of_lt (Nat.le_add_right _ _) (Nat.lt_trans hlt hp)) rfl⟩
  · obtain ⟨f1, f2⟩ := int_fine 34 h u neg HS (by omega) hd (by omega) (by omega) (by omega)
    obtain ⟨f3, f4⟩ := nat_bad t (by omega) ht
    exact bad (.inr ⟨fun w => (f1 w).mono fun _ _ h => anyI_of h, f3⟩) ⟨0, 4, fun w => (f2 w).mono fun _ _ h => anyI_of h, f4, worse_04⟩
  · obtain ⟨f1, f2⟩ := int_bad h u neg HS (by omega) hd
    obtain ⟨f3, f4⟩ := nat_fine 34 t (by omega) ht (by omega) (by omega)
    exact bad (.inl ⟨f1, 0, fun w => (f3 w).mono fun _ _ h => anyN_of h⟩) ⟨4, 0, f2, fun w => (f4 w).mono fun _ _ h => anyN_ofR h, worse_40⟩
  · obtain ⟨f1, f2⟩ := int_bad h u neg HS (by omega) hd
    obtain ⟨f3, f4⟩ := nat_bad t (by omega) ht
    exact bad (.inl ⟨f1, 4, f3⟩) ⟨4, 4, f2, f4, worse_44⟩

theorem both_any (s : ByteArray) (hs : s.size ≤ 200) : Both s := by
  rcases splits_any s 47 with h1 | ⟨h, t, H⟩
  · rcases splits_any s 46 with h2 | ⟨h, t, H⟩
    · exact both_int s hs h1 h2
    · exact both_point s h t hs h1 H
  · exact both_slash s h t hs H

theorem int64_len {Z : Int} (h0 : -9223372036854775808 ≤ Z) (h1 : Z < 9223372036854775808) : (limbs Z.natAbs).length ≤ 2 := by
  apply limbs_len
  have : (4294967296 : Nat) ^ 2 = 18446744073709551616 := by decide
  omega

end Go.Proofs.YtkcgikoploohkaaGreatDoor
/- RatioTexts: a text that is a number, a text that is none. -/
namespace Go.Proofs.YtkcgikoploohkaaGreatDoor
set_option linter.unusedVariables false
set_option linter.unusedSimpArgs false
set_option maxRecDepth 100000
open Go.RowKit Nums

end Go.Proofs.YtkcgikoploohkaaGreatDoor
/- RatioTexts holds: a number's text, a text's number, and an int64's number are the document's. No condition. -/
namespace Go.Proofs.YtkcgikoploohkaaGreatDoor
set_option linter.unusedVariables false
set_option linter.unusedSimpArgs false
set_option maxRecDepth 100000
open Go.ChangeShapes Go.WideShapes Go.ChangeAt Go.RowKit Nums Go.Joins

open Go.ChangeMaps (open_string shut_string)

end Go.Proofs.YtkcgikoploohkaaGreatDoor
