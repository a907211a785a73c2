/- What Of and Print of the document tell. -/
import Derived.Test.YtmoplgfmngohgaaGreatQH
import Derived.Test.YtmoplgfmngohgaaGreatQM
import Derived.Deep.RegionHeld3
import Derived.Deep.QuietTactic
import Derived.BigQuiet
import Derived.Test.YtmoplgfmngohgaaGreatQE
import Derived.Test.YtmoplgfmngohgaaGreatIG
import Derived.Test.YtmoplgfmngohgaaGreatQF
import Derived.Test.YtmoplgfmngohgaaGreatQG
import Derived.Deep.DeepCutAuto
import Derived.ProofKit
import Derived.OpenShut
import Derived.ShutString
import Derived.ChangeOld
import Derived.ChangeMaps5
namespace Go.Proofs.YtmoplgfmngohgaaGreat
set_option linter.unusedVariables false
set_option linter.unusedSimpArgs false
set_option maxRecDepth 100000
open Go.RowKit Nums

theorem field_run1 (s : Bool) (a b : Option Addr) (n c m d : Nat) (w : World) : Sem.run Tryz.prog (Instr.field 27 (Value.agg #[.bool s, .slice a n c, .slice b m d]) 1) w = Result.ok (Value.slice b m d) w := rfl

theorem bits_max (x y : Nat) : (bitsOf (max x y)).length = max (bitsOf x).length (bitsOf y).length := by
  rcases Nat.le_total x y with h | h
  · rw [Nat.max_eq_right h, Nat.max_eq_right (bits_mono h)]
  · rw [Nat.max_eq_left h, Nat.max_eq_left (bits_mono h)]

theorem ret_i64 {x y : Int} (h : x = y) : Ending.returned (.int .i64 x) = .returned (.int .i64 y) := by rw [h]

theorem below_drewN {B : Nat} {a w : World} (h : Below B a w) (n : Nat) : Below B a (w.drewN n) := ⟨h.os, h.tape, h.output, h.size, h.block⟩

theorem bitsQuiet (T : Nat) {a : Option Addr} {n c : Nat} {xs : List Nat} {w : World} (h0 : Row w a n c xs) (hn : n ≤ 100) (hT : (bitsOf (val xs)).length = T) :
    Calls Tryz.prog 64 #[.slice a n c] w fun e w' => e = .returned (.int .i64 (T : Int)) ∧ w' = w :=
  (bits_any a n c xs w h0 (by omega)).mono fun e w' ⟨he, hw⟩ => ⟨by rw [he, hT], hw.symm⟩

/-- how many bits a number has -/
def bitsQ (q : Rat) : Nat := max (bitsOf q.num.natAbs).length (bitsOf q.den).length

end Go.Proofs.YtmoplgfmngohgaaGreat
/- What the answer's Whole tells. -/
namespace Go.Proofs.YtmoplgfmngohgaaGreat
set_option linter.unusedVariables false
set_option linter.unusedSimpArgs false
set_option maxRecDepth 100000
open Go.RowKit Nums

set_option maxHeartbeats 4000000 in
theorem rwholeR_yes (K J : Nat) (q : Rat) {s : Bool} {a b : Option Addr} {n c m d : Nat} {xs ys : List Nat} {w : World} (h0 : Row w a n c xs) (h1 : Row w b m d ys) (hq : mkRat (sv s (val xs)) (val ys) = q) (hn : n ≤ K) (hm : m ≤ J) (hK : K ≤ 60) (hK2 : 2 ≤ K) (hJ2 : 2 ≤ J) (hJ : J ≤ 60) (hB : q.den = 1) :
    Calls Tryz.prog 58 #[.agg #[.bool s, .slice a n c, .slice b m d]] w fun e w' => e = .returned (.bool true) ∧ Below w.heap.size w w' := by
  have HB := Lib.hid (below_one w (.cells #[.bool s, .slice a n c, .slice b m d] 27))
  have X0 : Hid (Tri (w.alloc (.cells #[.bool s, .slice a n c, .slice b m d] 27)) (w.heap.size) (.bool s) (.slice a n c) (.slice b m d)) := (tri_new _ (.bool s) (.slice a n c) (.slice b m d))
  have R0 := Lib.hid (h0.later HB.out); clear h0
  have R1 := Lib.hid (h1.later HB.out); clear h1
  have HQ := Lib.hid hq; clear hq
  have HD := Lib.hid hB; clear hB
  go_enter Tryz.func58, Tryz.ntmps58
  go_wp2_with fail
  refine (rnormR K J q R0.out R1.out HQ.out hn hm hK hK2 hJ2 hJ).mono ?_
  rintro e w1 ⟨a1, n1, c1, b1, m1, d1, rfl, hn1, hm1, hr, hr2, hb⟩
  replace X0 := Lib.hid (X0.out.later hb)
  replace HB := Lib.hid (bthen HB.out hb)
  clear hb
  have RA := Lib.hid hr; clear hr
  have RB := Lib.hid hr2; clear hr2
  obtain ⟨kX00, kX01, kX02, -, -, -, -⟩ := X0.out
  go_wp2_with fail
  rw [field_run1]
  have hb1 := below_one w1 (.cells #[.int .u32 1] 62)
  have RL := Lib.hid (row_one_here w1)
  replace RB := Lib.hid (RB.out.later hb1)
  replace HB := Lib.hid (bthen HB.out hb1)
  clear hb1 kX00 kX01 kX02
  go_wp2_with fail
  refine (sameN RB.out RL.out (by rw [HD.out, limbs_1]) (by omega)).mono ?_
  rintro e w2 ⟨rfl, hb⟩
  replace HB := Lib.hid (bthen HB.out hb)
  clear hb
  go_wp2
  go_ret
  exact ⟨rfl, HB.out⟩

set_option maxHeartbeats 4000000 in
theorem rwholeR_no (K J : Nat) (q : Rat) {s : Bool} {a b : Option Addr} {n c m d : Nat} {xs ys : List Nat} {w : World} (h0 : Row w a n c xs) (h1 : Row w b m d ys) (hq : mkRat (sv s (val xs)) (val ys) = q) (hn : n ≤ K) (hm : m ≤ J) (hK : K ≤ 60) (hK2 : 2 ≤ K) (hJ2 : 2 ≤ J) (hJ : J ≤ 60) (hB : q.den ≠ 1) :
    Calls Tryz.prog 58 #[.agg #[.bool s, .slice a n c, .slice b m d]] w fun e w' => e = .returned (.bool false) ∧ Below w.heap.size w w' := by
  have HB := Lib.hid (below_one w (.cells #[.bool s, .slice a n c, .slice b m d] 27))
  have X0 : Hid (Tri (w.alloc (.cells #[.bool s, .slice a n c, .slice b m d] 27)) (w.heap.size) (.bool s) (.slice a n c) (.slice b m d)) := (tri_new _ (.bool s) (.slice a n c) (.slice b m d))
  have R0 := Lib.hid (h0.later HB.out); clear h0
  have R1 := Lib.hid (h1.later HB.out); clear h1
  have HQ := Lib.hid hq; clear hq
  have HD := Lib.hid hB; clear hB
  go_enter Tryz.func58, Tryz.ntmps58
  go_wp2_with fail
  refine (rnormR K J q R0.out R1.out HQ.out hn hm hK hK2 hJ2 hJ).mono ?_
  rintro e w1 ⟨a1, n1, c1, b1, m1, d1, rfl, hn1, hm1, hr, hr2, hb⟩
  replace X0 := Lib.hid (X0.out.later hb)
  replace HB := Lib.hid (bthen HB.out hb)
  clear hb
  have RA := Lib.hid hr; clear hr
  have RB := Lib.hid hr2; clear hr2
  obtain ⟨kX00, kX01, kX02, -, -, -, -⟩ := X0.out
  go_wp2_with fail
  rw [field_run1]
  have hb1 := below_one w1 (.cells #[.int .u32 1] 62)
  have RL := Lib.hid (row_one_here w1)
  replace RB := Lib.hid (RB.out.later hb1)
  replace HB := Lib.hid (bthen HB.out hb1)
  clear hb1 kX00 kX01 kX02
  go_wp2_with fail
  refine (same_not _ _ _ _ _ _ _ _ _ RB.out RL.out (by omega) (by omega) (by rw [← limbs_1]; intro h; exact HD.out (by have h2 := congrArg val h; rw [val_limbs, val_limbs] at h2; exact h2))).mono ?_
  rintro e w2 ⟨rfl, hb⟩
  replace HB := Lib.hid (bthen HB.out hb)
  clear hb
  go_wp2
  go_ret
  exact ⟨rfl, HB.out⟩

end Go.Proofs.YtmoplgfmngohgaaGreat
/- What the answer's find and worse tell, and Of. -/
namespace Go.Proofs.YtmoplgfmngohgaaGreat
set_option linter.unusedVariables false
set_option linter.unusedSimpArgs false
set_option maxRecDepth 100000
open Go.RowKit Nums

theorem byte_ne {s : ByteArray} {c : UInt8} {C : Int} {k n : Nat} (hC : (c.toNat : Int) = C) {l r : List UInt8} (hs : s.data.toList = l ++ r) (hl : l.length = n) (H : c ∉ l) (hk : k < n) (h : k < s.size) : ((s[k].toNat : Int) == C) = false := by
  rw [beq_eq_false_iff_ne]
  intro e
  apply H
  have e1 : s[k] = s.data.toList[k]'(by simpa using h) := by simp [ByteArray.getElem_eq_getElem_data]
  have e2 : s[k] = c := by apply UInt8.toNat_inj.1; omega
  have hk' : k < l.length := by omega
  have e3 : s.data.toList[k]'(by simpa using h) = l[k] := by
    have e4 : (l ++ r)[k]? = some l[k] := by rw [List.getElem?_append_left hk', List.getElem?_eq_getElem hk']
    rw [← hs] at e4
    exact (List.getElem?_eq_some_iff.1 e4).2
  rw [← e2, e1, e3]
  exact List.getElem_mem _

theorem byte_eq {s h t : ByteArray} {c : UInt8} {C : Int} (hC : (c.toNat : Int) = C) (H : Split s c h t) (hk : h.size < s.size) : ((s[h.size].toNat : Int) == C) = true := by
  have e1 : s[h.size] = s.data.toList[h.size]'(by simpa using hk) := by simp [ByteArray.getElem_eq_getElem_data]
  have e3 : s.data.toList[h.size]'(by simpa using hk) = c := by
    have e4 : (h.data.toList ++ c :: t.data.toList)[h.size]? = some c := by
      rw [List.getElem?_append_right (by rw [Lib.size_eq h]; exact Nat.le_refl _), Lib.size_eq h, Nat.sub_self]
      rfl
    rw [← H.1] at e4
    exact (List.getElem?_eq_some_iff.1 e4).2
  rw [e1, e3, hC]; simp

set_option maxHeartbeats 4000000 in
theorem rofR_neg (Z : Int) (w : World) (h0 : Z < 0) (h1 : -9223372036854775808 ≤ Z) :
    Calls Tryz.prog 31 #[.int .i64 Z] w (RatK 2 1 (Z : Rat) w) := by
  have HB := Lib.hid (below_one w (.cells #[.bool false, .slice none 0 0, .slice none 0 0] 27))
  have X0 := Lib.hid (tri_new w (.bool false) (.slice none 0 0) (.slice none 0 0))
  have HX : Hid (IntKind.u64.wrap (-IntKind.u64.wrap Z) = ((Z.natAbs : Nat) : Int)) := by show _ = _; rw [u64_neg h0 h1]
  have hlt : Z.natAbs < 18446744073709551616 := by omega
  have HS := Lib.hid (show decide (Z < 0) = true by exact decide_eq_true h0)
  
  obtain ⟨k1, k2, k3, k4, k5, k6, k7⟩ := X0.out
  go_enter Tryz.func31, Tryz.ntmps31
  go_wp2_with fail
  refine (qlimbs Z.natAbs _ _ (by first | exact HX.out | omega | (go_simp; exact HX.out)) hlt).mono ?_
  rintro e w1 ⟨a, n, rfl, hn, hr, hb⟩
  have RL := Lib.hid (row_lit w1 1 1 rfl (by omega) (by omega))
  have b1 := below_one w1 (.cells #[.int .u32 1] 62)
  replace HB := Lib.hid (bthen (bthen HB.out hb) b1)
  replace X0 := Lib.hid ((X0.out.later hb).later b1)
  have R0 := Lib.hid (hr.later b1); clear hr hb b1 k1 k2 k3 k4 k5 k6 k7
  obtain ⟨k1, k2, k3, k4, k5, k6, k7⟩ := X0.out
  go_wp2
  exact bodyPost_ret (v := .agg #[.bool true, .slice a n n, .slice (some ⟨w1.heap.size, 0, none⟩) 1 1]) (by simp [results, Tryz.results31, go_sem, *]) rfl
    ⟨a, n, n, _, 1, 1, by rw [Rat.num_intCast, HS.out], hn, Nat.le_refl _, by rw [Rat.num_intCast]; exact R0.out.put3 X0.out _ _ _, by rw [Rat.den_intCast]; exact RL.out.put3 X0.out _ _ _, below_put3 HB.out (by simp) _ _ _⟩

set_option maxHeartbeats 4000000 in
theorem rofR_pos (Z : Int) (w : World) (h0 : 0 ≤ Z) (h1 : Z < 9223372036854775808) :
    Calls Tryz.prog 31 #[.int .i64 Z] w (RatK 2 1 (Z : Rat) w) := by
  have HB := Lib.hid (below_one w (.cells #[.bool false, .slice none 0 0, .slice none 0 0] 27))
  have X0 := Lib.hid (tri_new w (.bool false) (.slice none 0 0) (.slice none 0 0))
  have HX : Hid (IntKind.u64.wrap Z = ((Z.natAbs : Nat) : Int)) := by show _ = _; rw [IntKind.wrap_u64]; omega
  have hlt : Z.natAbs < 18446744073709551616 := by omega
  have HS := Lib.hid (show decide (Z < 0) = false by exact decide_eq_false (by omega))
  have h2 : ¬ Z < 0 := by omega
  obtain ⟨k1, k2, k3, k4, k5, k6, k7⟩ := X0.out
  go_enter Tryz.func31, Tryz.ntmps31
  go_wp2_with fail
  refine (qlimbs Z.natAbs _ _ (by first | exact HX.out | omega | (go_simp; exact HX.out)) hlt).mono ?_
  rintro e w1 ⟨a, n, rfl, hn, hr, hb⟩
  have RL := Lib.hid (row_lit w1 1 1 rfl (by omega) (by omega))
  have b1 := below_one w1 (.cells #[.int .u32 1] 62)
  replace HB := Lib.hid (bthen (bthen HB.out hb) b1)
  replace X0 := Lib.hid ((X0.out.later hb).later b1)
  have R0 := Lib.hid (hr.later b1); clear hr hb b1 k1 k2 k3 k4 k5 k6 k7
  obtain ⟨k1, k2, k3, k4, k5, k6, k7⟩ := X0.out
  go_wp2
  exact bodyPost_ret (v := .agg #[.bool false, .slice a n n, .slice (some ⟨w1.heap.size, 0, none⟩) 1 1]) (by simp [results, Tryz.results31, go_sem, *]) rfl
    ⟨a, n, n, _, 1, 1, by rw [Rat.num_intCast, HS.out], hn, Nat.le_refl _, by rw [Rat.num_intCast]; exact R0.out.put3 X0.out _ _ _, by rw [Rat.den_intCast]; exact RL.out.put3 X0.out _ _ _, below_put3 HB.out (by simp) _ _ _⟩

theorem rofR (Z : Int) (w : World) (h0 : -9223372036854775808 ≤ Z) (h1 : Z < 9223372036854775808) : Calls Tryz.prog 31 #[.int .i64 Z] w (RatK 2 1 (Z : Rat) w) := by
  by_cases h : Z < 0
  · exact rofR_neg Z w h h0
  · exact rofR_pos Z w (by omega) h1

end Go.Proofs.YtmoplgfmngohgaaGreat
/- What the answer's Print tells. -/
namespace Go.Proofs.YtmoplgfmngohgaaGreat
set_option linter.unusedVariables false
set_option linter.unusedSimpArgs false
set_option maxRecDepth 100000
open Go.RowKit Nums

set_option maxHeartbeats 8000000 in
theorem rprintR_one (T : ByteArray) (q : Rat) {s : Bool} {a b : Option Addr} {n c m d : Nat} {xs ys : List Nat} {w : World} (h0 : Row w a n c xs) (h1 : Row w b m d ys) (hq : mkRat (sv s (val xs)) (val ys) = q) (hn : n ≤ 12) (hm : m ≤ 12) (hD : q.den = 1) (hT : ratStr q = T) :
    Calls Tryz.prog 34 #[.agg #[.bool s, .slice a n c, .slice b m d]] w fun e w' => e = .returned (.string T) ∧ Below w.heap.size w w' := by
  have HB := Lib.hid (below_one w (.cells #[.bool s, .slice a n c, .slice b m d] 27))
  have X0 : Hid (Tri (w.alloc (.cells #[.bool s, .slice a n c, .slice b m d] 27)) (w.heap.size) (.bool s) (.slice a n c) (.slice b m d)) := (tri_new _ (.bool s) (.slice a n c) (.slice b m d))
  have R0 := Lib.hid (h0.later HB.out); clear h0
  have R1 := Lib.hid (h1.later HB.out); clear h1
  have HQ := Lib.hid hq; clear hq
  have HD := Lib.hid hD
  go_enter Tryz.func34, Tryz.ntmps34
  go_wp2_with fail
  refine (rnormR 12 12 q R0.out R1.out HQ.out hn hm (by omega) (by omega) (by omega) (by omega)).mono ?_
  rintro e w1 ⟨ar, nr, cr, br, mr, dr, rfl, h2, h3, hr, hr2, hb⟩
  replace X0 := Lib.hid (X0.out.later hb)
  replace HB := Lib.hid (bthen HB.out hb)
  clear hb
  have RA := Lib.hid hr; clear hr
  have RB := Lib.hid hr2; clear hr2 R0 R1 HQ
  obtain ⟨kX00, kX01, kX02, kX03, kX04, kX05, kX06⟩ := X0.out
  have X0' := Lib.hid X0.out
  replace RA := Lib.hid (RA.out.put3 X0'.out (.bool (decide (q.num < 0))) (.slice ar nr cr) (.slice br mr dr))
  replace RB := Lib.hid (RB.out.put3 X0'.out (.bool (decide (q.num < 0))) (.slice ar nr cr) (.slice br mr dr))
  replace X0 := Lib.hid (X0.out.put (.bool (decide (q.num < 0))) (.slice ar nr cr) (.slice br mr dr))
  replace HB := Lib.hid (below_put3 (g := w.heap.size) HB.out (by omega) (.bool (decide (q.num < 0))) (.slice ar nr cr) (.slice br mr dr))
  clear X0'
  obtain ⟨U, hU⟩ : ∃ U, decI q.num = U := ⟨_, rfl⟩
  obtain ⟨V, hV⟩ : ∃ V, decStr q.den = V := ⟨_, rfl⟩
  have lU : U.size ≤ 117 := by rw [← hU]; exact decI_len (by rw [RA.out.1]; omega)
  have lV : V.size ≤ 116 := by rw [← hV]; exact dec_len (by rw [RB.out.1]; omega) (by omega)
  have LQ := Lib.hid (show (decStr q.num.natAbs).size ≤ 1000 from dec_len (by rw [RA.out.1]; omega) (by omega))
  have hTU : T = U := by rw [← hT, ← hU, ratStr, if_pos hD]
  subst hTU
  have HU := Lib.hid hU
  have HV := Lib.hid (show decStr (val (limbs q.den)) = V by rw [val_limbs]; exact hV)
  clear hU hV hT hD
  go_wp2_with fail
  refine (rwholeR_yes 12 12 q RA.out RB.out (rat_limbs q) h2 h3 (by omega) (by omega) (by omega) (by omega) HD.out).mono ?_
  rintro e w2 ⟨rfl, hb⟩
  replace RA := Lib.hid (RA.out.later hb)
  replace RB := Lib.hid (RB.out.later hb)
  replace X0 := Lib.hid (X0.out.later hb)
  replace HB := Lib.hid (bthen HB.out hb)
  clear hb
  clear kX00 kX01 kX02 kX03 kX04 kX05 kX06
  obtain ⟨kX00, kX01, kX02, -, -, -, -⟩ := X0.out
  go_wp2_with fail
  refine (rprintI T q.num _ _ _ _ _ _ RA.out h2 (sv_limbs _) HU.out LQ.out).mono ?_
  rintro e w3 ⟨rfl, hb⟩
  replace RA := Lib.hid (RA.out.later hb)
  replace RB := Lib.hid (RB.out.later hb)
  replace X0 := Lib.hid (X0.out.later hb)
  replace HB := Lib.hid (bthen HB.out hb)
  clear hb
  clear kX00 kX01 kX02
  obtain ⟨kX00, kX01, kX02, -, -, -, -⟩ := X0.out
  go_wp2
  go_ret
  exact ⟨rfl, HB.out⟩

set_option maxHeartbeats 8000000 in
theorem rprintR_two (T : ByteArray) (q : Rat) {s : Bool} {a b : Option Addr} {n c m d : Nat} {xs ys : List Nat} {w : World} (h0 : Row w a n c xs) (h1 : Row w b m d ys) (hq : mkRat (sv s (val xs)) (val ys) = q) (hn : n ≤ 12) (hm : m ≤ 12) (hD : q.den ≠ 1) (hT : ratStr q = T) :
    Calls Tryz.prog 34 #[.agg #[.bool s, .slice a n c, .slice b m d]] w fun e w' => e = .returned (.string T) ∧ Below w.heap.size w w' := by
  have HB := Lib.hid (below_one w (.cells #[.bool s, .slice a n c, .slice b m d] 27))
  have X0 : Hid (Tri (w.alloc (.cells #[.bool s, .slice a n c, .slice b m d] 27)) (w.heap.size) (.bool s) (.slice a n c) (.slice b m d)) := (tri_new _ (.bool s) (.slice a n c) (.slice b m d))
  have R0 := Lib.hid (h0.later HB.out); clear h0
  have R1 := Lib.hid (h1.later HB.out); clear h1
  have HQ := Lib.hid hq; clear hq
  have HD := Lib.hid hD
  go_enter Tryz.func34, Tryz.ntmps34
  go_wp2_with fail
  refine (rnormR 12 12 q R0.out R1.out HQ.out hn hm (by omega) (by omega) (by omega) (by omega)).mono ?_
  rintro e w1 ⟨ar, nr, cr, br, mr, dr, rfl, h2, h3, hr, hr2, hb⟩
  replace X0 := Lib.hid (X0.out.later hb)
  replace HB := Lib.hid (bthen HB.out hb)
  clear hb
  have RA := Lib.hid hr; clear hr
  have RB := Lib.hid hr2; clear hr2 R0 R1 HQ
  obtain ⟨kX00, kX01, kX02, kX03, kX04, kX05, kX06⟩ := X0.out
  have X0' := Lib.hid X0.out
  replace RA := Lib.hid (RA.out.put3 X0'.out (.bool (decide (q.num < 0))) (.slice ar nr cr) (.slice br mr dr))
  replace RB := Lib.hid (RB.out.put3 X0'.out (.bool (decide (q.num < 0))) (.slice ar nr cr) (.slice br mr dr))
  replace X0 := Lib.hid (X0.out.put (.bool (decide (q.num < 0))) (.slice ar nr cr) (.slice br mr dr))
  replace HB := Lib.hid (below_put3 (g := w.heap.size) HB.out (by omega) (.bool (decide (q.num < 0))) (.slice ar nr cr) (.slice br mr dr))
  clear X0'
  obtain ⟨U, hU⟩ : ∃ U, decI q.num = U := ⟨_, rfl⟩
  obtain ⟨V, hV⟩ : ∃ V, decStr q.den = V := ⟨_, rfl⟩
  have lU : U.size ≤ 117 := by rw [← hU]; exact decI_len (by rw [RA.out.1]; omega)
  have lV : V.size ≤ 116 := by rw [← hV]; exact dec_len (by rw [RB.out.1]; omega) (by omega)
  have LQ := Lib.hid (show (decStr q.num.natAbs).size ≤ 1000 from dec_len (by rw [RA.out.1]; omega) (by omega))
  have hTU : T = U ++ (⟨#[47]⟩ ++ V) := by rw [← hT, ← hU, ← hV, ratStr, if_neg hD]
  have HTU := Lib.hid hTU; clear hTU
  have s1 : U.size + 1 ≤ 9223372036854775807 := by omega
  have s2 : U.size + 1 + V.size ≤ 9223372036854775807 := by omega
  have s3 : U.size ≤ 9223372036854775807 := by omega
  have s4 : V.size ≤ 9223372036854775807 := by omega
  have s5 : ¬ 9223372036854775807 < U.size + 1 := by omega
  have s6 : ¬ 9223372036854775807 < U.size + 1 + V.size := by omega
  have HU := Lib.hid hU
  have HV := Lib.hid (show decStr (val (limbs q.den)) = V by rw [val_limbs]; exact hV)
  clear hU hV hT hD
  go_wp2_with fail
  refine (rwholeR_no 12 12 q RA.out RB.out (rat_limbs q) h2 h3 (by omega) (by omega) (by omega) (by omega) HD.out).mono ?_
  rintro e w2 ⟨rfl, hb⟩
  replace RA := Lib.hid (RA.out.later hb)
  replace RB := Lib.hid (RB.out.later hb)
  replace X0 := Lib.hid (X0.out.later hb)
  replace HB := Lib.hid (bthen HB.out hb)
  clear hb
  clear kX00 kX01 kX02 kX03 kX04 kX05 kX06
  obtain ⟨kX00, kX01, kX02, -, -, -, -⟩ := X0.out
  go_wp2_with fail
  clear kX00 kX01 kX02
  obtain ⟨W, hW⟩ : ∃ W, w2 = W := ⟨_, rfl⟩
  rw [hW] at RA RB X0 HB ⊢
  clear hW
  obtain ⟨kX00, kX01, kX02, -, -, -, -⟩ := X0.out
  replace X0 := Lib.hid X0.out.drew
  replace RA := Lib.hid RA.out.drew
  replace RB := Lib.hid RB.out.drew
  replace HB := Lib.hid HB.out.drew
  go_region_held3 (fun w' => w'.cell? ⟨w.heap.size, 0, none⟩ = some (.bool (decide (q.num < 0))) ∧ w'.cell? ⟨w.heap.size, 1, none⟩ = some (.slice ar nr cr) ∧ w'.cell? ⟨w.heap.size, 2, none⟩ = some (.slice br mr dr))
    (first | (refine ⟨?_, ?_, ?_⟩ <;> with_reducible assumption) | (go_keep; done))
    (first | (go_at_call 59; refine (rprintI U q.num _ _ _ _ _ _ RA.out h2 (sv_limbs _) HU.out LQ.out).mono ?_; rintro e v ⟨rfl, hb⟩; replace RA := Lib.hid (RA.out.later hb); replace RB := Lib.hid (RB.out.later hb); replace X0 := Lib.hid (X0.out.later hb); replace HB := Lib.hid (bthen HB.out hb); clear hb; clear kX00 kX01 kX02; obtain ⟨kX00, kX01, kX02, -, -, -, -⟩ := X0.out) | (go_at_call 60; refine (rprintN V RB.out h3 HV.out).mono ?_; rintro e v ⟨rfl, hb⟩; replace RA := Lib.hid (RA.out.later hb); replace RB := Lib.hid (RB.out.later hb); replace X0 := Lib.hid (X0.out.later hb); replace HB := Lib.hid (bthen HB.out hb); clear hb; clear kX00 kX01 kX02; obtain ⟨kX00, kX01, kX02, -, -, -, -⟩ := X0.out))
  all_goals
    go_wp2
    go_ret
    exact ⟨by rw [HTU.out, ← ByteArray.append_assoc]; rfl, HB.out⟩

theorem rprintR (T : ByteArray) (q : Rat) {s : Bool} {a b : Option Addr} {n c m d : Nat} {xs ys : List Nat} {w : World} (h0 : Row w a n c xs) (h1 : Row w b m d ys) (hq : mkRat (sv s (val xs)) (val ys) = q) (hn : n ≤ 12) (hm : m ≤ 12) (hT : ratStr q = T) :
    Calls Tryz.prog 34 #[.agg #[.bool s, .slice a n c, .slice b m d]] w fun e w' => e = .returned (.string T) ∧ Below w.heap.size w w' := by
  by_cases h : q.den = 1
  · exact rprintR_one T q h0 h1 hq hn hm h hT
  · exact rprintR_two T q h0 h1 hq hn hm h hT

end Go.Proofs.YtmoplgfmngohgaaGreat
/- What the answer's Parse tells: a quotient, an integer. -/
namespace Go.Proofs.YtmoplgfmngohgaaGreat
set_option linter.unusedVariables false
set_option linter.unusedSimpArgs false
set_option maxRecDepth 100000
open Go.RowKit Nums

/-- digits, as the answer tells them -/
def RNatK (k N : Nat) (w : World) (e : Ending) (w' : World) : Prop := ∃ a m c, e = .returned (.tuple #[.slice a m c, .int .i64 0]) ∧ m ≤ k ∧ Row w' a m c (limbs N) ∧ Below w.heap.size w w'

theorem first_byte {s h t u : ByteArray} {neg : Bool} (H : Split s 46 h t) (hs : Signed h neg u) (hu : 0 < u.size) (h0 : 0 < s.size) : ((s[0].toNat : Int) == 45) = neg := by
  have e1 : s[0] = s.data.toList[0]'(by simpa using h0) := by simp [ByteArray.getElem_eq_getElem_data]
  rcases hs with ⟨rfl, e⟩ | ⟨rfl, rfl, e⟩
  · have e2 : s.data.toList[0]'(by simpa using h0) = 45 := by simp only [H.1, e, List.cons_append, List.getElem_cons_zero]
    rw [e1, e2]; rfl
  · have hl : 0 < h.data.toList.length := by rw [← Lib.size_eq h]; exact hu
    have e2 : s.data.toList[0]'(by simpa using h0) = h.data.toList[0] := by
      simp only [H.1]; exact List.getElem_append_left hl
    rw [e1, e2, beq_eq_false_iff_ne]
    intro hh
    apply e
    rw [List.head?_eq_getElem?, List.getElem?_eq_getElem hl]
    congr 1
    apply UInt8.toNat_inj.1
    have : ((45 : UInt8).toNat : Int) = 45 := rfl
    omega

theorem pow_limbs (k T K : Nat) (hk : k ≤ T) (hT : T ≤ 6 * K) (hK : 0 < K) : (limbs (10 ^ k)).length ≤ K := by
  apply limbs_len
  exact Nat.lt_of_le_of_lt (Nat.pow_le_pow_right (by omega) hk) (pow_room T K hK hT)

end Go.Proofs.YtmoplgfmngohgaaGreat
/- What the answer's Parse tells: a decimal. -/
namespace Go.Proofs.YtmoplgfmngohgaaGreat
set_option linter.unusedVariables false
set_option linter.unusedSimpArgs false
set_option maxRecDepth 100000
open Go.RowKit Nums

end Go.Proofs.YtmoplgfmngohgaaGreat
/- What the answer's Parse tells: a decimal that is one. -/
namespace Go.Proofs.YtmoplgfmngohgaaGreat
set_option linter.unusedVariables false
set_option linter.unusedSimpArgs false
set_option maxRecDepth 100000
open Go.RowKit Nums

end Go.Proofs.YtmoplgfmngohgaaGreat
/- RatioTexts: where a number or a text is long; the two parsers tell the same. -/
namespace Go.Proofs.YtmoplgfmngohgaaGreat
set_option linter.unusedVariables false
set_option linter.unusedSimpArgs false
set_option maxRecDepth 100000
open Go.RowKit Nums

theorem anyI_of {k : Nat} {Z : Int} {w : World} {e : Ending} {w' : World} (h : ParseK k Z w e w') : AnyI 0 w e w' := by
  obtain ⟨a, m, c, rfl, -, -, hb⟩ := h
  exact ⟨_, a, m, c, rfl, hb⟩
theorem anyI_err {E : Int} {w : World} {e : Ending} {w' : World} (h : ParseErr E w e w') : AnyI E w e w' := ⟨_, _, _, _, h.1, h.2⟩
theorem anyN_of {k N : Nat} {w : World} {e : Ending} {w' : World} (h : ParseNK k N w e w') : AnyN 0 w e w' := by
  obtain ⟨a, m, rfl, -, -, hb⟩ := h
  exact ⟨a, m, m, rfl, hb⟩
theorem anyN_ofR {k N : Nat} {w : World} {e : Ending} {w' : World} (h : RNatK k N w e w') : AnyN 0 w e w' := by
  obtain ⟨a, m, c, rfl, -, -, hb⟩ := h
  exact ⟨a, m, c, rfl, hb⟩

theorem signed_size {s u : ByteArray} {neg : Bool} (h : Signed s neg u) : u.size ≤ s.size := by
  rcases h with ⟨-, e⟩ | ⟨-, e, -⟩
  · have := congrArg List.length e
    rw [List.length_cons, ← Lib.size_eq s, ← Lib.size_eq u] at this
    omega
  · subst e; exact Nat.le_refl _

theorem int64_len {Z : Int} (h0 : -9223372036854775808 ≤ Z) (h1 : Z < 9223372036854775808) : (limbs Z.natAbs).length ≤ 2 := by
  apply limbs_len
  have : (4294967296 : Nat) ^ 2 = 18446744073709551616 := by decide
  omega

end Go.Proofs.YtmoplgfmngohgaaGreat
