/- RatioBack holds: what is printed is parsed, and a number lies between its greatest integer below, and the next one. No condition. -/
import Derived.Test.YtnnoicjnggoffaaGreatQG
import Derived.Test.YtnnoicjnggoffaaGreatQD
import Derived.Deep.RegionHeld3
import Derived.ProofKit
import Derived.OpenShut
import Derived.ShutString
import Derived.ChangeOld
namespace Go.Proofs.YtnnoicjnggoffaaGreat
set_option linter.unusedVariables false
set_option linter.unusedSimpArgs false
set_option maxRecDepth 100000
open Go.RowKit Nums

theorem ofRq (k : Nat) (Z : Int) (q : Rat) (w : World) (h0 : -9223372036854775808 ≤ Z) (h1 : Z < 9223372036854775808) (hk : (limbs Z.natAbs).length ≤ k) (hq : (Z : Rat) = q) :
    Calls Tryz.prog 42 #[.int .i64 Z] w (RatK k 1 q w) := by subst hq; exact ofR k Z w h0 h1 hk

theorem raw_len {w : World} {s : Bool} {a b : Option Addr} {n c m d : Nat} {xs ys : List Nat} (h0 : Row w a n c xs) (h1 : Row w b m d ys) (hn : n ≤ 4) (hm : m ≤ 4) : (limbs (mkRat (sv s (val xs)) (val ys)).num.natAbs).length ≤ 12 ∧ (limbs (mkRat (sv s (val xs)) (val ys)).den).length ≤ 12 := by
  rcases Nat.eq_zero_or_pos (val ys) with h | h
  · rw [h, Rat.mkRat_zero]
    refine ⟨?_, ?_⟩
    · show (limbs 0).length ≤ 12; rw [limbs_zero]; simp
    · exact limbs_small 1 12 (by omega) (by omega)
  · obtain ⟨-, -, -, -, -, f6, f7⟩ := norm_facts h (rfl : mkRat (sv s (val xs)) (val ys) = _)
    exact ⟨Nat.le_trans (len_le f6 (lenZ_raw h0 hn rfl)) (by omega), Nat.le_trans (len_le f7 (row_len' h1 hm)) (by omega)⟩

set_option maxHeartbeats 4000000 in
theorem ratioBack_outn (s : Bool) (a b : Option Addr) (n c m d : Nat) (w : World) (hbad : 4 < n) :
    Calls Tryz.prog 9 #[.agg #[.bool s, .slice a n c, .slice b m d]] w fun e w' => e = .returned (.bool true) ∧ Below w.heap.size w w' := by
  have HB := Lib.hid (below_two w (.cells #[.bool s, .slice a n c, .slice b m d] 26) (.cells #[.bool s, .slice a n c, .slice b m d] 26))
  have ka := cell_new (w.alloc (.cells #[.bool s, .slice a n c, .slice b m d] 26)) #[.bool s, .slice a n c, .slice b m d] 26 1
  have kb := cell_new (w.alloc (.cells #[.bool s, .slice a n c, .slice b m d] 26)) #[.bool s, .slice a n c, .slice b m d] 26 2
  rw [show (w.alloc (.cells #[.bool s, .slice a n c, .slice b m d] 26)).heap.size = w.heap.size + 1 from by simp] at ka kb
  go_enter Tryz.func9, Tryz.ntmps9
  go_wp2_with fail
  refine (few1_no0n (w.heap.size + 1) a b n c m d _ ka kb hbad).mono ?_
  rintro e w' ⟨rfl, rfl⟩
  go_wp2
  go_ret
  exact ⟨rfl, HB.out⟩

set_option maxHeartbeats 4000000 in
theorem ratioBack_outm (s : Bool) (a b : Option Addr) (n c m d : Nat) (w : World) (hn : n ≤ 4) (hbad : 4 < m) :
    Calls Tryz.prog 9 #[.agg #[.bool s, .slice a n c, .slice b m d]] w fun e w' => e = .returned (.bool true) ∧ Below w.heap.size w w' := by
  have HB := Lib.hid (below_two w (.cells #[.bool s, .slice a n c, .slice b m d] 26) (.cells #[.bool s, .slice a n c, .slice b m d] 26))
  have ka := cell_new (w.alloc (.cells #[.bool s, .slice a n c, .slice b m d] 26)) #[.bool s, .slice a n c, .slice b m d] 26 1
  have kb := cell_new (w.alloc (.cells #[.bool s, .slice a n c, .slice b m d] 26)) #[.bool s, .slice a n c, .slice b m d] 26 2
  rw [show (w.alloc (.cells #[.bool s, .slice a n c, .slice b m d] 26)).heap.size = w.heap.size + 1 from by simp] at ka kb
  go_enter Tryz.func9, Tryz.ntmps9
  go_wp2_with fail
  refine (few1_no0m (w.heap.size + 1) a b n c m d _ ka kb hn hbad).mono ?_
  rintro e w' ⟨rfl, rfl⟩
  go_wp2
  go_ret
  exact ⟨rfl, HB.out⟩

set_option maxHeartbeats 16000000 in
theorem ratioBack_whole (q : Rat) {s : Bool} {a b : Option Addr} {n c m d : Nat} {xs ys : List Nat} {w : World} (h0 : Row w a n c xs) (h1 : Row w b m d ys) (hq : mkRat (sv s (val xs)) (val ys) = q) (hn : n ≤ 4) (hm : m ≤ 4) (hD : q.den = 1) :
    Calls Tryz.prog 9 #[.agg #[.bool s, .slice a n c, .slice b m d]] w fun e w' => e = .returned (.bool true) ∧ Below w.heap.size w w' := by
  have LQ : (limbs q.num.natAbs).length ≤ 12 ∧ (limbs q.den).length ≤ 12 := by
    rw [← hq]
    exact raw_len h0 h1 hn hm
  have CB := Lib.hid (fun w => backR q LQ.1 LQ.2 w)
  clear LQ
  have HB := Lib.hid (below_two w (.cells #[.bool s, .slice a n c, .slice b m d] 26) (.cells #[.bool s, .slice a n c, .slice b m d] 26))
  have X0 : Hid (Tri ((w.alloc (.cells #[.bool s, .slice a n c, .slice b m d] 26)).alloc (.cells #[.bool s, .slice a n c, .slice b m d] 26)) w.heap.size (.bool s) (.slice a n c) (.slice b m d)) := (tri_new w (.bool s) (.slice a n c) (.slice b m d)).alloc _
  have ka := cell_new (w.alloc (.cells #[.bool s, .slice a n c, .slice b m d] 26)) #[.bool s, .slice a n c, .slice b m d] 26 1
  have kb := cell_new (w.alloc (.cells #[.bool s, .slice a n c, .slice b m d] 26)) #[.bool s, .slice a n c, .slice b m d] 26 2
  rw [show (w.alloc (.cells #[.bool s, .slice a n c, .slice b m d] 26)).heap.size = w.heap.size + 1 from by simp] at ka kb
  have R0 := Lib.hid (h0.later HB.out); clear h0
  have R1 := Lib.hid (h1.later HB.out); clear h1
  have HQ := Lib.hid hq; clear hq
  obtain ⟨T, hT⟩ : ∃ T, ratStr q = T := ⟨_, rfl⟩
  rw [hT] at CB
  have HT := Lib.hid hT; clear hT
  obtain ⟨F, hF⟩ : ∃ F, q.floor = F := ⟨_, rfl⟩
  have hc1 : cmpR ((F : Int) : Rat) q = 0 := by rw [← hF]; exact cmpR_eq (floor_eq hD)
  have hc2 : cmpR q (((F : Int) : Rat) + ((1 : Int) : Rat)) = (-1) := by rw [← hF, ← Rat.intCast_add]; exact cmpR_lt (Rat.lt_floor_add_one q)
  have C1 := Lib.hid hc1; clear hc1
  have C2 := Lib.hid hc2; clear hc2
  have HF := Lib.hid hF; clear hF
  have HD := Lib.hid hD; clear hD
  obtain ⟨f, hf⟩ : ∃ f : Rat, ((F : Int) : Rat) = f := ⟨_, rfl⟩
  obtain ⟨o, ho⟩ : ∃ o : Rat, ((1 : Int) : Rat) = o := ⟨_, rfl⟩
  obtain ⟨fo, hfo⟩ : ∃ fo : Rat, f + o = fo := ⟨_, rfl⟩
  rw [hf] at C1 C2
  rw [ho, hfo] at C2
  have HFf := Lib.hid (show mkRat (sv (decide (F < 0)) (val (limbs F.natAbs))) (val (limbs 1)) = f by rw [one_raw]; exact hf)
  have HFO := Lib.hid hfo; clear hfo
  have HO := Lib.hid ho; clear ho hf
  go_enter Tryz.func9, Tryz.ntmps9
  go_wp2_with fail
  refine (few1_yes (w.heap.size + 1) a b n c m d _ ka kb hn hm).mono ?_
  rintro e w0 ⟨rfl, rfl⟩
  clear ka kb
  obtain ⟨kX00, kX01, kX02, -, -, -, -⟩ := X0.out
  go_wp2_with fail
  refine (printR T q R0.out R1.out HQ.out (by omega) (by omega) HT.out).mono ?_
  rintro e w1 ⟨rfl, hb⟩
  replace R0 := Lib.hid (R0.out.later hb)
  replace R1 := Lib.hid (R1.out.later hb)
  replace X0 := Lib.hid (X0.out.later hb)
  replace HB := Lib.hid (bthen HB.out hb)
  clear hb
  clear kX00 kX01 kX02
  obtain ⟨kX00, kX01, kX02, -, -, -, -⟩ := X0.out
  go_wp2_with fail
  refine (CB.out _).mono ?_
  rintro e w2 ⟨sp, ap, np, cp, bp, mp, dp, xp, yp, rfl, hp, hr1, hr2, hb⟩
  replace R0 := Lib.hid (R0.out.later hb)
  replace R1 := Lib.hid (R1.out.later hb)
  replace X0 := Lib.hid (X0.out.later hb)
  replace HB := Lib.hid (bthen HB.out hb)
  clear hb
  clear kX00 kX01 kX02
  obtain ⟨rfl, hnp, hmp, rfl, rfl⟩ := hp
  have hb1 := below_one w2 (.cells #[.bool (decide (q.num < 0)), .slice ap np cp, .slice bp mp dp] 26)
  have XP : Hid (Tri _ w2.heap.size (.bool (decide (q.num < 0))) (.slice ap np cp) (.slice bp mp dp)) := tri_new w2 (.bool (decide (q.num < 0))) (.slice ap np cp) (.slice bp mp dp)
  have RP1 := Lib.hid (hr1.later hb1)
  have RP2 := Lib.hid (hr2.later hb1)
  clear hr1 hr2
  replace R0 := Lib.hid (R0.out.later hb1)
  replace R1 := Lib.hid (R1.out.later hb1)
  replace X0 := Lib.hid (X0.out.later hb1)
  replace HB := Lib.hid (bthen HB.out hb1)
  clear hb1
  obtain ⟨kX00, kX01, kX02, -, -, -, -⟩ := X0.out
  go_wp2_with fail
  refine (floorR 4 q R0.out R1.out HQ.out hn (by omega) (by omega) (by omega)).mono ?_
  rintro e w3 ⟨af, nf, cf, rfl, hnf, hr, hb⟩
  replace R0 := Lib.hid (R0.out.later hb)
  replace R1 := Lib.hid (R1.out.later hb)
  replace RP1 := Lib.hid (RP1.out.later hb)
  replace RP2 := Lib.hid (RP2.out.later hb)
  replace X0 := Lib.hid (X0.out.later hb)
  replace XP := Lib.hid (XP.out.later hb)
  replace HB := Lib.hid (bthen HB.out hb)
  clear hb
  clear kX00 kX01 kX02
  rw [HF.out] at hr ⊢
  have hb1 := below_one w3 (.cells #[.int .u32 1] 49)
  have hb2 := below_one (w3.alloc (.cells #[.int .u32 1] 49)) (.cells #[.bool (decide (F < 0)), .slice af nf cf, .slice (some ⟨w3.heap.size, 0, none⟩) 1 1] 26)
  have RF := Lib.hid ((hr.later hb1).later hb2); clear hr
  have RL := Lib.hid ((row_lit w3 1 1 rfl (by omega) (by omega)).later hb2)
  have XF : Hid (Tri ((w3.alloc (.cells #[.int .u32 1] 49)).alloc (.cells #[.bool (decide (F < 0)), .slice af nf cf, .slice (some ⟨w3.heap.size, 0, none⟩) 1 1] 26)) (w3.heap.size + 1) (.bool (decide (F < 0))) (.slice af nf cf) (.slice (some ⟨w3.heap.size, 0, none⟩) 1 1)) := tri_newE (by simp)
  replace R0 := Lib.hid (R0.out.later hb1)
  replace R1 := Lib.hid (R1.out.later hb1)
  replace RP1 := Lib.hid (RP1.out.later hb1)
  replace RP2 := Lib.hid (RP2.out.later hb1)
  replace X0 := Lib.hid (X0.out.later hb1)
  replace XP := Lib.hid (XP.out.later hb1)
  replace HB := Lib.hid (bthen HB.out hb1)
  replace R0 := Lib.hid (R0.out.later hb2)
  replace R1 := Lib.hid (R1.out.later hb2)
  replace RP1 := Lib.hid (RP1.out.later hb2)
  replace RP2 := Lib.hid (RP2.out.later hb2)
  replace X0 := Lib.hid (X0.out.later hb2)
  replace XP := Lib.hid (XP.out.later hb2)
  replace HB := Lib.hid (bthen HB.out hb2)
  clear hb1 hb2
  go_wp2_with fail
  replace R0 := Lib.hid R0.out.drew
  replace R1 := Lib.hid R1.out.drew
  replace RP1 := Lib.hid RP1.out.drew
  replace RP2 := Lib.hid RP2.out.drew
  replace RF := Lib.hid RF.out.drew
  replace RL := Lib.hid RL.out.drew
  replace X0 := Lib.hid X0.out.drew
  replace XP := Lib.hid XP.out.drew
  replace XF := Lib.hid XF.out.drew
  replace HB := Lib.hid HB.out.drew
  obtain ⟨kX00, kX01, kX02, -, -, -, -⟩ := X0.out
  obtain ⟨kXP0, kXP1, kXP2, -, -, -, -⟩ := XP.out
  obtain ⟨kXF0, kXF1, kXF2, -, -, -, -⟩ := XF.out
  go_region_held3 (fun w' => w'.cell? ⟨w.heap.size, 0, none⟩ = some (.bool s) ∧ w'.cell? ⟨w.heap.size, 1, none⟩ = some (.slice a n c) ∧ w'.cell? ⟨w.heap.size, 2, none⟩ = some (.slice b m d) ∧ w'.cell? ⟨w2.heap.size, 0, none⟩ = some (.bool (decide (q.num < 0))) ∧ w'.cell? ⟨w2.heap.size, 1, none⟩ = some (.slice ap np cp) ∧ w'.cell? ⟨w2.heap.size, 2, none⟩ = some (.slice bp mp dp) ∧ w'.cell? ⟨w3.heap.size + 1, 0, none⟩ = some (.bool (decide (F < 0))) ∧ w'.cell? ⟨w3.heap.size + 1, 1, none⟩ = some (.slice af nf cf) ∧ w'.cell? ⟨w3.heap.size + 1, 2, none⟩ = some (.slice (some ⟨w3.heap.size, 0, none⟩) 1 1))
    (first | (refine ⟨?_, ?_, ?_, ?_, ?_, ?_, ?_, ?_, ?_⟩ <;> with_reducible assumption) | (go_keep; done) | (refine ⟨?_, ?_, ?_, ?_, ?_, ?_, ?_, ?_, ?_⟩ <;> (repeat rw [cell_other (by first | (simp; done) | (simp; omega))]) <;> with_reducible assumption))
    (first
      | (have mk := G8; clear mk
         rw [if_pos (by rfl)]
         go_simp
         go_at_call 26
         refine (awakeR _).mono ?_
         rintro e v9 ⟨rfl, hb⟩
         replace R0 := Lib.hid (R0.out.later hb)
         replace R1 := Lib.hid (R1.out.later hb)
         replace RF := Lib.hid (RF.out.later hb)
         replace RL := Lib.hid (RL.out.later hb)
         replace X0 := Lib.hid (X0.out.later hb)
         replace XP := Lib.hid (XP.out.later hb)
         replace XF := Lib.hid (XF.out.later hb)
         replace HB := Lib.hid (bthen HB.out hb); clear hb
         clear kX00 kX01 kX02 kXP0 kXP1 kXP2 kXF0 kXF1 kXF2
         obtain ⟨kX00, kX01, kX02, -, -, -, -⟩ := X0.out
         obtain ⟨kXP0, kXP1, kXP2, -, -, -, -⟩ := XP.out
         obtain ⟨kXF0, kXF1, kXF2, -, -, -, -⟩ := XF.out
         have G9 : Hid True := trivial
         try go_wp2_with fail)
      | (have mk := G7; clear mk
         rw [if_pos (by rfl)]
         go_simp
         go_at_call 36
         refine (wholeR_yes q R0.out R1.out HQ.out (by omega) (by omega) HD.out).mono ?_
         rintro e v8 ⟨rfl, hb⟩
         replace R0 := Lib.hid (R0.out.later hb)
         replace R1 := Lib.hid (R1.out.later hb)
         replace RF := Lib.hid (RF.out.later hb)
         replace RL := Lib.hid (RL.out.later hb)
         replace X0 := Lib.hid (X0.out.later hb)
         replace XP := Lib.hid (XP.out.later hb)
         replace XF := Lib.hid (XF.out.later hb)
         replace HB := Lib.hid (bthen HB.out hb); clear hb
         clear kX00 kX01 kX02 kXP0 kXP1 kXP2 kXF0 kXF1 kXF2
         obtain ⟨kX00, kX01, kX02, -, -, -, -⟩ := X0.out
         obtain ⟨kXP0, kXP1, kXP2, -, -, -, -⟩ := XP.out
         obtain ⟨kXF0, kXF1, kXF2, -, -, -, -⟩ := XF.out
         have G8 : Hid True := trivial
         try go_wp2_with fail)
      | (have mk := G6; clear mk
         rw [if_pos (by rfl)]
         go_simp
         go_at_call 24
         refine (cmpRat 0 f q RF.out RL.out R0.out R1.out HFf.out HQ.out (by omega) (by omega) (by omega) (by omega) C1.out).mono ?_
         rintro e v7 ⟨rfl, hb⟩
         replace R0 := Lib.hid (R0.out.later hb)
         replace R1 := Lib.hid (R1.out.later hb)
         replace RF := Lib.hid (RF.out.later hb)
         replace RL := Lib.hid (RL.out.later hb)
         replace X0 := Lib.hid (X0.out.later hb)
         replace XP := Lib.hid (XP.out.later hb)
         replace XF := Lib.hid (XF.out.later hb)
         replace HB := Lib.hid (bthen HB.out hb); clear hb
         clear kX00 kX01 kX02 kXP0 kXP1 kXP2 kXF0 kXF1 kXF2
         obtain ⟨kX00, kX01, kX02, -, -, -, -⟩ := X0.out
         obtain ⟨kXP0, kXP1, kXP2, -, -, -, -⟩ := XP.out
         obtain ⟨kXF0, kXF1, kXF2, -, -, -, -⟩ := XF.out
         have G7 : Hid True := trivial
         try go_wp2_with fail)
      | (have mk := G5; clear mk
         rw [if_pos (by rfl)]
         go_simp
         go_at_call 24
         refine (cmpRat (-1) q fo R0.out R1.out RS1.out RS2.out HQ.out (rat_limbs _) (by omega) (by omega) (by omega) (by omega) C2.out).mono ?_
         rintro e v6 ⟨rfl, hb⟩
         clear RS1
         clear RS2
         replace R0 := Lib.hid (R0.out.later hb)
         replace R1 := Lib.hid (R1.out.later hb)
         replace RF := Lib.hid (RF.out.later hb)
         replace RL := Lib.hid (RL.out.later hb)
         replace X0 := Lib.hid (X0.out.later hb)
         replace XP := Lib.hid (XP.out.later hb)
         replace XF := Lib.hid (XF.out.later hb)
         replace HB := Lib.hid (bthen HB.out hb); clear hb
         clear kX00 kX01 kX02 kXP0 kXP1 kXP2 kXF0 kXF1 kXF2
         obtain ⟨kX00, kX01, kX02, -, -, -, -⟩ := X0.out
         obtain ⟨kXP0, kXP1, kXP2, -, -, -, -⟩ := XP.out
         obtain ⟨kXF0, kXF1, kXF2, -, -, -, -⟩ := XF.out
         have G6 : Hid True := trivial
         try go_wp2_with fail)
      | (have mk := G4; clear mk
         rw [if_pos (by rfl)]
         go_simp
         go_at_call 16
         refine (addR 5 1 1 1 10 10 fo f o RF.out RL.out RO1.out RO2.out HFf.out (rat_limbs o) hnf (by omega) hno hmo (by omega) (by omega) (by omega) (by omega) (by omega) (by omega) (by omega) (by omega) (by omega) (by omega) (by omega) HFO.out).mono ?_
         rintro e v5 ⟨as1, ns, cs, bs, ms, ds, rfl, hns, hms, hr, hr2, hb⟩
         clear RO1
         clear RO2
         replace R0 := Lib.hid (R0.out.later hb)
         replace R1 := Lib.hid (R1.out.later hb)
         replace RF := Lib.hid (RF.out.later hb)
         replace RL := Lib.hid (RL.out.later hb)
         replace X0 := Lib.hid (X0.out.later hb)
         replace XP := Lib.hid (XP.out.later hb)
         replace XF := Lib.hid (XF.out.later hb)
         replace HB := Lib.hid (bthen HB.out hb); clear hb
         clear kX00 kX01 kX02 kXP0 kXP1 kXP2 kXF0 kXF1 kXF2
         obtain ⟨kX00, kX01, kX02, -, -, -, -⟩ := X0.out
         obtain ⟨kXP0, kXP1, kXP2, -, -, -, -⟩ := XP.out
         obtain ⟨kXF0, kXF1, kXF2, -, -, -, -⟩ := XF.out
         have RS1 := Lib.hid hr; clear hr
         have RS2 := Lib.hid hr2; clear hr2
         have G5 : Hid True := trivial
         try go_wp2_with fail)
      | (have mk := G3; clear mk
         rw [if_pos (by rfl)]
         go_simp
         go_at_call 42
         refine (ofRq 1 1 o _ (by omega) (by omega) (limbs_small 1 1 (by omega) (by omega)) HO.out).mono ?_
         rintro e v4 ⟨ao, no, co, bo, mo, do', rfl, hno, hmo, hr, hr2, hb⟩
         replace R0 := Lib.hid (R0.out.later hb)
         replace R1 := Lib.hid (R1.out.later hb)
         replace RF := Lib.hid (RF.out.later hb)
         replace RL := Lib.hid (RL.out.later hb)
         replace X0 := Lib.hid (X0.out.later hb)
         replace XP := Lib.hid (XP.out.later hb)
         replace XF := Lib.hid (XF.out.later hb)
         replace HB := Lib.hid (bthen HB.out hb); clear hb
         clear kX00 kX01 kX02 kXP0 kXP1 kXP2 kXF0 kXF1 kXF2
         obtain ⟨kX00, kX01, kX02, -, -, -, -⟩ := X0.out
         obtain ⟨kXP0, kXP1, kXP2, -, -, -, -⟩ := XP.out
         obtain ⟨kXF0, kXF1, kXF2, -, -, -, -⟩ := XF.out
         have RO1 := Lib.hid hr; clear hr
         have RO2 := Lib.hid hr2; clear hr2
         have G4 : Hid True := trivial
         try go_wp2_with fail)
      | (have mk := G2; clear mk
         rw [if_pos (by rfl)]
         go_simp
         go_at_call 24
         refine (cmpRat 0 f q RF.out RL.out R0.out R1.out HFf.out HQ.out (by omega) (by omega) (by omega) (by omega) C1.out).mono ?_
         rintro e v3 ⟨rfl, hb⟩
         replace R0 := Lib.hid (R0.out.later hb)
         replace R1 := Lib.hid (R1.out.later hb)
         replace RF := Lib.hid (RF.out.later hb)
         replace RL := Lib.hid (RL.out.later hb)
         replace X0 := Lib.hid (X0.out.later hb)
         replace XP := Lib.hid (XP.out.later hb)
         replace XF := Lib.hid (XF.out.later hb)
         replace HB := Lib.hid (bthen HB.out hb); clear hb
         clear kX00 kX01 kX02 kXP0 kXP1 kXP2 kXF0 kXF1 kXF2
         obtain ⟨kX00, kX01, kX02, -, -, -, -⟩ := X0.out
         obtain ⟨kXP0, kXP1, kXP2, -, -, -, -⟩ := XP.out
         obtain ⟨kXF0, kXF1, kXF2, -, -, -, -⟩ := XF.out
         have G3 : Hid True := trivial
         try go_wp2_with fail)
      | (have mk := G1; clear mk
         rw [if_pos (by rfl)]
         go_simp
         go_at_call 13
         refine (sameT RP1.out RP2.out RA.out RB.out rfl (by omega) (by omega) (by omega) (by omega)).mono ?_
         rintro e v2 ⟨rfl, hb⟩
         clear RA
         clear RB
         clear RP1
         clear RP2
         replace R0 := Lib.hid (R0.out.later hb)
         replace R1 := Lib.hid (R1.out.later hb)
         replace RF := Lib.hid (RF.out.later hb)
         replace RL := Lib.hid (RL.out.later hb)
         replace X0 := Lib.hid (X0.out.later hb)
         replace XP := Lib.hid (XP.out.later hb)
         replace XF := Lib.hid (XF.out.later hb)
         replace HB := Lib.hid (bthen HB.out hb); clear hb
         clear kX00 kX01 kX02 kXP0 kXP1 kXP2 kXF0 kXF1 kXF2
         obtain ⟨kX00, kX01, kX02, -, -, -, -⟩ := X0.out
         obtain ⟨kXP0, kXP1, kXP2, -, -, -, -⟩ := XP.out
         obtain ⟨kXF0, kXF1, kXF2, -, -, -, -⟩ := XF.out
         have G2 : Hid True := trivial
         try go_wp2_with fail)
      | (skip
         rw [if_pos (by rfl)]
         go_simp
         go_at_call 14
         refine (normR 4 4 q R0.out R1.out HQ.out hn hm (by omega) (by omega) (by omega)).mono ?_
         rintro e v1 ⟨an, nn, cn, bn, mn, dn, rfl, hnn, hmn, hr, hr2, hb⟩
         replace R0 := Lib.hid (R0.out.later hb)
         replace R1 := Lib.hid (R1.out.later hb)
         replace RP1 := Lib.hid (RP1.out.later hb)
         replace RP2 := Lib.hid (RP2.out.later hb)
         replace RF := Lib.hid (RF.out.later hb)
         replace RL := Lib.hid (RL.out.later hb)
         replace X0 := Lib.hid (X0.out.later hb)
         replace XP := Lib.hid (XP.out.later hb)
         replace XF := Lib.hid (XF.out.later hb)
         replace HB := Lib.hid (bthen HB.out hb); clear hb
         clear kX00 kX01 kX02 kXP0 kXP1 kXP2 kXF0 kXF1 kXF2
         obtain ⟨kX00, kX01, kX02, -, -, -, -⟩ := X0.out
         obtain ⟨kXP0, kXP1, kXP2, -, -, -, -⟩ := XP.out
         obtain ⟨kXF0, kXF1, kXF2, -, -, -, -⟩ := XF.out
         have RA := Lib.hid hr; clear hr
         have RB := Lib.hid hr2; clear hr2
         have G1 : Hid True := trivial
         try go_wp2_with fail))
  go_wp2
  go_ret
  exact ⟨rfl, HB.out⟩

set_option maxHeartbeats 16000000 in
theorem ratioBack_part (q : Rat) {s : Bool} {a b : Option Addr} {n c m d : Nat} {xs ys : List Nat} {w : World} (h0 : Row w a n c xs) (h1 : Row w b m d ys) (hq : mkRat (sv s (val xs)) (val ys) = q) (hn : n ≤ 4) (hm : m ≤ 4) (hD : q.den ≠ 1) :
    Calls Tryz.prog 9 #[.agg #[.bool s, .slice a n c, .slice b m d]] w fun e w' => e = .returned (.bool true) ∧ Below w.heap.size w w' := by
  have LQ : (limbs q.num.natAbs).length ≤ 12 ∧ (limbs q.den).length ≤ 12 := by
    rw [← hq]
    exact raw_len h0 h1 hn hm
  have CB := Lib.hid (fun w => backR q LQ.1 LQ.2 w)
  clear LQ
  have HB := Lib.hid (below_two w (.cells #[.bool s, .slice a n c, .slice b m d] 26) (.cells #[.bool s, .slice a n c, .slice b m d] 26))
  have X0 : Hid (Tri ((w.alloc (.cells #[.bool s, .slice a n c, .slice b m d] 26)).alloc (.cells #[.bool s, .slice a n c, .slice b m d] 26)) w.heap.size (.bool s) (.slice a n c) (.slice b m d)) := (tri_new w (.bool s) (.slice a n c) (.slice b m d)).alloc _
  have ka := cell_new (w.alloc (.cells #[.bool s, .slice a n c, .slice b m d] 26)) #[.bool s, .slice a n c, .slice b m d] 26 1
  have kb := cell_new (w.alloc (.cells #[.bool s, .slice a n c, .slice b m d] 26)) #[.bool s, .slice a n c, .slice b m d] 26 2
  rw [show (w.alloc (.cells #[.bool s, .slice a n c, .slice b m d] 26)).heap.size = w.heap.size + 1 from by simp] at ka kb
  have R0 := Lib.hid (h0.later HB.out); clear h0
  have R1 := Lib.hid (h1.later HB.out); clear h1
  have HQ := Lib.hid hq; clear hq
  obtain ⟨T, hT⟩ : ∃ T, ratStr q = T := ⟨_, rfl⟩
  rw [hT] at CB
  have HT := Lib.hid hT; clear hT
  obtain ⟨F, hF⟩ : ∃ F, q.floor = F := ⟨_, rfl⟩
  have hc1 : cmpR ((F : Int) : Rat) q = (-1) := by rw [← hF]; exact cmpR_lt (floor_lt hD)
  have hc2 : cmpR q (((F : Int) : Rat) + ((1 : Int) : Rat)) = (-1) := by rw [← hF, ← Rat.intCast_add]; exact cmpR_lt (Rat.lt_floor_add_one q)
  have C1 := Lib.hid hc1; clear hc1
  have C2 := Lib.hid hc2; clear hc2
  have HF := Lib.hid hF; clear hF
  have HD := Lib.hid hD; clear hD
  obtain ⟨f, hf⟩ : ∃ f : Rat, ((F : Int) : Rat) = f := ⟨_, rfl⟩
  obtain ⟨o, ho⟩ : ∃ o : Rat, ((1 : Int) : Rat) = o := ⟨_, rfl⟩
  obtain ⟨fo, hfo⟩ : ∃ fo : Rat, f + o = fo := ⟨_, rfl⟩
  rw [hf] at C1 C2
  rw [ho, hfo] at C2
  have HFf := Lib.hid (show mkRat (sv (decide (F < 0)) (val (limbs F.natAbs))) (val (limbs 1)) = f by rw [one_raw]; exact hf)
  have HFO := Lib.hid hfo; clear hfo
  have HO := Lib.hid ho; clear ho hf
  go_enter Tryz.func9, Tryz.ntmps9
  go_wp2_with fail
  refine (few1_yes (w.heap.size + 1) a b n c m d _ ka kb hn hm).mono ?_
  rintro e w0 ⟨rfl, rfl⟩
  clear ka kb
  obtain ⟨kX00, kX01, kX02, -, -, -, -⟩ := X0.out
  go_wp2_with fail
  refine (printR T q R0.out R1.out HQ.out (by omega) (by omega) HT.out).mono ?_
  rintro e w1 ⟨rfl, hb⟩
  replace R0 := Lib.hid (R0.out.later hb)
  replace R1 := Lib.hid (R1.out.later hb)
  replace X0 := Lib.hid (X0.out.later hb)
  replace HB := Lib.hid (bthen HB.out hb)
  clear hb
  clear kX00 kX01 kX02
  obtain ⟨kX00, kX01, kX02, -, -, -, -⟩ := X0.out
  go_wp2_with fail
  refine (CB.out _).mono ?_
  rintro e w2 ⟨sp, ap, np, cp, bp, mp, dp, xp, yp, rfl, hp, hr1, hr2, hb⟩
  replace R0 := Lib.hid (R0.out.later hb)
  replace R1 := Lib.hid (R1.out.later hb)
  replace X0 := Lib.hid (X0.out.later hb)
  replace HB := Lib.hid (bthen HB.out hb)
  clear hb
  clear kX00 kX01 kX02
  obtain ⟨rfl, hnp, hmp, rfl, rfl⟩ := hp
  have hb1 := below_one w2 (.cells #[.bool (decide (q.num < 0)), .slice ap np cp, .slice bp mp dp] 26)
  have XP : Hid (Tri _ w2.heap.size (.bool (decide (q.num < 0))) (.slice ap np cp) (.slice bp mp dp)) := tri_new w2 (.bool (decide (q.num < 0))) (.slice ap np cp) (.slice bp mp dp)
  have RP1 := Lib.hid (hr1.later hb1)
  have RP2 := Lib.hid (hr2.later hb1)
  clear hr1 hr2
  replace R0 := Lib.hid (R0.out.later hb1)
  replace R1 := Lib.hid (R1.out.later hb1)
  replace X0 := Lib.hid (X0.out.later hb1)
  replace HB := Lib.hid (bthen HB.out hb1)
  clear hb1
  obtain ⟨kX00, kX01, kX02, -, -, -, -⟩ := X0.out
  go_wp2_with fail
  refine (floorR 4 q R0.out R1.out HQ.out hn (by omega) (by omega) (by omega)).mono ?_
  rintro e w3 ⟨af, nf, cf, rfl, hnf, hr, hb⟩
  replace R0 := Lib.hid (R0.out.later hb)
  replace R1 := Lib.hid (R1.out.later hb)
  replace RP1 := Lib.hid (RP1.out.later hb)
  replace RP2 := Lib.hid (RP2.out.later hb)
  replace X0 := Lib.hid (X0.out.later hb)
  replace XP := Lib.hid (XP.out.later hb)
  replace HB := Lib.hid (bthen HB.out hb)
  clear hb
  clear kX00 kX01 kX02
  rw [HF.out] at hr ⊢
  have hb1 := below_one w3 (.cells #[.int .u32 1] 49)
  have hb2 := below_one (w3.alloc (.cells #[.int .u32 1] 49)) (.cells #[.bool (decide (F < 0)), .slice af nf cf, .slice (some ⟨w3.heap.size, 0, none⟩) 1 1] 26)
  have RF := Lib.hid ((hr.later hb1).later hb2); clear hr
  have RL := Lib.hid ((row_lit w3 1 1 rfl (by omega) (by omega)).later hb2)
  have XF : Hid (Tri ((w3.alloc (.cells #[.int .u32 1] 49)).alloc (.cells #[.bool (decide (F < 0)), .slice af nf cf, .slice (some ⟨w3.heap.size, 0, none⟩) 1 1] 26)) (w3.heap.size + 1) (.bool (decide (F < 0))) (.slice af nf cf) (.slice (some ⟨w3.heap.size, 0, none⟩) 1 1)) := tri_newE (by simp)
  replace R0 := Lib.hid (R0.out.later hb1)
  replace R1 := Lib.hid (R1.out.later hb1)
  replace RP1 := Lib.hid (RP1.out.later hb1)
  replace RP2 := Lib.hid (RP2.out.later hb1)
  replace X0 := Lib.hid (X0.out.later hb1)
  replace XP := Lib.hid (XP.out.later hb1)
  replace HB := Lib.hid (bthen HB.out hb1)
  replace R0 := Lib.hid (R0.out.later hb2)
  replace R1 := Lib.hid (R1.out.later hb2)
  replace RP1 := Lib.hid (RP1.out.later hb2)
  replace RP2 := Lib.hid (RP2.out.later hb2)
  replace X0 := Lib.hid (X0.out.later hb2)
  replace XP := Lib.hid (XP.out.later hb2)
  replace HB := Lib.hid (bthen HB.out hb2)
  clear hb1 hb2
  go_wp2_with fail
  replace R0 := Lib.hid R0.out.drew
  replace R1 := Lib.hid R1.out.drew
  replace RP1 := Lib.hid RP1.out.drew
  replace RP2 := Lib.hid RP2.out.drew
  replace RF := Lib.hid RF.out.drew
  replace RL := Lib.hid RL.out.drew
  replace X0 := Lib.hid X0.out.drew
  replace XP := Lib.hid XP.out.drew
  replace XF := Lib.hid XF.out.drew
  replace HB := Lib.hid HB.out.drew
  obtain ⟨kX00, kX01, kX02, -, -, -, -⟩ := X0.out
  obtain ⟨kXP0, kXP1, kXP2, -, -, -, -⟩ := XP.out
  obtain ⟨kXF0, kXF1, kXF2, -, -, -, -⟩ := XF.out
  go_region_held3 (fun w' => w'.cell? ⟨w.heap.size, 0, none⟩ = some (.bool s) ∧ w'.cell? ⟨w.heap.size, 1, none⟩ = some (.slice a n c) ∧ w'.cell? ⟨w.heap.size, 2, none⟩ = some (.slice b m d) ∧ w'.cell? ⟨w2.heap.size, 0, none⟩ = some (.bool (decide (q.num < 0))) ∧ w'.cell? ⟨w2.heap.size, 1, none⟩ = some (.slice ap np cp) ∧ w'.cell? ⟨w2.heap.size, 2, none⟩ = some (.slice bp mp dp) ∧ w'.cell? ⟨w3.heap.size + 1, 0, none⟩ = some (.bool (decide (F < 0))) ∧ w'.cell? ⟨w3.heap.size + 1, 1, none⟩ = some (.slice af nf cf) ∧ w'.cell? ⟨w3.heap.size + 1, 2, none⟩ = some (.slice (some ⟨w3.heap.size, 0, none⟩) 1 1))
    (first | (refine ⟨?_, ?_, ?_, ?_, ?_, ?_, ?_, ?_, ?_⟩ <;> with_reducible assumption) | (go_keep; done) | (refine ⟨?_, ?_, ?_, ?_, ?_, ?_, ?_, ?_, ?_⟩ <;> (repeat rw [cell_other (by first | (simp; done) | (simp; omega))]) <;> with_reducible assumption))
    (first
      | (have mk := G8; clear mk
         rw [if_pos (by rfl)]
         go_simp
         go_at_call 26
         refine (awakeR _).mono ?_
         rintro e v9 ⟨rfl, hb⟩
         replace R0 := Lib.hid (R0.out.later hb)
         replace R1 := Lib.hid (R1.out.later hb)
         replace RF := Lib.hid (RF.out.later hb)
         replace RL := Lib.hid (RL.out.later hb)
         replace X0 := Lib.hid (X0.out.later hb)
         replace XP := Lib.hid (XP.out.later hb)
         replace XF := Lib.hid (XF.out.later hb)
         replace HB := Lib.hid (bthen HB.out hb); clear hb
         clear kX00 kX01 kX02 kXP0 kXP1 kXP2 kXF0 kXF1 kXF2
         obtain ⟨kX00, kX01, kX02, -, -, -, -⟩ := X0.out
         obtain ⟨kXP0, kXP1, kXP2, -, -, -, -⟩ := XP.out
         obtain ⟨kXF0, kXF1, kXF2, -, -, -, -⟩ := XF.out
         have G9 : Hid True := trivial
         try go_wp2_with fail)
      | (have mk := G7; clear mk
         rw [if_pos (by rfl)]
         go_simp
         go_at_call 36
         refine (wholeR_no q R0.out R1.out HQ.out (by omega) (by omega) HD.out).mono ?_
         rintro e v8 ⟨rfl, hb⟩
         replace R0 := Lib.hid (R0.out.later hb)
         replace R1 := Lib.hid (R1.out.later hb)
         replace RF := Lib.hid (RF.out.later hb)
         replace RL := Lib.hid (RL.out.later hb)
         replace X0 := Lib.hid (X0.out.later hb)
         replace XP := Lib.hid (XP.out.later hb)
         replace XF := Lib.hid (XF.out.later hb)
         replace HB := Lib.hid (bthen HB.out hb); clear hb
         clear kX00 kX01 kX02 kXP0 kXP1 kXP2 kXF0 kXF1 kXF2
         obtain ⟨kX00, kX01, kX02, -, -, -, -⟩ := X0.out
         obtain ⟨kXP0, kXP1, kXP2, -, -, -, -⟩ := XP.out
         obtain ⟨kXF0, kXF1, kXF2, -, -, -, -⟩ := XF.out
         have G8 : Hid True := trivial
         try go_wp2_with fail)
      | (have mk := G6; clear mk
         rw [if_pos (by rfl)]
         go_simp
         go_at_call 24
         refine (cmpRat (-1) f q RF.out RL.out R0.out R1.out HFf.out HQ.out (by omega) (by omega) (by omega) (by omega) C1.out).mono ?_
         rintro e v7 ⟨rfl, hb⟩
         replace R0 := Lib.hid (R0.out.later hb)
         replace R1 := Lib.hid (R1.out.later hb)
         replace RF := Lib.hid (RF.out.later hb)
         replace RL := Lib.hid (RL.out.later hb)
         replace X0 := Lib.hid (X0.out.later hb)
         replace XP := Lib.hid (XP.out.later hb)
         replace XF := Lib.hid (XF.out.later hb)
         replace HB := Lib.hid (bthen HB.out hb); clear hb
         clear kX00 kX01 kX02 kXP0 kXP1 kXP2 kXF0 kXF1 kXF2
         obtain ⟨kX00, kX01, kX02, -, -, -, -⟩ := X0.out
         obtain ⟨kXP0, kXP1, kXP2, -, -, -, -⟩ := XP.out
         obtain ⟨kXF0, kXF1, kXF2, -, -, -, -⟩ := XF.out
         have G7 : Hid True := trivial
         try go_wp2_with fail)
      | (have mk := G5; clear mk
         rw [if_pos (by rfl)]
         go_simp
         go_at_call 24
         refine (cmpRat (-1) q fo R0.out R1.out RS1.out RS2.out HQ.out (rat_limbs _) (by omega) (by omega) (by omega) (by omega) C2.out).mono ?_
         rintro e v6 ⟨rfl, hb⟩
         clear RS1
         clear RS2
         replace R0 := Lib.hid (R0.out.later hb)
         replace R1 := Lib.hid (R1.out.later hb)
         replace RF := Lib.hid (RF.out.later hb)
         replace RL := Lib.hid (RL.out.later hb)
         replace X0 := Lib.hid (X0.out.later hb)
         replace XP := Lib.hid (XP.out.later hb)
         replace XF := Lib.hid (XF.out.later hb)
         replace HB := Lib.hid (bthen HB.out hb); clear hb
         clear kX00 kX01 kX02 kXP0 kXP1 kXP2 kXF0 kXF1 kXF2
         obtain ⟨kX00, kX01, kX02, -, -, -, -⟩ := X0.out
         obtain ⟨kXP0, kXP1, kXP2, -, -, -, -⟩ := XP.out
         obtain ⟨kXF0, kXF1, kXF2, -, -, -, -⟩ := XF.out
         have G6 : Hid True := trivial
         try go_wp2_with fail)
      | (have mk := G4; clear mk
         rw [if_pos (by rfl)]
         go_simp
         go_at_call 16
         refine (addR 5 1 1 1 10 10 fo f o RF.out RL.out RO1.out RO2.out HFf.out (rat_limbs o) hnf (by omega) hno hmo (by omega) (by omega) (by omega) (by omega) (by omega) (by omega) (by omega) (by omega) (by omega) (by omega) (by omega) HFO.out).mono ?_
         rintro e v5 ⟨as1, ns, cs, bs, ms, ds, rfl, hns, hms, hr, hr2, hb⟩
         clear RO1
         clear RO2
         replace R0 := Lib.hid (R0.out.later hb)
         replace R1 := Lib.hid (R1.out.later hb)
         replace RF := Lib.hid (RF.out.later hb)
         replace RL := Lib.hid (RL.out.later hb)
         replace X0 := Lib.hid (X0.out.later hb)
         replace XP := Lib.hid (XP.out.later hb)
         replace XF := Lib.hid (XF.out.later hb)
         replace HB := Lib.hid (bthen HB.out hb); clear hb
         clear kX00 kX01 kX02 kXP0 kXP1 kXP2 kXF0 kXF1 kXF2
         obtain ⟨kX00, kX01, kX02, -, -, -, -⟩ := X0.out
         obtain ⟨kXP0, kXP1, kXP2, -, -, -, -⟩ := XP.out
         obtain ⟨kXF0, kXF1, kXF2, -, -, -, -⟩ := XF.out
         have RS1 := Lib.hid hr; clear hr
         have RS2 := Lib.hid hr2; clear hr2
         have G5 : Hid True := trivial
         try go_wp2_with fail)
      | (have mk := G3; clear mk
         rw [if_pos (by rfl)]
         go_simp
         go_at_call 42
         refine (ofRq 1 1 o _ (by omega) (by omega) (limbs_small 1 1 (by omega) (by omega)) HO.out).mono ?_
         rintro e v4 ⟨ao, no, co, bo, mo, do', rfl, hno, hmo, hr, hr2, hb⟩
         replace R0 := Lib.hid (R0.out.later hb)
         replace R1 := Lib.hid (R1.out.later hb)
         replace RF := Lib.hid (RF.out.later hb)
         replace RL := Lib.hid (RL.out.later hb)
         replace X0 := Lib.hid (X0.out.later hb)
         replace XP := Lib.hid (XP.out.later hb)
         replace XF := Lib.hid (XF.out.later hb)
         replace HB := Lib.hid (bthen HB.out hb); clear hb
         clear kX00 kX01 kX02 kXP0 kXP1 kXP2 kXF0 kXF1 kXF2
         obtain ⟨kX00, kX01, kX02, -, -, -, -⟩ := X0.out
         obtain ⟨kXP0, kXP1, kXP2, -, -, -, -⟩ := XP.out
         obtain ⟨kXF0, kXF1, kXF2, -, -, -, -⟩ := XF.out
         have RO1 := Lib.hid hr; clear hr
         have RO2 := Lib.hid hr2; clear hr2
         have G4 : Hid True := trivial
         try go_wp2_with fail)
      | (have mk := G2; clear mk
         rw [if_pos (by rfl)]
         go_simp
         go_at_call 24
         refine (cmpRat (-1) f q RF.out RL.out R0.out R1.out HFf.out HQ.out (by omega) (by omega) (by omega) (by omega) C1.out).mono ?_
         rintro e v3 ⟨rfl, hb⟩
         replace R0 := Lib.hid (R0.out.later hb)
         replace R1 := Lib.hid (R1.out.later hb)
         replace RF := Lib.hid (RF.out.later hb)
         replace RL := Lib.hid (RL.out.later hb)
         replace X0 := Lib.hid (X0.out.later hb)
         replace XP := Lib.hid (XP.out.later hb)
         replace XF := Lib.hid (XF.out.later hb)
         replace HB := Lib.hid (bthen HB.out hb); clear hb
         clear kX00 kX01 kX02 kXP0 kXP1 kXP2 kXF0 kXF1 kXF2
         obtain ⟨kX00, kX01, kX02, -, -, -, -⟩ := X0.out
         obtain ⟨kXP0, kXP1, kXP2, -, -, -, -⟩ := XP.out
         obtain ⟨kXF0, kXF1, kXF2, -, -, -, -⟩ := XF.out
         have G3 : Hid True := trivial
         try go_wp2_with fail)
      | (have mk := G1; clear mk
         rw [if_pos (by rfl)]
         go_simp
         go_at_call 13
         refine (sameT RP1.out RP2.out RA.out RB.out rfl (by omega) (by omega) (by omega) (by omega)).mono ?_
         rintro e v2 ⟨rfl, hb⟩
         clear RA
         clear RB
         clear RP1
         clear RP2
         replace R0 := Lib.hid (R0.out.later hb)
         replace R1 := Lib.hid (R1.out.later hb)
         replace RF := Lib.hid (RF.out.later hb)
         replace RL := Lib.hid (RL.out.later hb)
         replace X0 := Lib.hid (X0.out.later hb)
         replace XP := Lib.hid (XP.out.later hb)
         replace XF := Lib.hid (XF.out.later hb)
         replace HB := Lib.hid (bthen HB.out hb); clear hb
         clear kX00 kX01 kX02 kXP0 kXP1 kXP2 kXF0 kXF1 kXF2
         obtain ⟨kX00, kX01, kX02, -, -, -, -⟩ := X0.out
         obtain ⟨kXP0, kXP1, kXP2, -, -, -, -⟩ := XP.out
         obtain ⟨kXF0, kXF1, kXF2, -, -, -, -⟩ := XF.out
         have G2 : Hid True := trivial
         try go_wp2_with fail)
      | (skip
         rw [if_pos (by rfl)]
         go_simp
         go_at_call 14
         refine (normR 4 4 q R0.out R1.out HQ.out hn hm (by omega) (by omega) (by omega)).mono ?_
         rintro e v1 ⟨an, nn, cn, bn, mn, dn, rfl, hnn, hmn, hr, hr2, hb⟩
         replace R0 := Lib.hid (R0.out.later hb)
         replace R1 := Lib.hid (R1.out.later hb)
         replace RP1 := Lib.hid (RP1.out.later hb)
         replace RP2 := Lib.hid (RP2.out.later hb)
         replace RF := Lib.hid (RF.out.later hb)
         replace RL := Lib.hid (RL.out.later hb)
         replace X0 := Lib.hid (X0.out.later hb)
         replace XP := Lib.hid (XP.out.later hb)
         replace XF := Lib.hid (XF.out.later hb)
         replace HB := Lib.hid (bthen HB.out hb); clear hb
         clear kX00 kX01 kX02 kXP0 kXP1 kXP2 kXF0 kXF1 kXF2
         obtain ⟨kX00, kX01, kX02, -, -, -, -⟩ := X0.out
         obtain ⟨kXP0, kXP1, kXP2, -, -, -, -⟩ := XP.out
         obtain ⟨kXF0, kXF1, kXF2, -, -, -, -⟩ := XF.out
         have RA := Lib.hid hr; clear hr
         have RB := Lib.hid hr2; clear hr2
         have G1 : Hid True := trivial
         try go_wp2_with fail))
  go_wp2
  go_ret
  exact ⟨rfl, HB.out⟩

end Go.Proofs.YtnnoicjnggoffaaGreat
/- RatioBack holds: what is printed is parsed, and a number lies between its greatest integer below, and the next one. No condition. -/
namespace Go.Proofs.YtnnoicjnggoffaaGreat
set_option linter.unusedVariables false
set_option linter.unusedSimpArgs false
set_option maxRecDepth 100000
open Go.ChangeShapes Go.WideShapes Go.ChangeAt Go.RowKit Nums Go.Joins

theorem ratioBack_walk (s : Bool) (a b : Option Addr) (n c m d : Nat) (xs ys : List Nat) (w : World) (h0 : Row w a n c xs) (h1 : Row w b m d ys) :
    Calls Tryz.prog 9 #[.agg #[.bool s, .slice a n c, .slice b m d]] w fun e w' => e = .returned (.bool true) ∧ Below w.heap.size w w' := by
  by_cases hn : n ≤ 4
  · by_cases hm : m ≤ 4
    · by_cases hD : (mkRat (sv s (val xs)) (val ys)).den = 1
      · exact ratioBack_whole _ h0 h1 rfl hn hm hD
      · exact ratioBack_part _ h0 h1 rfl hn hm hD
    · exact ratioBack_outm s a b n c m d w hn (by omega)
  · exact ratioBack_outn s a b n c m d w (by omega)

theorem ratioBack_lifted (os : Os) (started : os.Started) (H : Type) (enc : TypeId × Value → H) :
    ReturnsInHanded {} Tryz.checked os 9 .any (Rows.ratioBackSpec.pre6 enc Tryz.prog Tryz.f9 Rows.ratioBackRow.domain false) (Rows.ratioBackSpec.post enc Tryz.prog Tryz.f9 false true false false) := by
  refine returnsInHanded_of_change (C := Tryz.checked) Tryz.ownKnob started (by kernel_rfl) Tryz.func9
    (ChangeSpec.witness6 (enc := enc) (C := Tryz.checked) false ⟨#[], #[.agg #[.bool false, .slice none 0 0, .slice none 0 0]], []⟩ 8 (by kernel_rfl) (by kernel_rfl) (by kernel_rfl) (by kernel_rfl)) ?_
  intro W base args ds gs before hval0 hW hcnd _
  have hval : ∀ (j : Nat) t v, Tryz.f9.params[j]? = some t → args[j]? = some v → Value.okWide Tryz.prog W .any base t v := hval0
  have hW' := hW
  obtain ⟨p, q, hA0, hV, rfl, hfz, hnd⟩ := hW
  have hA : DataW.TrodAll enc Tryz.prog W 0 (fun _ => true) true Tryz.f9.params.toList args.toList ds p := hA0
  rw [Tryz.params9] at hA hval
  obtain ⟨v0, vs0, d0, ds0, p0, q0, hargs, rfl, rfl, h0, r0⟩ := trodAll_cons hA
  obtain ⟨rfl, rfl, rfl⟩ := trodAll_nil r0
  obtain rfl : args = #[v0] := by cases args; simp_all
  obtain ⟨rfl, rfl⟩ := trodVars_none hV
  have k0 := h0
  have lt0 : ∀ x ∈ p0, x.block < W.heap.size := by obtain ⟨m, hm⟩ := k0; exact DataW.trod_lt m _ _ _ hm
  obtain ⟨s0, a0, n0, c0, b0, m0, e0, xs0, ys0, rfl, w0, u0⟩ := rat_of_trod (hval 0 26 v0 rfl rfl) h0
  clear hA0 hval0
  refine (ratioBack_walk s0 a0 b0 n0 c0 m0 e0 xs0 ys0 W w0 u0).mono fun e W' ⟨he, bel⟩ => ?_
  subst he
  exact ⟨_, rfl, _, _, _, [], _, [], hW', trodAll_mk1 (shut_bool Tryz.underlying4 _), (trodAll_cons_mk (Below.trod Tryz.laidOut (by kernel_rfl) (of_decide_eq_true (by kernel_rfl)) k0 bel lt0) trodAll_mk0), rfl, bel.frame _, fun h => by cases h⟩

theorem ratioBack_over : Rows.ratioBackRow.holds Tryz.pinned (OpenSpec.ofChange Rows.ratioBackSpec) :=
  OpenClaim.holds_of_wide 9 Tryz.f9 rfl rfl rfl rfl rfl rfl rfl ⟨rfl, rfl, rfl, rfl, rfl⟩ rfl rfl rfl rfl rfl (by kernel_rfl) Tryz.func9 (by kernel_rfl)
    (of_decide_eq_true (by kernel_rfl)) (by unfold Func.isWrapper; first | (rw [if_pos (by decide +kernel)]; kernel_rfl) | (rw [if_neg (by decide +kernel)]; exact ⟨rfl, rfl⟩))
    (fun os started H enc _ => ratioBack_lifted os started H enc)

theorem ratioBack_holds : Rows.RatioBackSaid := ratioBack_over
#print axioms ratioBack_holds
end Go.Proofs.YtnnoicjnggoffaaGreat
