/- What PlanLeast tells of a flat program that lies in memory. No condition. -/
import Derived.Test.YtioebjjnadgdjaaZPfW
import Derived.Test.YtioebjjnadgdjaaZRfB
import Derived.Deep.DeepCutAuto
namespace Go.Proofs.Ytioebjjnadgdjaa
set_option linter.unusedVariables false
set_option linter.unusedSimpArgs false
set_option maxRecDepth 100000
open Go.RowKit Gr

/-- how many of the first k places are needed at place i or later -/
def cntL (L : Nat → Nat) (i k : Nat) : Nat := ((List.range k).filter fun k => decide (i ≤ L k)).length
theorem cntL_succ (L : Nat → Nat) (i k : Nat) : cntL L i (k + 1) = cntL L i k + if i ≤ L k then 1 else 0 := by
  unfold cntL
  rw [List.range_succ, List.filter_append, List.length_append]
  by_cases h : i ≤ L k <;> simp [h]
theorem cntL_le (L : Nat → Nat) (i k : Nat) : cntL L i k ≤ k := by
  unfold cntL
  exact Nat.le_trans (List.length_filter_le _ _) (by simp)
/-- the most that live at one of the first i places -/
def mostL (L : Nat → Nat) (i : Nat) : Nat := Pl.top (fun i => cntL L i (i + 1)) i
theorem mostL_succ (L : Nat → Nat) (i : Nat) : mostL L (i + 1) = max (mostL L i) (cntL L i (i + 1)) := rfl
theorem mostL_le (L : Nat → Nat) (i : Nat) : mostL L i ≤ i := Pl.top_le _ _ _ fun k hk => by have := cntL_le L k (k + 1); omega
theorem plan_most {f : FlatM} {n : Nat} {out : List Nat} {xs : List Int} {S : Nat} (h : IsPlan f n out xs S) : S = mostL (Lpl (laF f (ints out)) (ints out)) n := by
  obtain ⟨sls, hs, h1, _⟩ := h.slots
  rw [h1.top, Pl.slots_most h1.greedy (lpl_ge h.once)]
  rfl
/-- where a variable of a plan stands, and its last place -/
theorem plan_last {f : FlatM} {n : Nat} {o : List Int} (h : Once o n) {k : Nat} (hk : k < n) : ∃ u M : Nat, u < n ∧ o.getD k 0 = (u : Int) ∧ (lastsL (gOf f) (endB f) o n).getD u 0 = (M : Int) ∧ Lpl (laF f o) o k = M := by
  obtain ⟨u, hu, hou⟩ := h.get hk
  have hge := lastV_ge (f := f) h hu
  obtain ⟨j, hj, ej, _⟩ := h.plc hu
  refine ⟨u, (lastV (gOf f) (endB f) o u).toNat, hu, hou, ?_, ?_⟩
  · rw [lasts_get _ _ _ hu]; omega
  · unfold Lpl laF; rw [hou, Int.toNat_natCast]

set_option maxHeartbeats 4000000 in
theorem planLeast_walk (v : FlatV) (f : FlatM) (w : World) (h : FlatIs w w.heap.size v f) : Calls Try.prog 6 #[flatV v] w (LawPost w) := by
  have HL0 := Lib.hid (LwSt.start h)
  have HSM := Lib.hid (small14_t v f w.heap.size _ HL0.out.is HL0.out.hB)
  clear h
  unfold flatV sl3 fvs at HSM
  unfold flatV sl3
  go_enter Try.func6, Try.ntmps6
  go_wp2_with fail
  refine HSM.out.mono ?_
  rintro e w1 ⟨⟨b1, rfl, hs1⟩, hb1⟩
  have HL1 := Lib.hid (HL0.out.later hb1)
  clear hb1
  cases b1 with
  | false =>
    go_wp2
    go_ret
    exact ⟨rfl, HL1.out.old⟩
  | true =>
    obtain ⟨hs, _⟩ := hs1 rfl
    have hsm : v.names.2.1 ≤ 200 := by rw [← HL1.out.is.names.1]; exact hs.names
    have HSF := Lib.hid hs
    clear hs
    obtain ⟨f0, f1, f2, f3, f4, f5, f6, f7⟩ := HL1.out.blk.flat
    cases hg : goodB f with
    | false =>
      have HOF := Lib.hid (of_no v f w.heap.size w1 HL1.out.is HL1.out.hB (by omega) hg)
      unfold flatV sl3 at HOF
      clear hg
      go_wp2_with fail
      refine HOF.out.mono ?_
      rintro e w2 ⟨rfl, hb2⟩
      have HL2 := Lib.hid (HL1.out.later hb2)
      clear hb2 f0 f1 f2 f3 f4 f5 f6 f7
      unfold planV
      have HL3 := Lib.hid (HL2.out.later ((Below.refl w2.heap.size w2).alloc (Nat.le_refl _) (.cells #[.slice none 0 0, .slice none 0 0, .int .i64 0] 32)))
      go_wp2_with (go_at_call 12; refine (awake_t _).mono ?_; rintro e w4 ⟨rfl, hb4⟩)
      go_ret
      exact ⟨rfl, (HL3.out.later hb4).old⟩
    | true =>
      have HGD := Lib.hid hg
      have HOF := Lib.hid (of_t v f w.heap.size w1 HL1.out.is HL1.out.hB hg HSF.out)
      unfold flatV sl3 at HOF
      clear hg
      go_wp2_with fail
      refine HOF.out.mono ?_
      rintro e w2 ⟨ho | ho, hb2⟩
      rotate_left
      · obtain ⟨rfl, _⟩ := ho
        have HL2 := Lib.hid (HL1.out.later hb2)
        clear hb2 f0 f1 f2 f3 f4 f5 f6 f7
        unfold planV
        have HL3 := Lib.hid (HL2.out.later ((Below.refl w2.heap.size w2).alloc (Nat.le_refl _) (.cells #[.slice none 0 0, .slice none 0 0, .int .i64 0] 32)))
        go_wp2_with (go_at_call 12; refine (awake_t _).mono ?_; rintro e w4 ⟨rfl, hb4⟩)
        go_ret
        exact ⟨rfl, (HL3.out.later hb4).old⟩
      · obtain ⟨A, c, g, out, xs, S, rfl, hown, ⟨hmem, hgl⟩, hpl⟩ := ho
        have HGL : Hid ((gOf f).length = v.names.2.1) := Lib.hid (by unfold gOf; rw [gTo_len]; exact HL1.out.is.names.1)
        have hpl0 := hpl
        have HRP := Lib.hid (plan_right HGD.out HGL.out hpl)
        have HXL : Hid (xs.length = v.names.2.1) := Lib.hid (by obtain ⟨sls, hs, _, h2⟩ := hpl.slots; exact h2.1)
        have HSN : Hid (S ≤ 200) := Lib.hid (by
          obtain ⟨sls, hs, h1, _⟩ := hpl.slots
          rw [h1.top, Pl.slots_most h1.greedy (lpl_ge hpl.once)]
          refine Nat.le_trans (Pl.top_le _ _ v.names.2.1 fun i hi => ?_) hsm
          exact Nat.le_trans (List.length_filter_le _ _) (by simp; omega))
        have HL2 := Lib.hid (HL1.out.later hb2)
        have HOW := Lib.hid hown
        have HME := Lib.hid hmem
        clear hb2 f0 f1 f2 f3 f4 f5 f6 f7 hown hmem hgl hpl
        unfold planV
        obtain ⟨W3, hW3⟩ : ∃ W3, W3 = w2.alloc (.cells #[.slice A v.names.2.1 c, .slice (some ⟨g, 0, none⟩) v.names.2.1 v.names.2.1, .int .i64 ((S : Nat) : Int)] 32) := ⟨_, rfl⟩
        have hb3 : Below w2.heap.size w2 W3 := by rw [hW3]; exact (Below.refl _ _).alloc (Nat.le_refl _) _
        have HPB := Lib.hid (show Blk W3 w2.heap.size 32 #[.slice A v.names.2.1 c, .slice (some ⟨g, 0, none⟩) v.names.2.1 v.names.2.1, .int .i64 ((S : Nat) : Int)] from by rw [hW3]; exact Blk.new _ _ _)
        have HL3 := Lib.hid (HL2.out.later hb3)
        have HM3 := Lib.hid (HME.out.below hb3 HME.out.lt)
        have hir := HM3.out.irow (B := W3.heap.size) (c := v.names.2.1) HM3.out.lt (by rw [HXL.out]; exact Nat.le_refl _) (by unfold maxLen; omega)
        rw [HXL.out] at hir
        have HRT := Lib.hid ((refRight_t v f W3.heap.size A (some ⟨g, 0, none⟩) v.names.2.1 c v.names.2.1 v.names.2.1 ((S : Nat) : Int) (ints out) xs W3 (HL3.out.is.more HL3.out.hB) (Nat.le_refl _) (own_row (HOW.out.below hb3 (Nat.le_refl _))) hir HSF.out (by have := HSN.out; omega)).mono fun e w' q => q.tt HRP.out)
        unfold flatV sl3 planV at HRT
        have HON := Lib.hid hpl0.once
        have HMO := Lib.hid (plan_most hpl0)
        have HRW := Lib.hid (fun W (q : Below W3.heap.size W3 W) => own_row ((HOW.out.below hb3 (Nat.le_refl _)).below q (Nat.le_refl _)))
        have HLC := Lib.hid (fun W (q : Below W3.heap.size W3 W) => lasts_t v f w.heap.size A v.names.2.1 c W.heap.size (ints out) W (HL3.out.later q).is (HL3.out.later q).hB HGD.out HSF.out (HRW.out W q) (Nat.le_refl _) (by omega))
        unfold flatV sl3 at HLC
        have HNN : Hid (f.names.length = v.names.2.1) := Lib.hid HL1.out.is.names.1
        obtain ⟨f0, f1, f2, f3, f4, f5, f6, f7⟩ := HL3.out.blk.flat
        obtain ⟨p0, p1, p2⟩ : W3.cell? ⟨w2.heap.size, 0, none⟩ = some (.slice A v.names.2.1 c) ∧ W3.cell? ⟨w2.heap.size, 1, none⟩ = some (.slice (some ⟨g, 0, none⟩) v.names.2.1 v.names.2.1) ∧ W3.cell? ⟨w2.heap.size, 2, none⟩ = some (.int .i64 ((S : Nat) : Int)) := ⟨HPB.out.cell 0 rfl, HPB.out.cell 1 rfl, HPB.out.cell 2 rfl⟩
        clear hb3 hir HM3 hpl0
        go_upto_region 6 with fail
        rw [← hW3]
        clear hW3
        go_wp2_with (first
          | (go_at_call 14; (with_reducible refine HRT.out.mono ?_); rintro e w5 ⟨rfl, hb5⟩; have HL5 := Lib.hid (HL3.out.later hb5); have HB5 := Lib.hid hb5; have HP5 := Lib.hid (HPB.out.later hb5); clear hb5 f0 f1 f2 f3 f4 f5 f6 f7 p0 p1 p2; obtain ⟨f0, f1, f2, f3, f4, f5, f6, f7⟩ := HL5.out.blk.flat; obtain ⟨p0, p1, p2⟩ : w5.cell? ⟨w2.heap.size, 0, none⟩ = some (.slice A v.names.2.1 c) ∧ w5.cell? ⟨w2.heap.size, 1, none⟩ = some (.slice (some ⟨g, 0, none⟩) v.names.2.1 v.names.2.1) ∧ w5.cell? ⟨w2.heap.size, 2, none⟩ = some (.int .i64 ((S : Nat) : Int)) := ⟨HP5.out.cell 0 rfl, HP5.out.cell 1 rfl, HP5.out.cell 2 rfl⟩)
          | (go_at_call 15; (with_reducible refine (HLC.out _ HB5.out).mono ?_); rintro e w6 ⟨g6, rfl, hm6, hg6, hb6⟩; have HL6 := Lib.hid (HL5.out.later hb6); have HB6 := Lib.hid (HB5.out.trans (hb6.mono HB5.out.size)); have HP6 := Lib.hid (HP5.out.later hb6); have HM6 := Lib.hid hm6; clear hm6 hg6 hb6 f0 f1 f2 f3 f4 f5 f6 f7 p0 p1 p2; obtain ⟨p0, p1, p2⟩ : w6.cell? ⟨w2.heap.size, 0, none⟩ = some (.slice A v.names.2.1 c) ∧ w6.cell? ⟨w2.heap.size, 1, none⟩ = some (.slice (some ⟨g, 0, none⟩) v.names.2.1 v.names.2.1) ∧ w6.cell? ⟨w2.heap.size, 2, none⟩ = some (.int .i64 ((S : Nat) : Int)) := ⟨HP6.out.cell 0 rfl, HP6.out.cell 1 rfl, HP6.out.cell 2 rfl⟩))
        rw [HNN.out] at HM6
        rw [HNN.out]
        have hro := HRW.out w6 HB6.out
        obtain ⟨L, hL⟩ : ∃ L, L = Lpl (laF f (ints out)) (ints out) := ⟨_, rfl⟩
        have HLL : Hid (∀ k : Nat, k < v.names.2.1 → ∃ u M : Nat, u < v.names.2.1 ∧ (ints out).getD k 0 = (u : Int) ∧ (lastsL (gOf f) (endB f) (ints out) v.names.2.1).getD u 0 = (M : Int) ∧ L k = M) := Lib.hid fun k hk => by rw [hL]; exact plan_last HON.out hk
        rw [← hL] at HMO
        have HRO := Lib.hid hro
        clear hL hro
        go_loop [6, 7] (fun s t => ∃ i : Nat, i ≤ v.names.2.1 ∧ s = .int .i64 (mostL L i : Nat) ∧ t = .int .i64 i) (fun _ t => v.names.2.1 - (intOf t).toNat)
        case atStart => exact ⟨0, Nat.zero_le _, rfl, rfl⟩
        case round =>
          obtain ⟨i, hi, rfl, rfl⟩ := hrel
          by_cases hli : i < v.names.2.1
          · go_wp2_with fail
            go_loop [8, 9] (fun s t => ∃ k : Nat, k ≤ i + 1 ∧ s = .int .i64 (cntL L i k : Nat) ∧ t = .int .i64 k) (fun _ t => i + 1 - (intOf t).toNat)
            case atStart => exact ⟨0, Nat.zero_le _, rfl, rfl⟩
            case round =>
              obtain ⟨k, hk, rfl, rfl⟩ := hrel
              by_cases hlk : k ≤ i
              · have hkI : (k : Int) ≤ (i : Int) := by omega
                obtain ⟨b, off, rfl, hlb, oc⟩ := HRO.out.at_ (show k < v.names.2.1 by omega)
                obtain ⟨u, M, hu, hou, hlu, hLM⟩ := HLL.out k (by omega)
                rw [hou] at oc
                have lc := HM6.out.cell u (by rw [lasts_len]; exact hu)
                rw [hlu] at lc
                have hkn : (k : Int) < (v.names.2.1 : Int) := by omega
                have huI : (u : Int) < (v.names.2.1 : Int) := by omega
                have HC := Lib.hid (cntL_succ L i k)
                rw [hLM] at HC
                have hcl := cntL_le L i k
                obtain ⟨C, hC⟩ : ∃ C, C = cntL L i k := ⟨_, rfl⟩
                rw [← hC] at hcl HC ⊢
                clear hou hlu hLM hC
                by_cases hMi : i ≤ M
                · have hMI : (i : Int) ≤ (M : Int) := by omega
                  rw [if_pos hMi] at HC
                  go_wp2_with fail
                  go_round
                  case rel => exact ⟨k + 1, by omega, by rw [HC.out]; go_num, by go_num⟩
                  case measure => simp [intOf]; omega
                · have hMI : (M : Int) < (i : Int) := by omega
                  have hMJ : ¬ (i : Int) ≤ (M : Int) := by omega
                  rw [if_neg hMi] at HC
                  go_wp2_with fail
                  go_round
                  case rel => exact ⟨k + 1, by omega, by rw [HC.out]; rfl, by go_num⟩
                  case measure => simp [intOf]; omega
              · obtain rfl : k = i + 1 := by omega
                have hkI : ¬ ((i + 1 : Nat) : Int) ≤ (i : Int) := by omega
                have HX := Lib.hid (mostL_succ L i)
                obtain ⟨C, hC⟩ : ∃ C, C = cntL L i (i + 1) := ⟨_, rfl⟩
                obtain ⟨T, hT⟩ : ∃ T, T = mostL L i := ⟨_, rfl⟩
                rw [← hC] at HX ⊢
                rw [← hT] at HX ⊢
                clear hC hT
                by_cases hTC : T < C
                · have hTI : (T : Int) < (C : Int) := by omega
                  go_wp2_with fail
                  go_round
                  case rel => exact ⟨i + 1, by omega, by rw [HX.out, Nat.max_eq_right (by omega)]; first | rfl | go_num, by go_num⟩
                  case measure => simp [intOf]; omega
                · have hTI : (C : Int) ≤ (T : Int) := by omega
                  have hTJ : ¬ (T : Int) < (C : Int) := by omega
                  go_wp2_with fail
                  go_round
                  case rel => exact ⟨i + 1, by omega, by rw [HX.out, Nat.max_eq_left (by omega)]; first | rfl | go_num, by go_num⟩
                  case measure => simp [intOf]; omega
          · obtain rfl : i = v.names.2.1 := by omega
            rw [← HMO.out]
            go_wp2_with (go_at_call 12; (with_reducible refine (awake_t _).mono ?_); rintro e w7 ⟨rfl, hb7⟩; have HL7 := Lib.hid (HL6.out.later hb7); clear hb7)
            go_ret
            exact ⟨rfl, HL7.out.old⟩

end Go.Proofs.Ytioebjjnadgdjaa
