/- What PlanFits tells of a flat program that lies in memory. No condition. -/
import Derived.Test.YtioebjjnadgdjaaZLawKToFit
import Derived.Deep.DeepCutAuto
namespace Go.Proofs.Ytioebjjnadgdjaa
set_option linter.unusedVariables false
set_option linter.unusedSimpArgs false
set_option maxRecDepth 100000
open Go.RowKit Gr

/-- what is known behind small: the world, the program in it -/
structure LwSt (w : World) (v : FlatV) (f : FlatM) (W : World) : Prop where
  is : FlatIs W w.heap.size v f
  blk : Blk W w.heap.size 29 (fvs v)
  old : Below w.heap.size w W
theorem LwSt.later {w W W' : World} {v : FlatV} {f : FlatM} (h : LwSt w v f W) (hb : Below W.heap.size W W') : LwSt w v f W' :=
  ⟨h.is.below (hb.mono h.old.size), h.blk.later hb, h.old.trans (hb.mono h.old.size)⟩
theorem LwSt.hB {w W : World} {v : FlatV} {f : FlatM} (h : LwSt w v f W) : w.heap.size ≤ W.heap.size := h.old.size
theorem LwSt.start {w : World} {v : FlatV} {f : FlatM} (h : FlatIs w w.heap.size v f) : LwSt w v f (w.alloc (.cells (fvs v) 29)) :=
  ⟨h.below ((Below.refl _ _).alloc (Nat.le_refl _) _), Blk.new _ _ _, (Below.refl _ _).alloc (Nat.le_refl _) _⟩

set_option maxHeartbeats 4000000 in
theorem planFits_walk (v : FlatV) (f : FlatM) (w : World) (h : FlatIs w w.heap.size v f) : Calls Try.prog 5 #[flatV v] w (LawPost w) := by
  have HL0 := Lib.hid (LwSt.start h)
  have HSM := Lib.hid (small14_t v f w.heap.size _ HL0.out.is HL0.out.hB)
  clear h
  unfold flatV sl3 fvs at HSM
  unfold flatV sl3
  go_enter Try.func5, Try.ntmps5
  go_wp2_with fail
  refine HSM.out.mono ?_
  rintro e w1 ⟨⟨b1, rfl, hs1⟩, hb1⟩
  have HL1 := Lib.hid (HL0.out.later hb1)
  clear hb1
  cases b1 with
  | false =>
    go_wp2
    go_ret
    exact ⟨rfl, HL1.out.old⟩
  | true =>
    obtain ⟨hs, _⟩ := hs1 rfl
    have hsm : v.names.2.1 ≤ 200 := by rw [← HL1.out.is.names.1]; exact hs.names
    have HSF := Lib.hid hs
    clear hs
    obtain ⟨f0, f1, f2, f3, f4, f5, f6, f7⟩ := HL1.out.blk.flat
    cases hg : goodB f with
    | false =>
      have HOF := Lib.hid (of_no v f w.heap.size w1 HL1.out.is HL1.out.hB (by omega) hg)
      unfold flatV sl3 at HOF
      clear hg
      go_wp2_with fail
      refine HOF.out.mono ?_
      rintro e w2 ⟨rfl, hb2⟩
      have HL2 := Lib.hid (HL1.out.later hb2)
      clear hb2 f0 f1 f2 f3 f4 f5 f6 f7
      unfold planV
      have HL3 := Lib.hid (HL2.out.later ((Below.refl w2.heap.size w2).alloc (Nat.le_refl _) (.cells #[.slice none 0 0, .slice none 0 0, .int .i64 0] 32)))
      go_wp2_with (go_at_call 12; refine (awake_t _).mono ?_; rintro e w4 ⟨rfl, hb4⟩)
      go_ret
      exact ⟨rfl, (HL3.out.later hb4).old⟩
    | true =>
      have HGD := Lib.hid hg
      have HOF := Lib.hid (of_t v f w.heap.size w1 HL1.out.is HL1.out.hB hg HSF.out)
      unfold flatV sl3 at HOF
      clear hg
      go_wp2_with fail
      refine HOF.out.mono ?_
      rintro e w2 ⟨ho | ho, hb2⟩
      rotate_left
      · obtain ⟨rfl, _⟩ := ho
        have HL2 := Lib.hid (HL1.out.later hb2)
        clear hb2 f0 f1 f2 f3 f4 f5 f6 f7
        unfold planV
        have HL3 := Lib.hid (HL2.out.later ((Below.refl w2.heap.size w2).alloc (Nat.le_refl _) (.cells #[.slice none 0 0, .slice none 0 0, .int .i64 0] 32)))
        go_wp2_with (go_at_call 12; refine (awake_t _).mono ?_; rintro e w4 ⟨rfl, hb4⟩)
        go_ret
        exact ⟨rfl, (HL3.out.later hb4).old⟩
      · obtain ⟨A, c, g, out, xs, S, rfl, hown, ⟨hmem, hgl⟩, hpl⟩ := ho
        have HGL : Hid ((gOf f).length = v.names.2.1) := Lib.hid (by unfold gOf; rw [gTo_len]; exact HL1.out.is.names.1)
        have HRP := Lib.hid (plan_right HGD.out HGL.out hpl)
        have HXL : Hid (xs.length = v.names.2.1) := Lib.hid (by obtain ⟨sls, hs, _, h2⟩ := hpl.slots; exact h2.1)
        have HSN : Hid (S ≤ 200) := Lib.hid (by
          obtain ⟨sls, hs, h1, _⟩ := hpl.slots
          rw [h1.top, Pl.slots_most h1.greedy (lpl_ge hpl.once)]
          refine Nat.le_trans (Pl.top_le _ _ v.names.2.1 fun i hi => ?_) hsm
          exact Nat.le_trans (List.length_filter_le _ _) (by simp; omega))
        have HL2 := Lib.hid (HL1.out.later hb2)
        have HOW := Lib.hid hown
        have HME := Lib.hid hmem
        clear hb2 f0 f1 f2 f3 f4 f5 f6 f7 hown hmem hgl hpl
        unfold planV
        obtain ⟨W3, hW3⟩ : ∃ W3, W3 = w2.alloc (.cells #[.slice A v.names.2.1 c, .slice (some ⟨g, 0, none⟩) v.names.2.1 v.names.2.1, .int .i64 ((S : Nat) : Int)] 32) := ⟨_, rfl⟩
        have hb3 : Below w2.heap.size w2 W3 := by rw [hW3]; exact (Below.refl _ _).alloc (Nat.le_refl _) _
        have HPB := Lib.hid (show Blk W3 w2.heap.size 32 #[.slice A v.names.2.1 c, .slice (some ⟨g, 0, none⟩) v.names.2.1 v.names.2.1, .int .i64 ((S : Nat) : Int)] from by rw [hW3]; exact Blk.new _ _ _)
        have HL3 := Lib.hid (HL2.out.later hb3)
        have HM3 := Lib.hid (HME.out.below hb3 HME.out.lt)
        have hir := HM3.out.irow (B := W3.heap.size) (c := v.names.2.1) HM3.out.lt (by rw [HXL.out]; exact Nat.le_refl _) (by unfold maxLen; omega)
        rw [HXL.out] at hir
        have HRT := Lib.hid ((rightP_t v f W3.heap.size A (some ⟨g, 0, none⟩) v.names.2.1 c v.names.2.1 v.names.2.1 ((S : Nat) : Int) (ints out) xs W3 (HL3.out.is.more HL3.out.hB) (Nat.le_refl _) (own_row (HOW.out.below hb3 (Nat.le_refl _))) hir HSF.out (by have := HSN.out; omega)).mono fun e w' q => q.tt HRP.out)
        unfold flatV sl3 planV at HRT
        obtain ⟨f0, f1, f2, f3, f4, f5, f6, f7⟩ := HL3.out.blk.flat
        obtain ⟨p0, p1, p2⟩ : W3.cell? ⟨w2.heap.size, 0, none⟩ = some (.slice A v.names.2.1 c) ∧ W3.cell? ⟨w2.heap.size, 1, none⟩ = some (.slice (some ⟨g, 0, none⟩) v.names.2.1 v.names.2.1) ∧ W3.cell? ⟨w2.heap.size, 2, none⟩ = some (.int .i64 ((S : Nat) : Int)) := ⟨HPB.out.cell 0 rfl, HPB.out.cell 1 rfl, HPB.out.cell 2 rfl⟩
        clear hb3 hir HM3
        go_upto_region 6 with fail
        rw [← hW3]
        clear hW3
        go_wp2_with (first
          | (go_at_call 13; (with_reducible refine HRT.out.mono ?_); rintro e w5 ⟨rfl, hb5⟩; have HL5 := Lib.hid (HL3.out.later hb5); clear hb5)
          | (go_at_call 12; (with_reducible refine (awake_t _).mono ?_); rintro e w6 ⟨rfl, hb6⟩; have HL6 := Lib.hid (HL5.out.later hb6); clear hb6))
        go_ret
        exact ⟨rfl, HL6.out.old⟩

end Go.Proofs.Ytioebjjnadgdjaa
