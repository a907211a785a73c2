/- What the answer Same tells of two plans alike; that there is one plan. No condition but bounds. · What PlanOf tells of a flat program that lies in memory. No condition. -/
import Derived.Test.YtioebjjnadgdjaaZRoAToRoF
import Derived.Deep.DeepCutAuto
namespace Go.Proofs.Ytioebjjnadgdjaa
set_option linter.unusedVariables false
set_option linter.unusedSimpArgs false
set_option maxRecDepth 100000
open Go.RowKit Gr

set_option maxHeartbeats 4000000 in
theorem same_t (A A2 A' A2' : Option Addr) (m c m2 c2 c' c2' B : Nat) (S : Int) (o sl : List Int) (w : World) (h1 : IRow w B A m c o) (h2 : IRow w B A2 m2 c2 sl) (h3 : IRow w B A' m c' o) (h4 : IRow w B A2' m2 c2' sl) (hB : B ≤ w.heap.size) :
    Calls Try.prog 11 #[planV A m c A2 m2 c2 S, planV A' m c' A2' m2 c2' S] w fun e w' => e = .returned (.bool true) ∧ Below w.heap.size w w' := by
  have hm1 := h1.len_le
  have hm2 := h2.len_le
  unfold maxLen at hm1 hm2
  obtain ⟨W1, hW1⟩ : ∃ W1, W1 = (w.alloc (.cells #[.slice A m c, .slice A2 m2 c2, .int .i64 S] 32)).alloc (.cells #[.slice A' m c', .slice A2' m2 c2', .int .i64 S] 32) := ⟨_, rfl⟩
  have hb1 : Below w.heap.size w W1 := by rw [hW1]; exact ((Below.refl _ _).alloc (Nat.le_refl _) _).alloc (by simp) _
  have HQ := Lib.hid (show Blk W1 (w.heap.size + 1) 32 #[.slice A' m c', .slice A2' m2 c2', .int .i64 S] from by rw [hW1]; have := Blk.new (w.alloc (.cells #[.slice A m c, .slice A2 m2 c2, .int .i64 S] 32)) 32 #[.slice A' m c', .slice A2' m2 c2', .int .i64 S]; rw [size_alloc] at this; exact this)
  have HP := Lib.hid (show Blk W1 w.heap.size 32 #[.slice A m c, .slice A2 m2 c2, .int .i64 S] from by rw [hW1]; exact (Blk.new _ _ _).alloc _)
  have HB1 := Lib.hid hb1
  have HR : Hid (∀ W, Below W1.heap.size W1 W → IRow W B A m c o ∧ IRow W B A2 m2 c2 sl ∧ IRow W B A' m c' o ∧ IRow W B A2' m2 c2' sl) := Lib.hid fun W hb => by
    have hbb := (hb1.trans (hb.mono hb1.size)).mono hB
    exact ⟨h1.below hbb, h2.below hbb, h3.below hbb, h4.below hbb⟩
  have HKC : Hid (∀ W, Below W1.heap.size W1 W → Blk W w.heap.size 32 #[.slice A m c, .slice A2 m2 c2, .int .i64 S] ∧ Blk W (w.heap.size + 1) 32 #[.slice A' m c', .slice A2' m2 c2', .int .i64 S]) := Lib.hid fun W hb => ⟨HP.out.later hb, HQ.out.later hb⟩
  clear h1 h2 h3 h4 hb1 hB
  have r0 := HP.out.cell 0 rfl
  have r1 := HP.out.cell 1 rfl
  have r2 := HP.out.cell 2 rfl
  have q0 := HQ.out.cell 0 rfl
  have q1 := HQ.out.cell 1 rfl
  have q2 := HQ.out.cell 2 rfl
  unfold planV
  go_enter Try.func11, Try.ntmps11
  go_upto_region 1 with fail
  rw [← hW1]
  clear hW1
  go_wp2_with fail
  clear r0 r1 r2 q0 q1 q2
  go_loopw [5] (fun t wr => ∃ k : Nat, k ≤ m ∧ t = .int .i64 k ∧ Hid (Below W1.heap.size W1 wr)) (fun t _ => m - (intOf t).toNat)
  case atStart => exact ⟨0, Nat.zero_le _, rfl, Lib.hid (Below.refl _ _)⟩
  case round =>
    obtain ⟨k, hk, rfl, hbr⟩ := hrel
    obtain ⟨hp, hq⟩ := HKC.out _ hbr.out
    obtain ⟨g1, g2, g3, g4⟩ := HR.out _ hbr.out
    have r0 := hp.cell 0 rfl
    have r1 := hp.cell 1 rfl
    have r2 := hp.cell 2 rfl
    have q0 := hq.cell 0 rfl
    have q1 := hq.cell 1 rfl
    have q2 := hq.cell 2 rfl
    clear hp hq g2 g4
    by_cases hkl : k < m
    · have hkI : (k : Int) < (m : Int) := by omega
      obtain ⟨b, off, rfl, hlb, oc⟩ := g1.at_ hkl
      obtain ⟨b', off', rfl, hlb', oc'⟩ := g3.at_ hkl
      obtain ⟨x, hx⟩ : ∃ x, x = o.getD k 0 := ⟨_, rfl⟩
      rw [← hx] at oc oc'
      clear hx g1 g3 hlb hlb'
      go_wp2_with fail
      go_quiet (fail)
      go_wp2
      go_roundw
      case rel => exact ⟨k + 1, by omega, by go_num, Lib.hid (below_drewN hbr.out)⟩
      case measure => simp [intOf]; omega
    · obtain rfl : k = m := by omega
      clear g1 g3
      go_wp2_with fail
      clear r0 r1 r2 q0 q1 q2
      go_loopw [6] (fun t wr => ∃ k : Nat, k ≤ m2 ∧ t = .int .i64 k ∧ Hid (Below W1.heap.size W1 wr)) (fun t _ => m2 - (intOf t).toNat)
      case atStart => exact ⟨0, Nat.zero_le _, rfl, hbr⟩
      case round =>
        obtain ⟨j, hj, rfl, hbr2⟩ := hrel
        obtain ⟨hp, hq⟩ := HKC.out _ hbr2.out
        obtain ⟨g1, g2, g3, g4⟩ := HR.out _ hbr2.out
        have r0 := hp.cell 0 rfl
        have r1 := hp.cell 1 rfl
        have r2 := hp.cell 2 rfl
        have q0 := hq.cell 0 rfl
        have q1 := hq.cell 1 rfl
        have q2 := hq.cell 2 rfl
        clear hp hq g1 g3
        by_cases hjl : j < m2
        · have hjI : (j : Int) < (m2 : Int) := by omega
          obtain ⟨b, off, rfl, hlb, oc⟩ := g2.at_ hjl
          obtain ⟨b', off', rfl, hlb', oc'⟩ := g4.at_ hjl
          obtain ⟨x, hx⟩ : ∃ x, x = sl.getD j 0 := ⟨_, rfl⟩
          rw [← hx] at oc oc'
          clear hx g2 g4 hlb hlb'
          go_wp2_with fail
          go_quiet (fail)
          go_wp2
          go_roundw
          case rel => exact ⟨j + 1, by omega, by go_num, Lib.hid (below_drewN hbr2.out)⟩
          case measure => simp [intOf]; omega
        · obtain rfl : j = m2 := by omega
          clear g2 g4
          have HD : Hid (Below w.heap.size w wr) := Lib.hid (HB1.out.trans (hbr2.out.mono HB1.out.size))
          go_wp2_with fail
          go_ret
          exact ⟨rfl, HD.out⟩
theorem plan_same {f : FlatM} {n : Nat} {out out' : List Nat} {xs xs' : List Int} {S S' : Nat} (hG : (gOf f).length = n) (h : IsPlan f n out xs S) (h' : RPlan f n out' xs' S') : out' = out ∧ xs' = xs ∧ S' = S := by
  have e : out' = out := IsLst.one h'.lst h.lst (h'.lst.full (by rw [hG]; exact h'.len)) (h.lst.full (by rw [hG]; exact h.len))
  subst e
  obtain ⟨sls, hs, hlo, hoi⟩ := h.slots
  obtain ⟨sls', hrp⟩ := h'.slots
  have hu : ∀ k, k < n → sls.getD k 0 = sls'.getD k 0 := fun k hk => hlo.greedy.uniq (b := fun k => sls'.getD k 0) ⟨hrp.free, hrp.least⟩ (k + 1) k (by omega) hk
  refine ⟨rfl, ?_, ?_⟩
  · apply List.ext_getElem?
    intro v
    by_cases hv : v < n
    · obtain ⟨k, hk, _, hkv⟩ := h.once.plc hv
      have e1 := hoi.2 k hk v hkv
      have e2 := hrp.out.2 k hk v hkv
      rw [← hu k hk, ← e1] at e2
      have l1 : v < xs.length := by rw [hoi.1]; exact hv
      have l2 : v < xs'.length := by rw [hrp.out.1]; exact hv
      simpa [l1, l2] using e2
    · rw [List.getElem?_eq_none (by rw [hrp.out.1]; omega), List.getElem?_eq_none (by rw [hoi.1]; omega)]
  · rw [hrp.top, hlo.top]
    exact (top_congr (f := fun k => sls.getD k 0 + 1) (g := fun k => sls'.getD k 0 + 1) n fun k hk => by simp only [hu k hk]).symm

end Go.Proofs.Ytioebjjnadgdjaa

namespace Go.Proofs.Ytioebjjnadgdjaa
set_option linter.unusedVariables false
set_option linter.unusedSimpArgs false
set_option maxRecDepth 100000
open Go.RowKit Gr

set_option maxHeartbeats 4000000 in
theorem planOf_walk (v : FlatV) (f : FlatM) (w : World) (h : FlatIs w w.heap.size v f) : Calls Try.prog 3 #[flatV v] w (LawPost w) := by
  have HL0 := Lib.hid (LwSt.start h)
  have HSM := Lib.hid (small14_t v f w.heap.size _ HL0.out.is HL0.out.hB)
  clear h
  unfold flatV sl3 fvs at HSM
  unfold flatV sl3
  go_enter Try.func3, Try.ntmps3
  go_wp2_with fail
  refine HSM.out.mono ?_
  rintro e w1 ⟨⟨b1, rfl, hs1⟩, hb1⟩
  have HL1 := Lib.hid (HL0.out.later hb1)
  clear hb1
  cases b1 with
  | false =>
    go_wp2
    go_ret
    exact ⟨rfl, HL1.out.old⟩
  | true =>
    obtain ⟨hs, _⟩ := hs1 rfl
    have hsm : v.names.2.1 ≤ 200 := by rw [← HL1.out.is.names.1]; exact hs.names
    have HSF := Lib.hid hs
    clear hs
    obtain ⟨f0, f1, f2, f3, f4, f5, f6, f7⟩ := HL1.out.blk.flat
    cases hg : goodB f with
    | false =>
      have HOF := Lib.hid (of_no v f w.heap.size w1 HL1.out.is HL1.out.hB (by omega) hg)
      have HRC := Lib.hid (fun W (q : Below w1.heap.size w1 W) => rof_no v f w.heap.size W (HL1.out.later q).is (HL1.out.later q).hB (by omega) hg)
      unfold flatV sl3 at HOF HRC
      unfold planV at HRC
      clear hg
      go_wp2_with fail
      refine HOF.out.mono ?_
      rintro e w2 ⟨rfl, hb2⟩
      have HB2 := Lib.hid hb2
      have HL2 := Lib.hid (HL1.out.later hb2)
      clear hb2 f0 f1 f2 f3 f4 f5 f6 f7
      unfold planV
      obtain ⟨W3, hW3⟩ : ∃ W3, W3 = w2.alloc (.cells #[.slice none 0 0, .slice none 0 0, .int .i64 0] 32) := ⟨_, rfl⟩
      have HB3 : Hid (Below w2.heap.size w2 W3) := Lib.hid (by rw [hW3]; exact (Below.refl _ _).alloc (Nat.le_refl _) _)
      have HPB3 := Lib.hid (show Blk W3 w2.heap.size 32 #[.slice none 0 0, .slice none 0 0, .int .i64 0] from by rw [hW3]; exact Blk.new _ _ _)
      have HL3 := Lib.hid (HL2.out.later HB3.out)
      have HRR := Lib.hid (HRC.out W3 (HB2.out.trans (HB3.out.mono HB2.out.size)))
      obtain ⟨f0, f1, f2, f3, f4, f5, f6, f7⟩ := HL3.out.blk.flat
      go_upto_region 4 with fail
      rw [← hW3]
      clear hW3
      go_wp2_with fail
      refine HRR.out.mono ?_
      rintro e w4 ⟨rfl, hb4⟩
      have HL4 := Lib.hid (HL3.out.later hb4)
      have HPB4 := Lib.hid (HPB3.out.later hb4)
      clear hb4 f0 f1 f2 f3 f4 f5 f6 f7
      have HL5 := Lib.hid (HL4.out.later ((Below.refl w4.heap.size w4).alloc (Nat.le_refl _) (.cells #[.slice none 0 0, .slice none 0 0, .int .i64 0] 32)))
      obtain ⟨W5, hW5⟩ : ∃ W5, W5 = w4.alloc (.cells #[.slice none 0 0, .slice none 0 0, .int .i64 0] 32) := ⟨_, rfl⟩
      have HPC := Lib.hid (show Blk W5 w4.heap.size 32 #[.slice none 0 0, .slice none 0 0, .int .i64 0] from by rw [hW5]; exact Blk.new _ _ _)
      have HPB5 := Lib.hid (show Blk W5 w2.heap.size 32 #[.slice none 0 0, .slice none 0 0, .int .i64 0] from by rw [hW5]; exact HPB4.out.alloc _)
      rw [← hW5] at HL5
      have HSC := Lib.hid (same_t none none none none 0 0 0 0 0 0 W5.heap.size 0 [] [] W5 (IRow.nil _ _) (IRow.nil _ _) (IRow.nil _ _) (IRow.nil _ _) (Nat.le_refl _))
      unfold planV at HSC
      have p0 := HPB5.out.cell 0 rfl
      have p1 := HPB5.out.cell 1 rfl
      have p2 := HPB5.out.cell 2 rfl
      have q0 := HPC.out.cell 0 rfl
      have q1 := HPC.out.cell 1 rfl
      have q2 := HPC.out.cell 2 rfl
      go_upto_region 5 with fail
      rw [← hW5]
      clear hW5
      go_wp2_with (first
        | (go_at_call 11; (with_reducible refine HSC.out.mono ?_); rintro e w6 ⟨rfl, hb6⟩; have HL6 := Lib.hid (HL5.out.later hb6); clear hb6)
        | (go_at_call 12; (with_reducible refine (awake_t _).mono ?_); rintro e w7 ⟨rfl, hb7⟩; have HL7 := Lib.hid (HL6.out.later hb7); clear hb7))
      go_ret
      exact ⟨rfl, HL7.out.old⟩
    | true =>
      have HGD := Lib.hid hg
      have HGL : Hid ((gOf f).length = v.names.2.1) := Lib.hid (by unfold gOf; rw [gTo_len]; exact HL1.out.is.names.1)
      have HOF := Lib.hid (of_t v f w.heap.size w1 HL1.out.is HL1.out.hB hg HSF.out)
      have HRC := Lib.hid (fun W (q : Below w1.heap.size w1 W) => rof_t v f w.heap.size W (HL1.out.later q).is (HL1.out.later q).hB hg HSF.out)
      unfold flatV sl3 at HOF HRC
      clear hg
      go_wp2_with fail
      refine HOF.out.mono ?_
      rintro e w2 ⟨ho | ho, hb2⟩
      rotate_left
      · obtain ⟨rfl, hno⟩ := ho
        have HNO := Lib.hid hno
        have HB2 := Lib.hid hb2
        have HL2 := Lib.hid (HL1.out.later hb2)
        clear hb2 hno f0 f1 f2 f3 f4 f5 f6 f7
        unfold planV
        obtain ⟨W3, hW3⟩ : ∃ W3, W3 = w2.alloc (.cells #[.slice none 0 0, .slice none 0 0, .int .i64 0] 32) := ⟨_, rfl⟩
        have HB3 : Hid (Below w2.heap.size w2 W3) := Lib.hid (by rw [hW3]; exact (Below.refl _ _).alloc (Nat.le_refl _) _)
        have HPB3 := Lib.hid (show Blk W3 w2.heap.size 32 #[.slice none 0 0, .slice none 0 0, .int .i64 0] from by rw [hW3]; exact Blk.new _ _ _)
        have HL3 := Lib.hid (HL2.out.later HB3.out)
        have HRR := Lib.hid (HRC.out W3 (HB2.out.trans (HB3.out.mono HB2.out.size)))
        obtain ⟨f0, f1, f2, f3, f4, f5, f6, f7⟩ := HL3.out.blk.flat
        go_upto_region 4 with fail
        rw [← hW3]
        clear hW3
        go_wp2_with fail
        refine HRR.out.mono ?_
        rintro e w4 ⟨hr | hr, hb4⟩
        · exfalso
          obtain ⟨_, _, out', _, _, _, _, _, _, hp⟩ := hr
          obtain ⟨out, k1, k2, k3⟩ := HNO.out
          have := IsLst.one hp.lst k1 (hp.lst.full (by rw [HGL.out]; exact hp.len)) k3
          rw [← this, hp.len] at k2
          omega
        · obtain ⟨rfl, _⟩ := hr
          unfold planV
          have HL4 := Lib.hid (HL3.out.later hb4)
          have HPB4 := Lib.hid (HPB3.out.later hb4)
          clear hb4 f0 f1 f2 f3 f4 f5 f6 f7
          have HL5 := Lib.hid (HL4.out.later ((Below.refl w4.heap.size w4).alloc (Nat.le_refl _) (.cells #[.slice none 0 0, .slice none 0 0, .int .i64 0] 32)))
          obtain ⟨W5, hW5⟩ : ∃ W5, W5 = w4.alloc (.cells #[.slice none 0 0, .slice none 0 0, .int .i64 0] 32) := ⟨_, rfl⟩
          have HPC := Lib.hid (show Blk W5 w4.heap.size 32 #[.slice none 0 0, .slice none 0 0, .int .i64 0] from by rw [hW5]; exact Blk.new _ _ _)
          have HPB5 := Lib.hid (show Blk W5 w2.heap.size 32 #[.slice none 0 0, .slice none 0 0, .int .i64 0] from by rw [hW5]; exact HPB4.out.alloc _)
          rw [← hW5] at HL5
          have HSC := Lib.hid (same_t none none none none 0 0 0 0 0 0 W5.heap.size 0 [] [] W5 (IRow.nil _ _) (IRow.nil _ _) (IRow.nil _ _) (IRow.nil _ _) (Nat.le_refl _))
          unfold planV at HSC
          have p0 := HPB5.out.cell 0 rfl
          have p1 := HPB5.out.cell 1 rfl
          have p2 := HPB5.out.cell 2 rfl
          have q0 := HPC.out.cell 0 rfl
          have q1 := HPC.out.cell 1 rfl
          have q2 := HPC.out.cell 2 rfl
          go_upto_region 5 with fail
          rw [← hW5]
          clear hW5
          go_wp2_with (first
            | (go_at_call 11; (with_reducible refine HSC.out.mono ?_); rintro e w6 ⟨rfl, hb6⟩; have HL6 := Lib.hid (HL5.out.later hb6); clear hb6)
            | (go_at_call 12; (with_reducible refine (awake_t _).mono ?_); rintro e w7 ⟨rfl, hb7⟩; have HL7 := Lib.hid (HL6.out.later hb7); clear hb7))
          go_ret
          exact ⟨rfl, HL7.out.old⟩
      · obtain ⟨A, c, g, out, xs, S, rfl, hown, ⟨hmem, hgl⟩, hpl⟩ := ho
        have HB2 := Lib.hid hb2
        have HL2 := Lib.hid (HL1.out.later hb2)
        have HOW := Lib.hid hown
        have HME := Lib.hid hmem
        have HPL := Lib.hid hpl
        have HXL : Hid (xs.length = v.names.2.1) := Lib.hid (by obtain ⟨sls, hs, _, h2⟩ := hpl.slots; exact h2.1)
        clear hb2 f0 f1 f2 f3 f4 f5 f6 f7 hown hmem hgl hpl
        unfold planV
        obtain ⟨W3, hW3⟩ : ∃ W3, W3 = w2.alloc (.cells #[.slice A v.names.2.1 c, .slice (some ⟨g, 0, none⟩) v.names.2.1 v.names.2.1, .int .i64 ((S : Nat) : Int)] 32) := ⟨_, rfl⟩
        have HB3 : Hid (Below w2.heap.size w2 W3) := Lib.hid (by rw [hW3]; exact (Below.refl _ _).alloc (Nat.le_refl _) _)
        have HPB3 := Lib.hid (show Blk W3 w2.heap.size 32 #[.slice A v.names.2.1 c, .slice (some ⟨g, 0, none⟩) v.names.2.1 v.names.2.1, .int .i64 ((S : Nat) : Int)] from by rw [hW3]; exact Blk.new _ _ _)
        have HL3 := Lib.hid (HL2.out.later HB3.out)
        have HRR := Lib.hid (HRC.out W3 (HB2.out.trans (HB3.out.mono HB2.out.size)))
        obtain ⟨f0, f1, f2, f3, f4, f5, f6, f7⟩ := HL3.out.blk.flat
        go_upto_region 4 with fail
        rw [← hW3]
        clear hW3
        go_wp2_with fail
        refine HRR.out.mono ?_
        rintro e w4 ⟨hr | hr, hb4⟩
        rotate_left
        · exfalso
          obtain ⟨_, out', k1, k2, k3⟩ := hr
          have := IsLst.one HPL.out.lst k1 (HPL.out.lst.full (by rw [HGL.out]; exact HPL.out.len)) k3
          rw [← this, HPL.out.len] at k2
          omega
        · obtain ⟨A', c', out', g', xs', S', rfl, hrow', hmem', hpl'⟩ := hr
          obtain ⟨rfl, rfl, rfl⟩ := plan_same HGL.out HPL.out hpl'
          unfold planV
          have HL4 := Lib.hid (HL3.out.later hb4)
          have HPB4 := Lib.hid (HPB3.out.later hb4)
          have HB24 : Hid (Below w2.heap.size w2 w4) := Lib.hid (HB3.out.trans (hb4.mono HB3.out.size))
          have HRO' := Lib.hid hrow'
          have HME' := Lib.hid hmem'
          clear hb4 hrow' hmem' hpl' f0 f1 f2 f3 f4 f5 f6 f7
          obtain ⟨W5, hW5⟩ : ∃ W5, W5 = w4.alloc (.cells #[.slice A' v.names.2.1 c', .slice (some ⟨g', 0, none⟩) v.names.2.1 v.names.2.1, .int .i64 ((S' : Nat) : Int)] 32) := ⟨_, rfl⟩
          have HB5 : Hid (Below w4.heap.size w4 W5) := Lib.hid (by rw [hW5]; exact (Below.refl _ _).alloc (Nat.le_refl _) _)
          have HL5 := Lib.hid (HL4.out.later HB5.out)
          have HB25 : Hid (Below w2.heap.size w2 W5) := Lib.hid (HB24.out.trans (HB5.out.mono HB24.out.size))
          have HPC := Lib.hid (show Blk W5 w4.heap.size 32 #[.slice A' v.names.2.1 c', .slice (some ⟨g', 0, none⟩) v.names.2.1 v.names.2.1, .int .i64 ((S' : Nat) : Int)] from by rw [hW5]; exact Blk.new _ _ _)
          have HPB5 := Lib.hid (HPB4.out.later HB5.out)
          have hm5 := HME.out.below HB25.out HME.out.lt
          have hm5' := HME'.out.below HB5.out HME'.out.lt
          have hr1 := own_row (HOW.out.below HB25.out (Nat.le_refl _))
          have hr2 := hm5.irow (B := W5.heap.size) (c := v.names.2.1) hm5.lt (by rw [HXL.out]; exact Nat.le_refl _) (by unfold maxLen; omega)
          have hr3 := (HRO'.out.below HB5.out).more HB5.out.size
          have hr4 := hm5'.irow (B := W5.heap.size) (c := v.names.2.1) hm5'.lt (by rw [HXL.out]; exact Nat.le_refl _) (by unfold maxLen; omega)
          rw [HXL.out] at hr2 hr4
          have HSC := Lib.hid (same_t A (some ⟨g, 0, none⟩) A' (some ⟨g', 0, none⟩) v.names.2.1 c v.names.2.1 v.names.2.1 c' v.names.2.1 W5.heap.size ((S' : Nat) : Int) _ _ W5 hr1 hr2 hr3 hr4 (Nat.le_refl _))
          clear hm5 hm5' hr1 hr2 hr3 hr4
          unfold planV at HSC
          have p0 := HPB5.out.cell 0 rfl
          have p1 := HPB5.out.cell 1 rfl
          have p2 := HPB5.out.cell 2 rfl
          have q0 := HPC.out.cell 0 rfl
          have q1 := HPC.out.cell 1 rfl
          have q2 := HPC.out.cell 2 rfl
          go_upto_region 5 with fail
          rw [← hW5]
          clear hW5
          go_wp2_with (first
            | (go_at_call 11; (with_reducible refine HSC.out.mono ?_); rintro e w6 ⟨rfl, hb6⟩; have HL6 := Lib.hid (HL5.out.later hb6); clear hb6)
            | (go_at_call 12; (with_reducible refine (awake_t _).mono ?_); rintro e w7 ⟨rfl, hb7⟩; have HL7 := Lib.hid (HL6.out.later hb7); clear hb7))
          go_ret
          exact ⟨rfl, HL7.out.old⟩

end Go.Proofs.Ytioebjjnadgdjaa
