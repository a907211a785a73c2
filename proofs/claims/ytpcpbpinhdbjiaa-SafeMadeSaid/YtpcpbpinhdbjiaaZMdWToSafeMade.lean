/- What SafeMade tells of a flat program that lies in memory. No condition. · A flat program that came in. No condition. · Proved: for any flat program the law SafeMade returns true and changes nothing that it was handed. No condition. -/
import Derived.Test.YtpcpbpinhdbjiaaZMdI
import Derived.Test.YtpcpbpinhdbjiaaZMdRToMdT
import Derived.Test.YtpcpbpinhdbjiaaZSfNToSfQ
import Derived.Test.YtpcpbpinhdbjiaaZSfJToSfL
import Derived.Test.YtpcpbpinhdbjiaaZRoAToRpR
import Derived.Test.YtpcpbpinhdbjiaaZFlYToFlZ
import Derived.Deep.DeepCutAuto
import Derived.ProofKit
import Derived.OpenShut
import Derived.ShutString
import Derived.ChangeOld
import Derived.Lib.SmallJoins
import Derived.SizedLaws
namespace Go.Proofs.Ytpcpbpinhdbjiaa
set_option linter.unusedVariables false
set_option linter.unusedSimpArgs false
set_option maxRecDepth 100000
open Go.RowKit Gr

section
variable {w : World} {B B' b o : Nat}
theorem SsAt.more {α : Type} {sz : Nat} {R : World → Nat → Nat → Nat → α → Prop} {x : List α} (h : SsAt sz R w B b o x) (hB : B ≤ B') (hR : ∀ b o x, R w B b o x → R w B' b o x) : SsAt sz R w B' b o x := by
  obtain ⟨A, L, C, h1, h2⟩ := h; exact ⟨A, L, C, h1, h2.more hB hR⟩
theorem FEqAt.more {v : FEqM} (h : FEqAt w B b o v) (hB : B ≤ B') : FEqAt w B' b o v := ⟨h.var, h.op, h.args.more hB, h.k, h.lit.more hB, h.guard⟩
theorem MemAt.more {v : MemM} (h : MemAt w B b o v) (hB : B ≤ B') : MemAt w B' b o v := ⟨h.init.more hB, h.next, h.guard, h.resets.more hB⟩
theorem SlopeAt.more {v : SlopeM} (h : SlopeAt w B b o v) : SlopeAt w B' b o v := ⟨h.guard, h.var⟩
theorem ContAt.more {v : ContM} (h : ContAt w B b o v) (hB : B ≤ B') : ContAt w B' b o v := ⟨h.init.more hB, h.var, h.guard, h.resets.more hB, h.slopes.more hB fun _ _ _ q => q.more⟩
theorem COpAt.more {v : COpM} (h : COpAt w B b o v) (hB : B ≤ B') : COpAt w B' b o v := ⟨h.op, h.args.more hB⟩
theorem CrossAt.more {v : CrossM} (h : CrossAt w B b o v) (hB : B ≤ B') : CrossAt w B' b o v := ⟨h.guard, h.ops.more hB fun _ _ _ q => q.more hB⟩
theorem FlatIs.more {v : FlatV} {f : FlatM} (h : FlatIs w B v f) (hB : B ≤ B') : FlatIs w B' v f :=
  ⟨h.ins.more hB fun _ _ _ q => q, h.names.more hB fun _ _ _ q => q, h.outs.more hB, h.eqs.more hB fun _ _ _ q => q.more hB, h.mems.more hB fun _ _ _ q => q.more hB, h.conts.more hB fun _ _ _ q => q.more hB, h.cross.more hB fun _ _ _ q => q.more hB, h.again.more hB⟩
end
/-- what the law tells -/
def LawPost (w : World) (e : Ending) (w' : World) : Prop := e = .returned (.bool true) ∧ Below w.heap.size w w'
/-- what is known behind small: the world, the program in it -/
structure LwSt (w : World) (v : FlatV) (f : FlatM) (W : World) : Prop where
  is : FlatIs W w.heap.size v f
  blk : Blk W w.heap.size 29 (fvs v)
  old : Below w.heap.size w W
theorem LwSt.later {w W W' : World} {v : FlatV} {f : FlatM} (h : LwSt w v f W) (hb : Below W.heap.size W W') : LwSt w v f W' :=
  ⟨h.is.below (hb.mono h.old.size), h.blk.later hb, h.old.trans (hb.mono h.old.size)⟩
theorem LwSt.hB {w W : World} {v : FlatV} {f : FlatM} (h : LwSt w v f W) : w.heap.size ≤ W.heap.size := h.old.size
theorem LwSt.start {w : World} {v : FlatV} {f : FlatM} (h : FlatIs w w.heap.size v f) : LwSt w v f (w.alloc (.cells (fvs v) 29)) :=
  ⟨h.below ((Below.refl _ _).alloc (Nat.le_refl _) _), Blk.new _ _ _, (Below.refl _ _).alloc (Nat.le_refl _) _⟩

set_option maxHeartbeats 8000000 in
theorem safeMade_walk (v : FlatV) (f : FlatM) (w : World) (h : FlatIs w w.heap.size v f) : Calls Try.prog 3 #[flatV v] w (LawPost w) := by
  have hmE := h.eqs.len_le
  have HL0 := Lib.hid (LwSt.start h)
  have HSM := Lib.hid (small12_t v f w.heap.size _ HL0.out.is HL0.out.hB)
  clear h
  unfold maxLen at hmE
  unfold flatV sl3 fvs at HSM
  unfold flatV sl3
  go_enter Try.func3, Try.ntmps3
  go_wp2_with fail
  refine HSM.out.mono ?_
  rintro e w1 ⟨⟨b1, rfl, hs1⟩, hb1⟩
  have HL1 := Lib.hid (HL0.out.later hb1)
  have HS1 := Lib.hid hs1
  clear hb1 hs1
  obtain ⟨f0, f1, f2, f3, f4, f5, f6, f7⟩ := HL1.out.blk.flat
  cases b1 with
  | false =>
    go_wp2
    go_ret
    exact ⟨rfl, HL1.out.old⟩
  | true =>
    have HSF := Lib.hid (HS1.out rfl)
    clear HS1
    have hsm : v.names.2.1 ≤ 200 := by rw [← HL1.out.is.names.1]; exact HSF.out.names
    by_cases t25 : v.eqs.2.1 ≤ 25
    rotate_left
    · have t26 : (25 : Int) < (v.eqs.2.1 : Int) := by omega
      go_wp2
      go_ret
      exact ⟨rfl, HL1.out.old⟩
    have t26 : (v.eqs.2.1 : Int) ≤ 25 := by omega
    cases hg : goodB f with
    | false =>
      have HOF := Lib.hid (rof_no v f w.heap.size w1 HL1.out.is HL1.out.hB (by omega) hg)
      unfold flatV sl3 at HOF
      clear hg
      go_wp2_with fail
      refine HOF.out.mono ?_
      rintro e w2 ⟨rfl, hb2⟩
      have HL2 := Lib.hid (HL1.out.later hb2)
      have HL3 := Lib.hid (HL2.out.later ((Below.refl w2.heap.size w2).alloc (Nat.le_refl _) (.cells #[.slice none 0 0, .slice none 0 0, .int .i64 0] 32)))
      clear hb2 f0 f1 f2 f3 f4 f5 f6 f7
      unfold planV
      go_wp2_with (go_at_call 6; refine (awake_t _).mono ?_; rintro e w6 ⟨rfl, hb6⟩)
      go_ret
      exact ⟨rfl, (HL3.out.later hb6).old⟩
    | true =>
      have HGD := Lib.hid hg
      have HOF := Lib.hid (rof_t v f w.heap.size w1 HL1.out.is HL1.out.hB hg HSF.out)
      unfold flatV sl3 at HOF
      clear hg
      go_wp2_with fail
      refine HOF.out.mono ?_
      rintro e w2 ⟨ho | ho, hb2⟩
      rotate_left
      · obtain ⟨rfl, out, hl, hlt, hno⟩ := ho
        have HL2 := Lib.hid (HL1.out.later hb2)
        have HL3 := Lib.hid (HL2.out.later ((Below.refl w2.heap.size w2).alloc (Nat.le_refl _) (.cells #[.slice none 0 0, .slice none 0 0, .int .i64 0] 32)))
        clear hb2 f0 f1 f2 f3 f4 f5 f6 f7 hl hlt hno
        unfold planV
        go_wp2_with (go_at_call 6; refine (awake_t _).mono ?_; rintro e w6 ⟨rfl, hb6⟩)
        go_ret
        exact ⟨rfl, (HL3.out.later hb6).old⟩
      obtain ⟨A, c, out, g, xs, S, rfl, hown, hmem, hpl⟩ := ho
      have HGL : Hid ((gOf f).length = v.names.2.1) := Lib.hid (by unfold gOf; rw [gTo_len]; exact HL1.out.is.names.1)
      have HRP := Lib.hid (rplan_right HGD.out HGL.out hpl)
      have HL2 := Lib.hid (HL1.out.later hb2)
      obtain ⟨W3, hW3⟩ : ∃ W3, W3 = w2.alloc (.cells #[.slice A v.names.2.1 c, .slice (some ⟨g, 0, none⟩) v.names.2.1 v.names.2.1, .int .i64 (S : Nat)] 32) := ⟨_, rfl⟩
      have hb3 : Below w2.heap.size w2 W3 := by rw [hW3]; exact (Below.refl _ _).alloc (Nat.le_refl _) _
      have HP3 := Lib.hid (show Blk W3 w2.heap.size 32 #[.slice A v.names.2.1 c, .slice (some ⟨g, 0, none⟩) v.names.2.1 v.names.2.1, .int .i64 (S : Nat)] from by rw [hW3]; exact Blk.new _ _ _)
      have HL3 := Lib.hid (HL2.out.later hb3)
      have hSn : S ≤ v.names.2.1 := by obtain ⟨sls, hlo⟩ := hpl.slots; exact hlo.le
      have hir : IRow W3 w2.heap.size (some ⟨g, 0, none⟩) v.names.2.1 v.names.2.1 xs := by
        have := (hmem.below hb3 hmem.lt).irow hmem.lt (c := xs.length) (Nat.le_refl _) (by rw [HRP.out.slots.1]; unfold maxLen; omega)
        rw [HRP.out.slots.1] at this
        exact this
      have HCO := Lib.hid (of15_t w2.heap.size v f A (some ⟨g, 0, none⟩) v.names.2.1 c v.names.2.1 v.names.2.1 (S : Nat) xs (ints out) W3 (HL3.out.is.more HL2.out.hB) hir hb3.size (hown.below hb3) HSF.out (by omega) HRP.out)
      have HRC := Lib.hid (made_right HRP.out HL1.out.is.names.1 HSF.out (by omega))
      obtain ⟨C, hC⟩ : ∃ C, C = madeC f (ints out) xs (S : Nat) := ⟨_, rfl⟩
      rw [← hC] at HCO HRC
      unfold flatV sl3 at HCO
      unfold planV
      clear hC hb3 hir hown hmem hpl hb2 f0 f1 f2 f3 f4 f5 f6 f7
      go_upto_region 4 with fail
      rw [← hW3]
      clear hW3
      obtain ⟨f0, f1, f2, f3, f4, f5, f6, f7⟩ := HL3.out.blk.flat
      have p0 := HP3.out.cell 0 rfl
      have p1 := HP3.out.cell 1 rfl
      have p2 := HP3.out.cell 2 rfl
      have hq1 : w2.heap.size < W3.heap.size := HP3.out.lt
      have hq2 : w.heap.size < W3.heap.size := HL3.out.blk.lt
      go_wp2_with fail
      refine HCO.out.mono ?_
      rintro e w4 ⟨cv, rfl, hci, hb4⟩
      have HL4 := Lib.hid (HL3.out.later hb4)
      obtain ⟨W5, hW5⟩ : ∃ W5, W5 = w4.alloc (.cells #[.int .i64 C.ins, .int .i64 C.outs, .int .i64 C.slots, .int .i64 C.crosses, .int .i64 C.lines, .slice cv.mems.1 cv.mems.2.1 cv.mems.2.2, .slice cv.conts.1 cv.conts.2.1 cv.conts.2.2, .slice cv.step.1 cv.step.2.1 cv.step.2.2, .slice cv.deriv.1 cv.deriv.2.1 cv.deriv.2.2, .slice cv.cross.1 cv.cross.2.1 cv.cross.2.2] 40) := ⟨_, rfl⟩
      have hb5 : Below w4.heap.size w4 W5 := by rw [hW5]; exact (Below.refl _ _).alloc (Nat.le_refl _) _
      have HK5 := Lib.hid (show Blk W5 w4.heap.size 40 (cvs C cv) from by rw [hW5]; exact Blk.new _ _ _)
      have HL5 := Lib.hid (HL4.out.later hb5)
      have HRT := Lib.hid (sright_t w4.heap.size C cv W5 (hci.below hb5) hb5.size)
      unfold codeV at HRT ⊢
      clear hb5 hci hb4 f0 f1 f2 f3 f4 f5 f6 f7 p0 p1 p2 HP3 HCO
      go_upto_region 7 with fail
      rw [← hW5]
      clear hW5
      obtain ⟨n0, n1, n2, n3, n4, n5, n6, n7, n8, n9⟩ := HK5.out.code
      have hq5 : w4.heap.size < W5.heap.size := HK5.out.lt
      go_wp2_with fail
      refine HRT.out.mono ?_
      rintro e w5 ⟨b5, rfl, hr5, hb5⟩
      obtain rfl : b5 = true := hr5.2 HRC.out
      have HL6 := Lib.hid (HL5.out.later hb5)
      clear hr5 hb5 n0 n1 n2 n3 n4 n5 n6 n7 n8 n9
      go_wp2_with (go_at_call 6; refine (awake_t _).mono ?_; rintro e w6 ⟨rfl, hb6⟩)
      go_ret
      exact ⟨rfl, (HL6.out.later hb6).old⟩

end Go.Proofs.Ytpcpbpinhdbjiaa

namespace Go.Proofs.Ytpcpbpinhdbjiaa
set_option linter.unusedVariables false
set_option linter.unusedSimpArgs false
set_option maxRecDepth 100000
open Go.ChangeShapes Go.WideShapes Go.ChangeAt Go.RowKit Go.Joins

theorem flat_of_trod {H : Type} {enc : TypeId × Value → H} {r : Reach} {b0 : Nat} {W : World} {v : Value} {d : DataW H} {p : List MemPlace} {base : Nat}
    (hv : Value.okWide Try.prog W r b0 29 v) (h : DataW.Trod enc Try.prog W base (fun _ => true) true 29 v d p) (hz : ∀ n ∈ d.weights Try.prog 29, n ≤ reachBytes) : ∃ fv f, v = flatV fv ∧ FlatIs W W.heap.size fv f := by
  obtain ⟨cs, rfl, _⟩ := okWide_struct Try.underlying29 hv
  obtain ⟨fuel, hf⟩ := h
  have ht : Tr W 29 cs.toList := ⟨H, enc, base, _, _, fuel, _, by simpa [Value.cells] using hf, hz⟩
  obtain ⟨fv, f, e, hi⟩ := flat_came ht
  exact ⟨fv, f, by simpa using e, hi⟩

end Go.Proofs.Ytpcpbpinhdbjiaa

namespace Go.Proofs.Ytpcpbpinhdbjiaa
open Go.ChangeShapes Go.WideShapes Go.ChangeAt Go.RowKit
set_option linter.unusedVariables false

set_option maxRecDepth 100000 in
theorem safeMade_lifted (os : Os) (started : os.Started) (H : Type) (enc : TypeId × Value → H) :
    ReturnsInHanded {} Try.checked os 3 .any (Rows.safeMadeSpec.pre6 enc Try.prog Try.f3 Rows.safeMadeRow.domain false) (Rows.safeMadeSpec.post enc Try.prog Try.f3 false true false false) := by
  refine returnsInHanded_of_change_sized (C := Try.checked) Try.ownKnob started (by kernel_rfl) Try.func3
    (ChangeSpec.witness6 (enc := enc) (C := Try.checked) false ⟨#[], #[.agg #[.slice none 0 0, .slice none 0 0, .slice none 0 0, .slice none 0 0, .slice none 0 0, .slice none 0 0, .slice none 0 0, .slice none 0 0]], []⟩ 8 (by kernel_rfl) (by kernel_rfl) (by kernel_rfl) (by kernel_rfl)) ?_
  intro W base args ds gs before hval0 hW hcnd hz _
  have hval : ∀ (j : Nat) t v, Try.f3.params[j]? = some t → args[j]? = some v → Value.okWide Try.prog W .any base t v := hval0
  have hW' := hW
  obtain ⟨p, q, hA0, hV, rfl, hfz, hnd⟩ := hW
  have hA : DataW.TrodAll enc Try.prog W 0 (fun _ => true) true Try.f3.params.toList args.toList ds p := hA0
  rw [Try.params3] at hA hval
  obtain ⟨v0, vs0, d0, ds0, p0, q0, hargs, rfl, rfl, h0, r0⟩ := trodAll_cons hA
  obtain ⟨rfl, rfl, rfl⟩ := trodAll_nil r0
  obtain rfl : args = #[v0] := by cases args; simp_all
  obtain ⟨rfl, rfl⟩ := trodVars_none hV
  have k0 := h0
  have lt0 : ∀ x ∈ p0, x.block < W.heap.size := by obtain ⟨m, hm⟩ := k0; exact DataW.trod_lt m _ _ _ hm
  obtain ⟨fv, f, rfl, hfi⟩ := flat_of_trod (hval 0 29 v0 rfl rfl) h0 (fun n hn => of_decide_eq_true (List.all_eq_true.1 hz n (DataW.weights_mem_each (j := 0) (t := 29) (d := d0) rfl rfl n hn)))
  clear hA0 hval0
  refine (safeMade_walk fv f W hfi).mono fun e W' ⟨he, bel⟩ => ?_
  subst he
  exact ⟨_, rfl, _, _, _, [], _, [], hW', trodAll_mk1 (shut_bool Try.underlying4 _), (trodAll_cons_mk (Below.trod Try.laidOut (by kernel_rfl) (of_decide_eq_true (by kernel_rfl)) k0 bel lt0) trodAll_mk0), rfl, bel.frame _, fun h => by cases h⟩

theorem safeMade_over : Rows.safeMadeRow.holds Try.pinned (OpenSpec.ofChange Rows.safeMadeSpec) :=
  OpenClaim.holds_of_wide 3 Try.f3 rfl rfl rfl rfl rfl rfl rfl ⟨rfl, rfl, rfl, rfl, rfl⟩ rfl rfl rfl rfl rfl (by kernel_rfl) Try.func3 (by kernel_rfl)
    (of_decide_eq_true (by kernel_rfl)) (by unfold Func.isWrapper; first | (rw [if_pos (by decide +kernel)]; kernel_rfl) | (rw [if_neg (by decide +kernel)]; exact ⟨rfl, rfl⟩))
    (fun os started H enc _ => safeMade_lifted os started H enc)

theorem safeMade_holds : Rows.SafeMadeSaid := safeMade_over
#print axioms safeMade_holds
end Go.Proofs.Ytpcpbpinhdbjiaa
