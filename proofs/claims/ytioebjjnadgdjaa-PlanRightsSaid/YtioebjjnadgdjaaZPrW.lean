/- What PlanRights tells of a flat program and a plan that lie in memory. No condition. -/
import Derived.Test.YtioebjjnadgdjaaZPfW
import Derived.Test.YtioebjjnadgdjaaZRfB
import Derived.Deep.DeepCutAuto
import Derived.Deep.RegionHeld3
namespace Go.Proofs.Ytioebjjnadgdjaa
set_option linter.unusedVariables false
set_option linter.unusedSimpArgs false
set_option maxRecDepth 100000
open Go.ChangeShapes Go.WideShapes Go.ChangeAt Go.RowKit Go.Joins Gr

theorem TellsIf.as {P : Prop} {w w' : World} {e : Ending} {b : Bool} (h : TellsIf P w e w') (hb : b = true ↔ P) : e = .returned (.bool b) ∧ Below w.heap.size w w' := by
  obtain ⟨⟨b', rfl, hb'⟩, h2⟩ := h
  exact ⟨by rw [Bool.eq_iff_iff.2 (hb'.trans hb.symm)], h2⟩
/-- a plan that came in -/
theorem plan_of_trod {H : Type} {enc : TypeId × Value → H} {r : Reach} {b0 : Nat} {W : World} {v : Value} {d : DataW H} {p : List MemPlace} {base : Nat}
    (hv : Value.okWide Try.prog W r b0 32 v) (h : DataW.Trod enc Try.prog W base (fun _ => true) true 32 v d p) :
    ∃ A m c A2 m2 c2 S o sl, v = planV A m c A2 m2 c2 S ∧ IRow W W.heap.size A m c o ∧ IRow W W.heap.size A2 m2 c2 sl ∧ -9223372036854775808 ≤ S ∧ S ≤ 9223372036854775807 := by
  obtain ⟨cs, rfl, _⟩ := okWide_struct Try.underlying32 hv
  obtain ⟨fuel, hf⟩ := h
  have h : Tr W 32 cs.toList := ⟨H, enc, base, _, _, fuel, _, by simpa [Value.cells] using hf⟩
  have hl : cs.toList.length = 3 := (h.struct Try.underlying32).1.trans (by kernel_rfl)
  obtain ⟨v0, e0, t0⟩ := h.one (e := 23) Try.underlying32 0 _ rfl rfl (by kernel_rfl) (by rw [hl]; decide)
  obtain ⟨v1, e1, t1⟩ := h.one (e := 23) Try.underlying32 1 _ rfl rfl (by kernel_rfl) (by rw [hl]; decide)
  obtain ⟨v2, e2, t2⟩ := h.one (e := 3) Try.underlying32 2 _ rfl rfl (by kernel_rfl) (by rw [hl]; decide)
  obtain ⟨a0, n0, c0, x0, rfl, r0⟩ := irow_of_tr t0
  obtain ⟨a1, n1, c1, x1, rfl, r1⟩ := irow_of_tr t1
  obtain ⟨S, hS, b0, b1⟩ := t2.i64 Try.underlying3
  injection hS with hS _
  subst hS
  refine ⟨a0, n0, c0, a1, n1, c1, S, x0, x1, ?_, r0, r1, b0, b1⟩
  obtain ⟨cs⟩ := cs
  match cs, hl with
  | [u0, u1, u2], _ =>
    simp at e0 e1 e2
    subst e0 e1 e2
    rfl

set_option maxHeartbeats 4000000 in
theorem planRights_walk (v : FlatV) (f : FlatM) (A A2 : Option Addr) (m c m2 c2 : Nat) (S : Int) (o sl : List Int) (w : World) (h : FlatIs w w.heap.size v f) (h1 : IRow w w.heap.size A m c o) (h2 : IRow w w.heap.size A2 m2 c2 sl) (hS : -9223372036854775808 ≤ S ∧ S ≤ 9223372036854775807) :
    Calls Try.prog 4 #[flatV v, planV A m c A2 m2 c2 S] w (LawPost w) := by
  have hm1 := h1.len_le
  have hm2 := h2.len_le
  unfold maxLen at hm1 hm2
  obtain ⟨W1, hW1⟩ : ∃ W1, W1 = (w.alloc (.cells (fvs v) 29)).alloc (.cells #[.slice A m c, .slice A2 m2 c2, .int .i64 S] 32) := ⟨_, rfl⟩
  have HL0 : Hid (LwSt w v f W1) := Lib.hid (by rw [hW1]; exact (LwSt.start h).later ((Below.refl _ _).alloc (Nat.le_refl _) _))
  have HP0 := Lib.hid (show Blk W1 (w.heap.size + 1) 32 #[.slice A m c, .slice A2 m2 c2, .int .i64 S] from by rw [hW1]; have := Blk.new (w.alloc (.cells (fvs v) 29)) 32 #[.slice A m c, .slice A2 m2 c2, .int .i64 S]; rw [size_alloc] at this; exact this)
  have HSM := Lib.hid (small14_t v f w.heap.size W1 HL0.out.is HL0.out.hB)
  have HR1 : Hid (∀ W, Below w.heap.size w W → IRow W w.heap.size A m c o) := Lib.hid fun W hb => h1.below hb
  have HR2 : Hid (∀ W, Below w.heap.size w W → IRow W w.heap.size A2 m2 c2 sl) := Lib.hid fun W hb => h2.below hb
  have HSS := Lib.hid hS
  clear h h1 h2 hS
  unfold fvs at hW1
  unfold flatV sl3 at HSM
  unfold flatV sl3 planV
  obtain ⟨f0, f1, f2, f3, f4, f5, f6, f7⟩ := HL0.out.blk.flat
  go_enter Try.func4, Try.ntmps4
  go_upto_region 1 with fail
  rw [← hW1]
  clear hW1
  go_wp2_with fail
  refine HSM.out.mono ?_
  rintro e w1 ⟨⟨b1, rfl, hs1⟩, hb1⟩
  have HL1 := Lib.hid (HL0.out.later hb1)
  have HP1 := Lib.hid (HP0.out.later hb1)
  clear hb1 f0 f1 f2 f3 f4 f5 f6 f7
  have r0 := HP1.out.cell 0 rfl
  have r1 := HP1.out.cell 1 rfl
  have r2 := HP1.out.cell 2 rfl
  cases b1 with
  | false =>
    go_wp2_with fail
    go_ret
    exact ⟨rfl, HL1.out.old⟩
  | true =>
    obtain ⟨hs, _⟩ := hs1 rfl
    have HSF := Lib.hid hs
    clear hs hs1
    by_cases hm50 : 50 < m
    · have hmI : (50 : Int) < (m : Int) := by omega
      go_wp2_with fail
      go_ret
      exact ⟨rfl, HL1.out.old⟩
    · have hmI : (m : Int) ≤ 50 := by omega
      have hmJ : ¬ (50 : Int) < (m : Int) := by omega
      by_cases hn50 : 50 < m2
      · have hnI : (50 : Int) < (m2 : Int) := by omega
        go_wp2_with fail
        go_ret
        exact ⟨rfl, HL1.out.old⟩
      · have hnI : (m2 : Int) ≤ 50 := by omega
        have hnJ : ¬ (50 : Int) < (m2 : Int) := by omega
        obtain ⟨b, hbP⟩ : ∃ b : Bool, b = true ↔ RightP f v.names.2.1 o sl S := by
          by_cases hp : RightP f v.names.2.1 o sl S
          · exact ⟨true, by simp [hp]⟩
          · exact ⟨false, by simp [hp]⟩
        have HRC := Lib.hid (fun W (q : Below w1.heap.size w1 W) => (rightP_t v f w.heap.size A A2 m c m2 c2 S o sl W (HL1.out.later q).is (HL1.out.later q).hB (HR1.out W (HL1.out.later q).old) (HR2.out W (HL1.out.later q).old) HSF.out HSS.out.2).mono fun e w' t => t.as hbP)
        have HRF := Lib.hid (fun W (q : Below w1.heap.size w1 W) => (refRight_t v f w.heap.size A A2 m c m2 c2 S o sl W (HL1.out.later q).is (HL1.out.later q).hB (HR1.out W (HL1.out.later q).old) (HR2.out W (HL1.out.later q).old) HSF.out HSS.out).mono fun e w' t => t.as hbP)
        unfold flatV sl3 planV at HRC HRF
        have HKP : Hid (∀ W, Below w1.heap.size w1 W → (fun w' => w'.cell? ⟨w.heap.size, 0, none⟩ = some (.slice v.ins.1 v.ins.2.1 v.ins.2.2) ∧ w'.cell? ⟨w.heap.size, 1, none⟩ = some (.slice v.names.1 v.names.2.1 v.names.2.2) ∧ w'.cell? ⟨w.heap.size, 2, none⟩ = some (.slice v.outs.1 v.outs.2.1 v.outs.2.2) ∧ w'.cell? ⟨w.heap.size, 3, none⟩ = some (.slice v.eqs.1 v.eqs.2.1 v.eqs.2.2) ∧ w'.cell? ⟨w.heap.size, 4, none⟩ = some (.slice v.mems.1 v.mems.2.1 v.mems.2.2) ∧ w'.cell? ⟨w.heap.size, 5, none⟩ = some (.slice v.conts.1 v.conts.2.1 v.conts.2.2) ∧ w'.cell? ⟨w.heap.size, 6, none⟩ = some (.slice v.cross.1 v.cross.2.1 v.cross.2.2) ∧ w'.cell? ⟨w.heap.size, 7, none⟩ = some (.slice v.again.1 v.again.2.1 v.again.2.2) ∧ w'.cell? ⟨w.heap.size + 1, 0, none⟩ = some (.slice A m c) ∧ w'.cell? ⟨w.heap.size + 1, 1, none⟩ = some (.slice A2 m2 c2) ∧ w'.cell? ⟨w.heap.size + 1, 2, none⟩ = some (.int .i64 S)) W) := Lib.hid fun W q => by
          obtain ⟨a0, a1, a2, a3, a4, a5, a6, a7⟩ := (HL1.out.later q).blk.flat
          exact ⟨a0, a1, a2, a3, a4, a5, a6, a7, (HP1.out.later q).cell 0 rfl, (HP1.out.later q).cell 1 rfl, (HP1.out.later q).cell 2 rfl⟩
        have HP := Lib.hid (HKP.out w1.drew (Below.refl _ _).drew)
        clear hbP
        go_upto_region 3 with fail
        clear r0 r1 r2
        cases b with
        | true =>
          first | go_region_held3 (fun w' => w'.cell? ⟨w.heap.size, 0, none⟩ = some (.slice v.ins.1 v.ins.2.1 v.ins.2.2) ∧ w'.cell? ⟨w.heap.size, 1, none⟩ = some (.slice v.names.1 v.names.2.1 v.names.2.2) ∧ w'.cell? ⟨w.heap.size, 2, none⟩ = some (.slice v.outs.1 v.outs.2.1 v.outs.2.2) ∧ w'.cell? ⟨w.heap.size, 3, none⟩ = some (.slice v.eqs.1 v.eqs.2.1 v.eqs.2.2) ∧ w'.cell? ⟨w.heap.size, 4, none⟩ = some (.slice v.mems.1 v.mems.2.1 v.mems.2.2) ∧ w'.cell? ⟨w.heap.size, 5, none⟩ = some (.slice v.conts.1 v.conts.2.1 v.conts.2.2) ∧ w'.cell? ⟨w.heap.size, 6, none⟩ = some (.slice v.cross.1 v.cross.2.1 v.cross.2.2) ∧ w'.cell? ⟨w.heap.size, 7, none⟩ = some (.slice v.again.1 v.again.2.1 v.again.2.2) ∧ w'.cell? ⟨w.heap.size + 1, 0, none⟩ = some (.slice A m c) ∧ w'.cell? ⟨w.heap.size + 1, 1, none⟩ = some (.slice A2 m2 c2) ∧ w'.cell? ⟨w.heap.size + 1, 2, none⟩ = some (.int .i64 S)) (exact HP.out) (first
            | (go_at_call 13; (with_reducible refine (HRC.out _ (Below.refl w1.heap.size w1).drew).mono ?_); rintro e w4 ⟨rfl, hb4⟩; have HB4 := Lib.hid ((Below.refl w1.heap.size w1).drew.trans hb4); replace HP := Lib.hid (HKP.out w4 HB4.out); clear hb4)
            | (go_at_call 14; (with_reducible refine (HRF.out _ HB4.out).mono ?_); rintro e w5 ⟨rfl, hb5⟩; have HB5 := Lib.hid (HB4.out.trans (hb5.mono HB4.out.size)); replace HP := Lib.hid (HKP.out w5 HB5.out); clear hb5)
            | (go_at_call 12; (with_reducible refine (awake_t _).mono ?_); rintro e w6 ⟨rfl, hb6⟩; have HB6 := Lib.hid (HB5.out.trans (hb6.mono HB5.out.size)); replace HP := Lib.hid (HKP.out w6 HB6.out); clear hb6)) | fail
          all_goals
            go_wp2_with fail
            go_ret
            exact ⟨rfl, (HL1.out.later HB6.out).old⟩
        | false =>
          first | go_region_held3 (fun w' => w'.cell? ⟨w.heap.size, 0, none⟩ = some (.slice v.ins.1 v.ins.2.1 v.ins.2.2) ∧ w'.cell? ⟨w.heap.size, 1, none⟩ = some (.slice v.names.1 v.names.2.1 v.names.2.2) ∧ w'.cell? ⟨w.heap.size, 2, none⟩ = some (.slice v.outs.1 v.outs.2.1 v.outs.2.2) ∧ w'.cell? ⟨w.heap.size, 3, none⟩ = some (.slice v.eqs.1 v.eqs.2.1 v.eqs.2.2) ∧ w'.cell? ⟨w.heap.size, 4, none⟩ = some (.slice v.mems.1 v.mems.2.1 v.mems.2.2) ∧ w'.cell? ⟨w.heap.size, 5, none⟩ = some (.slice v.conts.1 v.conts.2.1 v.conts.2.2) ∧ w'.cell? ⟨w.heap.size, 6, none⟩ = some (.slice v.cross.1 v.cross.2.1 v.cross.2.2) ∧ w'.cell? ⟨w.heap.size, 7, none⟩ = some (.slice v.again.1 v.again.2.1 v.again.2.2) ∧ w'.cell? ⟨w.heap.size + 1, 0, none⟩ = some (.slice A m c) ∧ w'.cell? ⟨w.heap.size + 1, 1, none⟩ = some (.slice A2 m2 c2) ∧ w'.cell? ⟨w.heap.size + 1, 2, none⟩ = some (.int .i64 S)) (exact HP.out) (first
            | (go_at_call 13; (with_reducible refine (HRC.out _ (Below.refl w1.heap.size w1).drew).mono ?_); rintro e w4 ⟨rfl, hb4⟩; have HB4 := Lib.hid ((Below.refl w1.heap.size w1).drew.trans hb4); replace HP := Lib.hid (HKP.out w4 HB4.out); clear hb4)
            | (go_at_call 14; (with_reducible refine (HRF.out _ HB4.out).mono ?_); rintro e w5 ⟨rfl, hb5⟩; have HB5 := Lib.hid (HB4.out.trans (hb5.mono HB4.out.size)); replace HP := Lib.hid (HKP.out w5 HB5.out); clear hb5)
            | (go_at_call 12; (with_reducible refine (awake_t _).mono ?_); rintro e w6 ⟨rfl, hb6⟩; have HB6 := Lib.hid (HB5.out.trans (hb6.mono HB5.out.size)); replace HP := Lib.hid (HKP.out w6 HB6.out); clear hb6)) | fail
          all_goals
            go_wp2_with fail
            go_ret
            exact ⟨rfl, (HL1.out.later HB6.out).old⟩

end Go.Proofs.Ytioebjjnadgdjaa
