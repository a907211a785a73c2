/- What all of package safe tells of the three bodies. No condition but bounds. -/
import Derived.Test.YtcljmfhelgkfaaaSfI
import Derived.Test.YtcljmfhelgkfaaaSfJ
import Derived.Deep.RegionWith
import Derived.Deep.DeepCutAuto
namespace Go.Proofs.Ytcljmfhelgkfaaa
set_option linter.unusedVariables false
set_option linter.unusedSimpArgs false
set_option maxRecDepth 100000
open Go.RowKit

theorem wTo_next {l : List InsP} {k : Nat} {x : InsP} (h : l[k]? = some x) : wNext (wTo (l.take k)) x = wTo (l.take (k + 1)) := by
  rw [take_snoc h]
  unfold wNext
  by_cases he : isEnd x.op = true
  · rw [if_pos he, wTo_end he]
  · rw [if_neg he, wTo_eq (by simpa using he)]
theorem lTo_next {l : List InsP} {k : Nat} {x : InsP} (h : l[k]? = some x) : lNext (lTo (l.take k)) x = lTo (l.take (k + 1)) := by
  rw [take_snoc h]
  unfold lNext
  by_cases he : x.op = opAsk
  · rw [if_pos he, lTo_ask he]
  · rw [if_neg he, lTo_line he]
/-- all of a body are right -/
def OkS (c : CodeM) (n : Nat) : Prop := ∀ (i : Nat) (x : InsP), i < n → c.step[i]? = some x → stB c (wTo (c.step.take i)) x = true
def OkD (c : CodeM) (n : Nat) : Prop := ∀ (i : Nat) (x : InsP), i < n → c.deriv[i]? = some x → drB c (wTo c.step) x = true
def OkX (c : CodeM) (n : Nat) : Prop := ∀ (i : Nat) (x : InsP), i < n → c.cross[i]? = some x → crB c (wTo c.step) (lTo (c.cross.take i)) x = true
theorem OkS.next {c : CodeM} {k : Nat} {x : InsP} (h : OkS c k) (hx : c.step[k]? = some x) (hb : stB c (wTo (c.step.take k)) x = true) : OkS c (k + 1) := by
  intro i y hi hy
  rcases Nat.lt_or_ge i k with q | q
  · exact h i y q hy
  · obtain rfl : i = k := by omega
    rw [hx] at hy; injection hy with hy; subst hy; exact hb
theorem OkD.next {c : CodeM} {k : Nat} {x : InsP} (h : OkD c k) (hx : c.deriv[k]? = some x) (hb : drB c (wTo c.step) x = true) : OkD c (k + 1) := by
  intro i y hi hy
  rcases Nat.lt_or_ge i k with q | q
  · exact h i y q hy
  · obtain rfl : i = k := by omega
    rw [hx] at hy; injection hy with hy; subst hy; exact hb
theorem OkX.next {c : CodeM} {k : Nat} {x : InsP} (h : OkX c k) (hx : c.cross[k]? = some x) (hb : crB c (wTo c.step) (lTo (c.cross.take k)) x = true) : OkX c (k + 1) := by
  intro i y hi hy
  rcases Nat.lt_or_ge i k with q | q
  · exact h i y q hy
  · obtain rfl : i = k := by omega
    rw [hx] at hy; injection hy with hy; subst hy; exact hb
theorem step_no (B g : Nat) (c : CodeM) (v : CodeV) (S N gs gl : Nat) (W L : List Int) (q : InsP) (a m d r : Option Addr × Nat × Nat) (w : World) (hr : Rd w B g c v S N gs gl W L) (hx : InsW w B q a m d r) (h : stB c W q = false) : Calls Try.prog 21 #[.pointer (some ⟨g, 0, none⟩), .agg #[.string q.op, .int .i64 q.dst, .slice a.1 a.2.1 a.2.2, .int .i64 q.k, .int .i64 q.lit.kind, .bool q.lit.neg, .slice m.1 m.2.1 m.2.2, .slice d.1 d.2.1 d.2.2, .string q.lit.name, .int .i64 q.guard, .slice r.1 r.2.1 r.2.2]] w fun e w' => e = .returned (.bool false) ∧ Below B w w' :=
  (step_t B g c v S N gs gl W L q a m d r w hr hx).mono fun e w' ⟨b, h1, h2, _, h4⟩ => ⟨by rw [h1, ← h2, h], h4⟩
theorem step_yes (B g : Nat) (c : CodeM) (v : CodeV) (S N gs gl : Nat) (W L : List Int) (q : InsP) (a m d r : Option Addr × Nat × Nat) (w : World) (hr : Rd w B g c v S N gs gl W L) (hx : InsW w B q a m d r) (h : stB c W q = true) : Calls Try.prog 21 #[.pointer (some ⟨g, 0, none⟩), .agg #[.string q.op, .int .i64 q.dst, .slice a.1 a.2.1 a.2.2, .int .i64 q.k, .int .i64 q.lit.kind, .bool q.lit.neg, .slice m.1 m.2.1 m.2.2, .slice d.1 d.2.1 d.2.2, .string q.lit.name, .int .i64 q.guard, .slice r.1 r.2.1 r.2.2]] w fun e w' => e = .returned (.bool true) ∧ Rd w' B g c v S N gs gl (wNext W q) L ∧ Below B w w' :=
  (step_t B g c v S N gs gl W L q a m d r w hr hx).mono fun e w' ⟨b, h1, h2, h3, h4⟩ => ⟨by rw [h1, ← h2, h], h3 (by rw [← h2, h]), h4⟩
theorem cross_no (B g : Nat) (c : CodeM) (v : CodeV) (S N gs gl : Nat) (W L : List Int) (q : InsP) (a m d r : Option Addr × Nat × Nat) (w : World) (hr : Rd w B g c v S N gs gl W L) (hx : InsW w B q a m d r) (h : crB c W L q = false) : Calls Try.prog 23 #[.pointer (some ⟨g, 0, none⟩), .agg #[.string q.op, .int .i64 q.dst, .slice a.1 a.2.1 a.2.2, .int .i64 q.k, .int .i64 q.lit.kind, .bool q.lit.neg, .slice m.1 m.2.1 m.2.2, .slice d.1 d.2.1 d.2.2, .string q.lit.name, .int .i64 q.guard, .slice r.1 r.2.1 r.2.2]] w fun e w' => e = .returned (.bool false) ∧ Below B w w' :=
  (cross_t B g c v S N gs gl W L q a m d r w hr hx).mono fun e w' ⟨b, h1, h2, _, h4⟩ => ⟨by rw [h1, ← h2, h], h4⟩
theorem cross_yes (B g : Nat) (c : CodeM) (v : CodeV) (S N gs gl : Nat) (W L : List Int) (q : InsP) (a m d r : Option Addr × Nat × Nat) (w : World) (hr : Rd w B g c v S N gs gl W L) (hx : InsW w B q a m d r) (h : crB c W L q = true) : Calls Try.prog 23 #[.pointer (some ⟨g, 0, none⟩), .agg #[.string q.op, .int .i64 q.dst, .slice a.1 a.2.1 a.2.2, .int .i64 q.k, .int .i64 q.lit.kind, .bool q.lit.neg, .slice m.1 m.2.1 m.2.2, .slice d.1 d.2.1 d.2.2, .string q.lit.name, .int .i64 q.guard, .slice r.1 r.2.1 r.2.2]] w fun e w' => e = .returned (.bool true) ∧ Rd w' B g c v S N gs gl W (lNext L q) ∧ Below B w w' :=
  (cross_t B g c v S N gs gl W L q a m d r w hr hx).mono fun e w' ⟨b, h1, h2, h3, h4⟩ => ⟨by rw [h1, ← h2, h], h3 (by rw [← h2, h]), h4⟩
theorem deriv_b (b : Bool) (B g : Nat) (c : CodeM) (v : CodeV) (S N gs gl : Nat) (W L : List Int) (q : InsP) (a m d r : Option Addr × Nat × Nat) (w : World) (hr : Rd w B g c v S N gs gl W L) (hx : InsW w B q a m d r) (h : drB c W q = b) : Calls Try.prog 22 #[.pointer (some ⟨g, 0, none⟩), .agg #[.string q.op, .int .i64 q.dst, .slice a.1 a.2.1 a.2.2, .int .i64 q.k, .int .i64 q.lit.kind, .bool q.lit.neg, .slice m.1 m.2.1 m.2.2, .slice d.1 d.2.1 d.2.2, .string q.lit.name, .int .i64 q.guard, .slice r.1 r.2.1 r.2.2]] w fun e w' => e = .returned (.bool b) ∧ Below w.heap.size w w' :=
  (deriv_t B g c v S N gs gl W L q a m d r w hr hx).mono fun e w' ⟨h1, h2⟩ => ⟨by rw [h1, h], h2⟩
set_option maxHeartbeats 2000000 in
theorem allS_t (B g : Nat) (c : CodeM) (v : CodeV) (S N gs gl : Nat) (w : World) (hr : Rd w B g c v S N gs gl (wTo (c.step.take 0)) []) :
    Calls Try.prog 20 #[.slice v.step.1 v.step.2.1 v.step.2.2, .func (.func 21) #[.pointer (some ⟨g, 0, none⟩)] #[]] w fun e w' => ∃ b, e = .returned (.bool b) ∧ (b = true → OkS c v.step.2.1 ∧ Rd w' B g c v S N gs gl (wTo (c.step.take v.step.2.1)) []) ∧ (b = false → ¬ OkS c v.step.2.1) ∧ Below B w w' := by
  have hm := hr.is.step.len_le
  have HR := Lib.hid hr
  have HBW := Lib.hid hr.hB
  clear hr
  unfold maxLen at hm
  go_enter Try.func20, Try.ntmps20
  go_wp2_with fail
  go_loopw [9] (fun t wr => ∃ k : Nat, k ≤ v.step.2.1 ∧ t = .int .i64 k ∧ Hid (OkS c k) ∧ Hid (Rd wr B g c v S N gs gl (wTo (c.step.take k)) []) ∧ Hid (Below B w wr)) (fun t _ => v.step.2.1 - (intOf t).toNat)
  case atStart => exact ⟨0, Nat.zero_le _, rfl, Lib.hid (fun i x hi => by omega), HR, Lib.hid (Below.refl _ _)⟩
  case round =>
    obtain ⟨k, hk, rfl, HO, HRr, HB⟩ := hrel
    by_cases hlt : k < v.step.2.1
    · obtain ⟨x, hx⟩ := HRr.out.is.step.ex hlt
      obtain ⟨b, off, ha, hbl, hat⟩ := HRr.out.is.step.at_ hx
      obtain ⟨a, m, d, r, hiw, _, _, _, x0, x1, x2, x3, x4, x5, x6, x7, x8, x9, x10⟩ := hat.cells
      have HX := Lib.hid hx
      have HIW := Lib.hid (hiw.keep ((Below.refl B wr).alloc HRr.out.hB (.cells #[.string x.op, .int .i64 x.dst, .slice a.1 a.2.1 a.2.2, .int .i64 x.k, .int .i64 x.lit.kind, .bool x.lit.neg, .slice m.1 m.2.1 m.2.2, .slice d.1 d.2.1 d.2.2, .string x.lit.name, .int .i64 x.guard, .slice r.1 r.2.1 r.2.2] 52)))
      have HR1 := Lib.hid (HRr.out.alloc (.cells #[.string x.op, .int .i64 x.dst, .slice a.1 a.2.1 a.2.2, .int .i64 x.k, .int .i64 x.lit.kind, .bool x.lit.neg, .slice m.1 m.2.1 m.2.2, .slice d.1 d.2.1 d.2.2, .string x.lit.name, .int .i64 x.guard, .slice r.1 r.2.1 r.2.2] 52))
      have HB1 := Lib.hid (HB.out.alloc HRr.out.hB (.cells #[.string x.op, .int .i64 x.dst, .slice a.1 a.2.1 a.2.2, .int .i64 x.k, .int .i64 x.lit.kind, .bool x.lit.neg, .slice m.1 m.2.1 m.2.2, .slice d.1 d.2.1 d.2.2, .string x.lit.name, .int .i64 x.guard, .slice r.1 r.2.1 r.2.2] 52))
      have hbw : b < wr.heap.size := Nat.lt_of_lt_of_le hbl HRr.out.hB
      have hkI : (k : Int) < (v.step.2.1 : Int) := by omega
      obtain ⟨EA, hEA⟩ : ∃ EA, EA = v.step.1 := ⟨_, rfl⟩
      rw [← hEA] at ha ⊢
      clear hEA
      subst ha
      clear hx hiw hat hbl
      cases hs : stB c (wTo (c.step.take k)) x with
      | false =>
        have HS := Lib.hid hs
        clear hs
        go_wp2_with (go_at_call 21; (with_reducible refine (step_no B g c v S N gs gl (wTo (c.step.take k)) [] x a m d r _ HR1.out HIW.out HS.out).mono ?_); rintro e w2 ⟨rfl, hb2⟩)
        go_ret
        exact ⟨false, rfl, (fun h => by cases h), (fun _ h => by have := h k x hlt HX.out; rw [HS.out] at this; cases this), HB1.out.trans hb2⟩
      | true =>
        have HS := Lib.hid hs
        clear hs
        go_wp2_with (go_at_call 21; (with_reducible refine (step_yes B g c v S N gs gl (wTo (c.step.take k)) [] x a m d r _ HR1.out HIW.out HS.out).mono ?_); rintro e w2 ⟨rfl, hr2, hb2⟩)
        go_roundw
        case rel => exact ⟨k + 1, by omega, by go_num, Lib.hid (HO.out.next HX.out HS.out), Lib.hid (by rw [← wTo_next HX.out]; exact hr2), Lib.hid (HB1.out.trans hb2)⟩
        case measure => simp [intOf]; omega
    · obtain rfl : k = v.step.2.1 := by omega
      go_wp2
      go_ret
      exact ⟨true, rfl, (fun _ => ⟨HO.out, HRr.out⟩), (fun h => by cases h), HB.out⟩
set_option maxHeartbeats 2000000 in
theorem allX_t (B g : Nat) (c : CodeM) (v : CodeV) (S N gs gl : Nat) (w : World) (hr : Rd w B g c v S N gs gl (wTo c.step) (lTo (c.cross.take 0))) :
    Calls Try.prog 20 #[.slice v.cross.1 v.cross.2.1 v.cross.2.2, .func (.func 23) #[.pointer (some ⟨g, 0, none⟩)] #[]] w fun e w' => ∃ b, e = .returned (.bool b) ∧ (b = true → OkX c v.cross.2.1 ∧ Rd w' B g c v S N gs gl (wTo c.step) (lTo (c.cross.take v.cross.2.1))) ∧ (b = false → ¬ OkX c v.cross.2.1) ∧ Below B w w' := by
  have hm := hr.is.cross.len_le
  have HR := Lib.hid hr
  have HBW := Lib.hid hr.hB
  clear hr
  unfold maxLen at hm
  go_enter Try.func20, Try.ntmps20
  go_wp2_with fail
  go_loopw [9] (fun t wr => ∃ k : Nat, k ≤ v.cross.2.1 ∧ t = .int .i64 k ∧ Hid (OkX c k) ∧ Hid (Rd wr B g c v S N gs gl (wTo c.step) (lTo (c.cross.take k))) ∧ Hid (Below B w wr)) (fun t _ => v.cross.2.1 - (intOf t).toNat)
  case atStart => exact ⟨0, Nat.zero_le _, rfl, Lib.hid (fun i x hi => by omega), HR, Lib.hid (Below.refl _ _)⟩
  case round =>
    obtain ⟨k, hk, rfl, HO, HRr, HB⟩ := hrel
    by_cases hlt : k < v.cross.2.1
    · obtain ⟨x, hx⟩ := HRr.out.is.cross.ex hlt
      obtain ⟨b, off, ha, hbl, hat⟩ := HRr.out.is.cross.at_ hx
      obtain ⟨a, m, d, r, hiw, _, _, _, x0, x1, x2, x3, x4, x5, x6, x7, x8, x9, x10⟩ := hat.cells
      have HX := Lib.hid hx
      have HIW := Lib.hid (hiw.keep ((Below.refl B wr).alloc HRr.out.hB (.cells #[.string x.op, .int .i64 x.dst, .slice a.1 a.2.1 a.2.2, .int .i64 x.k, .int .i64 x.lit.kind, .bool x.lit.neg, .slice m.1 m.2.1 m.2.2, .slice d.1 d.2.1 d.2.2, .string x.lit.name, .int .i64 x.guard, .slice r.1 r.2.1 r.2.2] 52)))
      have HR1 := Lib.hid (HRr.out.alloc (.cells #[.string x.op, .int .i64 x.dst, .slice a.1 a.2.1 a.2.2, .int .i64 x.k, .int .i64 x.lit.kind, .bool x.lit.neg, .slice m.1 m.2.1 m.2.2, .slice d.1 d.2.1 d.2.2, .string x.lit.name, .int .i64 x.guard, .slice r.1 r.2.1 r.2.2] 52))
      have HB1 := Lib.hid (HB.out.alloc HRr.out.hB (.cells #[.string x.op, .int .i64 x.dst, .slice a.1 a.2.1 a.2.2, .int .i64 x.k, .int .i64 x.lit.kind, .bool x.lit.neg, .slice m.1 m.2.1 m.2.2, .slice d.1 d.2.1 d.2.2, .string x.lit.name, .int .i64 x.guard, .slice r.1 r.2.1 r.2.2] 52))
      have hbw : b < wr.heap.size := Nat.lt_of_lt_of_le hbl HRr.out.hB
      have hkI : (k : Int) < (v.cross.2.1 : Int) := by omega
      obtain ⟨EA, hEA⟩ : ∃ EA, EA = v.cross.1 := ⟨_, rfl⟩
      rw [← hEA] at ha ⊢
      clear hEA
      subst ha
      clear hx hiw hat hbl
      cases hs : crB c (wTo c.step) (lTo (c.cross.take k)) x with
      | false =>
        have HS := Lib.hid hs
        clear hs
        go_wp2_with (go_at_call 23; (with_reducible refine (cross_no B g c v S N gs gl (wTo c.step) (lTo (c.cross.take k)) x a m d r _ HR1.out HIW.out HS.out).mono ?_); rintro e w2 ⟨rfl, hb2⟩)
        go_ret
        exact ⟨false, rfl, (fun h => by cases h), (fun _ h => by have := h k x hlt HX.out; rw [HS.out] at this; cases this), HB1.out.trans hb2⟩
      | true =>
        have HS := Lib.hid hs
        clear hs
        go_wp2_with (go_at_call 23; (with_reducible refine (cross_yes B g c v S N gs gl (wTo c.step) (lTo (c.cross.take k)) x a m d r _ HR1.out HIW.out HS.out).mono ?_); rintro e w2 ⟨rfl, hr2, hb2⟩)
        go_roundw
        case rel => exact ⟨k + 1, by omega, by go_num, Lib.hid (HO.out.next HX.out HS.out), Lib.hid (by rw [← lTo_next HX.out]; exact hr2), Lib.hid (HB1.out.trans hb2)⟩
        case measure => simp [intOf]; omega
    · obtain rfl : k = v.cross.2.1 := by omega
      go_wp2
      go_ret
      exact ⟨true, rfl, (fun _ => ⟨HO.out, HRr.out⟩), (fun h => by cases h), HB.out⟩
set_option maxHeartbeats 2000000 in
theorem allD_t (B g : Nat) (c : CodeM) (v : CodeV) (S N gs gl : Nat) (w : World) (hr : Rd w B g c v S N gs gl (wTo c.step) []) :
    Calls Try.prog 20 #[.slice v.deriv.1 v.deriv.2.1 v.deriv.2.2, .func (.func 22) #[.pointer (some ⟨g, 0, none⟩)] #[]] w fun e w' => ∃ b, e = .returned (.bool b) ∧ (b = true → OkD c v.deriv.2.1 ∧ Rd w' B g c v S N gs gl (wTo c.step) []) ∧ (b = false → ¬ OkD c v.deriv.2.1) ∧ Below B w w' := by
  have hm := hr.is.deriv.len_le
  have HR := Lib.hid hr
  have HBW := Lib.hid hr.hB
  clear hr
  unfold maxLen at hm
  go_enter Try.func20, Try.ntmps20
  go_wp2_with fail
  go_loopw [9] (fun t wr => ∃ k : Nat, k ≤ v.deriv.2.1 ∧ t = .int .i64 k ∧ Hid (OkD c k) ∧ Hid (Rd wr B g c v S N gs gl (wTo c.step) []) ∧ Hid (Below B w wr)) (fun t _ => v.deriv.2.1 - (intOf t).toNat)
  case atStart => exact ⟨0, Nat.zero_le _, rfl, Lib.hid (fun i x hi => by omega), HR, Lib.hid (Below.refl _ _)⟩
  case round =>
    obtain ⟨k, hk, rfl, HO, HRr, HB⟩ := hrel
    by_cases hlt : k < v.deriv.2.1
    · obtain ⟨x, hx⟩ := HRr.out.is.deriv.ex hlt
      obtain ⟨b, off, ha, hbl, hat⟩ := HRr.out.is.deriv.at_ hx
      obtain ⟨a, m, d, r, hiw, _, _, _, x0, x1, x2, x3, x4, x5, x6, x7, x8, x9, x10⟩ := hat.cells
      have HX := Lib.hid hx
      have HIW := Lib.hid (hiw.keep ((Below.refl B wr).alloc HRr.out.hB (.cells #[.string x.op, .int .i64 x.dst, .slice a.1 a.2.1 a.2.2, .int .i64 x.k, .int .i64 x.lit.kind, .bool x.lit.neg, .slice m.1 m.2.1 m.2.2, .slice d.1 d.2.1 d.2.2, .string x.lit.name, .int .i64 x.guard, .slice r.1 r.2.1 r.2.2] 52)))
      have HR1 := Lib.hid (HRr.out.alloc (.cells #[.string x.op, .int .i64 x.dst, .slice a.1 a.2.1 a.2.2, .int .i64 x.k, .int .i64 x.lit.kind, .bool x.lit.neg, .slice m.1 m.2.1 m.2.2, .slice d.1 d.2.1 d.2.2, .string x.lit.name, .int .i64 x.guard, .slice r.1 r.2.1 r.2.2] 52))
      have HB1 := Lib.hid (HB.out.alloc HRr.out.hB (.cells #[.string x.op, .int .i64 x.dst, .slice a.1 a.2.1 a.2.2, .int .i64 x.k, .int .i64 x.lit.kind, .bool x.lit.neg, .slice m.1 m.2.1 m.2.2, .slice d.1 d.2.1 d.2.2, .string x.lit.name, .int .i64 x.guard, .slice r.1 r.2.1 r.2.2] 52))
      have hbw : b < wr.heap.size := Nat.lt_of_lt_of_le hbl HRr.out.hB
      have hkI : (k : Int) < (v.deriv.2.1 : Int) := by omega
      obtain ⟨EA, hEA⟩ : ∃ EA, EA = v.deriv.1 := ⟨_, rfl⟩
      rw [← hEA] at ha ⊢
      clear hEA
      subst ha
      clear hx hiw hat hbl
      cases hs : drB c (wTo c.step) x with
      | false =>
        have HS := Lib.hid hs
        clear hs
        go_wp2_with (go_at_call 22; (with_reducible refine (deriv_b false B g c v S N gs gl (wTo c.step) [] x a m d r _ HR1.out HIW.out HS.out).mono ?_); rintro e w2 ⟨rfl, hb2⟩)
        go_ret
        exact ⟨false, rfl, (fun h => by cases h), (fun _ h => by have := h k x hlt HX.out; rw [HS.out] at this; cases this), HB1.out.trans (hb2.mono HR1.out.hB)⟩
      | true =>
        have HS := Lib.hid hs
        clear hs
        go_wp2_with (go_at_call 22; (with_reducible refine (deriv_b true B g c v S N gs gl (wTo c.step) [] x a m d r _ HR1.out HIW.out HS.out).mono ?_); rintro e w2 ⟨rfl, hb2⟩)
        go_roundw
        case rel => exact ⟨k + 1, by omega, by go_num, Lib.hid (HO.out.next HX.out HS.out), Lib.hid (HR1.out.later hb2), Lib.hid (HB1.out.trans (hb2.mono HR1.out.hB))⟩
        case measure => simp [intOf]; omega
    · obtain rfl : k = v.deriv.2.1 := by omega
      go_wp2
      go_ret
      exact ⟨true, rfl, (fun _ => ⟨HO.out, HRr.out⟩), (fun h => by cases h), HB.out⟩

end Go.Proofs.Ytcljmfhelgkfaaa
