/- What Order of package cause tells. No condition but bounds. -/
import Derived.Test.YtioebjjnadgdjaaZCnD
import Derived.Test.YtioebjjnadgdjaaZOrdB
namespace Go.Proofs.Ytioebjjnadgdjaa
set_option linter.unusedVariables false
set_option linter.unusedSimpArgs false
set_option maxRecDepth 100000
open Go.RowKit Gr

theorem SameG.rdy {G H : List (List Int)} {n : Nat} (h : SameG G H n) (a : List Nat) (x : Nat) : Rdy G a x ↔ Rdy H a x := by
  unfold Rdy
  rw [h.l1, h.l2]
  simp only [h.e]
theorem SameG.lst {G H : List (List Int)} {n : Nat} (h : SameG G H n) {out : List Nat} (hl : IsLst H out) : IsLst G out := fun a b x e =>
  ⟨(h.rdy a x).2 (hl a b x e).1, fun y hy => (hl a b x e).2 y ((h.rdy a y).1 hy)⟩
/-- what cause.Order tells of a good program -/
def OrdOk (f : FlatM) (n : Nat) (w : World) (e : Ending) (w' : World) : Prop :=
  ((∃ a c out, e = .returned (.tuple #[.slice a n c, .int .i64 0]) ∧ Own w' w.heap.size (.slice a n c) (ints out) ∧ IsLst (gOf f) out ∧ out.length = n) ∨
    (e = .returned (.tuple #[.slice none 0 0, .int .i64 140]) ∧ ∃ out, IsLst (gOf f) out ∧ out.length < n ∧ ∀ y, ¬ Rdy (gOf f) out y)) ∧ Below w.heap.size w w'
set_option maxHeartbeats 1000000 in
theorem corder_no (v : FlatV) (f : FlatM) (B : Nat) (w : World) (h : FlatIs w B v f) (hB : B ≤ w.heap.size) (hn : v.names.2.1 ≤ 1000000) (hg : goodB f = false) :
    Calls Try.prog 19 #[flatV v] w fun e w' => e = .returned (.tuple #[.slice none 0 0, .int .i64 1]) ∧ Below w.heap.size w w' := by
  have HC := Lib.hid (Ctx.mk' h hB)
  have HGC := Lib.hid (good_b v f B false _ HC.out.is (by rw [size_alloc]; omega) hn hg)
  clear h hB hg
  unfold flatV sl3 fvs at HGC
  unfold flatV sl3
  go_enter Try.func19, Try.ntmps19
  go_wp2_with (first | (go_at_call 27; (with_reducible refine HGC.out.mono ?_); rintro e w1 ⟨rfl, hb1⟩; have HB1 := Lib.hid hb1; clear hb1))
  go_ret2
  exact ⟨rfl, HC.out.old.trans (HB1.out.mono (by simp))⟩
set_option maxHeartbeats 1000000 in
theorem corder_t (v : FlatV) (f : FlatM) (B : Nat) (w : World) (h : FlatIs w B v f) (hB : B ≤ w.heap.size) (hg : goodB f = true) (hs : SmallF f) :
    Calls Try.prog 19 #[flatV v] w (OrdOk f v.names.2.1 w) := by
  have hsm : v.names.2.1 ≤ 200 := by rw [← h.names.1]; exact hs.names
  have HC := Lib.hid (Ctx.mk' h hB)
  have HGC := Lib.hid (good_b v f B true _ HC.out.is (by rw [size_alloc]; omega) (by omega) hg)
  have HNC := Lib.hid (fun W (hW : FlatIs W B v f) (hb : B ≤ W.heap.size) => cneeds_t v f B W hW hb hg hs)
  clear h hB hg hs
  unfold flatV sl3 fvs at HGC
  unfold flatV sl3 at HNC ⊢
  go_enter Try.func19, Try.ntmps19
  go_upto_region 3 with (first | (go_at_call 27; (with_reducible refine HGC.out.mono ?_); rintro e w1 ⟨rfl, hb1⟩; have HB1 := Lib.hid hb1; clear hb1; have HK1 := Lib.hid (HC.out.blk.later HB1.out); obtain ⟨f0, f1, f2, f3, f4, f5, f6, f7⟩ := HK1.out.flat))
  have HI1 := Lib.hid (HC.out.is.below (HB1.out.mono (by rw [size_alloc]; have := HC.out.le; omega)))
  have HB01 : Hid (B ≤ w1.heap.size) := Lib.hid (Nat.le_trans HC.out.le (Nat.le_of_lt HK1.out.lt))
  have HW1 : Hid (Below w.heap.size w w1) := Lib.hid (HC.out.old.trans (HB1.out.mono (by simp)))
  go_wp2_with (first | (go_at_call 22; (with_reducible refine (HNC.out w1 HI1.out HB01.out).mono ?_); rintro e w2 ⟨g2, H, rfl, hgr, hsg, hpl, htot, hb2⟩; have HGR := Lib.hid hgr; have HSG := Lib.hid hsg; have HTT := Lib.hid htot; have HB2 := Lib.hid hb2; clear hgr hsg hpl htot hb2))
  have HW2 : Hid (Below w.heap.size w w2) := Lib.hid (HW1.out.trans (HB2.out.mono HW1.out.size))
  refine (order_any (some ⟨g2, 0, none⟩) v.names.2.1 v.names.2.1 w2.heap.size H w2 HGR.out (Nat.le_refl _) (by omega) HTT.out).mono ?_
  rintro e w3 ⟨ho | ho, hb3⟩
  · obtain ⟨a, c, out, rfl, hrow, hlst, hlen⟩ := ho
    rw [HSG.out.l2] at hlen
    rw [hlen] at hrow ⊢
    have HD : Hid (OrdOk f v.names.2.1 w (.returned (.tuple #[.slice a v.names.2.1 c, .int .i64 0])) w3) := Lib.hid ⟨.inl ⟨a, c, out, rfl, hrow.more HW2.out.size, HSG.out.lst hlst, hlen⟩, HW2.out.trans (hb3.mono HW2.out.size)⟩
    clear hrow hlst hlen hb3
    go_wp2
    go_ret2
    exact HD.out
  · obtain ⟨rfl, out, hlst, hlen, hno⟩ := ho
    rw [HSG.out.l2] at hlen
    have HD : Hid (OrdOk f v.names.2.1 w (.returned (.tuple #[.slice none 0 0, .int .i64 140])) w3) := Lib.hid ⟨.inr ⟨rfl, out, HSG.out.lst hlst, hlen, fun y hy => hno y ((HSG.out.rdy out y).1 hy)⟩, HW2.out.trans (hb3.mono HW2.out.size)⟩
    clear hlst hlen hno hb3
    go_wp2
    go_ret2
    exact HD.out

end Go.Proofs.Ytioebjjnadgdjaa
