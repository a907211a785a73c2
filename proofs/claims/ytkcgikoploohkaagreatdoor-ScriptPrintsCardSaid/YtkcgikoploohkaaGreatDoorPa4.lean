/- The document's Short, of few limbs. -/
import Derived.Test.YtkcgikoploohkaaGreatDoorZScAToScZ
import Derived.Test.YtkcgikoploohkaaGreatDoorPa0
namespace Go.Proofs.YtkcgikoploohkaaGreatDoor
set_option linter.unusedVariables false
set_option linter.unusedSimpArgs false
set_option maxRecDepth 100000
open Go.RowKit Go.Shelf Nums

set_option maxHeartbeats 4000000 in
/-- Short: of few limbs -/
theorem short35_t {r : RV} {k j : Nat} {q : Rat} {w : World} (h : r.Is k j q w) (hk : k ≤ 12) (hj : j ≤ 12) : Calls Tryz.prog 35 #[.agg #[.bool r.s, .slice r.a r.n r.c, .slice r.b r.m r.d]] w fun e w' => e = .returned (.bool true) ∧ Below w.heap.size w w' := by
  obtain ⟨xs, ys, h0, h1, hq, hn, hm⟩ := h
  have HB := Lib.hid (below_one w (.cells #[.bool r.s, .slice r.a r.n r.c, .slice r.b r.m r.d] 27))
  have X0 : Hid (Tri (w.alloc (.cells #[.bool r.s, .slice r.a r.n r.c, .slice r.b r.m r.d] 27)) (w.heap.size) (.bool r.s) (.slice r.a r.n r.c) (.slice r.b r.m r.d)) := (tri_new _ (.bool r.s) (.slice r.a r.n r.c) (.slice r.b r.m r.d))
  have R0 := Lib.hid (h0.later HB.out); clear h0
  have R1 := Lib.hid (h1.later HB.out); clear h1
  have HQ := Lib.hid hq; clear hq
  have hn' : r.n ≤ 12 := by omega
  have hm' : r.m ≤ 12 := by omega
  have HNM := Lib.hid (show r.n ≤ 12 ∧ r.m ≤ 12 from ⟨hn', hm'⟩)
  clear hn hm hn' hm'
  obtain ⟨kX00, kX01, kX02, kX03, kX04, kX05, kX06⟩ := X0.out
  go_enter Tryz.func35, Tryz.ntmps35
  go_wp2_with fail
  refine (rnormR 12 12 q R0.out R1.out HQ.out HNM.out.1 HNM.out.2 (by omega) (by omega) (by omega) (by omega)).mono ?_
  rintro e w1 ⟨ar, nr, cr, br, mr, dr, rfl, h2, h3, hr, hr2, hb⟩
  replace X0 := Lib.hid (X0.out.later hb)
  replace HB := Lib.hid (bthen HB.out hb)
  clear hb kX00 kX01 kX02 kX03 kX04 kX05 kX06
  have RA := Lib.hid hr; clear hr
  have RB := Lib.hid hr2; clear hr2 R0 R1 HQ
  obtain ⟨kX00, kX01, kX02, kX03, kX04, kX05, kX06⟩ := X0.out
  have X0' := Lib.hid X0.out
  replace RA := Lib.hid (RA.out.put3 X0'.out (.bool (decide (q.num < 0))) (.slice ar nr cr) (.slice br mr dr))
  replace RB := Lib.hid (RB.out.put3 X0'.out (.bool (decide (q.num < 0))) (.slice ar nr cr) (.slice br mr dr))
  replace X0 := Lib.hid (X0.out.put (.bool (decide (q.num < 0))) (.slice ar nr cr) (.slice br mr dr))
  replace HB := Lib.hid (below_put3 (g := w.heap.size) HB.out (by omega) (.bool (decide (q.num < 0))) (.slice ar nr cr) (.slice br mr dr))
  clear X0'
  have H2 := Lib.hid h2
  have H3 := Lib.hid h3
  clear h2 h3
  obtain ⟨U, hU⟩ : ∃ U, decStr (val (limbs q.num.natAbs)) = U := ⟨_, rfl⟩
  obtain ⟨V, hV⟩ : ∃ V, decStr (val (limbs q.den)) = V := ⟨_, rfl⟩
  have lU : (U.size : Int) ≤ 300 := by
    have h116 : U.size ≤ 116 := by rw [← hU, val_limbs]; exact dec_len (by have e := RA.out.1; have := H2.out; omega) (by omega)
    omega
  have lV : (V.size : Int) ≤ 300 := by
    have h116 : V.size ≤ 116 := by rw [← hV, val_limbs]; exact dec_len (by have e := RB.out.1; have := H3.out; omega) (by omega)
    omega
  have HU := Lib.hid hU
  have HV := Lib.hid hV
  clear hU hV
  go_wp2_with (first
    | (have mk := G1; go_at_call 74; (with_reducible refine (rprintN V RB.out H3.out HV.out).mono ?_); rintro e w3 ⟨rfl, hb⟩; replace HB := Lib.hid (bthen HB.out hb); clear hb)
    | (go_at_call 74; (with_reducible refine (rprintN U RA.out H2.out HU.out).mono ?_); rintro e w2 ⟨rfl, hb⟩; replace HB := Lib.hid (bthen HB.out hb); replace RB := Lib.hid (RB.out.later hb); replace X0 := Lib.hid (X0.out.later hb); clear hb kX00 kX01 kX02 kX03 kX04 kX05 kX06; obtain ⟨kX00, kX01, kX02, kX03, kX04, kX05, kX06⟩ := X0.out; have G1 : Hid True := trivial))
  go_ret
  exact ⟨rfl, HB.out⟩

end Go.Proofs.YtkcgikoploohkaaGreatDoor
