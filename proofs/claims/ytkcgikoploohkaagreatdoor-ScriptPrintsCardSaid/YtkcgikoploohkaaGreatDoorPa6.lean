/- ScriptPrints, walked. -/
import Derived.Test.YtkcgikoploohkaaGreatDoorPa3
import Derived.Test.YtkcgikoploohkaaGreatDoorPa5
namespace Go.Proofs.YtkcgikoploohkaaGreatDoor
set_option linter.unusedVariables false
set_option linter.unusedSimpArgs false
set_option maxRecDepth 100000
open Go.RowKit Go.Shelf Nums

/-- the error and the text that a printing call tells -/
def prE (S : ScT) : Int := if okP S = true then 0 else 1
def prL (S : ScT) : List UInt8 := if okP S = true then printM S else []
theorem trow_nil (w : World) : TRow w none 0 0 [] := ⟨rfl, Nat.le_refl _, Nat.zero_le _, 0, 0, .inr (Nat.le_refl _), fun i x hx => by cases hx⟩
theorem prt_t {S : ScT} {w w' : World} {e : Ending} (h : PrtRes S w e w') : ∃ a n c, e = .returned (.tuple #[.slice a n c, .int .i64 (prE S)]) ∧ TRow w' a n c (prL S) ∧ Below w.heap.size w w' := by
  obtain ⟨h1, h2, h3⟩ := h
  unfold prE prL
  cases ho : okP S with
  | true =>
    obtain ⟨a, n, c, e1, e2⟩ := h1 ho
    exact ⟨a, n, c, e1, e2, h3⟩
  | false => exact ⟨none, 0, 0, h2 ho, trow_nil _, h3⟩
set_option maxHeartbeats 8000000 in
/-- ScriptPrints -/
theorem scriptPrints_walk (v : SV) (h : Rat) (L : List CM) (a : Option Addr) (n c : Nat) (ins : List ByteArray) (w : World) (hg : Gl w) (hv : v.Is h L w) (hc : CameS v L) (hr : SRow w a n c ins) : Calls Tryz.prog 4 #[.agg #[.bool v.h.s, .slice v.h.a v.h.n v.h.c, .slice v.h.b v.h.m v.h.d, .int .i64 v.cas, .int .i64 v.bits, .slice v.a v.n v.c], .slice a n c] w (fun e w' => e = .returned (.bool true) ∧ Below w.heap.size w w') := by
  obtain ⟨W1, hW1⟩ : ∃ W1, W1 = w.alloc (.cells #[.bool v.h.s, .slice v.h.a v.h.n v.h.c, .slice v.h.b v.h.m v.h.d, .int .i64 v.cas, .int .i64 v.bits, .slice v.a v.n v.c] 30) := ⟨_, rfl⟩
  have hb1 : Below w.heap.size w W1 := by rw [hW1]; exact below_one _ _
  have HS := Lib.hid (show SBlk W1 w.heap.size v by rw [hW1]; exact Blk.new _ _ _)
  have HI := Lib.hid (hv.later hb1)
  have HG := Lib.hid (hg.later hb1)
  have HB := Lib.hid hb1
  have HRN := Lib.hid (hr.later hb1)
  have HC := Lib.hid hc
  have HV := Lib.hid hv
  have HN := Lib.hid hv.c.1
  have HW1 := Lib.hid hW1
  have hcm : c ≤ 9223372036854775807 := by have := hr.2.2.1; unfold maxLen at this; omega
  have hnc := hr.2.1
  clear hW1 hb1 hg hv hc hr
  obtain ⟨p0, p1, p2, p3, p4, p5⟩ := HS.out.cells
  by_cases hn : 20 < n
  · have hnI : (20 : Int) < (n : Int) := by omega
    clear hn
    go_enter Tryz.func4, Tryz.ntmps4
    go_upto_region 1 with fail
    rw [← HW1.out]; clear HW1
    go_wp2_with (go_at_call 12; (with_reducible refine (few_t v h L _ HI.out HC.out.h HC.out.c).mono ?_); rintro e w1 ⟨⟨b, rfl, hf⟩, hb⟩; replace HB := Lib.hid (bthen HB.out hb); clear hf hb; cases b)
    all_goals
      go_ret
      exact ⟨rfl, HB.out⟩
  have hnI : ¬ (20 : Int) < (n : Int) := by omega
  clear hn
  go_enter Tryz.func4, Tryz.ntmps4
  go_upto_region 1 with fail
  rw [← HW1.out]; clear HW1
  go_wp2_with (go_at_call 12; (with_reducible refine (few_t v h L _ HI.out HC.out.h HC.out.c).mono ?_); rintro e w1 ⟨⟨b, rfl, hf⟩, hb⟩; replace HS := Lib.hid (SBlk.later HS.out hb); replace HI := Lib.hid (SV.Is.later HI.out hb); replace HG := Lib.hid (Gl.later HG.out hb); replace HB := Lib.hid (bthen HB.out hb); replace HRN := Lib.hid (SRow.later HRN.out hb); clear p0 p1 p2 p3 p4 p5; obtain ⟨p0, p1, p2, p3, p4, p5⟩ := HS.out.cells; have HF := Lib.hid hf; clear hf hb; cases b)
  · go_ret
    exact ⟨rfl, HB.out⟩
  · have HFW := Lib.hid (HF.out (by first | rfl | trivial))
    clear HF
    have HM := Lib.hid (show (v.h.n ≤ 8 ∧ v.h.m ≤ 8) ∧ ∀ x ∈ L, x.t.n ≤ 8 ∧ x.t.m ≤ 8 ∧ x.v.n ≤ 8 ∧ x.v.m ≤ 8 ∧ x.nm.size ≤ 200 from by
      obtain ⟨f1, f2, f3⟩ := HFW.out
      unfold RV.Sh at f2
      refine ⟨⟨by omega, by omega⟩, fun x hx => ?_⟩
      obtain ⟨g1, g2, g3⟩ := f3 x hx
      unfold RV.Sh at g1 g2
      omega)
    have HNL := Lib.hid (show L.length ≤ 30 by have := HFW.out.1; have := HN.out; omega)
    have HPR := Lib.hid (print_run v h L _ HG.out HI.out ⟨by have := HM.out.1; omega, by have := HM.out.1; omega⟩ (fun x hx => by have := HM.out.2 x hx; omega) (by have := HNL.out; omega) HC.out.n)
    obtain ⟨E, hE⟩ : ∃ E, prE ⟨h, v.cas, v.bits, L.map CM.told⟩ = E := ⟨_, rfl⟩
    obtain ⟨l, hl⟩ : ∃ l, prL ⟨h, v.cas, v.bits, L.map CM.told⟩ = l := ⟨_, rfl⟩
    obtain ⟨R, hR⟩ : ∃ R, rgtM ⟨h, v.cas, v.bits, L.map CM.told⟩ ins = R := ⟨_, rfl⟩
    have HE := Lib.hid hE
    have HL := Lib.hid hl
    have HR := Lib.hid hR
    clear hE hl hR
    refine HPR.out.mono ?_
    intro e w2 hp
    obtain ⟨a1, n1, c1, rfl, ht, hb⟩ := prt_t hp
    rw [HL.out] at ht
    rw [HE.out]
    have HT1 := Lib.hid ht
    replace HS := Lib.hid (SBlk.later HS.out hb); replace HI := Lib.hid (SV.Is.later HI.out hb); replace HG := Lib.hid (Gl.later HG.out hb); replace HB := Lib.hid (bthen HB.out hb); replace HRN := Lib.hid (SRow.later HRN.out hb)
    clear hp ht hb HPR
    clear p0 p1 p2 p3 p4 p5; obtain ⟨p0, p1, p2, p3, p4, p5⟩ := HS.out.cells
    have HPR := Lib.hid (rprint_run v h L w2 HI.out ⟨by have := HM.out.1; omega, by have := HM.out.1; omega⟩ (fun x hx => by have := HM.out.2 x hx; omega) HNL.out)
    go_upto_region 5 with (go_at_call 14; (with_reducible refine HPR.out.mono ?_); intro e w3 hp; obtain ⟨a2, n2, c2, rfl, ht, hb⟩ := prt_t hp; rw [HL.out] at ht; rw [HE.out]; have HT2 := Lib.hid ht; replace HS := Lib.hid (SBlk.later HS.out hb); replace HI := Lib.hid (SV.Is.later HI.out hb); replace HG := Lib.hid (Gl.later HG.out hb); replace HB := Lib.hid (bthen HB.out hb); replace HRN := Lib.hid (SRow.later HRN.out hb); replace HT1 := Lib.hid (TRow.later HT1.out hb); clear hp ht hb; clear p0 p1 p2 p3 p4 p5; obtain ⟨p0, p1, p2, p3, p4, p5⟩ := HS.out.cells)
    obtain ⟨U, hU⟩ : ∃ U, bsL l = U := ⟨_, rfl⟩
    have HU := Lib.hid hU
    clear hU HPR
    have hb : Below w3.heap.size w3 w3.drew := (Below.refl _ _).drew
    have k1 := HT1.out.conv
    have k2 := HT2.out.conv
    replace HS := Lib.hid (SBlk.later HS.out hb); replace HI := Lib.hid (SV.Is.later HI.out hb); replace HG := Lib.hid (Gl.later HG.out hb); replace HB := Lib.hid (bthen HB.out hb); replace HRN := Lib.hid (SRow.later HRN.out hb); replace HT1 := Lib.hid (TRow.later HT1.out hb); replace HT2 := Lib.hid (TRow.later HT2.out hb); clear hb; clear p0 p1 p2 p3 p4 p5; obtain ⟨p0, p1, p2, p3, p4, p5⟩ := HS.out.cells; clear k1 k2; have k1 := HT1.out.conv; have k2 := HT2.out.conv; rw [HU.out] at k1 k2
    go_region_held3 (fun w' => w'.cell? ⟨w.heap.size, 0, none⟩ = some (.bool v.h.s) ∧ w'.cell? ⟨w.heap.size, 1, none⟩ = some (.slice v.h.a v.h.n v.h.c) ∧ w'.cell? ⟨w.heap.size, 2, none⟩ = some (.slice v.h.b v.h.m v.h.d) ∧ w'.cell? ⟨w.heap.size, 3, none⟩ = some (.int .i64 v.cas) ∧ w'.cell? ⟨w.heap.size, 4, none⟩ = some (.int .i64 v.bits) ∧ w'.cell? ⟨w.heap.size, 5, none⟩ = some (.slice v.a v.n v.c) ∧ (convert 22 9 (.slice a1 n1 c1)).run Tryz.prog w' = .ok (.string U) w' ∧ (convert 22 9 (.slice a2 n2 c2)).run Tryz.prog w' = .ok (.string U) w')
      (first | (refine ⟨?_, ?_, ?_, ?_, ?_, ?_, ?_, ?_⟩ <;> with_reducible assumption) | (go_keep; done))
      (first
        | (go_at_call 15; (with_reducible refine (right_t v h L a n c ins _ HI.out HRN.out ⟨by have := HM.out.1; omega, by have := HM.out.1; omega⟩ (fun x hx => by have := HM.out.2 x hx; omega)).mono ?_); rw [HR.out]; rintro e w4 ⟨rfl, hb⟩; replace HS := Lib.hid (SBlk.later HS.out hb); replace HI := Lib.hid (SV.Is.later HI.out hb); replace HG := Lib.hid (Gl.later HG.out hb); replace HB := Lib.hid (bthen HB.out hb); replace HRN := Lib.hid (SRow.later HRN.out hb); replace HT1 := Lib.hid (TRow.later HT1.out hb); replace HT2 := Lib.hid (TRow.later HT2.out hb); clear hb; clear p0 p1 p2 p3 p4 p5; obtain ⟨p0, p1, p2, p3, p4, p5⟩ := HS.out.cells; clear k1 k2; have k1 := HT1.out.conv; have k2 := HT2.out.conv; rw [HU.out] at k1 k2)
        | (go_at_call 16; (with_reducible refine (rright_t v h L a n c ins _ HI.out HRN.out ⟨by have := HM.out.1; omega, by have := HM.out.1; omega⟩ (fun x hx => by have := HM.out.2 x hx; omega)).mono ?_); rw [HR.out]; rintro e w5 ⟨rfl, hb⟩; replace HS := Lib.hid (SBlk.later HS.out hb); replace HI := Lib.hid (SV.Is.later HI.out hb); replace HG := Lib.hid (Gl.later HG.out hb); replace HB := Lib.hid (bthen HB.out hb); replace HRN := Lib.hid (SRow.later HRN.out hb); replace HT1 := Lib.hid (TRow.later HT1.out hb); replace HT2 := Lib.hid (TRow.later HT2.out hb); clear hb; clear p0 p1 p2 p3 p4 p5; obtain ⟨p0, p1, p2, p3, p4, p5⟩ := HS.out.cells; clear k1 k2; have k1 := HT1.out.conv; have k2 := HT2.out.conv; rw [HU.out] at k1 k2)
        | (go_at_call 11; (with_reducible refine (awake_t _ HG.out).mono ?_); rintro e w6 ⟨rfl, hb⟩; replace HS := Lib.hid (SBlk.later HS.out hb); replace HI := Lib.hid (SV.Is.later HI.out hb); replace HG := Lib.hid (Gl.later HG.out hb); replace HB := Lib.hid (bthen HB.out hb); replace HRN := Lib.hid (SRow.later HRN.out hb); replace HT1 := Lib.hid (TRow.later HT1.out hb); replace HT2 := Lib.hid (TRow.later HT2.out hb); clear hb; clear p0 p1 p2 p3 p4 p5; obtain ⟨p0, p1, p2, p3, p4, p5⟩ := HS.out.cells; clear k1 k2; have k1 := HT1.out.conv; have k2 := HT2.out.conv; rw [HU.out] at k1 k2))
    all_goals
      go_wp2
      go_ret
      exact ⟨rfl, HB.out⟩

end Go.Proofs.YtkcgikoploohkaaGreatDoor
