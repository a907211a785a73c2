/- What isAsked tells, in part. No condition. · What isAsked tells, in part. No condition. · What isAsked tells, in part. No condition. -/
import Derived.Test.YtanbekbalfbkcaaZFlKToFlL
import Derived.Deep.RegionWith
import Derived.Deep.RegionHeld3
namespace Go.Proofs.Ytanbekbalfbkcaa
set_option linter.unusedVariables false
set_option linter.unusedSimpArgs false
set_option maxRecDepth 100000
open Go.RowKit

theorem IRow.take {w : World} {B : Nat} {a : Option Addr} {n c : Nat} {xs : List Int} (h : IRow w B a n c xs) (m : Nat) (hm : m ≤ n) : IRow w B a m c (xs.take m) := by
  obtain ⟨h1, h2, h3, hn, b, off, h6, h7⟩ := h
  refine ⟨by rw [List.length_take]; omega, by omega, h3, hn, b, off, ?_, fun i hi => ?_⟩
  · rcases h6 with h | h
    · exact .inl h
    · exact .inr (by omega)
  · obtain ⟨q1, q2⟩ := h7 i (by omega)
    refine ⟨q1, ?_⟩
    rw [q2]; congr 2
    simp [List.getD, List.getElem?_take, hi]
theorem IRow.drop {w : World} {B : Nat} {b off n c : Nat} {xs : List Int} (h : IRow w B (some ⟨b, off, none⟩) n c xs) (m : Nat) (hm : m < n) : IRow w B (some ⟨b, off + m, none⟩) (n - m) (c - m) (xs.drop m) := by
  obtain ⟨h1, h2, h3, hn, b', off', h6, h7⟩ := h
  have e : b = b' ∧ off = off' := by
    rcases h6 with h | h
    · injection h with h; injection h with h4 h5 _; exact ⟨h4, h5⟩
    · omega
  obtain ⟨rfl, rfl⟩ := e
  refine ⟨by rw [List.length_drop]; omega, by omega, by omega, (fun h => by cases h), b, off + m, .inl rfl, fun i hi => ?_⟩
  obtain ⟨q1, q2⟩ := h7 (m + i) (by omega)
  refine ⟨q1, ?_⟩
  rw [Nat.add_assoc, q2]; congr 2
  simp [List.getD, List.getElem?_drop]
theorem ask_0 (args : List Int) (i N C : Nat) : askL (bs [118, 97, 114]) args i N C = (args.length == 1 && wiB args N) := rfl
theorem ask_1 (args : List Int) (i N C : Nat) : askL (bs [99, 111, 110, 116]) args i N C = (args.length == 1 && wiB args C) := rfl
theorem ask_2 (args : List Int) (i N C : Nat) : askL (bs [110, 101, 103]) args i N C = (args.length == 1 && wiB args i) := rfl
theorem ask_3 (args : List Int) (i N C : Nat) : askL (bs [43]) args i N C = (args.length == 2 && wiB args i) := rfl
theorem ask_4 (args : List Int) (i N C : Nat) : askL (bs [45]) args i N C = (args.length == 2 && wiB args i) := rfl
theorem ask_5 (args : List Int) (i N C : Nat) : askL (bs [47]) args i N C = (args.length == 2 && wiB args i) := rfl
theorem ask_6 (args : List Int) (i N C : Nat) : askL (bs [42]) args i N C = (args.length == 3 && (wiB (args.take 2) i && wiB (args.drop 2) 2)) := rfl
theorem ask_7 (args : List Int) (i N C : Nat) : askL (bs [115, 101, 108]) args i N C = (args.length == 3 && (wiB (args.take 1) N && wiB (args.drop 1) i)) := rfl
theorem ask_no (op : ByteArray) (args : List Int) (i N C : Nat) (h0 : ¬ op = bs [118, 97, 114]) (h1 : ¬ op = bs [99, 111, 110, 116]) (h2 : ¬ op = bs [110, 101, 103]) (h3 : ¬ op = bs [43]) (h4 : ¬ op = bs [45]) (h5 : ¬ op = bs [47]) (h6 : ¬ op = bs [42]) (h7 : ¬ op = bs [115, 101, 108]) : askL op args i N C = false := by
  unfold askL copVar copCont copNeg copsTwo copMul copSel
  rw [if_neg h0, if_neg h1, if_neg h2, if_neg (by simp [h3, h4, h5]), if_neg h6, if_neg h7]

set_option maxHeartbeats 1000000 in
theorem ia_2 (o : COpM) (r : Option Addr × Nat × Nat) (i : Nat) (v : FlatV) (B : Nat) (w : World) (hr : IRow w B r.1 r.2.1 r.2.2 o.args) (hB : B ≤ w.heap.size) (h : o.op = bs [110, 101, 103]) : Calls Try.prog 57 #[.agg #[.string o.op, sl3 r], .int .i64 (i : Int), flatV v] w fun e w' => e = .returned (.bool (askL o.op o.args i v.names.2.1 v.conts.2.1)) ∧ Below w.heap.size w w' := by
  obtain ⟨op, args⟩ := o
  obtain ⟨a, n, c⟩ := r
  simp only at h hr
  have hm := hr.len_le
  unfold maxLen at hm
  have HE := Lib.hid (ask_2 args i v.names.2.1 v.conts.2.1)
  subst h
  unfold bs at HE ⊢
  have HR := Lib.hid (hr.below ((((Below.refl B w).alloc hB (.cells #[.string ⟨#[110, 101, 103]⟩, .slice a n c] 80))).alloc (by simp; omega) (.cells (fvs v) 29)))
  have HL := Lib.hid hr.1
  have HR0 := Lib.hid hr
  have hcm := hr.2.1
  have hcx : c ≤ 9223372036854775807 := by have := hr.2.2.1; unfold maxLen at this; omega
  clear hr
  unfold flatV sl3
  by_cases hn : n = 1
  · subst hn
    have H1 := Lib.hid (rfl : wiB args i = wiB args i)
    have HV : Hid (askL ⟨#[110, 101, 103]⟩ args i v.names.2.1 v.conts.2.1 = wiB args i) := Lib.hid (by rw [HE.out, HL.out]; simp)
    go_enter Try.func57, Try.ntmps57
    go_wp2_with (go_at_call 63; refine (arePlaces_at a 1 c B args i _ _ HR.out H1.out).mono ?_; rintro e w' ⟨rfl, rfl⟩)
    go_ret
    exact ⟨by rw [HV.out]; rfl, ((Below.refl _ _).alloc (Nat.le_refl _) _).alloc (by simp) _⟩
  · have HV : Hid (askL ⟨#[110, 101, 103]⟩ args i v.names.2.1 v.conts.2.1 = false) := Lib.hid (by rw [HE.out, HL.out, beq_eq_false_iff_ne.2 hn]; rfl)
    have g1 : ((n : Int) == 1) = false := by rw [beq_eq_false_iff_ne]; omega
    go_enter Try.func57, Try.ntmps57
    go_wp2
    go_ret
    exact ⟨by rw [HV.out]; rfl, ((Below.refl _ _).alloc (Nat.le_refl _) _).alloc (by simp) _⟩

set_option maxHeartbeats 1000000 in
theorem ia_3 (o : COpM) (r : Option Addr × Nat × Nat) (i : Nat) (v : FlatV) (B : Nat) (w : World) (hr : IRow w B r.1 r.2.1 r.2.2 o.args) (hB : B ≤ w.heap.size) (h : o.op = bs [43]) : Calls Try.prog 57 #[.agg #[.string o.op, sl3 r], .int .i64 (i : Int), flatV v] w fun e w' => e = .returned (.bool (askL o.op o.args i v.names.2.1 v.conts.2.1)) ∧ Below w.heap.size w w' := by
  obtain ⟨op, args⟩ := o
  obtain ⟨a, n, c⟩ := r
  simp only at h hr
  have hm := hr.len_le
  unfold maxLen at hm
  have HE := Lib.hid (ask_3 args i v.names.2.1 v.conts.2.1)
  subst h
  unfold bs at HE ⊢
  have HR := Lib.hid (hr.below ((((Below.refl B w).alloc hB (.cells #[.string ⟨#[43]⟩, .slice a n c] 80))).alloc (by simp; omega) (.cells (fvs v) 29)))
  have HL := Lib.hid hr.1
  have HR0 := Lib.hid hr
  have hcm := hr.2.1
  have hcx : c ≤ 9223372036854775807 := by have := hr.2.2.1; unfold maxLen at this; omega
  clear hr
  unfold flatV sl3
  by_cases hn : n = 2
  · subst hn
    have H1 := Lib.hid (rfl : wiB args i = wiB args i)
    have HV : Hid (askL ⟨#[43]⟩ args i v.names.2.1 v.conts.2.1 = wiB args i) := Lib.hid (by rw [HE.out, HL.out]; simp)
    go_enter Try.func57, Try.ntmps57
    go_wp2_with (go_at_call 63; refine (arePlaces_at a 2 c B args i _ _ HR.out H1.out).mono ?_; rintro e w' ⟨rfl, rfl⟩)
    go_ret
    exact ⟨by rw [HV.out]; rfl, ((Below.refl _ _).alloc (Nat.le_refl _) _).alloc (by simp) _⟩
  · have HV : Hid (askL ⟨#[43]⟩ args i v.names.2.1 v.conts.2.1 = false) := Lib.hid (by rw [HE.out, HL.out, beq_eq_false_iff_ne.2 hn]; rfl)
    have g1 : ((n : Int) == 2) = false := by rw [beq_eq_false_iff_ne]; omega
    go_enter Try.func57, Try.ntmps57
    go_wp2
    go_ret
    exact ⟨by rw [HV.out]; rfl, ((Below.refl _ _).alloc (Nat.le_refl _) _).alloc (by simp) _⟩

set_option maxHeartbeats 1000000 in
theorem ia_4 (o : COpM) (r : Option Addr × Nat × Nat) (i : Nat) (v : FlatV) (B : Nat) (w : World) (hr : IRow w B r.1 r.2.1 r.2.2 o.args) (hB : B ≤ w.heap.size) (h : o.op = bs [45]) : Calls Try.prog 57 #[.agg #[.string o.op, sl3 r], .int .i64 (i : Int), flatV v] w fun e w' => e = .returned (.bool (askL o.op o.args i v.names.2.1 v.conts.2.1)) ∧ Below w.heap.size w w' := by
  obtain ⟨op, args⟩ := o
  obtain ⟨a, n, c⟩ := r
  simp only at h hr
  have hm := hr.len_le
  unfold maxLen at hm
  have HE := Lib.hid (ask_4 args i v.names.2.1 v.conts.2.1)
  subst h
  unfold bs at HE ⊢
  have HR := Lib.hid (hr.below ((((Below.refl B w).alloc hB (.cells #[.string ⟨#[45]⟩, .slice a n c] 80))).alloc (by simp; omega) (.cells (fvs v) 29)))
  have HL := Lib.hid hr.1
  have HR0 := Lib.hid hr
  have hcm := hr.2.1
  have hcx : c ≤ 9223372036854775807 := by have := hr.2.2.1; unfold maxLen at this; omega
  clear hr
  unfold flatV sl3
  by_cases hn : n = 2
  · subst hn
    have H1 := Lib.hid (rfl : wiB args i = wiB args i)
    have HV : Hid (askL ⟨#[45]⟩ args i v.names.2.1 v.conts.2.1 = wiB args i) := Lib.hid (by rw [HE.out, HL.out]; simp)
    go_enter Try.func57, Try.ntmps57
    go_wp2_with (go_at_call 63; refine (arePlaces_at a 2 c B args i _ _ HR.out H1.out).mono ?_; rintro e w' ⟨rfl, rfl⟩)
    go_ret
    exact ⟨by rw [HV.out]; rfl, ((Below.refl _ _).alloc (Nat.le_refl _) _).alloc (by simp) _⟩
  · have HV : Hid (askL ⟨#[45]⟩ args i v.names.2.1 v.conts.2.1 = false) := Lib.hid (by rw [HE.out, HL.out, beq_eq_false_iff_ne.2 hn]; rfl)
    have g1 : ((n : Int) == 2) = false := by rw [beq_eq_false_iff_ne]; omega
    go_enter Try.func57, Try.ntmps57
    go_wp2
    go_ret
    exact ⟨by rw [HV.out]; rfl, ((Below.refl _ _).alloc (Nat.le_refl _) _).alloc (by simp) _⟩

set_option maxHeartbeats 1000000 in
theorem ia_5 (o : COpM) (r : Option Addr × Nat × Nat) (i : Nat) (v : FlatV) (B : Nat) (w : World) (hr : IRow w B r.1 r.2.1 r.2.2 o.args) (hB : B ≤ w.heap.size) (h : o.op = bs [47]) : Calls Try.prog 57 #[.agg #[.string o.op, sl3 r], .int .i64 (i : Int), flatV v] w fun e w' => e = .returned (.bool (askL o.op o.args i v.names.2.1 v.conts.2.1)) ∧ Below w.heap.size w w' := by
  obtain ⟨op, args⟩ := o
  obtain ⟨a, n, c⟩ := r
  simp only at h hr
  have hm := hr.len_le
  unfold maxLen at hm
  have HE := Lib.hid (ask_5 args i v.names.2.1 v.conts.2.1)
  subst h
  unfold bs at HE ⊢
  have HR := Lib.hid (hr.below ((((Below.refl B w).alloc hB (.cells #[.string ⟨#[47]⟩, .slice a n c] 80))).alloc (by simp; omega) (.cells (fvs v) 29)))
  have HL := Lib.hid hr.1
  have HR0 := Lib.hid hr
  have hcm := hr.2.1
  have hcx : c ≤ 9223372036854775807 := by have := hr.2.2.1; unfold maxLen at this; omega
  clear hr
  unfold flatV sl3
  by_cases hn : n = 2
  · subst hn
    have H1 := Lib.hid (rfl : wiB args i = wiB args i)
    have HV : Hid (askL ⟨#[47]⟩ args i v.names.2.1 v.conts.2.1 = wiB args i) := Lib.hid (by rw [HE.out, HL.out]; simp)
    go_enter Try.func57, Try.ntmps57
    go_wp2_with (go_at_call 63; refine (arePlaces_at a 2 c B args i _ _ HR.out H1.out).mono ?_; rintro e w' ⟨rfl, rfl⟩)
    go_ret
    exact ⟨by rw [HV.out]; rfl, ((Below.refl _ _).alloc (Nat.le_refl _) _).alloc (by simp) _⟩
  · have HV : Hid (askL ⟨#[47]⟩ args i v.names.2.1 v.conts.2.1 = false) := Lib.hid (by rw [HE.out, HL.out, beq_eq_false_iff_ne.2 hn]; rfl)
    have g1 : ((n : Int) == 2) = false := by rw [beq_eq_false_iff_ne]; omega
    go_enter Try.func57, Try.ntmps57
    go_wp2
    go_ret
    exact ⟨by rw [HV.out]; rfl, ((Below.refl _ _).alloc (Nat.le_refl _) _).alloc (by simp) _⟩

end Go.Proofs.Ytanbekbalfbkcaa

namespace Go.Proofs.Ytanbekbalfbkcaa
set_option linter.unusedVariables false
set_option linter.unusedSimpArgs false
set_option maxRecDepth 100000
open Go.RowKit

theorem below_drewN {B n : Nat} {a w : World} (h : Below B a w) : Below B a (w.drewN n) := ⟨h.os, h.tape, h.output, h.size, h.block⟩
theorem one_int {xs : List Int} (h : xs.length = 1) : ∃ x, xs = [x] := by
  match xs, h with
  | [x], _ => exact ⟨x, rfl⟩
theorem three_int {xs : List Int} (h : xs.length = 3) : ∃ x y z, xs = [x, y, z] := by
  match xs, h with
  | [x, y, z], _ => exact ⟨x, y, z, rfl⟩
theorem wiB_one (x : Int) (n : Nat) : wiB [x] n = plB x n := by simp [wiB]

set_option maxHeartbeats 1000000 in
theorem ia_0 (o : COpM) (r : Option Addr × Nat × Nat) (i : Nat) (v : FlatV) (B : Nat) (w : World) (hr : IRow w B r.1 r.2.1 r.2.2 o.args) (hB : B ≤ w.heap.size) (h : o.op = bs [118, 97, 114]) : Calls Try.prog 57 #[.agg #[.string o.op, sl3 r], .int .i64 (i : Int), flatV v] w fun e w' => e = .returned (.bool (askL o.op o.args i v.names.2.1 v.conts.2.1)) ∧ Below w.heap.size w w' := by
  obtain ⟨op, args⟩ := o
  obtain ⟨a, n, c⟩ := r
  simp only at h hr
  have hm := hr.len_le
  unfold maxLen at hm
  have HE := Lib.hid (ask_0 args i v.names.2.1 v.conts.2.1)
  subst h
  unfold bs at HE ⊢
  have HR := Lib.hid (hr.below ((((Below.refl B w).alloc hB (.cells #[.string ⟨#[118, 97, 114]⟩, .slice a n c] 80))).alloc (by simp; omega) (.cells (fvs v) 29)))
  have HL := Lib.hid hr.1
  have HR0 := Lib.hid hr
  have hcm := hr.2.1
  have hcx : c ≤ 9223372036854775807 := by have := hr.2.2.1; unfold maxLen at this; omega
  clear hr
  unfold flatV sl3
  by_cases hn : n = 1
  · subst hn
    obtain ⟨x, rfl⟩ := one_int HL.out
    have HV : Hid (askL ⟨#[118, 97, 114]⟩ [x] i v.names.2.1 v.conts.2.1 = plB x v.names.2.1) := Lib.hid (by rw [HE.out, wiB_one]; simp)
    obtain ⟨b, off, ha, hb, hcell⟩ := HR.out.at_ (i := 0) (by decide)
    subst ha
    have hcell' : ((w.alloc (.cells #[.string ⟨#[118, 97, 114]⟩, .slice (some ⟨b, off, none⟩) 1 c] 80)).alloc (.cells (fvs v) 29)).cell? ⟨b, off, none⟩ = some (.int .i64 x) := hcell
    unfold fvs at hcell'
    have hbw : b < w.heap.size := Nat.lt_of_lt_of_le hb hB
    clear hcell
    go_enter Try.func57, Try.ntmps57
    go_wp2
    go_region_with (go_at_call 55; refine (isVar_at x v _ _ rfl).mono ?_; rintro e w1 ⟨rfl, hb⟩; have HB := Lib.hid hb; clear hb)
    all_goals
      go_wp2
      go_ret
      first
        | exact ⟨by rw [HV.out]; rfl, (((Below.refl _ _).alloc (Nat.le_refl _) _).alloc (by simp) _).drew⟩
        | exact ⟨by rw [HV.out]; rfl, ((((Below.refl _ _).alloc (Nat.le_refl _) _).alloc (by simp) _).drew).trans (HB.out.mono (by simp; omega))⟩
  · have HV : Hid (askL ⟨#[118, 97, 114]⟩ args i v.names.2.1 v.conts.2.1 = false) := Lib.hid (by rw [HE.out, HL.out, beq_eq_false_iff_ne.2 hn]; rfl)
    have g1 : ((n : Int) == 1) = false := by rw [beq_eq_false_iff_ne]; omega
    go_enter Try.func57, Try.ntmps57
    go_wp2
    go_quiet (fail)
    go_wp2
    go_ret
    exact ⟨by rw [HV.out]; rfl, by first | exact ((Below.refl _ _).alloc (Nat.le_refl _) _).alloc (by simp) _ | exact ((Below.refl _ _).alloc (Nat.le_refl _) _ |>.alloc (by simp) _).drew | exact below_drewN (((Below.refl _ _).alloc (Nat.le_refl _) _).alloc (by simp) _)⟩

set_option maxHeartbeats 1000000 in
theorem ia_1 (o : COpM) (r : Option Addr × Nat × Nat) (i : Nat) (v : FlatV) (B : Nat) (w : World) (hr : IRow w B r.1 r.2.1 r.2.2 o.args) (hB : B ≤ w.heap.size) (h : o.op = bs [99, 111, 110, 116]) : Calls Try.prog 57 #[.agg #[.string o.op, sl3 r], .int .i64 (i : Int), flatV v] w fun e w' => e = .returned (.bool (askL o.op o.args i v.names.2.1 v.conts.2.1)) ∧ Below w.heap.size w w' := by
  obtain ⟨op, args⟩ := o
  obtain ⟨a, n, c⟩ := r
  simp only at h hr
  have hm := hr.len_le
  unfold maxLen at hm
  have HE := Lib.hid (ask_1 args i v.names.2.1 v.conts.2.1)
  subst h
  unfold bs at HE ⊢
  have HR := Lib.hid (hr.below ((((Below.refl B w).alloc hB (.cells #[.string ⟨#[99, 111, 110, 116]⟩, .slice a n c] 80))).alloc (by simp; omega) (.cells (fvs v) 29)))
  have HL := Lib.hid hr.1
  have HR0 := Lib.hid hr
  have hcm := hr.2.1
  have hcx : c ≤ 9223372036854775807 := by have := hr.2.2.1; unfold maxLen at this; omega
  clear hr
  unfold flatV sl3
  by_cases hn : n = 1
  · subst hn
    obtain ⟨x, rfl⟩ := one_int HL.out
    have HV : Hid (askL ⟨#[99, 111, 110, 116]⟩ [x] i v.names.2.1 v.conts.2.1 = plB x v.conts.2.1) := Lib.hid (by rw [HE.out, wiB_one]; simp)
    obtain ⟨b, off, ha, hb, hcell⟩ := HR.out.at_ (i := 0) (by decide)
    subst ha
    have hcell' : ((w.alloc (.cells #[.string ⟨#[99, 111, 110, 116]⟩, .slice (some ⟨b, off, none⟩) 1 c] 80)).alloc (.cells (fvs v) 29)).cell? ⟨b, off, none⟩ = some (.int .i64 x) := hcell
    unfold fvs at hcell'
    have hbw : b < w.heap.size := Nat.lt_of_lt_of_le hb hB
    clear hcell
    go_enter Try.func57, Try.ntmps57
    go_wp2
    go_region_with (go_at_call 50; refine (isPlace_at x v.conts.2.1 _ _ rfl).mono ?_; rintro e w1 ⟨rfl, rfl⟩)
    all_goals
      go_wp2
      go_ret
      first
        | exact ⟨by rw [HV.out]; rfl, (((Below.refl _ _).alloc (Nat.le_refl _) _).alloc (by simp) _).drew⟩
        | exact ⟨by rw [HV.out]; rfl, ((((Below.refl _ _).alloc (Nat.le_refl _) _).alloc (by simp) _).drew).trans (HB.out.mono (by simp; omega))⟩
  · have HV : Hid (askL ⟨#[99, 111, 110, 116]⟩ args i v.names.2.1 v.conts.2.1 = false) := Lib.hid (by rw [HE.out, HL.out, beq_eq_false_iff_ne.2 hn]; rfl)
    have g1 : ((n : Int) == 1) = false := by rw [beq_eq_false_iff_ne]; omega
    go_enter Try.func57, Try.ntmps57
    go_wp2
    go_quiet (fail)
    go_wp2
    go_ret
    exact ⟨by rw [HV.out]; rfl, by first | exact ((Below.refl _ _).alloc (Nat.le_refl _) _).alloc (by simp) _ | exact ((Below.refl _ _).alloc (Nat.le_refl _) _ |>.alloc (by simp) _).drew | exact below_drewN (((Below.refl _ _).alloc (Nat.le_refl _) _).alloc (by simp) _)⟩

end Go.Proofs.Ytanbekbalfbkcaa

namespace Go.Proofs.Ytanbekbalfbkcaa
set_option linter.unusedVariables false
set_option linter.unusedSimpArgs false
set_option maxRecDepth 100000
open Go.RowKit

theorem sel_keep {w' : World} {b off g : Nat} {x : Int} {v : FlatV} (h : w'.cell? ⟨b, off, none⟩ = some (.int .i64 x)) (k : Blk w' g 29 (fvs v)) : w'.cell? ⟨b, off, none⟩ = some (.int .i64 x) ∧
    w'.cell? ⟨g, 0, none⟩ = some (.slice v.ins.1 v.ins.2.1 v.ins.2.2) ∧ w'.cell? ⟨g, 1, none⟩ = some (.slice v.names.1 v.names.2.1 v.names.2.2) ∧ w'.cell? ⟨g, 2, none⟩ = some (.slice v.outs.1 v.outs.2.1 v.outs.2.2) ∧ w'.cell? ⟨g, 3, none⟩ = some (.slice v.eqs.1 v.eqs.2.1 v.eqs.2.2) ∧
    w'.cell? ⟨g, 4, none⟩ = some (.slice v.mems.1 v.mems.2.1 v.mems.2.2) ∧ w'.cell? ⟨g, 5, none⟩ = some (.slice v.conts.1 v.conts.2.1 v.conts.2.2) ∧ w'.cell? ⟨g, 6, none⟩ = some (.slice v.cross.1 v.cross.2.1 v.cross.2.2) ∧ w'.cell? ⟨g, 7, none⟩ = some (.slice v.again.1 v.again.2.1 v.again.2.2) := ⟨h, k.flat⟩
theorem isPlace2 (i : Int) (b : Bool) (w : World) (h : plB i 2 = b) : Calls Try.prog 50 #[.int .i64 i, .int .i64 2] w fun e w' => e = .returned (.bool b) ∧ w = w' := isPlace_at i 2 b w h

set_option maxHeartbeats 1000000 in
theorem ia_6 (o : COpM) (r : Option Addr × Nat × Nat) (i : Nat) (v : FlatV) (B : Nat) (w : World) (hr : IRow w B r.1 r.2.1 r.2.2 o.args) (hB : B ≤ w.heap.size) (h : o.op = bs [42]) : Calls Try.prog 57 #[.agg #[.string o.op, sl3 r], .int .i64 (i : Int), flatV v] w fun e w' => e = .returned (.bool (askL o.op o.args i v.names.2.1 v.conts.2.1)) ∧ Below w.heap.size w w' := by
  obtain ⟨op, args⟩ := o
  obtain ⟨a, n, c⟩ := r
  simp only at h hr
  have hm := hr.len_le
  unfold maxLen at hm
  have HE := Lib.hid (ask_6 args i v.names.2.1 v.conts.2.1)
  subst h
  unfold bs at HE ⊢
  have HR := Lib.hid (hr.below ((((Below.refl B w).alloc hB (.cells #[.string ⟨#[42]⟩, .slice a n c] 80))).alloc (by simp; omega) (.cells (fvs v) 29)))
  have HL := Lib.hid hr.1
  have HR0 := Lib.hid hr
  have hcm := hr.2.1
  have hcx : c ≤ 9223372036854775807 := by have := hr.2.2.1; unfold maxLen at this; omega
  clear hr
  unfold flatV sl3
  by_cases hn : n = 3
  · subst hn
    obtain ⟨x, y, z, rfl⟩ := three_int HL.out
    obtain ⟨b, off, ha, hb, hcell⟩ := HR.out.at_ (i := 0) (by decide)
    obtain ⟨b', off', ha', hb', hcell2⟩ := HR0.out.at_ (i := 2) (by decide)
    subst ha
    injection ha' with ha'; injection ha' with hx1 hx2 _; subst hx1; subst hx2
    have hbw : b < w.heap.size := Nat.lt_of_lt_of_le hb hB
    have hcell' : w.cell? ⟨b, off + 2, none⟩ = some (.int .i64 z) := hcell2
    clear hcell hcell2
    have HR1 := Lib.hid (HR.out.take 2 (by decide))
    cases h1 : wiB [x, y] i with
    | false =>
      have H1 := Lib.hid h1; clear h1
      have HV : Hid (askL ⟨#[42]⟩ [x, y, z] i v.names.2.1 v.conts.2.1 = false) := Lib.hid (by rw [HE.out]; show (_ && (wiB [x, y] i && _)) = _; rw [H1.out]; simp)
      go_enter Try.func57, Try.ntmps57
      go_wp2_with (go_at_call 63; refine (arePlaces_at (some ⟨b, off, none⟩) 2 c B [x, y] i false _ HR1.out H1.out).mono ?_; rintro e w' ⟨rfl, rfl⟩)
      go_ret
      exact ⟨by rw [HV.out]; rfl, ((Below.refl _ _).alloc (Nat.le_refl _) _).alloc (by simp) _⟩
    | true =>
      have H1 := Lib.hid h1; clear h1
      have HV : Hid (askL ⟨#[42]⟩ [x, y, z] i v.names.2.1 v.conts.2.1 = plB z 2) := Lib.hid (by rw [HE.out]; show (_ && (wiB [x, y] i && wiB [z] 2)) = _; rw [H1.out, wiB_one]; simp)
      go_enter Try.func57, Try.ntmps57
      go_wp2_with (first | (go_at_call 63; refine (arePlaces_at (some ⟨b, off, none⟩) 2 c B [x, y] i true _ HR1.out H1.out).mono ?_; rintro e w' ⟨rfl, rfl⟩) | (go_at_call 50; refine (isPlace2 z _ _ rfl).mono ?_; rintro e w' ⟨rfl, rfl⟩))
      go_ret
      exact ⟨by rw [HV.out]; rfl, ((Below.refl _ _).alloc (Nat.le_refl _) _).alloc (by simp) _⟩
  · have HV : Hid (askL ⟨#[42]⟩ args i v.names.2.1 v.conts.2.1 = false) := Lib.hid (by rw [HE.out, HL.out, beq_eq_false_iff_ne.2 hn]; rfl)
    have g1 : ((n : Int) == 3) = false := by rw [beq_eq_false_iff_ne]; omega
    go_enter Try.func57, Try.ntmps57
    go_wp2
    go_ret
    exact ⟨by rw [HV.out]; rfl, by first | exact ((Below.refl _ _).alloc (Nat.le_refl _) _).alloc (by simp) _ | exact below_drewN (((Below.refl _ _).alloc (Nat.le_refl _) _).alloc (by simp) _)⟩

end Go.Proofs.Ytanbekbalfbkcaa
