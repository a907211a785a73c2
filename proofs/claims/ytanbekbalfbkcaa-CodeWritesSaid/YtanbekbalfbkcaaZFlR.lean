/- What isAsked tells. No condition. -/
import Derived.Test.YtanbekbalfbkcaaZFlOToFlQ
import Derived.Deep.RegionWith
import Derived.Deep.RegionHeld3
namespace Go.Proofs.Ytanbekbalfbkcaa
set_option linter.unusedVariables false
set_option linter.unusedSimpArgs false
set_option maxRecDepth 100000
open Go.RowKit


set_option maxHeartbeats 1000000 in
theorem ia_7 (o : COpM) (r : Option Addr × Nat × Nat) (i : Nat) (v : FlatV) (B : Nat) (w : World) (hr : IRow w B r.1 r.2.1 r.2.2 o.args) (hB : B ≤ w.heap.size) (h : o.op = bs [115, 101, 108]) : Calls Try.prog 57 #[.agg #[.string o.op, sl3 r], .int .i64 (i : Int), flatV v] w fun e w' => e = .returned (.bool (askL o.op o.args i v.names.2.1 v.conts.2.1)) ∧ Below w.heap.size w w' := by
  obtain ⟨op, args⟩ := o
  obtain ⟨a, n, c⟩ := r
  simp only at h hr
  have hm := hr.len_le
  unfold maxLen at hm
  have HE := Lib.hid (ask_7 args i v.names.2.1 v.conts.2.1)
  subst h
  unfold bs at HE ⊢
  have HR := Lib.hid (hr.below ((((Below.refl B w).alloc hB (.cells #[.string ⟨#[115, 101, 108]⟩, .slice a n c] 80))).alloc (by simp; omega) (.cells (fvs v) 29)))
  have HL := Lib.hid hr.1
  have HR0 := Lib.hid hr
  have hcm := hr.2.1
  have hcx : c ≤ 9223372036854775807 := by have := hr.2.2.1; unfold maxLen at this; omega
  clear hr
  unfold flatV sl3
  by_cases hn : n = 3
  · subst hn
    obtain ⟨x, y, z, rfl⟩ := three_int HL.out
    obtain ⟨b, off, ha, hb, hcell⟩ := HR.out.at_ (i := 0) (by decide)
    obtain ⟨b', off', ha', hb', hcell2⟩ := HR0.out.at_ (i := 2) (by decide)
    subst ha
    injection ha' with ha'; injection ha' with hx1 hx2 _; subst hx1; subst hx2
    have hbw : b < w.heap.size := Nat.lt_of_lt_of_le hb hB
    have HC : Hid (((w.alloc (.cells #[.string ⟨#[115, 101, 108]⟩, .slice (some ⟨b, off, none⟩) 3 c] 80)).alloc (.cells (fvs v) 29)).drew.cell? ⟨b, off, none⟩ = some (.int .i64 x)) := Lib.hid hcell
    have HKB : Hid (Blk ((w.alloc (.cells #[.string ⟨#[115, 101, 108]⟩, .slice (some ⟨b, off, none⟩) 3 c] 80)).alloc (.cells (fvs v) 29)).drew (w.heap.size + 1) 29 (fvs v)) := Lib.hid (by have := Blk.new (w.alloc (.cells #[.string ⟨#[115, 101, 108]⟩, .slice (some ⟨b, off, none⟩) 3 c] 80)) 29 (fvs v); rw [show (w.alloc (.cells #[.string ⟨#[115, 101, 108]⟩, .slice (some ⟨b, off, none⟩) 3 c] 80)).heap.size = w.heap.size + 1 from by simp] at this; exact this)
    clear hcell hcell2
    have HR1 := Lib.hid (HR.out.drop 1 (by decide))
    have hc1 : ¬ c = 1 := by omega
    have hc3 : ¬ c ≤ 1 := by omega
    cases h1 : plB x v.names.2.1 with
    | false =>
      have H1 := Lib.hid h1; clear h1
      have HV : Hid (askL ⟨#[115, 101, 108]⟩ [x, y, z] i v.names.2.1 v.conts.2.1 = false) := Lib.hid (by rw [HE.out]; show (_ && (wiB [x] _ && _)) = _; rw [wiB_one, H1.out]; simp)
      have hcell' : ((w.alloc (.cells #[.string ⟨#[115, 101, 108]⟩, .slice (some ⟨b, off, none⟩) 3 c] 80)).alloc (.cells (fvs v) 29)).cell? ⟨b, off, none⟩ = some (.int .i64 x) := HC.out
      unfold fvs at hcell'
      clear HC HKB
      go_enter Try.func57, Try.ntmps57
      go_wp2
      first | (go_region_with (go_at_call 55; refine (isVar_at x v false _ H1.out).mono ?_; rintro e w1 ⟨rfl, hb⟩; have HB := Lib.hid hb; clear hb)) | fail
      all_goals
        try go_wp2
        go_ret
        exact ⟨by rw [HV.out]; rfl, ((((Below.refl _ _).alloc (Nat.le_refl _) _).alloc (by simp) _).drew).trans (HB.out.mono (by simp; omega))⟩
    | true =>
      have H1 := Lib.hid h1; clear h1
      have HV : Hid (askL ⟨#[115, 101, 108]⟩ [x, y, z] i v.names.2.1 v.conts.2.1 = wiB [y, z] i) := Lib.hid (by rw [HE.out]; show (_ && (wiB [x] _ && wiB [y, z] i)) = _; rw [wiB_one, H1.out]; simp)
      go_enter Try.func57, Try.ntmps57
      go_wp2
      first | (go_region_held3 (fun w' => w'.cell? ⟨b, off, none⟩ = some (.int .i64 x) ∧ w'.cell? ⟨w.heap.size + 1, 0, none⟩ = some (.slice v.ins.1 v.ins.2.1 v.ins.2.2) ∧ w'.cell? ⟨w.heap.size + 1, 1, none⟩ = some (.slice v.names.1 v.names.2.1 v.names.2.2) ∧ w'.cell? ⟨w.heap.size + 1, 2, none⟩ = some (.slice v.outs.1 v.outs.2.1 v.outs.2.2) ∧ w'.cell? ⟨w.heap.size + 1, 3, none⟩ = some (.slice v.eqs.1 v.eqs.2.1 v.eqs.2.2) ∧ w'.cell? ⟨w.heap.size + 1, 4, none⟩ = some (.slice v.mems.1 v.mems.2.1 v.mems.2.2) ∧ w'.cell? ⟨w.heap.size + 1, 5, none⟩ = some (.slice v.conts.1 v.conts.2.1 v.conts.2.2) ∧ w'.cell? ⟨w.heap.size + 1, 6, none⟩ = some (.slice v.cross.1 v.cross.2.1 v.cross.2.2) ∧ w'.cell? ⟨w.heap.size + 1, 7, none⟩ = some (.slice v.again.1 v.again.2.1 v.again.2.2)) (exact sel_keep HC.out HKB.out) (first | (go_at_call 55; refine (isVar_at x v true _ H1.out).mono ?_; rintro e w1 ⟨rfl, hb⟩; have HB := Lib.hid hb; replace HKB := Lib.hid (HKB.out.below hb (by simp)); replace HC := Lib.hid ((hb.cell (p := ⟨b, off, none⟩) (by simp; omega)).trans HC.out); clear hb) | (go_at_call 63; refine (arePlaces_at (some ⟨b, off + 1, none⟩) 2 (c - 1) B [y, z] i _ _ (HR1.out.below (((Below.refl _ _).drew).trans (HB.out.mono (by simp; omega)))) rfl).mono ?_; rintro e w' ⟨rfl, rfl⟩))) | fail
      all_goals
        go_wp2
        go_ret
        exact ⟨by rw [HV.out]; rfl, ((((Below.refl _ _).alloc (Nat.le_refl _) _).alloc (by simp) _).drew).trans (HB.out.mono (by simp; omega))⟩
  · have HV : Hid (askL ⟨#[115, 101, 108]⟩ args i v.names.2.1 v.conts.2.1 = false) := Lib.hid (by rw [HE.out, HL.out, beq_eq_false_iff_ne.2 hn]; rfl)
    have g1 : ((n : Int) == 3) = false := by rw [beq_eq_false_iff_ne]; omega
    go_enter Try.func57, Try.ntmps57
    go_wp2
    go_quiet (fail)
    go_wp2
    go_ret
    exact ⟨by rw [HV.out]; rfl, by first | exact ((Below.refl _ _).alloc (Nat.le_refl _) _).alloc (by simp) _ | exact below_drewN (((Below.refl _ _).alloc (Nat.le_refl _) _).alloc (by simp) _)⟩

set_option maxHeartbeats 1000000 in
theorem ia_none (o : COpM) (r : Option Addr × Nat × Nat) (i : Nat) (v : FlatV) (B : Nat) (w : World) (hr : IRow w B r.1 r.2.1 r.2.2 o.args) (hB : B ≤ w.heap.size) (h0 : ¬ o.op = bs [118, 97, 114]) (h1 : ¬ o.op = bs [99, 111, 110, 116]) (h2 : ¬ o.op = bs [110, 101, 103]) (h3 : ¬ o.op = bs [43]) (h4 : ¬ o.op = bs [45]) (h5 : ¬ o.op = bs [47]) (h6 : ¬ o.op = bs [42]) (h7 : ¬ o.op = bs [115, 101, 108]) : Calls Try.prog 57 #[.agg #[.string o.op, sl3 r], .int .i64 (i : Int), flatV v] w fun e w' => e = .returned (.bool (askL o.op o.args i v.names.2.1 v.conts.2.1)) ∧ Below w.heap.size w w' := by
  obtain ⟨op, args⟩ := o
  obtain ⟨a, n, c⟩ := r
  simp only at h0 h1 h2 h3 h4 h5 h6 h7
  have HE := Lib.hid (ask_no op args i v.names.2.1 v.conts.2.1 h0 h1 h2 h3 h4 h5 h6 h7)
  have g0 := str_no h0; clear h0
  have g1 := str_no h1; clear h1
  have g2 := str_no h2; clear h2
  have g3 := str_no h3; clear h3
  have g4 := str_no h4; clear h4
  have g5 := str_no h5; clear h5
  have g6 := str_no h6; clear h6
  have g7 := str_no h7; clear h7
  unfold flatV sl3
  go_enter Try.func57, Try.ntmps57
  go_wp2
  go_ret
  exact ⟨by rw [HE.out]; rfl, ((Below.refl _ _).alloc (Nat.le_refl _) _).alloc (by simp) _⟩
theorem isAsked_at (o : COpM) (r : Option Addr × Nat × Nat) (i : Nat) (v : FlatV) (B : Nat) (w : World) (hr : IRow w B r.1 r.2.1 r.2.2 o.args) (hB : B ≤ w.heap.size) : Calls Try.prog 57 #[.agg #[.string o.op, sl3 r], .int .i64 (i : Int), flatV v] w fun e w' => e = .returned (.bool (askL o.op o.args i v.names.2.1 v.conts.2.1)) ∧ Below w.heap.size w w' := by
  by_cases h0 : o.op = bs [118, 97, 114]
  · exact ia_0 o r i v B w hr hB h0
  by_cases h1 : o.op = bs [99, 111, 110, 116]
  · exact ia_1 o r i v B w hr hB h1
  by_cases h2 : o.op = bs [110, 101, 103]
  · exact ia_2 o r i v B w hr hB h2
  by_cases h3 : o.op = bs [43]
  · exact ia_3 o r i v B w hr hB h3
  by_cases h4 : o.op = bs [45]
  · exact ia_4 o r i v B w hr hB h4
  by_cases h5 : o.op = bs [47]
  · exact ia_5 o r i v B w hr hB h5
  by_cases h6 : o.op = bs [42]
  · exact ia_6 o r i v B w hr hB h6
  by_cases h7 : o.op = bs [115, 101, 108]
  · exact ia_7 o r i v B w hr hB h7
  exact ia_none o r i v B w hr hB h0 h1 h2 h3 h4 h5 h6 h7
theorem isAsked_b (o : COpM) (r : Option Addr × Nat × Nat) (i : Nat) (v : FlatV) (B : Nat) (b : Bool) (w : World) (hr : IRow w B r.1 r.2.1 r.2.2 o.args) (hB : B ≤ w.heap.size) (h : askL o.op o.args i v.names.2.1 v.conts.2.1 = b) :
    Calls Try.prog 57 #[.agg #[.string o.op, sl3 r], .int .i64 (i : Int), flatV v] w fun e w' => e = .returned (.bool b) ∧ Below w.heap.size w w' := by
  subst h; exact isAsked_at o r i v B w hr hB

end Go.Proofs.Ytanbekbalfbkcaa
