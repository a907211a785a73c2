/- What all of package safe tells of numbers. No condition but bounds. · What step of package safe tells. No condition but bounds. · What isBetween and deriv of package safe tell. No condition but bounds. -/
import Derived.Test.YtpcpbpinhdbjiaaZFlD
import Derived.Test.YtpcpbpinhdbjiaaZSfAToSfC
import Derived.Test.YtpcpbpinhdbjiaaZSfEToSfF
import Derived.Deep.RegionWith
import Derived.Deep.RegionHeld3
import Derived.Deep.DeepCutAuto
namespace Go.Proofs.Ytpcpbpinhdbjiaa
set_option linter.unusedVariables false
set_option linter.unusedSimpArgs false
set_option maxRecDepth 100000
open Go.RowKit

set_option maxHeartbeats 1000000 in
theorem allC_t (A : Option Addr) (n c B : Nat) (xs : List Int) (b : Bool) (w : World) (hr : IRow w B A n c xs) (h : xs.all (cntB) = b) :
    Calls Try.prog 19 #[.slice A n c, .func (.func 20) #[] #[]] w fun e w' => e = .returned (.bool b) ∧ w' = w := by
  have hm' := hr.len_le
  have HR := Lib.hid hr; clear hr
  have HB := Lib.hid h; clear h
  unfold maxLen at hm'
  go_enter Try.func19, Try.ntmps19
  go_wp2_with fail
  go_loop [9] (fun t => ∃ k : Nat, k ≤ n ∧ t = .int .i64 k ∧ Hid ((xs.take k).all (cntB) = true)) (fun t => n - (intOf t).toNat)
  case atStart => exact ⟨0, Nat.zero_le _, rfl, Lib.hid rfl⟩
  case round =>
    obtain ⟨k, hk, rfl, hz⟩ := hrel
    by_cases hlt : k < n
    · obtain ⟨g, off, rfl, hg, hcell⟩ := HR.out.at_ hlt
      have HX := Lib.hid (irow_get HR.out hlt)
      obtain ⟨X, hX⟩ : ∃ X, xs.getD k 0 = X := ⟨_, rfl⟩
      rw [hX] at hcell HX
      clear hX
      cases hp : (cntB) X with
      | true =>
        have HP := Lib.hid hp; clear hp
        go_wp2_with (go_at_call 20; refine (isCount_t X true _ HP.out).mono ?_; rintro e w' ⟨rfl, rfl⟩)
        go_round
        case rel => exact ⟨k + 1, by omega, by go_num, Lib.hid (by rw [all_succ HX.out, HP.out, hz.out]; rfl)⟩
        case measure => simp [intOf]; omega
      | false =>
        have HP := Lib.hid hp; clear hp
        go_wp2_with (go_at_call 20; refine (isCount_t X false _ HP.out).mono ?_; rintro e w' ⟨rfl, rfl⟩)
        go_ret
        exact ⟨ret_bool' (by rw [← HB.out]; exact (all_no HX.out HP.out).symm), rfl⟩
    · go_wp2
      go_ret
      exact ⟨ret_bool' (by rw [← HB.out]; exact (all_end HR.out.1 (by rw [show n = k by omega]; exact hz.out)).symm), rfl⟩
set_option maxHeartbeats 1000000 in
theorem allW_t (A : Option Addr) (n c B : Nat) (xs : List Int) (gs S : Nat) (W : List Int) (b : Bool) (w : World) (hr : IRow w B A n c xs) (hm : BMem w gs (mkB S W)) (hS : S ≤ 65536) (h : xs.all (wrB S W) = b) :
    Calls Try.prog 19 #[.slice A n c, .func (.func 38) #[.slice (some ⟨gs, 0, none⟩) S S] #[]] w fun e w' => e = .returned (.bool b) ∧ w' = w := by
  have hm' := hr.len_le
  have HR := Lib.hid hr; clear hr
  have HB := Lib.hid h; clear h
  have HM := Lib.hid hm; clear hm
  unfold maxLen at hm'
  go_enter Try.func19, Try.ntmps19
  go_wp2_with fail
  go_loop [9] (fun t => ∃ k : Nat, k ≤ n ∧ t = .int .i64 k ∧ Hid ((xs.take k).all (wrB S W) = true)) (fun t => n - (intOf t).toNat)
  case atStart => exact ⟨0, Nat.zero_le _, rfl, Lib.hid rfl⟩
  case round =>
    obtain ⟨k, hk, rfl, hz⟩ := hrel
    by_cases hlt : k < n
    · obtain ⟨g, off, rfl, hg, hcell⟩ := HR.out.at_ hlt
      have HX := Lib.hid (irow_get HR.out hlt)
      obtain ⟨X, hX⟩ : ∃ X, xs.getD k 0 = X := ⟨_, rfl⟩
      rw [hX] at hcell HX
      clear hX
      cases hp : (wrB S W) X with
      | true =>
        have HP := Lib.hid hp; clear hp
        go_wp2_with (go_at_call 38; refine (written_t gs S W X true _ HM.out hS HP.out).mono ?_; rintro e w' ⟨rfl, rfl⟩)
        go_round
        case rel => exact ⟨k + 1, by omega, by go_num, Lib.hid (by rw [all_succ HX.out, HP.out, hz.out]; rfl)⟩
        case measure => simp [intOf]; omega
      | false =>
        have HP := Lib.hid hp; clear hp
        go_wp2_with (go_at_call 38; refine (written_t gs S W X false _ HM.out hS HP.out).mono ?_; rintro e w' ⟨rfl, rfl⟩)
        go_ret
        exact ⟨ret_bool' (by rw [← HB.out]; exact (all_no HX.out HP.out).symm), rfl⟩
    · go_wp2
      go_ret
      exact ⟨ret_bool' (by rw [← HB.out]; exact (all_end HR.out.1 (by rw [show n = k by omega]; exact hz.out)).symm), rfl⟩

end Go.Proofs.Ytpcpbpinhdbjiaa

namespace Go.Proofs.Ytpcpbpinhdbjiaa
set_option linter.unusedVariables false
set_option linter.unusedSimpArgs false
set_option maxRecDepth 100000
open Go.RowKit

theorem hasEnough_b (q : InsP) (a m d r : Option Addr × Nat × Nat) (b : Bool) (w : World) (hm : a.2.1 ≤ maxLen) (h : enS q.op a.2.1 = b) : Calls Try.prog 34 #[.agg #[.string q.op, .int .i64 q.dst, .slice a.1 a.2.1 a.2.2, .int .i64 q.k, .int .i64 q.lit.kind, .bool q.lit.neg, .slice m.1 m.2.1 m.2.2, .slice d.1 d.2.1 d.2.2, .string q.lit.name, .int .i64 q.guard, .slice r.1 r.2.1 r.2.2]] w fun e w' => e = .returned (.bool b) ∧ Below w.heap.size w w' := by
  subst h; exact hasEnough_t q a m d r w hm
theorem hasPlace_b (c : CodeM) (v : CodeV) (B g S N gs gl : Nat) (W L : List Int) (q : InsP) (a m d r : Option Addr × Nat × Nat) (b : Bool) (w : World) (hr : Rd w B g c v S N gs gl W L) (h : plK q.op q.k c.ins c.outs v.mems.2.1 v.conts.2.1 c.crosses = b) : Calls Try.prog 35 #[.pointer (some ⟨g, 0, none⟩), .agg #[.string q.op, .int .i64 q.dst, .slice a.1 a.2.1 a.2.2, .int .i64 q.k, .int .i64 q.lit.kind, .bool q.lit.neg, .slice m.1 m.2.1 m.2.2, .slice d.1 d.2.1 d.2.2, .string q.lit.name, .int .i64 q.guard, .slice r.1 r.2.1 r.2.2]] w fun e w' => e = .returned (.bool b) ∧ Below w.heap.size w w' := by
  subst h; exact hasPlace_t c v B g S N gs gl W L q a m d r w hr
theorem mayB_b (op : ByteArray) (b : Bool) (w : World) (h : mayB op = b) : Calls Try.prog 36 #[.string op] w fun e w' => e = .returned (.bool b) ∧ w' = w := by
  subst h; exact mayBegin_t op w
theorem isEnd_b (op : ByteArray) (b : Bool) (w : World) (h : isEnd op = b) : Calls Try.prog 39 #[.string op] w fun e w' => e = .returned (.bool b) ∧ w' = w := by
  subst h; exact isEnd_t op w
theorem mayGuard_q (gs S : Nat) (W : List Int) (i : Int) (b : Bool) (w : World) (k : Nat) (hm : BMem w gs (mkB S W)) (hS : S ≤ 65536) (h : gdB S W i = b) :
    Calls Try.prog 37 #[.slice (some ⟨gs, 0, none⟩) S S, .int .i64 i] (w.drewN k) fun e w' => e = .returned (.bool b) ∧ w' = w.drewN k :=
  mayGuard_t gs S W i b (w.drewN k) (show BMem (w.drewN k) gs (mkB S W) from hm) hS h
theorem written_q (gs S : Nat) (W : List Int) (i : Int) (b : Bool) (w : World) (k : Nat) (hm : BMem w gs (mkB S W)) (hS : S ≤ 65536) (h : wrB S W i = b) :
    Calls Try.prog 38 #[.slice (some ⟨gs, 0, none⟩) S S, .int .i64 i] (w.drewN k) fun e w' => e = .returned (.bool b) ∧ w' = w.drewN k :=
  written_t gs S W i b (w.drewN k) (show BMem (w.drewN k) gs (mkB S W) from hm) hS h
theorem allW_q (A : Option Addr) (n c B : Nat) (xs : List Int) (gs S : Nat) (W : List Int) (b : Bool) (w : World) (k : Nat) (hr : IRow w B A n c xs) (hm : BMem w gs (mkB S W)) (hS : S ≤ 65536) (h : xs.all (wrB S W) = b) :
    Calls Try.prog 19 #[.slice A n c, .func (.func 38) #[.slice (some ⟨gs, 0, none⟩) S S] #[]] (w.drewN k) fun e w' => e = .returned (.bool b) ∧ w' = w.drewN k :=
  allW_t A n c B xs gs S W b (w.drewN k) (show IRow (w.drewN k) B A n c xs from hr) (show BMem (w.drewN k) gs (mkB S W) from hm) hS h
theorem Rd.drewN {w : World} {B g : Nat} {c : CodeM} {v : CodeV} {S N gs gl k : Nat} {W L : List Int} (h : Rd w B g c v S N gs gl W L) : Rd (w.drewN k) B g c v S N gs gl W L := h.later (below_drewN (Below.refl _ _))
def wNext (W : List Int) (q : InsP) : List Int := if isEnd q.op = true then W else W ++ [q.dst]
/-- what step tells -/
def StPost (B g : Nat) (c : CodeM) (v : CodeV) (S N gs gl : Nat) (W L : List Int) (q : InsP) (w : World) (e : Ending) (w' : World) : Prop :=
  ∃ b, e = .returned (.bool b) ∧ stB c W q = b ∧ (b = true → Rd w' B g c v S N gs gl (wNext W q) L) ∧ Below B w w'
theorem st_eq {w : World} {B g : Nat} {c : CodeM} {v : CodeV} {S N gs gl : Nat} {W L : List Int} {q : InsP} {a m d r : Option Addr × Nat × Nat} (hr : Rd w B g c v S N gs gl W L) (hx : InsW w B q a m d r) :
    stB c W q = (enS q.op a.2.1 && plK q.op q.k c.ins c.outs v.mems.2.1 v.conts.2.1 c.crosses && (decide (r.2.1 = 0) || mayB q.op) && (gdB S W q.guard && q.args.all (wrB S W) && q.resets.all (wrB S W)) && (isEnd q.op || inB q.dst S)) := by
  unfold stB
  rw [hx.args.1, hx.resets.1, hr.is.mems.1, hr.is.conts.1, hr.slots]
set_option maxHeartbeats 1000000 in
theorem st_1 (B g : Nat) (c : CodeM) (v : CodeV) (S N gs gl : Nat) (W L : List Int) (q : InsP) (a m d r : Option Addr × Nat × Nat) (w : World) (hr : Rd w B g c v S N gs gl W L) (hx : InsW w B q a m d r) (h1 : enS q.op a.2.1 = false) : Calls Try.prog 22 #[.pointer (some ⟨g, 0, none⟩), .agg #[.string q.op, .int .i64 q.dst, .slice a.1 a.2.1 a.2.2, .int .i64 q.k, .int .i64 q.lit.kind, .bool q.lit.neg, .slice m.1 m.2.1 m.2.2, .slice d.1 d.2.1 d.2.2, .string q.lit.name, .int .i64 q.guard, .slice r.1 r.2.1 r.2.2]] w (StPost B g c v S N gs gl W L q w) := by
  obtain ⟨W1, hW1⟩ : ∃ W1, W1 = w.alloc (.cells #[.string q.op, .int .i64 q.dst, .slice a.1 a.2.1 a.2.2, .int .i64 q.k, .int .i64 q.lit.kind, .bool q.lit.neg, .slice m.1 m.2.1 m.2.2, .slice d.1 d.2.1 d.2.2, .string q.lit.name, .int .i64 q.guard, .slice r.1 r.2.1 r.2.2] 70) := ⟨_, rfl⟩
  have hb1 : Below w.heap.size w W1 := by rw [hW1]; exact (Below.refl _ _).alloc (Nat.le_refl _) _
  have HX := Lib.hid (show Blk W1 w.heap.size 70 (ics q a m d r) from by rw [hW1]; exact Blk.new _ _ _)
  have HR := Lib.hid (hr.later hb1)
  have HB := Lib.hid (hb1.mono hr.hB)
  have HW := Lib.hid (hx.keep HB.out)
  have HV := Lib.hid (st_eq hr hx)
  have HGW : Hid (gs < w.heap.size) := Lib.hid hr.ms.lt
  have hma := hx.args.len_le
  have hmr := hx.resets.len_le
  have HMA := Lib.hid hma
  have hq0 : w.heap.size < W1.heap.size := HX.out.lt
  have H1 := Lib.hid h1
  clear h1
  unfold maxLen at hma hmr
  obtain ⟨x0, x1, x2, x3, x4, x5, x6, x7, x8, x9, x10⟩ := HX.out.elev
  obtain ⟨n0, n1, n2, n3, n4, n5, n6, n7, n8, n9, n10, n11⟩ := HR.out.cells
  clear n0 n1 n2 n3 n4 n5 n6 n7 n8 n9 hb1 hr hx
  go_enter Try.func22, Try.ntmps22
  go_upto_region 1 with fail
  rw [← hW1]
  clear hW1
  go_wp2_with (go_at_call 34; (with_reducible refine (hasEnough_b q a m d r false _ HMA.out H1.out).mono ?_); rintro e w2 ⟨rfl, hb2⟩; have HX := Lib.hid (HX.out.later hb2); have HW := Lib.hid (HW.out.keep (hb2.mono HR.out.hB)); have HB := Lib.hid (HB.out.trans (hb2.mono HR.out.hB)); have HR := Lib.hid (HR.out.later hb2); clear hb2 x0 x1 x2 x3 x4 x5 x6 x7 x8 x9 x10 n10 n11 hq0; obtain ⟨x0, x1, x2, x3, x4, x5, x6, x7, x8, x9, x10⟩ := HX.out.elev; obtain ⟨n0, n1, n2, n3, n4, n5, n6, n7, n8, n9, n10, n11⟩ := HR.out.cells; clear n0 n1 n2 n3 n4 n5 n6 n7 n8 n9; have hq0 := HX.out.lt)
  go_ret
  exact ⟨false, rfl, by rw [HV.out, H1.out]; simp, (fun h => by cases h), by first | exact HB.out | exact below_drewN HB.out⟩
set_option maxHeartbeats 1000000 in
theorem st_2 (B g : Nat) (c : CodeM) (v : CodeV) (S N gs gl : Nat) (W L : List Int) (q : InsP) (a m d r : Option Addr × Nat × Nat) (w : World) (hr : Rd w B g c v S N gs gl W L) (hx : InsW w B q a m d r) (h1 : enS q.op a.2.1 = true) (h2 : plK q.op q.k c.ins c.outs v.mems.2.1 v.conts.2.1 c.crosses = false) : Calls Try.prog 22 #[.pointer (some ⟨g, 0, none⟩), .agg #[.string q.op, .int .i64 q.dst, .slice a.1 a.2.1 a.2.2, .int .i64 q.k, .int .i64 q.lit.kind, .bool q.lit.neg, .slice m.1 m.2.1 m.2.2, .slice d.1 d.2.1 d.2.2, .string q.lit.name, .int .i64 q.guard, .slice r.1 r.2.1 r.2.2]] w (StPost B g c v S N gs gl W L q w) := by
  obtain ⟨W1, hW1⟩ : ∃ W1, W1 = w.alloc (.cells #[.string q.op, .int .i64 q.dst, .slice a.1 a.2.1 a.2.2, .int .i64 q.k, .int .i64 q.lit.kind, .bool q.lit.neg, .slice m.1 m.2.1 m.2.2, .slice d.1 d.2.1 d.2.2, .string q.lit.name, .int .i64 q.guard, .slice r.1 r.2.1 r.2.2] 70) := ⟨_, rfl⟩
  have hb1 : Below w.heap.size w W1 := by rw [hW1]; exact (Below.refl _ _).alloc (Nat.le_refl _) _
  have HX := Lib.hid (show Blk W1 w.heap.size 70 (ics q a m d r) from by rw [hW1]; exact Blk.new _ _ _)
  have HR := Lib.hid (hr.later hb1)
  have HB := Lib.hid (hb1.mono hr.hB)
  have HW := Lib.hid (hx.keep HB.out)
  have HV := Lib.hid (st_eq hr hx)
  have HGW : Hid (gs < w.heap.size) := Lib.hid hr.ms.lt
  have hma := hx.args.len_le
  have hmr := hx.resets.len_le
  have HMA := Lib.hid hma
  have hq0 : w.heap.size < W1.heap.size := HX.out.lt
  have H1 := Lib.hid h1
  clear h1
  have H2 := Lib.hid h2
  clear h2
  unfold maxLen at hma hmr
  obtain ⟨x0, x1, x2, x3, x4, x5, x6, x7, x8, x9, x10⟩ := HX.out.elev
  obtain ⟨n0, n1, n2, n3, n4, n5, n6, n7, n8, n9, n10, n11⟩ := HR.out.cells
  clear n0 n1 n2 n3 n4 n5 n6 n7 n8 n9 hb1 hr hx
  go_enter Try.func22, Try.ntmps22
  go_upto_region 1 with fail
  rw [← hW1]
  clear hW1
  go_wp2_with (first | (go_at_call 34; (with_reducible refine (hasEnough_b q a m d r true _ HMA.out H1.out).mono ?_); rintro e w2 ⟨rfl, hb2⟩; have HX := Lib.hid (HX.out.later hb2); have HW := Lib.hid (HW.out.keep (hb2.mono HR.out.hB)); have HB := Lib.hid (HB.out.trans (hb2.mono HR.out.hB)); have HR := Lib.hid (HR.out.later hb2); clear hb2 x0 x1 x2 x3 x4 x5 x6 x7 x8 x9 x10 n10 n11 hq0; obtain ⟨x0, x1, x2, x3, x4, x5, x6, x7, x8, x9, x10⟩ := HX.out.elev; obtain ⟨n0, n1, n2, n3, n4, n5, n6, n7, n8, n9, n10, n11⟩ := HR.out.cells; clear n0 n1 n2 n3 n4 n5 n6 n7 n8 n9; have hq0 := HX.out.lt) | (go_at_call 35; (with_reducible refine (hasPlace_b c v B g S N gs gl W L q a m d r false _ HR.out H2.out).mono ?_); rintro e w3 ⟨rfl, hb3⟩; have HX := Lib.hid (HX.out.later hb3); have HW := Lib.hid (HW.out.keep (hb3.mono HR.out.hB)); have HB := Lib.hid (HB.out.trans (hb3.mono HR.out.hB)); have HR := Lib.hid (HR.out.later hb3); clear hb3 x0 x1 x2 x3 x4 x5 x6 x7 x8 x9 x10 n10 n11 hq0; obtain ⟨x0, x1, x2, x3, x4, x5, x6, x7, x8, x9, x10⟩ := HX.out.elev; obtain ⟨n0, n1, n2, n3, n4, n5, n6, n7, n8, n9, n10, n11⟩ := HR.out.cells; clear n0 n1 n2 n3 n4 n5 n6 n7 n8 n9; have hq0 := HX.out.lt))
  go_ret
  exact ⟨false, rfl, by rw [HV.out, H1.out, H2.out]; simp, (fun h => by cases h), by first | exact HB.out | exact below_drewN HB.out⟩
set_option maxHeartbeats 1000000 in
theorem st_3 (B g : Nat) (c : CodeM) (v : CodeV) (S N gs gl : Nat) (W L : List Int) (q : InsP) (a m d r : Option Addr × Nat × Nat) (w : World) (hr : Rd w B g c v S N gs gl W L) (hx : InsW w B q a m d r) (h1 : enS q.op a.2.1 = true) (h2 : plK q.op q.k c.ins c.outs v.mems.2.1 v.conts.2.1 c.crosses = true) (h0 : ¬ r.2.1 = 0) (h3 : mayB q.op = false) : Calls Try.prog 22 #[.pointer (some ⟨g, 0, none⟩), .agg #[.string q.op, .int .i64 q.dst, .slice a.1 a.2.1 a.2.2, .int .i64 q.k, .int .i64 q.lit.kind, .bool q.lit.neg, .slice m.1 m.2.1 m.2.2, .slice d.1 d.2.1 d.2.2, .string q.lit.name, .int .i64 q.guard, .slice r.1 r.2.1 r.2.2]] w (StPost B g c v S N gs gl W L q w) := by
  obtain ⟨W1, hW1⟩ : ∃ W1, W1 = w.alloc (.cells #[.string q.op, .int .i64 q.dst, .slice a.1 a.2.1 a.2.2, .int .i64 q.k, .int .i64 q.lit.kind, .bool q.lit.neg, .slice m.1 m.2.1 m.2.2, .slice d.1 d.2.1 d.2.2, .string q.lit.name, .int .i64 q.guard, .slice r.1 r.2.1 r.2.2] 70) := ⟨_, rfl⟩
  have hb1 : Below w.heap.size w W1 := by rw [hW1]; exact (Below.refl _ _).alloc (Nat.le_refl _) _
  have HX := Lib.hid (show Blk W1 w.heap.size 70 (ics q a m d r) from by rw [hW1]; exact Blk.new _ _ _)
  have HR := Lib.hid (hr.later hb1)
  have HB := Lib.hid (hb1.mono hr.hB)
  have HW := Lib.hid (hx.keep HB.out)
  have HV := Lib.hid (st_eq hr hx)
  have HGW : Hid (gs < w.heap.size) := Lib.hid hr.ms.lt
  have hma := hx.args.len_le
  have hmr := hx.resets.len_le
  have HMA := Lib.hid hma
  have hq0 : w.heap.size < W1.heap.size := HX.out.lt
  have H1 := Lib.hid h1
  clear h1
  have H2 := Lib.hid h2
  clear h2
  have H3 := Lib.hid h3
  clear h3
  have hr0 : 0 < r.2.1 := by omega
  have HR0 := Lib.hid h0
  unfold maxLen at hma hmr
  obtain ⟨x0, x1, x2, x3, x4, x5, x6, x7, x8, x9, x10⟩ := HX.out.elev
  obtain ⟨n0, n1, n2, n3, n4, n5, n6, n7, n8, n9, n10, n11⟩ := HR.out.cells
  clear n0 n1 n2 n3 n4 n5 n6 n7 n8 n9 hb1 hr hx
  go_enter Try.func22, Try.ntmps22
  go_upto_region 1 with fail
  rw [← hW1]
  clear hW1
  go_wp2_with (first | (go_at_call 34; (with_reducible refine (hasEnough_b q a m d r true _ HMA.out H1.out).mono ?_); rintro e w2 ⟨rfl, hb2⟩; have HX := Lib.hid (HX.out.later hb2); have HW := Lib.hid (HW.out.keep (hb2.mono HR.out.hB)); have HB := Lib.hid (HB.out.trans (hb2.mono HR.out.hB)); have HR := Lib.hid (HR.out.later hb2); clear hb2 x0 x1 x2 x3 x4 x5 x6 x7 x8 x9 x10 n10 n11 hq0; obtain ⟨x0, x1, x2, x3, x4, x5, x6, x7, x8, x9, x10⟩ := HX.out.elev; obtain ⟨n0, n1, n2, n3, n4, n5, n6, n7, n8, n9, n10, n11⟩ := HR.out.cells; clear n0 n1 n2 n3 n4 n5 n6 n7 n8 n9; have hq0 := HX.out.lt) | (go_at_call 35; (with_reducible refine (hasPlace_b c v B g S N gs gl W L q a m d r true _ HR.out H2.out).mono ?_); rintro e w3 ⟨rfl, hb3⟩; have HX := Lib.hid (HX.out.later hb3); have HW := Lib.hid (HW.out.keep (hb3.mono HR.out.hB)); have HB := Lib.hid (HB.out.trans (hb3.mono HR.out.hB)); have HR := Lib.hid (HR.out.later hb3); clear hb3 x0 x1 x2 x3 x4 x5 x6 x7 x8 x9 x10 n10 n11 hq0; obtain ⟨x0, x1, x2, x3, x4, x5, x6, x7, x8, x9, x10⟩ := HX.out.elev; obtain ⟨n0, n1, n2, n3, n4, n5, n6, n7, n8, n9, n10, n11⟩ := HR.out.cells; clear n0 n1 n2 n3 n4 n5 n6 n7 n8 n9; have hq0 := HX.out.lt) | (go_at_call 36; (with_reducible refine (mayB_b q.op false _ H3.out).mono ?_); rintro e w4 ⟨rfl, rfl⟩))
  go_ret
  exact ⟨false, rfl, by rw [HV.out, H1.out, H2.out, H3.out, decide_eq_false HR0.out]; simp, (fun h => by cases h), by first | exact HB.out | exact below_drewN HB.out⟩
set_option maxHeartbeats 1000000 in
theorem st_zG (B g : Nat) (c : CodeM) (v : CodeV) (S N gs gl : Nat) (W L : List Int) (q : InsP) (a m d r : Option Addr × Nat × Nat) (w : World) (hr : Rd w B g c v S N gs gl W L) (hx : InsW w B q a m d r) (h1 : enS q.op a.2.1 = true) (h2 : plK q.op q.k c.ins c.outs v.mems.2.1 v.conts.2.1 c.crosses = true) (h0 : r.2.1 = 0) (hg : gdB S W q.guard = false) : Calls Try.prog 22 #[.pointer (some ⟨g, 0, none⟩), .agg #[.string q.op, .int .i64 q.dst, .slice a.1 a.2.1 a.2.2, .int .i64 q.k, .int .i64 q.lit.kind, .bool q.lit.neg, .slice m.1 m.2.1 m.2.2, .slice d.1 d.2.1 d.2.2, .string q.lit.name, .int .i64 q.guard, .slice r.1 r.2.1 r.2.2]] w (StPost B g c v S N gs gl W L q w) := by
  obtain ⟨r1, rn, rc⟩ := r
  obtain rfl : rn = 0 := h0
  have HR0 : Hid ((r1, 0, rc).2.1 = (0 : Nat)) := Lib.hid rfl
  obtain ⟨W1, hW1⟩ : ∃ W1, W1 = w.alloc (.cells #[.string q.op, .int .i64 q.dst, .slice a.1 a.2.1 a.2.2, .int .i64 q.k, .int .i64 q.lit.kind, .bool q.lit.neg, .slice m.1 m.2.1 m.2.2, .slice d.1 d.2.1 d.2.2, .string q.lit.name, .int .i64 q.guard, .slice r1 0 rc] 70) := ⟨_, rfl⟩
  have hb1 : Below w.heap.size w W1 := by rw [hW1]; exact (Below.refl _ _).alloc (Nat.le_refl _) _
  have HX := Lib.hid (show Blk W1 w.heap.size 70 (ics q a m d (r1, 0, rc)) from by rw [hW1]; exact Blk.new _ _ _)
  have HR := Lib.hid (hr.later hb1)
  have HB := Lib.hid (hb1.mono hr.hB)
  have HW := Lib.hid (hx.keep HB.out)
  have HV := Lib.hid (st_eq hr hx)
  have HGW : Hid (gs < w.heap.size) := Lib.hid hr.ms.lt
  have hma := hx.args.len_le
  have hmr := hx.resets.len_le
  have HMA := Lib.hid hma
  have hq0 : w.heap.size < W1.heap.size := HX.out.lt
  have H1 := Lib.hid h1
  clear h1
  have H2 := Lib.hid h2
  clear h2
  have HG := Lib.hid hg
  clear hg
  unfold maxLen at hma hmr
  obtain ⟨x0, x1, x2, x3, x4, x5, x6, x7, x8, x9, x10⟩ := HX.out.elev
  obtain ⟨n0, n1, n2, n3, n4, n5, n6, n7, n8, n9, n10, n11⟩ := HR.out.cells
  clear n0 n1 n2 n3 n4 n5 n6 n7 n8 n9 hb1 hr hx
  go_enter Try.func22, Try.ntmps22
  go_upto_region 1 with fail
  rw [← hW1]
  clear hW1
  go_upto_region 3 with (first | (go_at_call 34; (with_reducible refine (hasEnough_b q a m d (r1, 0, rc) true _ HMA.out H1.out).mono ?_); rintro e w2 ⟨rfl, hb2⟩; have HX := Lib.hid (HX.out.later hb2); have HW := Lib.hid (HW.out.keep (hb2.mono HR.out.hB)); have HB := Lib.hid (HB.out.trans (hb2.mono HR.out.hB)); have HR := Lib.hid (HR.out.later hb2); clear hb2 x0 x1 x2 x3 x4 x5 x6 x7 x8 x9 x10 n10 n11 hq0; obtain ⟨x0, x1, x2, x3, x4, x5, x6, x7, x8, x9, x10⟩ := HX.out.elev; obtain ⟨n0, n1, n2, n3, n4, n5, n6, n7, n8, n9, n10, n11⟩ := HR.out.cells; clear n0 n1 n2 n3 n4 n5 n6 n7 n8 n9; have hq0 := HX.out.lt) | (go_at_call 35; (with_reducible refine (hasPlace_b c v B g S N gs gl W L q a m d (r1, 0, rc) true _ HR.out H2.out).mono ?_); rintro e w3 ⟨rfl, hb3⟩; have HX := Lib.hid (HX.out.later hb3); have HW := Lib.hid (HW.out.keep (hb3.mono HR.out.hB)); have HB := Lib.hid (HB.out.trans (hb3.mono HR.out.hB)); have HR := Lib.hid (HR.out.later hb3); clear hb3 x0 x1 x2 x3 x4 x5 x6 x7 x8 x9 x10 n10 n11 hq0; obtain ⟨x0, x1, x2, x3, x4, x5, x6, x7, x8, x9, x10⟩ := HX.out.elev; obtain ⟨n0, n1, n2, n3, n4, n5, n6, n7, n8, n9, n10, n11⟩ := HR.out.cells; clear n0 n1 n2 n3 n4 n5 n6 n7 n8 n9; have hq0 := HX.out.lt))
  have HMS := Lib.hid HR.out.ms
  have HSS := Lib.hid HR.out.sS
  have HWA := Lib.hid HW.out.args
  have HWR := Lib.hid HW.out.resets
  go_quiet ((first | (go_at_call 37; exact Calls.quiet_of_same (mayGuard_q gs S W q.guard false _ _ HMS.out HSS.out HG.out)) | (go_at_call 19; with_reducible exact Calls.quiet_of_same (allW_q a.1 a.2.1 a.2.2 B q.args gs S W false _ _ HWA.out HMS.out HSS.out rfl)) | (go_at_call 19; with_reducible exact Calls.quiet_of_same (allW_q r1 0 rc B q.resets gs S W false _ _ HWR.out HMS.out HSS.out rfl))))
  go_wp2
  go_ret
  exact ⟨false, rfl, by rw [HV.out, H1.out, H2.out, decide_eq_true HR0.out, HG.out]; simp, (fun h => by cases h), by first | exact HB.out | exact below_drewN HB.out⟩
set_option maxHeartbeats 1000000 in
theorem st_zA (B g : Nat) (c : CodeM) (v : CodeV) (S N gs gl : Nat) (W L : List Int) (q : InsP) (a m d r : Option Addr × Nat × Nat) (w : World) (hr : Rd w B g c v S N gs gl W L) (hx : InsW w B q a m d r) (h1 : enS q.op a.2.1 = true) (h2 : plK q.op q.k c.ins c.outs v.mems.2.1 v.conts.2.1 c.crosses = true) (h0 : r.2.1 = 0) (hg : gdB S W q.guard = true) (ha : q.args.all (wrB S W) = false) : Calls Try.prog 22 #[.pointer (some ⟨g, 0, none⟩), .agg #[.string q.op, .int .i64 q.dst, .slice a.1 a.2.1 a.2.2, .int .i64 q.k, .int .i64 q.lit.kind, .bool q.lit.neg, .slice m.1 m.2.1 m.2.2, .slice d.1 d.2.1 d.2.2, .string q.lit.name, .int .i64 q.guard, .slice r.1 r.2.1 r.2.2]] w (StPost B g c v S N gs gl W L q w) := by
  obtain ⟨r1, rn, rc⟩ := r
  obtain rfl : rn = 0 := h0
  have HR0 : Hid ((r1, 0, rc).2.1 = (0 : Nat)) := Lib.hid rfl
  obtain ⟨W1, hW1⟩ : ∃ W1, W1 = w.alloc (.cells #[.string q.op, .int .i64 q.dst, .slice a.1 a.2.1 a.2.2, .int .i64 q.k, .int .i64 q.lit.kind, .bool q.lit.neg, .slice m.1 m.2.1 m.2.2, .slice d.1 d.2.1 d.2.2, .string q.lit.name, .int .i64 q.guard, .slice r1 0 rc] 70) := ⟨_, rfl⟩
  have hb1 : Below w.heap.size w W1 := by rw [hW1]; exact (Below.refl _ _).alloc (Nat.le_refl _) _
  have HX := Lib.hid (show Blk W1 w.heap.size 70 (ics q a m d (r1, 0, rc)) from by rw [hW1]; exact Blk.new _ _ _)
  have HR := Lib.hid (hr.later hb1)
  have HB := Lib.hid (hb1.mono hr.hB)
  have HW := Lib.hid (hx.keep HB.out)
  have HV := Lib.hid (st_eq hr hx)
  have HGW : Hid (gs < w.heap.size) := Lib.hid hr.ms.lt
  have hma := hx.args.len_le
  have hmr := hx.resets.len_le
  have HMA := Lib.hid hma
  have hq0 : w.heap.size < W1.heap.size := HX.out.lt
  have H1 := Lib.hid h1
  clear h1
  have H2 := Lib.hid h2
  clear h2
  have HG := Lib.hid hg
  clear hg
  have HA := Lib.hid ha
  clear ha
  unfold maxLen at hma hmr
  obtain ⟨x0, x1, x2, x3, x4, x5, x6, x7, x8, x9, x10⟩ := HX.out.elev
  obtain ⟨n0, n1, n2, n3, n4, n5, n6, n7, n8, n9, n10, n11⟩ := HR.out.cells
  clear n0 n1 n2 n3 n4 n5 n6 n7 n8 n9 hb1 hr hx
  go_enter Try.func22, Try.ntmps22
  go_upto_region 1 with fail
  rw [← hW1]
  clear hW1
  go_upto_region 3 with (first | (go_at_call 34; (with_reducible refine (hasEnough_b q a m d (r1, 0, rc) true _ HMA.out H1.out).mono ?_); rintro e w2 ⟨rfl, hb2⟩; have HX := Lib.hid (HX.out.later hb2); have HW := Lib.hid (HW.out.keep (hb2.mono HR.out.hB)); have HB := Lib.hid (HB.out.trans (hb2.mono HR.out.hB)); have HR := Lib.hid (HR.out.later hb2); clear hb2 x0 x1 x2 x3 x4 x5 x6 x7 x8 x9 x10 n10 n11 hq0; obtain ⟨x0, x1, x2, x3, x4, x5, x6, x7, x8, x9, x10⟩ := HX.out.elev; obtain ⟨n0, n1, n2, n3, n4, n5, n6, n7, n8, n9, n10, n11⟩ := HR.out.cells; clear n0 n1 n2 n3 n4 n5 n6 n7 n8 n9; have hq0 := HX.out.lt) | (go_at_call 35; (with_reducible refine (hasPlace_b c v B g S N gs gl W L q a m d (r1, 0, rc) true _ HR.out H2.out).mono ?_); rintro e w3 ⟨rfl, hb3⟩; have HX := Lib.hid (HX.out.later hb3); have HW := Lib.hid (HW.out.keep (hb3.mono HR.out.hB)); have HB := Lib.hid (HB.out.trans (hb3.mono HR.out.hB)); have HR := Lib.hid (HR.out.later hb3); clear hb3 x0 x1 x2 x3 x4 x5 x6 x7 x8 x9 x10 n10 n11 hq0; obtain ⟨x0, x1, x2, x3, x4, x5, x6, x7, x8, x9, x10⟩ := HX.out.elev; obtain ⟨n0, n1, n2, n3, n4, n5, n6, n7, n8, n9, n10, n11⟩ := HR.out.cells; clear n0 n1 n2 n3 n4 n5 n6 n7 n8 n9; have hq0 := HX.out.lt))
  have HMS := Lib.hid HR.out.ms
  have HSS := Lib.hid HR.out.sS
  have HWA := Lib.hid HW.out.args
  have HWR := Lib.hid HW.out.resets
  go_quiet ((first | (go_at_call 37; exact Calls.quiet_of_same (mayGuard_q gs S W q.guard true _ _ HMS.out HSS.out HG.out)) | (go_at_call 19; with_reducible exact Calls.quiet_of_same (allW_q a.1 a.2.1 a.2.2 B q.args gs S W false _ _ HWA.out HMS.out HSS.out HA.out)) | (go_at_call 19; with_reducible exact Calls.quiet_of_same (allW_q r1 0 rc B q.resets gs S W false _ _ HWR.out HMS.out HSS.out rfl))))
  go_wp2
  go_ret
  exact ⟨false, rfl, by rw [HV.out, H1.out, H2.out, decide_eq_true HR0.out, HG.out, HA.out]; simp, (fun h => by cases h), by first | exact HB.out | exact below_drewN HB.out⟩
set_option maxHeartbeats 1000000 in
theorem st_zR (B g : Nat) (c : CodeM) (v : CodeV) (S N gs gl : Nat) (W L : List Int) (q : InsP) (a m d r : Option Addr × Nat × Nat) (w : World) (hr : Rd w B g c v S N gs gl W L) (hx : InsW w B q a m d r) (h1 : enS q.op a.2.1 = true) (h2 : plK q.op q.k c.ins c.outs v.mems.2.1 v.conts.2.1 c.crosses = true) (h0 : r.2.1 = 0) (hg : gdB S W q.guard = true) (ha : q.args.all (wrB S W) = true) (hrs : q.resets.all (wrB S W) = false) : Calls Try.prog 22 #[.pointer (some ⟨g, 0, none⟩), .agg #[.string q.op, .int .i64 q.dst, .slice a.1 a.2.1 a.2.2, .int .i64 q.k, .int .i64 q.lit.kind, .bool q.lit.neg, .slice m.1 m.2.1 m.2.2, .slice d.1 d.2.1 d.2.2, .string q.lit.name, .int .i64 q.guard, .slice r.1 r.2.1 r.2.2]] w (StPost B g c v S N gs gl W L q w) := by
  obtain ⟨r1, rn, rc⟩ := r
  obtain rfl : rn = 0 := h0
  have HR0 : Hid ((r1, 0, rc).2.1 = (0 : Nat)) := Lib.hid rfl
  obtain ⟨W1, hW1⟩ : ∃ W1, W1 = w.alloc (.cells #[.string q.op, .int .i64 q.dst, .slice a.1 a.2.1 a.2.2, .int .i64 q.k, .int .i64 q.lit.kind, .bool q.lit.neg, .slice m.1 m.2.1 m.2.2, .slice d.1 d.2.1 d.2.2, .string q.lit.name, .int .i64 q.guard, .slice r1 0 rc] 70) := ⟨_, rfl⟩
  have hb1 : Below w.heap.size w W1 := by rw [hW1]; exact (Below.refl _ _).alloc (Nat.le_refl _) _
  have HX := Lib.hid (show Blk W1 w.heap.size 70 (ics q a m d (r1, 0, rc)) from by rw [hW1]; exact Blk.new _ _ _)
  have HR := Lib.hid (hr.later hb1)
  have HB := Lib.hid (hb1.mono hr.hB)
  have HW := Lib.hid (hx.keep HB.out)
  have HV := Lib.hid (st_eq hr hx)
  have HGW : Hid (gs < w.heap.size) := Lib.hid hr.ms.lt
  have hma := hx.args.len_le
  have hmr := hx.resets.len_le
  have HMA := Lib.hid hma
  have hq0 : w.heap.size < W1.heap.size := HX.out.lt
  have H1 := Lib.hid h1
  clear h1
  have H2 := Lib.hid h2
  clear h2
  have HG := Lib.hid hg
  clear hg
  have HA := Lib.hid ha
  clear ha
  have HRS := Lib.hid hrs
  clear hrs
  unfold maxLen at hma hmr
  obtain ⟨x0, x1, x2, x3, x4, x5, x6, x7, x8, x9, x10⟩ := HX.out.elev
  obtain ⟨n0, n1, n2, n3, n4, n5, n6, n7, n8, n9, n10, n11⟩ := HR.out.cells
  clear n0 n1 n2 n3 n4 n5 n6 n7 n8 n9 hb1 hr hx
  go_enter Try.func22, Try.ntmps22
  go_upto_region 1 with fail
  rw [← hW1]
  clear hW1
  go_upto_region 3 with (first | (go_at_call 34; (with_reducible refine (hasEnough_b q a m d (r1, 0, rc) true _ HMA.out H1.out).mono ?_); rintro e w2 ⟨rfl, hb2⟩; have HX := Lib.hid (HX.out.later hb2); have HW := Lib.hid (HW.out.keep (hb2.mono HR.out.hB)); have HB := Lib.hid (HB.out.trans (hb2.mono HR.out.hB)); have HR := Lib.hid (HR.out.later hb2); clear hb2 x0 x1 x2 x3 x4 x5 x6 x7 x8 x9 x10 n10 n11 hq0; obtain ⟨x0, x1, x2, x3, x4, x5, x6, x7, x8, x9, x10⟩ := HX.out.elev; obtain ⟨n0, n1, n2, n3, n4, n5, n6, n7, n8, n9, n10, n11⟩ := HR.out.cells; clear n0 n1 n2 n3 n4 n5 n6 n7 n8 n9; have hq0 := HX.out.lt) | (go_at_call 35; (with_reducible refine (hasPlace_b c v B g S N gs gl W L q a m d (r1, 0, rc) true _ HR.out H2.out).mono ?_); rintro e w3 ⟨rfl, hb3⟩; have HX := Lib.hid (HX.out.later hb3); have HW := Lib.hid (HW.out.keep (hb3.mono HR.out.hB)); have HB := Lib.hid (HB.out.trans (hb3.mono HR.out.hB)); have HR := Lib.hid (HR.out.later hb3); clear hb3 x0 x1 x2 x3 x4 x5 x6 x7 x8 x9 x10 n10 n11 hq0; obtain ⟨x0, x1, x2, x3, x4, x5, x6, x7, x8, x9, x10⟩ := HX.out.elev; obtain ⟨n0, n1, n2, n3, n4, n5, n6, n7, n8, n9, n10, n11⟩ := HR.out.cells; clear n0 n1 n2 n3 n4 n5 n6 n7 n8 n9; have hq0 := HX.out.lt))
  have HMS := Lib.hid HR.out.ms
  have HSS := Lib.hid HR.out.sS
  have HWA := Lib.hid HW.out.args
  have HWR := Lib.hid HW.out.resets
  go_quiet ((first | (go_at_call 37; exact Calls.quiet_of_same (mayGuard_q gs S W q.guard true _ _ HMS.out HSS.out HG.out)) | (go_at_call 19; with_reducible exact Calls.quiet_of_same (allW_q a.1 a.2.1 a.2.2 B q.args gs S W true _ _ HWA.out HMS.out HSS.out HA.out)) | (go_at_call 19; with_reducible exact Calls.quiet_of_same (allW_q r1 0 rc B q.resets gs S W false _ _ HWR.out HMS.out HSS.out HRS.out))))
  go_wp2
  go_ret
  exact ⟨false, rfl, by rw [HV.out, H1.out, H2.out, decide_eq_true HR0.out, HG.out, HA.out, HRS.out]; simp, (fun h => by cases h), by first | exact HB.out | exact below_drewN HB.out⟩
set_option maxHeartbeats 1000000 in
theorem st_zE (B g : Nat) (c : CodeM) (v : CodeV) (S N gs gl : Nat) (W L : List Int) (q : InsP) (a m d r : Option Addr × Nat × Nat) (w : World) (hr : Rd w B g c v S N gs gl W L) (hx : InsW w B q a m d r) (h1 : enS q.op a.2.1 = true) (h2 : plK q.op q.k c.ins c.outs v.mems.2.1 v.conts.2.1 c.crosses = true) (h0 : r.2.1 = 0) (hg : gdB S W q.guard = true) (ha : q.args.all (wrB S W) = true) (hrs : q.resets.all (wrB S W) = true) (he : isEnd q.op = true) : Calls Try.prog 22 #[.pointer (some ⟨g, 0, none⟩), .agg #[.string q.op, .int .i64 q.dst, .slice a.1 a.2.1 a.2.2, .int .i64 q.k, .int .i64 q.lit.kind, .bool q.lit.neg, .slice m.1 m.2.1 m.2.2, .slice d.1 d.2.1 d.2.2, .string q.lit.name, .int .i64 q.guard, .slice r.1 r.2.1 r.2.2]] w (StPost B g c v S N gs gl W L q w) := by
  obtain ⟨r1, rn, rc⟩ := r
  obtain rfl : rn = 0 := h0
  have HR0 : Hid ((r1, 0, rc).2.1 = (0 : Nat)) := Lib.hid rfl
  obtain ⟨W1, hW1⟩ : ∃ W1, W1 = w.alloc (.cells #[.string q.op, .int .i64 q.dst, .slice a.1 a.2.1 a.2.2, .int .i64 q.k, .int .i64 q.lit.kind, .bool q.lit.neg, .slice m.1 m.2.1 m.2.2, .slice d.1 d.2.1 d.2.2, .string q.lit.name, .int .i64 q.guard, .slice r1 0 rc] 70) := ⟨_, rfl⟩
  have hb1 : Below w.heap.size w W1 := by rw [hW1]; exact (Below.refl _ _).alloc (Nat.le_refl _) _
  have HX := Lib.hid (show Blk W1 w.heap.size 70 (ics q a m d (r1, 0, rc)) from by rw [hW1]; exact Blk.new _ _ _)
  have HR := Lib.hid (hr.later hb1)
  have HB := Lib.hid (hb1.mono hr.hB)
  have HW := Lib.hid (hx.keep HB.out)
  have HV := Lib.hid (st_eq hr hx)
  have HGW : Hid (gs < w.heap.size) := Lib.hid hr.ms.lt
  have hma := hx.args.len_le
  have hmr := hx.resets.len_le
  have HMA := Lib.hid hma
  have hq0 : w.heap.size < W1.heap.size := HX.out.lt
  have H1 := Lib.hid h1
  clear h1
  have H2 := Lib.hid h2
  clear h2
  have HG := Lib.hid hg
  clear hg
  have HA := Lib.hid ha
  clear ha
  have HRS := Lib.hid hrs
  clear hrs
  have HE := Lib.hid he
  clear he
  unfold maxLen at hma hmr
  obtain ⟨x0, x1, x2, x3, x4, x5, x6, x7, x8, x9, x10⟩ := HX.out.elev
  obtain ⟨n0, n1, n2, n3, n4, n5, n6, n7, n8, n9, n10, n11⟩ := HR.out.cells
  clear n0 n1 n2 n3 n4 n5 n6 n7 n8 n9 hb1 hr hx
  go_enter Try.func22, Try.ntmps22
  go_upto_region 1 with fail
  rw [← hW1]
  clear hW1
  go_upto_region 3 with (first | (go_at_call 34; (with_reducible refine (hasEnough_b q a m d (r1, 0, rc) true _ HMA.out H1.out).mono ?_); rintro e w2 ⟨rfl, hb2⟩; have HX := Lib.hid (HX.out.later hb2); have HW := Lib.hid (HW.out.keep (hb2.mono HR.out.hB)); have HB := Lib.hid (HB.out.trans (hb2.mono HR.out.hB)); have HR := Lib.hid (HR.out.later hb2); clear hb2 x0 x1 x2 x3 x4 x5 x6 x7 x8 x9 x10 n10 n11 hq0; obtain ⟨x0, x1, x2, x3, x4, x5, x6, x7, x8, x9, x10⟩ := HX.out.elev; obtain ⟨n0, n1, n2, n3, n4, n5, n6, n7, n8, n9, n10, n11⟩ := HR.out.cells; clear n0 n1 n2 n3 n4 n5 n6 n7 n8 n9; have hq0 := HX.out.lt) | (go_at_call 35; (with_reducible refine (hasPlace_b c v B g S N gs gl W L q a m d (r1, 0, rc) true _ HR.out H2.out).mono ?_); rintro e w3 ⟨rfl, hb3⟩; have HX := Lib.hid (HX.out.later hb3); have HW := Lib.hid (HW.out.keep (hb3.mono HR.out.hB)); have HB := Lib.hid (HB.out.trans (hb3.mono HR.out.hB)); have HR := Lib.hid (HR.out.later hb3); clear hb3 x0 x1 x2 x3 x4 x5 x6 x7 x8 x9 x10 n10 n11 hq0; obtain ⟨x0, x1, x2, x3, x4, x5, x6, x7, x8, x9, x10⟩ := HX.out.elev; obtain ⟨n0, n1, n2, n3, n4, n5, n6, n7, n8, n9, n10, n11⟩ := HR.out.cells; clear n0 n1 n2 n3 n4 n5 n6 n7 n8 n9; have hq0 := HX.out.lt))
  have HMS := Lib.hid HR.out.ms
  have HSS := Lib.hid HR.out.sS
  have HWA := Lib.hid HW.out.args
  have HWR := Lib.hid HW.out.resets
  go_quiet ((first | (go_at_call 37; exact Calls.quiet_of_same (mayGuard_q gs S W q.guard true _ _ HMS.out HSS.out HG.out)) | (go_at_call 19; with_reducible exact Calls.quiet_of_same (allW_q a.1 a.2.1 a.2.2 B q.args gs S W true _ _ HWA.out HMS.out HSS.out HA.out)) | (go_at_call 19; with_reducible exact Calls.quiet_of_same (allW_q r1 0 rc B q.resets gs S W true _ _ HWR.out HMS.out HSS.out HRS.out))))
  go_upto_region 5 with fail
  generalize hw5 : World.drewN _ _ = w5
  have HB5 := Lib.hid (show Below B w w5 from by rw [← hw5]; exact below_drewN HB.out)
  have HR5 := Lib.hid (show Rd w5 B g c v S N gs gl W L from by rw [← hw5]; exact HR.out.drewN)
  have HX5 := Lib.hid (show Blk w5 w.heap.size 70 (ics q a m d (r1, 0, rc)) from by rw [← hw5]; exact HX.out)
  clear hw5 x0 x1 x2 x3 x4 x5 x6 x7 x8 x9 x10 n10 n11
  have n10 := HR5.out.blk.cell 10 rfl
  obtain ⟨x0, x1, x2, x3, x4, x5, x6, x7, x8, x9, x10⟩ := HX5.out.elev
  go_quiet ((go_at_call 39; exact Calls.quiet_of_same (isEnd_b q.op true _ HE.out)))
  go_wp2
  go_ret
  exact ⟨true, rfl, by rw [HV.out, H1.out, H2.out, decide_eq_true HR0.out, HG.out, HA.out, HRS.out, HE.out]; simp, fun _ => by unfold wNext; rw [if_pos HE.out]; exact HR5.out.drewN, below_drewN HB5.out⟩
set_option maxHeartbeats 1000000 in
theorem st_zF (B g : Nat) (c : CodeM) (v : CodeV) (S N gs gl : Nat) (W L : List Int) (q : InsP) (a m d r : Option Addr × Nat × Nat) (w : World) (hr : Rd w B g c v S N gs gl W L) (hx : InsW w B q a m d r) (h1 : enS q.op a.2.1 = true) (h2 : plK q.op q.k c.ins c.outs v.mems.2.1 v.conts.2.1 c.crosses = true) (h0 : r.2.1 = 0) (hg : gdB S W q.guard = true) (ha : q.args.all (wrB S W) = true) (hrs : q.resets.all (wrB S W) = true) (he : isEnd q.op = false) (hi : inB q.dst S = false) : Calls Try.prog 22 #[.pointer (some ⟨g, 0, none⟩), .agg #[.string q.op, .int .i64 q.dst, .slice a.1 a.2.1 a.2.2, .int .i64 q.k, .int .i64 q.lit.kind, .bool q.lit.neg, .slice m.1 m.2.1 m.2.2, .slice d.1 d.2.1 d.2.2, .string q.lit.name, .int .i64 q.guard, .slice r.1 r.2.1 r.2.2]] w (StPost B g c v S N gs gl W L q w) := by
  obtain ⟨r1, rn, rc⟩ := r
  obtain rfl : rn = 0 := h0
  have HR0 : Hid ((r1, 0, rc).2.1 = (0 : Nat)) := Lib.hid rfl
  obtain ⟨W1, hW1⟩ : ∃ W1, W1 = w.alloc (.cells #[.string q.op, .int .i64 q.dst, .slice a.1 a.2.1 a.2.2, .int .i64 q.k, .int .i64 q.lit.kind, .bool q.lit.neg, .slice m.1 m.2.1 m.2.2, .slice d.1 d.2.1 d.2.2, .string q.lit.name, .int .i64 q.guard, .slice r1 0 rc] 70) := ⟨_, rfl⟩
  have hb1 : Below w.heap.size w W1 := by rw [hW1]; exact (Below.refl _ _).alloc (Nat.le_refl _) _
  have HX := Lib.hid (show Blk W1 w.heap.size 70 (ics q a m d (r1, 0, rc)) from by rw [hW1]; exact Blk.new _ _ _)
  have HR := Lib.hid (hr.later hb1)
  have HB := Lib.hid (hb1.mono hr.hB)
  have HW := Lib.hid (hx.keep HB.out)
  have HV := Lib.hid (st_eq hr hx)
  have HGW : Hid (gs < w.heap.size) := Lib.hid hr.ms.lt
  have hma := hx.args.len_le
  have hmr := hx.resets.len_le
  have HMA := Lib.hid hma
  have hq0 : w.heap.size < W1.heap.size := HX.out.lt
  have H1 := Lib.hid h1
  clear h1
  have H2 := Lib.hid h2
  clear h2
  have HG := Lib.hid hg
  clear hg
  have HA := Lib.hid ha
  clear ha
  have HRS := Lib.hid hrs
  clear hrs
  have HE := Lib.hid he
  clear he
  have HI := Lib.hid hi
  clear hi
  unfold maxLen at hma hmr
  obtain ⟨x0, x1, x2, x3, x4, x5, x6, x7, x8, x9, x10⟩ := HX.out.elev
  obtain ⟨n0, n1, n2, n3, n4, n5, n6, n7, n8, n9, n10, n11⟩ := HR.out.cells
  clear n0 n1 n2 n3 n4 n5 n6 n7 n8 n9 hb1 hr hx
  go_enter Try.func22, Try.ntmps22
  go_upto_region 1 with fail
  rw [← hW1]
  clear hW1
  go_upto_region 3 with (first | (go_at_call 34; (with_reducible refine (hasEnough_b q a m d (r1, 0, rc) true _ HMA.out H1.out).mono ?_); rintro e w2 ⟨rfl, hb2⟩; have HX := Lib.hid (HX.out.later hb2); have HW := Lib.hid (HW.out.keep (hb2.mono HR.out.hB)); have HB := Lib.hid (HB.out.trans (hb2.mono HR.out.hB)); have HR := Lib.hid (HR.out.later hb2); clear hb2 x0 x1 x2 x3 x4 x5 x6 x7 x8 x9 x10 n10 n11 hq0; obtain ⟨x0, x1, x2, x3, x4, x5, x6, x7, x8, x9, x10⟩ := HX.out.elev; obtain ⟨n0, n1, n2, n3, n4, n5, n6, n7, n8, n9, n10, n11⟩ := HR.out.cells; clear n0 n1 n2 n3 n4 n5 n6 n7 n8 n9; have hq0 := HX.out.lt) | (go_at_call 35; (with_reducible refine (hasPlace_b c v B g S N gs gl W L q a m d (r1, 0, rc) true _ HR.out H2.out).mono ?_); rintro e w3 ⟨rfl, hb3⟩; have HX := Lib.hid (HX.out.later hb3); have HW := Lib.hid (HW.out.keep (hb3.mono HR.out.hB)); have HB := Lib.hid (HB.out.trans (hb3.mono HR.out.hB)); have HR := Lib.hid (HR.out.later hb3); clear hb3 x0 x1 x2 x3 x4 x5 x6 x7 x8 x9 x10 n10 n11 hq0; obtain ⟨x0, x1, x2, x3, x4, x5, x6, x7, x8, x9, x10⟩ := HX.out.elev; obtain ⟨n0, n1, n2, n3, n4, n5, n6, n7, n8, n9, n10, n11⟩ := HR.out.cells; clear n0 n1 n2 n3 n4 n5 n6 n7 n8 n9; have hq0 := HX.out.lt))
  have HMS := Lib.hid HR.out.ms
  have HSS := Lib.hid HR.out.sS
  have HWA := Lib.hid HW.out.args
  have HWR := Lib.hid HW.out.resets
  go_quiet ((first | (go_at_call 37; exact Calls.quiet_of_same (mayGuard_q gs S W q.guard true _ _ HMS.out HSS.out HG.out)) | (go_at_call 19; with_reducible exact Calls.quiet_of_same (allW_q a.1 a.2.1 a.2.2 B q.args gs S W true _ _ HWA.out HMS.out HSS.out HA.out)) | (go_at_call 19; with_reducible exact Calls.quiet_of_same (allW_q r1 0 rc B q.resets gs S W true _ _ HWR.out HMS.out HSS.out HRS.out))))
  go_upto_region 5 with fail
  generalize hw5 : World.drewN _ _ = w5
  have HB5 := Lib.hid (show Below B w w5 from by rw [← hw5]; exact below_drewN HB.out)
  have HR5 := Lib.hid (show Rd w5 B g c v S N gs gl W L from by rw [← hw5]; exact HR.out.drewN)
  have HX5 := Lib.hid (show Blk w5 w.heap.size 70 (ics q a m d (r1, 0, rc)) from by rw [← hw5]; exact HX.out)
  clear hw5 x0 x1 x2 x3 x4 x5 x6 x7 x8 x9 x10 n10 n11
  have n10 := HR5.out.blk.cell 10 rfl
  obtain ⟨x0, x1, x2, x3, x4, x5, x6, x7, x8, x9, x10⟩ := HX5.out.elev
  go_quiet ((first | (go_at_call 39; exact Calls.quiet_of_same (isEnd_b q.op false _ HE.out)) | (go_at_call 40; exact Calls.quiet_of_same (write_no gs S q.dst _ HI.out))))
  go_wp2
  go_ret
  exact ⟨false, rfl, by rw [HV.out, H1.out, H2.out, decide_eq_true HR0.out, HG.out, HA.out, HRS.out, HE.out, HI.out]; simp, (fun h => by cases h), below_drewN HB5.out⟩
set_option maxHeartbeats 1000000 in
theorem st_zT (B g : Nat) (c : CodeM) (v : CodeV) (S N gs gl : Nat) (W L : List Int) (q : InsP) (a m d r : Option Addr × Nat × Nat) (w : World) (hr : Rd w B g c v S N gs gl W L) (hx : InsW w B q a m d r) (h1 : enS q.op a.2.1 = true) (h2 : plK q.op q.k c.ins c.outs v.mems.2.1 v.conts.2.1 c.crosses = true) (h0 : r.2.1 = 0) (hg : gdB S W q.guard = true) (ha : q.args.all (wrB S W) = true) (hrs : q.resets.all (wrB S W) = true) (he : isEnd q.op = false) (hi : inB q.dst S = true) : Calls Try.prog 22 #[.pointer (some ⟨g, 0, none⟩), .agg #[.string q.op, .int .i64 q.dst, .slice a.1 a.2.1 a.2.2, .int .i64 q.k, .int .i64 q.lit.kind, .bool q.lit.neg, .slice m.1 m.2.1 m.2.2, .slice d.1 d.2.1 d.2.2, .string q.lit.name, .int .i64 q.guard, .slice r.1 r.2.1 r.2.2]] w (StPost B g c v S N gs gl W L q w) := by
  obtain ⟨r1, rn, rc⟩ := r
  obtain rfl : rn = 0 := h0
  have HR0 : Hid ((r1, 0, rc).2.1 = (0 : Nat)) := Lib.hid rfl
  obtain ⟨W1, hW1⟩ : ∃ W1, W1 = w.alloc (.cells #[.string q.op, .int .i64 q.dst, .slice a.1 a.2.1 a.2.2, .int .i64 q.k, .int .i64 q.lit.kind, .bool q.lit.neg, .slice m.1 m.2.1 m.2.2, .slice d.1 d.2.1 d.2.2, .string q.lit.name, .int .i64 q.guard, .slice r1 0 rc] 70) := ⟨_, rfl⟩
  have hb1 : Below w.heap.size w W1 := by rw [hW1]; exact (Below.refl _ _).alloc (Nat.le_refl _) _
  have HX := Lib.hid (show Blk W1 w.heap.size 70 (ics q a m d (r1, 0, rc)) from by rw [hW1]; exact Blk.new _ _ _)
  have HR := Lib.hid (hr.later hb1)
  have HB := Lib.hid (hb1.mono hr.hB)
  have HW := Lib.hid (hx.keep HB.out)
  have HV := Lib.hid (st_eq hr hx)
  have HGW : Hid (gs < w.heap.size) := Lib.hid hr.ms.lt
  have hma := hx.args.len_le
  have hmr := hx.resets.len_le
  have HMA := Lib.hid hma
  have hq0 : w.heap.size < W1.heap.size := HX.out.lt
  have H1 := Lib.hid h1
  clear h1
  have H2 := Lib.hid h2
  clear h2
  have HG := Lib.hid hg
  clear hg
  have HA := Lib.hid ha
  clear ha
  have HRS := Lib.hid hrs
  clear hrs
  have HE := Lib.hid he
  clear he
  obtain ⟨j, hj, hjS⟩ := inB_yes hi
  have HI := Lib.hid hi
  have HJ := Lib.hid hj
  clear hi hj
  unfold maxLen at hma hmr
  obtain ⟨x0, x1, x2, x3, x4, x5, x6, x7, x8, x9, x10⟩ := HX.out.elev
  obtain ⟨n0, n1, n2, n3, n4, n5, n6, n7, n8, n9, n10, n11⟩ := HR.out.cells
  clear n0 n1 n2 n3 n4 n5 n6 n7 n8 n9 hb1 hr hx
  go_enter Try.func22, Try.ntmps22
  go_upto_region 1 with fail
  rw [← hW1]
  clear hW1
  go_upto_region 3 with (first | (go_at_call 34; (with_reducible refine (hasEnough_b q a m d (r1, 0, rc) true _ HMA.out H1.out).mono ?_); rintro e w2 ⟨rfl, hb2⟩; have HX := Lib.hid (HX.out.later hb2); have HW := Lib.hid (HW.out.keep (hb2.mono HR.out.hB)); have HB := Lib.hid (HB.out.trans (hb2.mono HR.out.hB)); have HR := Lib.hid (HR.out.later hb2); clear hb2 x0 x1 x2 x3 x4 x5 x6 x7 x8 x9 x10 n10 n11 hq0; obtain ⟨x0, x1, x2, x3, x4, x5, x6, x7, x8, x9, x10⟩ := HX.out.elev; obtain ⟨n0, n1, n2, n3, n4, n5, n6, n7, n8, n9, n10, n11⟩ := HR.out.cells; clear n0 n1 n2 n3 n4 n5 n6 n7 n8 n9; have hq0 := HX.out.lt) | (go_at_call 35; (with_reducible refine (hasPlace_b c v B g S N gs gl W L q a m d (r1, 0, rc) true _ HR.out H2.out).mono ?_); rintro e w3 ⟨rfl, hb3⟩; have HX := Lib.hid (HX.out.later hb3); have HW := Lib.hid (HW.out.keep (hb3.mono HR.out.hB)); have HB := Lib.hid (HB.out.trans (hb3.mono HR.out.hB)); have HR := Lib.hid (HR.out.later hb3); clear hb3 x0 x1 x2 x3 x4 x5 x6 x7 x8 x9 x10 n10 n11 hq0; obtain ⟨x0, x1, x2, x3, x4, x5, x6, x7, x8, x9, x10⟩ := HX.out.elev; obtain ⟨n0, n1, n2, n3, n4, n5, n6, n7, n8, n9, n10, n11⟩ := HR.out.cells; clear n0 n1 n2 n3 n4 n5 n6 n7 n8 n9; have hq0 := HX.out.lt))
  have HMS := Lib.hid HR.out.ms
  have HSS := Lib.hid HR.out.sS
  have HWA := Lib.hid HW.out.args
  have HWR := Lib.hid HW.out.resets
  go_quiet ((first | (go_at_call 37; exact Calls.quiet_of_same (mayGuard_q gs S W q.guard true _ _ HMS.out HSS.out HG.out)) | (go_at_call 19; with_reducible exact Calls.quiet_of_same (allW_q a.1 a.2.1 a.2.2 B q.args gs S W true _ _ HWA.out HMS.out HSS.out HA.out)) | (go_at_call 19; with_reducible exact Calls.quiet_of_same (allW_q r1 0 rc B q.resets gs S W true _ _ HWR.out HMS.out HSS.out HRS.out))))
  go_upto_region 5 with fail
  generalize hw5 : World.drewN _ _ = w5
  have HB5 := Lib.hid (show Below B w w5 from by rw [← hw5]; exact below_drewN HB.out)
  have HR5 := Lib.hid (show Rd w5 B g c v S N gs gl W L from by rw [← hw5]; exact HR.out.drewN)
  have HX5 := Lib.hid (show Blk w5 w.heap.size 70 (ics q a m d (r1, 0, rc)) from by rw [← hw5]; exact HX.out)
  clear hw5 x0 x1 x2 x3 x4 x5 x6 x7 x8 x9 x10 n10 n11
  have HR6 := Lib.hid HR5.out.drew
  have HX6 := Lib.hid (show Blk w5.drew w.heap.size 70 (ics q a m d (r1, 0, rc)) from HX5.out)
  have HP := Lib.hid (show w5.drew.cell? ⟨g, 10, none⟩ = some (.slice (some ⟨gs, 0, none⟩) S S) ∧ w5.drew.cell? ⟨w.heap.size, 0, none⟩ = some (.string q.op) ∧ w5.drew.cell? ⟨w.heap.size, 1, none⟩ = some (.int .i64 (j : Int)) from ⟨HR6.out.blk.cell 10 rfl, HX6.out.cell 0 rfl, by rw [← HJ.out]; exact HX6.out.cell 1 rfl⟩)
  go_region_held3 (fun w' => w'.cell? ⟨g, 10, none⟩ = some (.slice (some ⟨gs, 0, none⟩) S S) ∧ w'.cell? ⟨w.heap.size, 0, none⟩ = some (.string q.op) ∧ w'.cell? ⟨w.heap.size, 1, none⟩ = some (.int .i64 (j : Int))) (first | with_reducible exact HP.out | exact HPa.out) (first
    | (go_at_call 39; (with_reducible refine (isEnd_b q.op false _ HE.out).mono ?_); rintro e w6 ⟨rfl, rfl⟩)
    | (go_at_call 40; (with_reducible refine (write_yes gs S W j _ HR6.out.ms HSS.out (by rw [← HJ.out]; exact HI.out)).mono ?_); rintro e w7 ⟨rfl, rfl⟩; have HR7 := Lib.hid (HR6.out.putS j); have HPa := Lib.hid (show (w5.drew.setCell ⟨gs, j, none⟩ (.bool true)).cell? ⟨g, 10, none⟩ = some (.slice (some ⟨gs, 0, none⟩) S S) ∧ (w5.drew.setCell ⟨gs, j, none⟩ (.bool true)).cell? ⟨w.heap.size, 0, none⟩ = some (.string q.op) ∧ (w5.drew.setCell ⟨gs, j, none⟩ (.bool true)).cell? ⟨w.heap.size, 1, none⟩ = some (.int .i64 (j : Int)) from ⟨HR7.out.blk.cell 10 rfl, (World.cell?_of_block (Below.heap_setCell _ _ _ w.heap.size (Nat.ne_of_gt HGW.out))).trans HP.out.2.1, (World.cell?_of_block (Below.heap_setCell _ _ _ w.heap.size (Nat.ne_of_gt HGW.out))).trans HP.out.2.2⟩)))
  go_wp2
  go_ret
  exact ⟨true, rfl, by rw [HV.out, H1.out, H2.out, decide_eq_true HR0.out, HG.out, HA.out, HRS.out, HE.out, HI.out]; simp, fun _ => by unfold wNext; rw [if_neg (by rw [HE.out]; simp), HJ.out]; exact HR6.out.putS j, HB5.out.drew.setCell HR5.out.hs _⟩
set_option maxHeartbeats 1000000 in
theorem st_pG (B g : Nat) (c : CodeM) (v : CodeV) (S N gs gl : Nat) (W L : List Int) (q : InsP) (a m d r : Option Addr × Nat × Nat) (w : World) (hr : Rd w B g c v S N gs gl W L) (hx : InsW w B q a m d r) (h1 : enS q.op a.2.1 = true) (h2 : plK q.op q.k c.ins c.outs v.mems.2.1 v.conts.2.1 c.crosses = true) (h0 : ¬ r.2.1 = 0) (h3 : mayB q.op = true) (hg : gdB S W q.guard = false) : Calls Try.prog 22 #[.pointer (some ⟨g, 0, none⟩), .agg #[.string q.op, .int .i64 q.dst, .slice a.1 a.2.1 a.2.2, .int .i64 q.k, .int .i64 q.lit.kind, .bool q.lit.neg, .slice m.1 m.2.1 m.2.2, .slice d.1 d.2.1 d.2.2, .string q.lit.name, .int .i64 q.guard, .slice r.1 r.2.1 r.2.2]] w (StPost B g c v S N gs gl W L q w) := by
  obtain ⟨W1, hW1⟩ : ∃ W1, W1 = w.alloc (.cells #[.string q.op, .int .i64 q.dst, .slice a.1 a.2.1 a.2.2, .int .i64 q.k, .int .i64 q.lit.kind, .bool q.lit.neg, .slice m.1 m.2.1 m.2.2, .slice d.1 d.2.1 d.2.2, .string q.lit.name, .int .i64 q.guard, .slice r.1 r.2.1 r.2.2] 70) := ⟨_, rfl⟩
  have hb1 : Below w.heap.size w W1 := by rw [hW1]; exact (Below.refl _ _).alloc (Nat.le_refl _) _
  have HX := Lib.hid (show Blk W1 w.heap.size 70 (ics q a m d r) from by rw [hW1]; exact Blk.new _ _ _)
  have HR := Lib.hid (hr.later hb1)
  have HB := Lib.hid (hb1.mono hr.hB)
  have HW := Lib.hid (hx.keep HB.out)
  have HV := Lib.hid (st_eq hr hx)
  have HGW : Hid (gs < w.heap.size) := Lib.hid hr.ms.lt
  have hma := hx.args.len_le
  have hmr := hx.resets.len_le
  have HMA := Lib.hid hma
  have hq0 : w.heap.size < W1.heap.size := HX.out.lt
  have H1 := Lib.hid h1
  clear h1
  have H2 := Lib.hid h2
  clear h2
  have H3 := Lib.hid h3
  clear h3
  have hr0 : 0 < r.2.1 := by omega
  have HR0 := Lib.hid h0
  have HG := Lib.hid hg
  clear hg
  unfold maxLen at hma hmr
  obtain ⟨x0, x1, x2, x3, x4, x5, x6, x7, x8, x9, x10⟩ := HX.out.elev
  obtain ⟨n0, n1, n2, n3, n4, n5, n6, n7, n8, n9, n10, n11⟩ := HR.out.cells
  clear n0 n1 n2 n3 n4 n5 n6 n7 n8 n9 hb1 hr hx
  go_enter Try.func22, Try.ntmps22
  go_upto_region 1 with fail
  rw [← hW1]
  clear hW1
  go_upto_region 3 with (first | (go_at_call 34; (with_reducible refine (hasEnough_b q a m d r true _ HMA.out H1.out).mono ?_); rintro e w2 ⟨rfl, hb2⟩; have HX := Lib.hid (HX.out.later hb2); have HW := Lib.hid (HW.out.keep (hb2.mono HR.out.hB)); have HB := Lib.hid (HB.out.trans (hb2.mono HR.out.hB)); have HR := Lib.hid (HR.out.later hb2); clear hb2 x0 x1 x2 x3 x4 x5 x6 x7 x8 x9 x10 n10 n11 hq0; obtain ⟨x0, x1, x2, x3, x4, x5, x6, x7, x8, x9, x10⟩ := HX.out.elev; obtain ⟨n0, n1, n2, n3, n4, n5, n6, n7, n8, n9, n10, n11⟩ := HR.out.cells; clear n0 n1 n2 n3 n4 n5 n6 n7 n8 n9; have hq0 := HX.out.lt) | (go_at_call 35; (with_reducible refine (hasPlace_b c v B g S N gs gl W L q a m d r true _ HR.out H2.out).mono ?_); rintro e w3 ⟨rfl, hb3⟩; have HX := Lib.hid (HX.out.later hb3); have HW := Lib.hid (HW.out.keep (hb3.mono HR.out.hB)); have HB := Lib.hid (HB.out.trans (hb3.mono HR.out.hB)); have HR := Lib.hid (HR.out.later hb3); clear hb3 x0 x1 x2 x3 x4 x5 x6 x7 x8 x9 x10 n10 n11 hq0; obtain ⟨x0, x1, x2, x3, x4, x5, x6, x7, x8, x9, x10⟩ := HX.out.elev; obtain ⟨n0, n1, n2, n3, n4, n5, n6, n7, n8, n9, n10, n11⟩ := HR.out.cells; clear n0 n1 n2 n3 n4 n5 n6 n7 n8 n9; have hq0 := HX.out.lt) | (go_at_call 36; (with_reducible refine (mayB_b q.op true _ H3.out).mono ?_); rintro e w4 ⟨rfl, rfl⟩))
  have HMS := Lib.hid HR.out.ms
  have HSS := Lib.hid HR.out.sS
  have HWA := Lib.hid HW.out.args
  have HWR := Lib.hid HW.out.resets
  go_quiet ((first | (go_at_call 37; exact Calls.quiet_of_same (mayGuard_q gs S W q.guard false _ _ HMS.out HSS.out HG.out)) | (go_at_call 19; with_reducible exact Calls.quiet_of_same (allW_q a.1 a.2.1 a.2.2 B q.args gs S W false _ _ HWA.out HMS.out HSS.out rfl)) | (go_at_call 19; with_reducible exact Calls.quiet_of_same (allW_q r.1 r.2.1 r.2.2 B q.resets gs S W false _ _ HWR.out HMS.out HSS.out rfl))))
  go_wp2
  go_ret
  exact ⟨false, rfl, by rw [HV.out, H1.out, H2.out, decide_eq_false HR0.out, H3.out, HG.out]; simp, (fun h => by cases h), by first | exact HB.out | exact below_drewN HB.out⟩
set_option maxHeartbeats 1000000 in
theorem st_pA (B g : Nat) (c : CodeM) (v : CodeV) (S N gs gl : Nat) (W L : List Int) (q : InsP) (a m d r : Option Addr × Nat × Nat) (w : World) (hr : Rd w B g c v S N gs gl W L) (hx : InsW w B q a m d r) (h1 : enS q.op a.2.1 = true) (h2 : plK q.op q.k c.ins c.outs v.mems.2.1 v.conts.2.1 c.crosses = true) (h0 : ¬ r.2.1 = 0) (h3 : mayB q.op = true) (hg : gdB S W q.guard = true) (ha : q.args.all (wrB S W) = false) : Calls Try.prog 22 #[.pointer (some ⟨g, 0, none⟩), .agg #[.string q.op, .int .i64 q.dst, .slice a.1 a.2.1 a.2.2, .int .i64 q.k, .int .i64 q.lit.kind, .bool q.lit.neg, .slice m.1 m.2.1 m.2.2, .slice d.1 d.2.1 d.2.2, .string q.lit.name, .int .i64 q.guard, .slice r.1 r.2.1 r.2.2]] w (StPost B g c v S N gs gl W L q w) := by
  obtain ⟨W1, hW1⟩ : ∃ W1, W1 = w.alloc (.cells #[.string q.op, .int .i64 q.dst, .slice a.1 a.2.1 a.2.2, .int .i64 q.k, .int .i64 q.lit.kind, .bool q.lit.neg, .slice m.1 m.2.1 m.2.2, .slice d.1 d.2.1 d.2.2, .string q.lit.name, .int .i64 q.guard, .slice r.1 r.2.1 r.2.2] 70) := ⟨_, rfl⟩
  have hb1 : Below w.heap.size w W1 := by rw [hW1]; exact (Below.refl _ _).alloc (Nat.le_refl _) _
  have HX := Lib.hid (show Blk W1 w.heap.size 70 (ics q a m d r) from by rw [hW1]; exact Blk.new _ _ _)
  have HR := Lib.hid (hr.later hb1)
  have HB := Lib.hid (hb1.mono hr.hB)
  have HW := Lib.hid (hx.keep HB.out)
  have HV := Lib.hid (st_eq hr hx)
  have HGW : Hid (gs < w.heap.size) := Lib.hid hr.ms.lt
  have hma := hx.args.len_le
  have hmr := hx.resets.len_le
  have HMA := Lib.hid hma
  have hq0 : w.heap.size < W1.heap.size := HX.out.lt
  have H1 := Lib.hid h1
  clear h1
  have H2 := Lib.hid h2
  clear h2
  have H3 := Lib.hid h3
  clear h3
  have hr0 : 0 < r.2.1 := by omega
  have HR0 := Lib.hid h0
  have HG := Lib.hid hg
  clear hg
  have HA := Lib.hid ha
  clear ha
  unfold maxLen at hma hmr
  obtain ⟨x0, x1, x2, x3, x4, x5, x6, x7, x8, x9, x10⟩ := HX.out.elev
  obtain ⟨n0, n1, n2, n3, n4, n5, n6, n7, n8, n9, n10, n11⟩ := HR.out.cells
  clear n0 n1 n2 n3 n4 n5 n6 n7 n8 n9 hb1 hr hx
  go_enter Try.func22, Try.ntmps22
  go_upto_region 1 with fail
  rw [← hW1]
  clear hW1
  go_upto_region 3 with (first | (go_at_call 34; (with_reducible refine (hasEnough_b q a m d r true _ HMA.out H1.out).mono ?_); rintro e w2 ⟨rfl, hb2⟩; have HX := Lib.hid (HX.out.later hb2); have HW := Lib.hid (HW.out.keep (hb2.mono HR.out.hB)); have HB := Lib.hid (HB.out.trans (hb2.mono HR.out.hB)); have HR := Lib.hid (HR.out.later hb2); clear hb2 x0 x1 x2 x3 x4 x5 x6 x7 x8 x9 x10 n10 n11 hq0; obtain ⟨x0, x1, x2, x3, x4, x5, x6, x7, x8, x9, x10⟩ := HX.out.elev; obtain ⟨n0, n1, n2, n3, n4, n5, n6, n7, n8, n9, n10, n11⟩ := HR.out.cells; clear n0 n1 n2 n3 n4 n5 n6 n7 n8 n9; have hq0 := HX.out.lt) | (go_at_call 35; (with_reducible refine (hasPlace_b c v B g S N gs gl W L q a m d r true _ HR.out H2.out).mono ?_); rintro e w3 ⟨rfl, hb3⟩; have HX := Lib.hid (HX.out.later hb3); have HW := Lib.hid (HW.out.keep (hb3.mono HR.out.hB)); have HB := Lib.hid (HB.out.trans (hb3.mono HR.out.hB)); have HR := Lib.hid (HR.out.later hb3); clear hb3 x0 x1 x2 x3 x4 x5 x6 x7 x8 x9 x10 n10 n11 hq0; obtain ⟨x0, x1, x2, x3, x4, x5, x6, x7, x8, x9, x10⟩ := HX.out.elev; obtain ⟨n0, n1, n2, n3, n4, n5, n6, n7, n8, n9, n10, n11⟩ := HR.out.cells; clear n0 n1 n2 n3 n4 n5 n6 n7 n8 n9; have hq0 := HX.out.lt) | (go_at_call 36; (with_reducible refine (mayB_b q.op true _ H3.out).mono ?_); rintro e w4 ⟨rfl, rfl⟩))
  have HMS := Lib.hid HR.out.ms
  have HSS := Lib.hid HR.out.sS
  have HWA := Lib.hid HW.out.args
  have HWR := Lib.hid HW.out.resets
  go_quiet ((first | (go_at_call 37; exact Calls.quiet_of_same (mayGuard_q gs S W q.guard true _ _ HMS.out HSS.out HG.out)) | (go_at_call 19; with_reducible exact Calls.quiet_of_same (allW_q a.1 a.2.1 a.2.2 B q.args gs S W false _ _ HWA.out HMS.out HSS.out HA.out)) | (go_at_call 19; with_reducible exact Calls.quiet_of_same (allW_q r.1 r.2.1 r.2.2 B q.resets gs S W false _ _ HWR.out HMS.out HSS.out rfl))))
  go_wp2
  go_ret
  exact ⟨false, rfl, by rw [HV.out, H1.out, H2.out, decide_eq_false HR0.out, H3.out, HG.out, HA.out]; simp, (fun h => by cases h), by first | exact HB.out | exact below_drewN HB.out⟩
set_option maxHeartbeats 1000000 in
theorem st_pR (B g : Nat) (c : CodeM) (v : CodeV) (S N gs gl : Nat) (W L : List Int) (q : InsP) (a m d r : Option Addr × Nat × Nat) (w : World) (hr : Rd w B g c v S N gs gl W L) (hx : InsW w B q a m d r) (h1 : enS q.op a.2.1 = true) (h2 : plK q.op q.k c.ins c.outs v.mems.2.1 v.conts.2.1 c.crosses = true) (h0 : ¬ r.2.1 = 0) (h3 : mayB q.op = true) (hg : gdB S W q.guard = true) (ha : q.args.all (wrB S W) = true) (hrs : q.resets.all (wrB S W) = false) : Calls Try.prog 22 #[.pointer (some ⟨g, 0, none⟩), .agg #[.string q.op, .int .i64 q.dst, .slice a.1 a.2.1 a.2.2, .int .i64 q.k, .int .i64 q.lit.kind, .bool q.lit.neg, .slice m.1 m.2.1 m.2.2, .slice d.1 d.2.1 d.2.2, .string q.lit.name, .int .i64 q.guard, .slice r.1 r.2.1 r.2.2]] w (StPost B g c v S N gs gl W L q w) := by
  obtain ⟨W1, hW1⟩ : ∃ W1, W1 = w.alloc (.cells #[.string q.op, .int .i64 q.dst, .slice a.1 a.2.1 a.2.2, .int .i64 q.k, .int .i64 q.lit.kind, .bool q.lit.neg, .slice m.1 m.2.1 m.2.2, .slice d.1 d.2.1 d.2.2, .string q.lit.name, .int .i64 q.guard, .slice r.1 r.2.1 r.2.2] 70) := ⟨_, rfl⟩
  have hb1 : Below w.heap.size w W1 := by rw [hW1]; exact (Below.refl _ _).alloc (Nat.le_refl _) _
  have HX := Lib.hid (show Blk W1 w.heap.size 70 (ics q a m d r) from by rw [hW1]; exact Blk.new _ _ _)
  have HR := Lib.hid (hr.later hb1)
  have HB := Lib.hid (hb1.mono hr.hB)
  have HW := Lib.hid (hx.keep HB.out)
  have HV := Lib.hid (st_eq hr hx)
  have HGW : Hid (gs < w.heap.size) := Lib.hid hr.ms.lt
  have hma := hx.args.len_le
  have hmr := hx.resets.len_le
  have HMA := Lib.hid hma
  have hq0 : w.heap.size < W1.heap.size := HX.out.lt
  have H1 := Lib.hid h1
  clear h1
  have H2 := Lib.hid h2
  clear h2
  have H3 := Lib.hid h3
  clear h3
  have hr0 : 0 < r.2.1 := by omega
  have HR0 := Lib.hid h0
  have HG := Lib.hid hg
  clear hg
  have HA := Lib.hid ha
  clear ha
  have HRS := Lib.hid hrs
  clear hrs
  unfold maxLen at hma hmr
  obtain ⟨x0, x1, x2, x3, x4, x5, x6, x7, x8, x9, x10⟩ := HX.out.elev
  obtain ⟨n0, n1, n2, n3, n4, n5, n6, n7, n8, n9, n10, n11⟩ := HR.out.cells
  clear n0 n1 n2 n3 n4 n5 n6 n7 n8 n9 hb1 hr hx
  go_enter Try.func22, Try.ntmps22
  go_upto_region 1 with fail
  rw [← hW1]
  clear hW1
  go_upto_region 3 with (first | (go_at_call 34; (with_reducible refine (hasEnough_b q a m d r true _ HMA.out H1.out).mono ?_); rintro e w2 ⟨rfl, hb2⟩; have HX := Lib.hid (HX.out.later hb2); have HW := Lib.hid (HW.out.keep (hb2.mono HR.out.hB)); have HB := Lib.hid (HB.out.trans (hb2.mono HR.out.hB)); have HR := Lib.hid (HR.out.later hb2); clear hb2 x0 x1 x2 x3 x4 x5 x6 x7 x8 x9 x10 n10 n11 hq0; obtain ⟨x0, x1, x2, x3, x4, x5, x6, x7, x8, x9, x10⟩ := HX.out.elev; obtain ⟨n0, n1, n2, n3, n4, n5, n6, n7, n8, n9, n10, n11⟩ := HR.out.cells; clear n0 n1 n2 n3 n4 n5 n6 n7 n8 n9; have hq0 := HX.out.lt) | (go_at_call 35; (with_reducible refine (hasPlace_b c v B g S N gs gl W L q a m d r true _ HR.out H2.out).mono ?_); rintro e w3 ⟨rfl, hb3⟩; have HX := Lib.hid (HX.out.later hb3); have HW := Lib.hid (HW.out.keep (hb3.mono HR.out.hB)); have HB := Lib.hid (HB.out.trans (hb3.mono HR.out.hB)); have HR := Lib.hid (HR.out.later hb3); clear hb3 x0 x1 x2 x3 x4 x5 x6 x7 x8 x9 x10 n10 n11 hq0; obtain ⟨x0, x1, x2, x3, x4, x5, x6, x7, x8, x9, x10⟩ := HX.out.elev; obtain ⟨n0, n1, n2, n3, n4, n5, n6, n7, n8, n9, n10, n11⟩ := HR.out.cells; clear n0 n1 n2 n3 n4 n5 n6 n7 n8 n9; have hq0 := HX.out.lt) | (go_at_call 36; (with_reducible refine (mayB_b q.op true _ H3.out).mono ?_); rintro e w4 ⟨rfl, rfl⟩))
  have HMS := Lib.hid HR.out.ms
  have HSS := Lib.hid HR.out.sS
  have HWA := Lib.hid HW.out.args
  have HWR := Lib.hid HW.out.resets
  go_quiet ((first | (go_at_call 37; exact Calls.quiet_of_same (mayGuard_q gs S W q.guard true _ _ HMS.out HSS.out HG.out)) | (go_at_call 19; with_reducible exact Calls.quiet_of_same (allW_q a.1 a.2.1 a.2.2 B q.args gs S W true _ _ HWA.out HMS.out HSS.out HA.out)) | (go_at_call 19; with_reducible exact Calls.quiet_of_same (allW_q r.1 r.2.1 r.2.2 B q.resets gs S W false _ _ HWR.out HMS.out HSS.out HRS.out))))
  go_wp2
  go_ret
  exact ⟨false, rfl, by rw [HV.out, H1.out, H2.out, decide_eq_false HR0.out, H3.out, HG.out, HA.out, HRS.out]; simp, (fun h => by cases h), by first | exact HB.out | exact below_drewN HB.out⟩
set_option maxHeartbeats 1000000 in
theorem st_pE (B g : Nat) (c : CodeM) (v : CodeV) (S N gs gl : Nat) (W L : List Int) (q : InsP) (a m d r : Option Addr × Nat × Nat) (w : World) (hr : Rd w B g c v S N gs gl W L) (hx : InsW w B q a m d r) (h1 : enS q.op a.2.1 = true) (h2 : plK q.op q.k c.ins c.outs v.mems.2.1 v.conts.2.1 c.crosses = true) (h0 : ¬ r.2.1 = 0) (h3 : mayB q.op = true) (hg : gdB S W q.guard = true) (ha : q.args.all (wrB S W) = true) (hrs : q.resets.all (wrB S W) = true) (he : isEnd q.op = true) : Calls Try.prog 22 #[.pointer (some ⟨g, 0, none⟩), .agg #[.string q.op, .int .i64 q.dst, .slice a.1 a.2.1 a.2.2, .int .i64 q.k, .int .i64 q.lit.kind, .bool q.lit.neg, .slice m.1 m.2.1 m.2.2, .slice d.1 d.2.1 d.2.2, .string q.lit.name, .int .i64 q.guard, .slice r.1 r.2.1 r.2.2]] w (StPost B g c v S N gs gl W L q w) := by
  obtain ⟨W1, hW1⟩ : ∃ W1, W1 = w.alloc (.cells #[.string q.op, .int .i64 q.dst, .slice a.1 a.2.1 a.2.2, .int .i64 q.k, .int .i64 q.lit.kind, .bool q.lit.neg, .slice m.1 m.2.1 m.2.2, .slice d.1 d.2.1 d.2.2, .string q.lit.name, .int .i64 q.guard, .slice r.1 r.2.1 r.2.2] 70) := ⟨_, rfl⟩
  have hb1 : Below w.heap.size w W1 := by rw [hW1]; exact (Below.refl _ _).alloc (Nat.le_refl _) _
  have HX := Lib.hid (show Blk W1 w.heap.size 70 (ics q a m d r) from by rw [hW1]; exact Blk.new _ _ _)
  have HR := Lib.hid (hr.later hb1)
  have HB := Lib.hid (hb1.mono hr.hB)
  have HW := Lib.hid (hx.keep HB.out)
  have HV := Lib.hid (st_eq hr hx)
  have HGW : Hid (gs < w.heap.size) := Lib.hid hr.ms.lt
  have hma := hx.args.len_le
  have hmr := hx.resets.len_le
  have HMA := Lib.hid hma
  have hq0 : w.heap.size < W1.heap.size := HX.out.lt
  have H1 := Lib.hid h1
  clear h1
  have H2 := Lib.hid h2
  clear h2
  have H3 := Lib.hid h3
  clear h3
  have hr0 : 0 < r.2.1 := by omega
  have HR0 := Lib.hid h0
  have HG := Lib.hid hg
  clear hg
  have HA := Lib.hid ha
  clear ha
  have HRS := Lib.hid hrs
  clear hrs
  have HE := Lib.hid he
  clear he
  unfold maxLen at hma hmr
  obtain ⟨x0, x1, x2, x3, x4, x5, x6, x7, x8, x9, x10⟩ := HX.out.elev
  obtain ⟨n0, n1, n2, n3, n4, n5, n6, n7, n8, n9, n10, n11⟩ := HR.out.cells
  clear n0 n1 n2 n3 n4 n5 n6 n7 n8 n9 hb1 hr hx
  go_enter Try.func22, Try.ntmps22
  go_upto_region 1 with fail
  rw [← hW1]
  clear hW1
  go_upto_region 3 with (first | (go_at_call 34; (with_reducible refine (hasEnough_b q a m d r true _ HMA.out H1.out).mono ?_); rintro e w2 ⟨rfl, hb2⟩; have HX := Lib.hid (HX.out.later hb2); have HW := Lib.hid (HW.out.keep (hb2.mono HR.out.hB)); have HB := Lib.hid (HB.out.trans (hb2.mono HR.out.hB)); have HR := Lib.hid (HR.out.later hb2); clear hb2 x0 x1 x2 x3 x4 x5 x6 x7 x8 x9 x10 n10 n11 hq0; obtain ⟨x0, x1, x2, x3, x4, x5, x6, x7, x8, x9, x10⟩ := HX.out.elev; obtain ⟨n0, n1, n2, n3, n4, n5, n6, n7, n8, n9, n10, n11⟩ := HR.out.cells; clear n0 n1 n2 n3 n4 n5 n6 n7 n8 n9; have hq0 := HX.out.lt) | (go_at_call 35; (with_reducible refine (hasPlace_b c v B g S N gs gl W L q a m d r true _ HR.out H2.out).mono ?_); rintro e w3 ⟨rfl, hb3⟩; have HX := Lib.hid (HX.out.later hb3); have HW := Lib.hid (HW.out.keep (hb3.mono HR.out.hB)); have HB := Lib.hid (HB.out.trans (hb3.mono HR.out.hB)); have HR := Lib.hid (HR.out.later hb3); clear hb3 x0 x1 x2 x3 x4 x5 x6 x7 x8 x9 x10 n10 n11 hq0; obtain ⟨x0, x1, x2, x3, x4, x5, x6, x7, x8, x9, x10⟩ := HX.out.elev; obtain ⟨n0, n1, n2, n3, n4, n5, n6, n7, n8, n9, n10, n11⟩ := HR.out.cells; clear n0 n1 n2 n3 n4 n5 n6 n7 n8 n9; have hq0 := HX.out.lt) | (go_at_call 36; (with_reducible refine (mayB_b q.op true _ H3.out).mono ?_); rintro e w4 ⟨rfl, rfl⟩))
  have HMS := Lib.hid HR.out.ms
  have HSS := Lib.hid HR.out.sS
  have HWA := Lib.hid HW.out.args
  have HWR := Lib.hid HW.out.resets
  go_quiet ((first | (go_at_call 37; exact Calls.quiet_of_same (mayGuard_q gs S W q.guard true _ _ HMS.out HSS.out HG.out)) | (go_at_call 19; with_reducible exact Calls.quiet_of_same (allW_q a.1 a.2.1 a.2.2 B q.args gs S W true _ _ HWA.out HMS.out HSS.out HA.out)) | (go_at_call 19; with_reducible exact Calls.quiet_of_same (allW_q r.1 r.2.1 r.2.2 B q.resets gs S W true _ _ HWR.out HMS.out HSS.out HRS.out))))
  go_upto_region 5 with fail
  generalize hw5 : World.drewN _ _ = w5
  have HB5 := Lib.hid (show Below B w w5 from by rw [← hw5]; exact below_drewN HB.out)
  have HR5 := Lib.hid (show Rd w5 B g c v S N gs gl W L from by rw [← hw5]; exact HR.out.drewN)
  have HX5 := Lib.hid (show Blk w5 w.heap.size 70 (ics q a m d r) from by rw [← hw5]; exact HX.out)
  clear hw5 x0 x1 x2 x3 x4 x5 x6 x7 x8 x9 x10 n10 n11
  have n10 := HR5.out.blk.cell 10 rfl
  obtain ⟨x0, x1, x2, x3, x4, x5, x6, x7, x8, x9, x10⟩ := HX5.out.elev
  go_quiet ((go_at_call 39; exact Calls.quiet_of_same (isEnd_b q.op true _ HE.out)))
  go_wp2
  go_ret
  exact ⟨true, rfl, by rw [HV.out, H1.out, H2.out, decide_eq_false HR0.out, H3.out, HG.out, HA.out, HRS.out, HE.out]; simp, fun _ => by unfold wNext; rw [if_pos HE.out]; exact HR5.out.drewN, below_drewN HB5.out⟩
set_option maxHeartbeats 1000000 in
theorem st_pF (B g : Nat) (c : CodeM) (v : CodeV) (S N gs gl : Nat) (W L : List Int) (q : InsP) (a m d r : Option Addr × Nat × Nat) (w : World) (hr : Rd w B g c v S N gs gl W L) (hx : InsW w B q a m d r) (h1 : enS q.op a.2.1 = true) (h2 : plK q.op q.k c.ins c.outs v.mems.2.1 v.conts.2.1 c.crosses = true) (h0 : ¬ r.2.1 = 0) (h3 : mayB q.op = true) (hg : gdB S W q.guard = true) (ha : q.args.all (wrB S W) = true) (hrs : q.resets.all (wrB S W) = true) (he : isEnd q.op = false) (hi : inB q.dst S = false) : Calls Try.prog 22 #[.pointer (some ⟨g, 0, none⟩), .agg #[.string q.op, .int .i64 q.dst, .slice a.1 a.2.1 a.2.2, .int .i64 q.k, .int .i64 q.lit.kind, .bool q.lit.neg, .slice m.1 m.2.1 m.2.2, .slice d.1 d.2.1 d.2.2, .string q.lit.name, .int .i64 q.guard, .slice r.1 r.2.1 r.2.2]] w (StPost B g c v S N gs gl W L q w) := by
  obtain ⟨W1, hW1⟩ : ∃ W1, W1 = w.alloc (.cells #[.string q.op, .int .i64 q.dst, .slice a.1 a.2.1 a.2.2, .int .i64 q.k, .int .i64 q.lit.kind, .bool q.lit.neg, .slice m.1 m.2.1 m.2.2, .slice d.1 d.2.1 d.2.2, .string q.lit.name, .int .i64 q.guard, .slice r.1 r.2.1 r.2.2] 70) := ⟨_, rfl⟩
  have hb1 : Below w.heap.size w W1 := by rw [hW1]; exact (Below.refl _ _).alloc (Nat.le_refl _) _
  have HX := Lib.hid (show Blk W1 w.heap.size 70 (ics q a m d r) from by rw [hW1]; exact Blk.new _ _ _)
  have HR := Lib.hid (hr.later hb1)
  have HB := Lib.hid (hb1.mono hr.hB)
  have HW := Lib.hid (hx.keep HB.out)
  have HV := Lib.hid (st_eq hr hx)
  have HGW : Hid (gs < w.heap.size) := Lib.hid hr.ms.lt
  have hma := hx.args.len_le
  have hmr := hx.resets.len_le
  have HMA := Lib.hid hma
  have hq0 : w.heap.size < W1.heap.size := HX.out.lt
  have H1 := Lib.hid h1
  clear h1
  have H2 := Lib.hid h2
  clear h2
  have H3 := Lib.hid h3
  clear h3
  have hr0 : 0 < r.2.1 := by omega
  have HR0 := Lib.hid h0
  have HG := Lib.hid hg
  clear hg
  have HA := Lib.hid ha
  clear ha
  have HRS := Lib.hid hrs
  clear hrs
  have HE := Lib.hid he
  clear he
  have HI := Lib.hid hi
  clear hi
  unfold maxLen at hma hmr
  obtain ⟨x0, x1, x2, x3, x4, x5, x6, x7, x8, x9, x10⟩ := HX.out.elev
  obtain ⟨n0, n1, n2, n3, n4, n5, n6, n7, n8, n9, n10, n11⟩ := HR.out.cells
  clear n0 n1 n2 n3 n4 n5 n6 n7 n8 n9 hb1 hr hx
  go_enter Try.func22, Try.ntmps22
  go_upto_region 1 with fail
  rw [← hW1]
  clear hW1
  go_upto_region 3 with (first | (go_at_call 34; (with_reducible refine (hasEnough_b q a m d r true _ HMA.out H1.out).mono ?_); rintro e w2 ⟨rfl, hb2⟩; have HX := Lib.hid (HX.out.later hb2); have HW := Lib.hid (HW.out.keep (hb2.mono HR.out.hB)); have HB := Lib.hid (HB.out.trans (hb2.mono HR.out.hB)); have HR := Lib.hid (HR.out.later hb2); clear hb2 x0 x1 x2 x3 x4 x5 x6 x7 x8 x9 x10 n10 n11 hq0; obtain ⟨x0, x1, x2, x3, x4, x5, x6, x7, x8, x9, x10⟩ := HX.out.elev; obtain ⟨n0, n1, n2, n3, n4, n5, n6, n7, n8, n9, n10, n11⟩ := HR.out.cells; clear n0 n1 n2 n3 n4 n5 n6 n7 n8 n9; have hq0 := HX.out.lt) | (go_at_call 35; (with_reducible refine (hasPlace_b c v B g S N gs gl W L q a m d r true _ HR.out H2.out).mono ?_); rintro e w3 ⟨rfl, hb3⟩; have HX := Lib.hid (HX.out.later hb3); have HW := Lib.hid (HW.out.keep (hb3.mono HR.out.hB)); have HB := Lib.hid (HB.out.trans (hb3.mono HR.out.hB)); have HR := Lib.hid (HR.out.later hb3); clear hb3 x0 x1 x2 x3 x4 x5 x6 x7 x8 x9 x10 n10 n11 hq0; obtain ⟨x0, x1, x2, x3, x4, x5, x6, x7, x8, x9, x10⟩ := HX.out.elev; obtain ⟨n0, n1, n2, n3, n4, n5, n6, n7, n8, n9, n10, n11⟩ := HR.out.cells; clear n0 n1 n2 n3 n4 n5 n6 n7 n8 n9; have hq0 := HX.out.lt) | (go_at_call 36; (with_reducible refine (mayB_b q.op true _ H3.out).mono ?_); rintro e w4 ⟨rfl, rfl⟩))
  have HMS := Lib.hid HR.out.ms
  have HSS := Lib.hid HR.out.sS
  have HWA := Lib.hid HW.out.args
  have HWR := Lib.hid HW.out.resets
  go_quiet ((first | (go_at_call 37; exact Calls.quiet_of_same (mayGuard_q gs S W q.guard true _ _ HMS.out HSS.out HG.out)) | (go_at_call 19; with_reducible exact Calls.quiet_of_same (allW_q a.1 a.2.1 a.2.2 B q.args gs S W true _ _ HWA.out HMS.out HSS.out HA.out)) | (go_at_call 19; with_reducible exact Calls.quiet_of_same (allW_q r.1 r.2.1 r.2.2 B q.resets gs S W true _ _ HWR.out HMS.out HSS.out HRS.out))))
  go_upto_region 5 with fail
  generalize hw5 : World.drewN _ _ = w5
  have HB5 := Lib.hid (show Below B w w5 from by rw [← hw5]; exact below_drewN HB.out)
  have HR5 := Lib.hid (show Rd w5 B g c v S N gs gl W L from by rw [← hw5]; exact HR.out.drewN)
  have HX5 := Lib.hid (show Blk w5 w.heap.size 70 (ics q a m d r) from by rw [← hw5]; exact HX.out)
  clear hw5 x0 x1 x2 x3 x4 x5 x6 x7 x8 x9 x10 n10 n11
  have n10 := HR5.out.blk.cell 10 rfl
  obtain ⟨x0, x1, x2, x3, x4, x5, x6, x7, x8, x9, x10⟩ := HX5.out.elev
  go_quiet ((first | (go_at_call 39; exact Calls.quiet_of_same (isEnd_b q.op false _ HE.out)) | (go_at_call 40; exact Calls.quiet_of_same (write_no gs S q.dst _ HI.out))))
  go_wp2
  go_ret
  exact ⟨false, rfl, by rw [HV.out, H1.out, H2.out, decide_eq_false HR0.out, H3.out, HG.out, HA.out, HRS.out, HE.out, HI.out]; simp, (fun h => by cases h), below_drewN HB5.out⟩
set_option maxHeartbeats 1000000 in
theorem st_pT (B g : Nat) (c : CodeM) (v : CodeV) (S N gs gl : Nat) (W L : List Int) (q : InsP) (a m d r : Option Addr × Nat × Nat) (w : World) (hr : Rd w B g c v S N gs gl W L) (hx : InsW w B q a m d r) (h1 : enS q.op a.2.1 = true) (h2 : plK q.op q.k c.ins c.outs v.mems.2.1 v.conts.2.1 c.crosses = true) (h0 : ¬ r.2.1 = 0) (h3 : mayB q.op = true) (hg : gdB S W q.guard = true) (ha : q.args.all (wrB S W) = true) (hrs : q.resets.all (wrB S W) = true) (he : isEnd q.op = false) (hi : inB q.dst S = true) : Calls Try.prog 22 #[.pointer (some ⟨g, 0, none⟩), .agg #[.string q.op, .int .i64 q.dst, .slice a.1 a.2.1 a.2.2, .int .i64 q.k, .int .i64 q.lit.kind, .bool q.lit.neg, .slice m.1 m.2.1 m.2.2, .slice d.1 d.2.1 d.2.2, .string q.lit.name, .int .i64 q.guard, .slice r.1 r.2.1 r.2.2]] w (StPost B g c v S N gs gl W L q w) := by
  obtain ⟨W1, hW1⟩ : ∃ W1, W1 = w.alloc (.cells #[.string q.op, .int .i64 q.dst, .slice a.1 a.2.1 a.2.2, .int .i64 q.k, .int .i64 q.lit.kind, .bool q.lit.neg, .slice m.1 m.2.1 m.2.2, .slice d.1 d.2.1 d.2.2, .string q.lit.name, .int .i64 q.guard, .slice r.1 r.2.1 r.2.2] 70) := ⟨_, rfl⟩
  have hb1 : Below w.heap.size w W1 := by rw [hW1]; exact (Below.refl _ _).alloc (Nat.le_refl _) _
  have HX := Lib.hid (show Blk W1 w.heap.size 70 (ics q a m d r) from by rw [hW1]; exact Blk.new _ _ _)
  have HR := Lib.hid (hr.later hb1)
  have HB := Lib.hid (hb1.mono hr.hB)
  have HW := Lib.hid (hx.keep HB.out)
  have HV := Lib.hid (st_eq hr hx)
  have HGW : Hid (gs < w.heap.size) := Lib.hid hr.ms.lt
  have hma := hx.args.len_le
  have hmr := hx.resets.len_le
  have HMA := Lib.hid hma
  have hq0 : w.heap.size < W1.heap.size := HX.out.lt
  have H1 := Lib.hid h1
  clear h1
  have H2 := Lib.hid h2
  clear h2
  have H3 := Lib.hid h3
  clear h3
  have hr0 : 0 < r.2.1 := by omega
  have HR0 := Lib.hid h0
  have HG := Lib.hid hg
  clear hg
  have HA := Lib.hid ha
  clear ha
  have HRS := Lib.hid hrs
  clear hrs
  have HE := Lib.hid he
  clear he
  obtain ⟨j, hj, hjS⟩ := inB_yes hi
  have HI := Lib.hid hi
  have HJ := Lib.hid hj
  clear hi hj
  unfold maxLen at hma hmr
  obtain ⟨x0, x1, x2, x3, x4, x5, x6, x7, x8, x9, x10⟩ := HX.out.elev
  obtain ⟨n0, n1, n2, n3, n4, n5, n6, n7, n8, n9, n10, n11⟩ := HR.out.cells
  clear n0 n1 n2 n3 n4 n5 n6 n7 n8 n9 hb1 hr hx
  go_enter Try.func22, Try.ntmps22
  go_upto_region 1 with fail
  rw [← hW1]
  clear hW1
  go_upto_region 3 with (first | (go_at_call 34; (with_reducible refine (hasEnough_b q a m d r true _ HMA.out H1.out).mono ?_); rintro e w2 ⟨rfl, hb2⟩; have HX := Lib.hid (HX.out.later hb2); have HW := Lib.hid (HW.out.keep (hb2.mono HR.out.hB)); have HB := Lib.hid (HB.out.trans (hb2.mono HR.out.hB)); have HR := Lib.hid (HR.out.later hb2); clear hb2 x0 x1 x2 x3 x4 x5 x6 x7 x8 x9 x10 n10 n11 hq0; obtain ⟨x0, x1, x2, x3, x4, x5, x6, x7, x8, x9, x10⟩ := HX.out.elev; obtain ⟨n0, n1, n2, n3, n4, n5, n6, n7, n8, n9, n10, n11⟩ := HR.out.cells; clear n0 n1 n2 n3 n4 n5 n6 n7 n8 n9; have hq0 := HX.out.lt) | (go_at_call 35; (with_reducible refine (hasPlace_b c v B g S N gs gl W L q a m d r true _ HR.out H2.out).mono ?_); rintro e w3 ⟨rfl, hb3⟩; have HX := Lib.hid (HX.out.later hb3); have HW := Lib.hid (HW.out.keep (hb3.mono HR.out.hB)); have HB := Lib.hid (HB.out.trans (hb3.mono HR.out.hB)); have HR := Lib.hid (HR.out.later hb3); clear hb3 x0 x1 x2 x3 x4 x5 x6 x7 x8 x9 x10 n10 n11 hq0; obtain ⟨x0, x1, x2, x3, x4, x5, x6, x7, x8, x9, x10⟩ := HX.out.elev; obtain ⟨n0, n1, n2, n3, n4, n5, n6, n7, n8, n9, n10, n11⟩ := HR.out.cells; clear n0 n1 n2 n3 n4 n5 n6 n7 n8 n9; have hq0 := HX.out.lt) | (go_at_call 36; (with_reducible refine (mayB_b q.op true _ H3.out).mono ?_); rintro e w4 ⟨rfl, rfl⟩))
  have HMS := Lib.hid HR.out.ms
  have HSS := Lib.hid HR.out.sS
  have HWA := Lib.hid HW.out.args
  have HWR := Lib.hid HW.out.resets
  go_quiet ((first | (go_at_call 37; exact Calls.quiet_of_same (mayGuard_q gs S W q.guard true _ _ HMS.out HSS.out HG.out)) | (go_at_call 19; with_reducible exact Calls.quiet_of_same (allW_q a.1 a.2.1 a.2.2 B q.args gs S W true _ _ HWA.out HMS.out HSS.out HA.out)) | (go_at_call 19; with_reducible exact Calls.quiet_of_same (allW_q r.1 r.2.1 r.2.2 B q.resets gs S W true _ _ HWR.out HMS.out HSS.out HRS.out))))
  go_upto_region 5 with fail
  generalize hw5 : World.drewN _ _ = w5
  have HB5 := Lib.hid (show Below B w w5 from by rw [← hw5]; exact below_drewN HB.out)
  have HR5 := Lib.hid (show Rd w5 B g c v S N gs gl W L from by rw [← hw5]; exact HR.out.drewN)
  have HX5 := Lib.hid (show Blk w5 w.heap.size 70 (ics q a m d r) from by rw [← hw5]; exact HX.out)
  clear hw5 x0 x1 x2 x3 x4 x5 x6 x7 x8 x9 x10 n10 n11
  have HR6 := Lib.hid HR5.out.drew
  have HX6 := Lib.hid (show Blk w5.drew w.heap.size 70 (ics q a m d r) from HX5.out)
  have HP := Lib.hid (show w5.drew.cell? ⟨g, 10, none⟩ = some (.slice (some ⟨gs, 0, none⟩) S S) ∧ w5.drew.cell? ⟨w.heap.size, 0, none⟩ = some (.string q.op) ∧ w5.drew.cell? ⟨w.heap.size, 1, none⟩ = some (.int .i64 (j : Int)) from ⟨HR6.out.blk.cell 10 rfl, HX6.out.cell 0 rfl, by rw [← HJ.out]; exact HX6.out.cell 1 rfl⟩)
  go_region_held3 (fun w' => w'.cell? ⟨g, 10, none⟩ = some (.slice (some ⟨gs, 0, none⟩) S S) ∧ w'.cell? ⟨w.heap.size, 0, none⟩ = some (.string q.op) ∧ w'.cell? ⟨w.heap.size, 1, none⟩ = some (.int .i64 (j : Int))) (first | with_reducible exact HP.out | exact HPa.out) (first
    | (go_at_call 39; (with_reducible refine (isEnd_b q.op false _ HE.out).mono ?_); rintro e w6 ⟨rfl, rfl⟩)
    | (go_at_call 40; (with_reducible refine (write_yes gs S W j _ HR6.out.ms HSS.out (by rw [← HJ.out]; exact HI.out)).mono ?_); rintro e w7 ⟨rfl, rfl⟩; have HR7 := Lib.hid (HR6.out.putS j); have HPa := Lib.hid (show (w5.drew.setCell ⟨gs, j, none⟩ (.bool true)).cell? ⟨g, 10, none⟩ = some (.slice (some ⟨gs, 0, none⟩) S S) ∧ (w5.drew.setCell ⟨gs, j, none⟩ (.bool true)).cell? ⟨w.heap.size, 0, none⟩ = some (.string q.op) ∧ (w5.drew.setCell ⟨gs, j, none⟩ (.bool true)).cell? ⟨w.heap.size, 1, none⟩ = some (.int .i64 (j : Int)) from ⟨HR7.out.blk.cell 10 rfl, (World.cell?_of_block (Below.heap_setCell _ _ _ w.heap.size (Nat.ne_of_gt HGW.out))).trans HP.out.2.1, (World.cell?_of_block (Below.heap_setCell _ _ _ w.heap.size (Nat.ne_of_gt HGW.out))).trans HP.out.2.2⟩)))
  go_wp2
  go_ret
  exact ⟨true, rfl, by rw [HV.out, H1.out, H2.out, decide_eq_false HR0.out, H3.out, HG.out, HA.out, HRS.out, HE.out, HI.out]; simp, fun _ => by unfold wNext; rw [if_neg (by rw [HE.out]; simp), HJ.out]; exact HR6.out.putS j, HB5.out.drew.setCell HR5.out.hs _⟩
theorem step_t (B g : Nat) (c : CodeM) (v : CodeV) (S N gs gl : Nat) (W L : List Int) (q : InsP) (a m d r : Option Addr × Nat × Nat) (w : World) (hr : Rd w B g c v S N gs gl W L) (hx : InsW w B q a m d r) : Calls Try.prog 22 #[.pointer (some ⟨g, 0, none⟩), .agg #[.string q.op, .int .i64 q.dst, .slice a.1 a.2.1 a.2.2, .int .i64 q.k, .int .i64 q.lit.kind, .bool q.lit.neg, .slice m.1 m.2.1 m.2.2, .slice d.1 d.2.1 d.2.2, .string q.lit.name, .int .i64 q.guard, .slice r.1 r.2.1 r.2.2]] w (StPost B g c v S N gs gl W L q w) := by
  cases h1 : enS q.op a.2.1 with
  | false => exact st_1 B g c v S N gs gl W L q a m d r w hr hx h1
  | true =>
  cases h2 : plK q.op q.k c.ins c.outs v.mems.2.1 v.conts.2.1 c.crosses with
  | false => exact st_2 B g c v S N gs gl W L q a m d r w hr hx h1 h2
  | true =>
  by_cases h0 : r.2.1 = 0
  · cases hg : gdB S W q.guard with
    | false => exact st_zG B g c v S N gs gl W L q a m d r w hr hx h1 h2 h0 hg
    | true =>
    cases ha : q.args.all (wrB S W) with
    | false => exact st_zA B g c v S N gs gl W L q a m d r w hr hx h1 h2 h0 hg ha
    | true =>
    cases hrs : q.resets.all (wrB S W) with
    | false => exact st_zR B g c v S N gs gl W L q a m d r w hr hx h1 h2 h0 hg ha hrs
    | true =>
    cases he : isEnd q.op with
    | true => exact st_zE B g c v S N gs gl W L q a m d r w hr hx h1 h2 h0 hg ha hrs he
    | false =>
    cases hi : inB q.dst S with
    | false => exact st_zF B g c v S N gs gl W L q a m d r w hr hx h1 h2 h0 hg ha hrs he hi
    | true => exact st_zT B g c v S N gs gl W L q a m d r w hr hx h1 h2 h0 hg ha hrs he hi
  · cases h3 : mayB q.op with
    | false => exact st_3 B g c v S N gs gl W L q a m d r w hr hx h1 h2 h0 h3
    | true =>
    cases hg : gdB S W q.guard with
    | false => exact st_pG B g c v S N gs gl W L q a m d r w hr hx h1 h2 h0 h3 hg
    | true =>
    cases ha : q.args.all (wrB S W) with
    | false => exact st_pA B g c v S N gs gl W L q a m d r w hr hx h1 h2 h0 h3 hg ha
    | true =>
    cases hrs : q.resets.all (wrB S W) with
    | false => exact st_pR B g c v S N gs gl W L q a m d r w hr hx h1 h2 h0 h3 hg ha hrs
    | true =>
    cases he : isEnd q.op with
    | true => exact st_pE B g c v S N gs gl W L q a m d r w hr hx h1 h2 h0 h3 hg ha hrs he
    | false =>
    cases hi : inB q.dst S with
    | false => exact st_pF B g c v S N gs gl W L q a m d r w hr hx h1 h2 h0 h3 hg ha hrs he hi
    | true => exact st_pT B g c v S N gs gl W L q a m d r w hr hx h1 h2 h0 h3 hg ha hrs he hi

end Go.Proofs.Ytpcpbpinhdbjiaa

namespace Go.Proofs.Ytpcpbpinhdbjiaa
set_option linter.unusedVariables false
set_option linter.unusedSimpArgs false
set_option maxRecDepth 100000
open Go.RowKit

theorem twoB_odd (S : Int) (W : List Int) : ∀ (l : List Int), l.length % 2 = 1 → twoB S W l = false
  | [], h => by simp at h
  | [a], _ => rfl
  | a :: b :: l, h => by
    unfold twoB
    rw [twoB_odd S W l (by simp only [List.length_cons] at h; omega), Bool.and_false]
theorem drop_two {l : List Int} {k : Nat} (h : k + 1 < l.length) : l.drop k = l.getD k 0 :: l.getD (k + 1) 0 :: l.drop (k + 2) := by
  rw [List.drop_eq_getElem_cons (show k < l.length by omega), List.drop_eq_getElem_cons (show k + 1 < l.length by omega)]
  simp [show k < l.length by omega, h]
theorem twoB_at {S : Int} {W : List Int} {l : List Int} {k : Nat} (h : k + 1 < l.length) : twoB S W (l.drop k) = (gdB S W (l.getD k 0) && wrB S W (l.getD (k + 1) 0) && twoB S W (l.drop (k + 2))) := by
  rw [drop_two h]
  rfl
set_option maxHeartbeats 1000000 in
theorem ib_G (B g : Nat) (c : CodeM) (v : CodeV) (S N gs gl : Nat) (W L : List Int) (q : InsP) (a m d r : Option Addr × Nat × Nat) (w : World) (hr : Rd w B g c v S N gs gl W L) (hx : InsW w B q a m d r) (hg : gdB S W q.guard = false) : Calls Try.prog 41 #[.pointer (some ⟨g, 0, none⟩), .agg #[.string q.op, .int .i64 q.dst, .slice a.1 a.2.1 a.2.2, .int .i64 q.k, .int .i64 q.lit.kind, .bool q.lit.neg, .slice m.1 m.2.1 m.2.2, .slice d.1 d.2.1 d.2.2, .string q.lit.name, .int .i64 q.guard, .slice r.1 r.2.1 r.2.2]] w fun e w' => e = .returned (.bool false) ∧ Below w.heap.size w w' := by
  obtain ⟨W1, hW1⟩ : ∃ W1, W1 = w.alloc (.cells #[.string q.op, .int .i64 q.dst, .slice a.1 a.2.1 a.2.2, .int .i64 q.k, .int .i64 q.lit.kind, .bool q.lit.neg, .slice m.1 m.2.1 m.2.2, .slice d.1 d.2.1 d.2.2, .string q.lit.name, .int .i64 q.guard, .slice r.1 r.2.1 r.2.2] 70) := ⟨_, rfl⟩
  have hb1 : Below w.heap.size w W1 := by rw [hW1]; exact (Below.refl _ _).alloc (Nat.le_refl _) _
  have HX := Lib.hid (show Blk W1 w.heap.size 70 (ics q a m d r) from by rw [hW1]; exact Blk.new _ _ _)
  have HR := Lib.hid (hr.later hb1)
  have HB := Lib.hid (hb1.mono hr.hB)
  have HW := Lib.hid (hx.keep HB.out)
  have HV := Lib.hid (st_eq hr hx)
  have HGW : Hid (gs < w.heap.size) := Lib.hid hr.ms.lt
  have hma := hx.args.len_le
  have hmr := hx.resets.len_le
  have HMA := Lib.hid hma
  have hq0 : w.heap.size < W1.heap.size := HX.out.lt
  have HG := Lib.hid hg
  clear hg
  unfold maxLen at hma hmr
  obtain ⟨x0, x1, x2, x3, x4, x5, x6, x7, x8, x9, x10⟩ := HX.out.elev
  obtain ⟨n0, n1, n2, n3, n4, n5, n6, n7, n8, n9, n10, n11⟩ := HR.out.cells
  have HMS := Lib.hid HR.out.ms
  have HSS := Lib.hid HR.out.sS
  have HB1 := Lib.hid hb1
  clear n0 n1 n2 n3 n4 n5 n6 n7 n8 n9 hb1 hr hx
  go_enter Try.func41, Try.ntmps41
  go_upto_region 1 with fail
  rw [← hW1]
  clear hW1
  go_quiet ((go_at_call 37; exact Calls.quiet_of_same (mayGuard_q gs S W q.guard false _ _ HMS.out HSS.out HG.out)))
  go_wp2
  go_ret
  exact ⟨rfl, by first | exact HB1.out | exact below_drewN HB1.out⟩
set_option maxHeartbeats 1000000 in
theorem ib_z (B g : Nat) (c : CodeM) (v : CodeV) (S N gs gl : Nat) (W L : List Int) (q : InsP) (a m d r : Option Addr × Nat × Nat) (w : World) (hr : Rd w B g c v S N gs gl W L) (hx : InsW w B q a m d r) (hg : gdB S W q.guard = true) (h0 : r.2.1 = 0) : Calls Try.prog 41 #[.pointer (some ⟨g, 0, none⟩), .agg #[.string q.op, .int .i64 q.dst, .slice a.1 a.2.1 a.2.2, .int .i64 q.k, .int .i64 q.lit.kind, .bool q.lit.neg, .slice m.1 m.2.1 m.2.2, .slice d.1 d.2.1 d.2.2, .string q.lit.name, .int .i64 q.guard, .slice r.1 r.2.1 r.2.2]] w fun e w' => e = .returned (.bool true) ∧ Below w.heap.size w w' := by
  obtain ⟨r1, rn, rc⟩ := r
  obtain rfl : rn = 0 := h0
  have HR0 : Hid ((r1, 0, rc).2.1 = (0 : Nat)) := Lib.hid rfl
  obtain ⟨W1, hW1⟩ : ∃ W1, W1 = w.alloc (.cells #[.string q.op, .int .i64 q.dst, .slice a.1 a.2.1 a.2.2, .int .i64 q.k, .int .i64 q.lit.kind, .bool q.lit.neg, .slice m.1 m.2.1 m.2.2, .slice d.1 d.2.1 d.2.2, .string q.lit.name, .int .i64 q.guard, .slice r1 0 rc] 70) := ⟨_, rfl⟩
  have hb1 : Below w.heap.size w W1 := by rw [hW1]; exact (Below.refl _ _).alloc (Nat.le_refl _) _
  have HX := Lib.hid (show Blk W1 w.heap.size 70 (ics q a m d (r1, 0, rc)) from by rw [hW1]; exact Blk.new _ _ _)
  have HR := Lib.hid (hr.later hb1)
  have HB := Lib.hid (hb1.mono hr.hB)
  have HW := Lib.hid (hx.keep HB.out)
  have HV := Lib.hid (st_eq hr hx)
  have HGW : Hid (gs < w.heap.size) := Lib.hid hr.ms.lt
  have hma := hx.args.len_le
  have hmr := hx.resets.len_le
  have HMA := Lib.hid hma
  have hq0 : w.heap.size < W1.heap.size := HX.out.lt
  have HG := Lib.hid hg
  clear hg
  unfold maxLen at hma hmr
  obtain ⟨x0, x1, x2, x3, x4, x5, x6, x7, x8, x9, x10⟩ := HX.out.elev
  obtain ⟨n0, n1, n2, n3, n4, n5, n6, n7, n8, n9, n10, n11⟩ := HR.out.cells
  have HMS := Lib.hid HR.out.ms
  have HSS := Lib.hid HR.out.sS
  have HB1 := Lib.hid hb1
  clear n0 n1 n2 n3 n4 n5 n6 n7 n8 n9 hb1 hr hx
  go_enter Try.func41, Try.ntmps41
  go_upto_region 1 with fail
  rw [← hW1]
  clear hW1
  go_quiet ((go_at_call 37; exact Calls.quiet_of_same (mayGuard_q gs S W q.guard true _ _ HMS.out HSS.out HG.out)))
  go_wp2
  go_ret
  exact ⟨rfl, by first | exact HB1.out | exact below_drewN HB1.out⟩
set_option maxHeartbeats 1000000 in
theorem ib_p (B g : Nat) (c : CodeM) (v : CodeV) (S N gs gl : Nat) (W L : List Int) (q : InsP) (a m d r : Option Addr × Nat × Nat) (w : World) (hr : Rd w B g c v S N gs gl W L) (hx : InsW w B q a m d r) (hg : gdB S W q.guard = true) (h0 : ¬ r.2.1 = 0) : Calls Try.prog 41 #[.pointer (some ⟨g, 0, none⟩), .agg #[.string q.op, .int .i64 q.dst, .slice a.1 a.2.1 a.2.2, .int .i64 q.k, .int .i64 q.lit.kind, .bool q.lit.neg, .slice m.1 m.2.1 m.2.2, .slice d.1 d.2.1 d.2.2, .string q.lit.name, .int .i64 q.guard, .slice r.1 r.2.1 r.2.2]] w fun e w' => e = .returned (.bool false) ∧ Below w.heap.size w w' := by
  obtain ⟨W1, hW1⟩ : ∃ W1, W1 = w.alloc (.cells #[.string q.op, .int .i64 q.dst, .slice a.1 a.2.1 a.2.2, .int .i64 q.k, .int .i64 q.lit.kind, .bool q.lit.neg, .slice m.1 m.2.1 m.2.2, .slice d.1 d.2.1 d.2.2, .string q.lit.name, .int .i64 q.guard, .slice r.1 r.2.1 r.2.2] 70) := ⟨_, rfl⟩
  have hb1 : Below w.heap.size w W1 := by rw [hW1]; exact (Below.refl _ _).alloc (Nat.le_refl _) _
  have HX := Lib.hid (show Blk W1 w.heap.size 70 (ics q a m d r) from by rw [hW1]; exact Blk.new _ _ _)
  have HR := Lib.hid (hr.later hb1)
  have HB := Lib.hid (hb1.mono hr.hB)
  have HW := Lib.hid (hx.keep HB.out)
  have HV := Lib.hid (st_eq hr hx)
  have HGW : Hid (gs < w.heap.size) := Lib.hid hr.ms.lt
  have hma := hx.args.len_le
  have hmr := hx.resets.len_le
  have HMA := Lib.hid hma
  have hq0 : w.heap.size < W1.heap.size := HX.out.lt
  have HG := Lib.hid hg
  clear hg
  have hr0 : 0 < r.2.1 := by omega
  have hr1 : ((r.2.1 : Int) == 0) = false := by rw [beq_eq_false_iff_ne]; omega
  unfold maxLen at hma hmr
  obtain ⟨x0, x1, x2, x3, x4, x5, x6, x7, x8, x9, x10⟩ := HX.out.elev
  obtain ⟨n0, n1, n2, n3, n4, n5, n6, n7, n8, n9, n10, n11⟩ := HR.out.cells
  have HMS := Lib.hid HR.out.ms
  have HSS := Lib.hid HR.out.sS
  have HB1 := Lib.hid hb1
  clear n0 n1 n2 n3 n4 n5 n6 n7 n8 n9 hb1 hr hx
  go_enter Try.func41, Try.ntmps41
  go_upto_region 1 with fail
  rw [← hW1]
  clear hW1
  go_quiet ((go_at_call 37; exact Calls.quiet_of_same (mayGuard_q gs S W q.guard true _ _ HMS.out HSS.out HG.out)))
  go_wp2
  go_ret
  exact ⟨rfl, by first | exact HB1.out | exact below_drewN HB1.out⟩
theorem isBetween_b (b : Bool) (B g : Nat) (c : CodeM) (v : CodeV) (S N gs gl : Nat) (W L : List Int) (q : InsP) (a m d r : Option Addr × Nat × Nat) (w : World) (hr : Rd w B g c v S N gs gl W L) (hx : InsW w B q a m d r) (h : (gdB S W q.guard && decide (r.2.1 = 0)) = b) : Calls Try.prog 41 #[.pointer (some ⟨g, 0, none⟩), .agg #[.string q.op, .int .i64 q.dst, .slice a.1 a.2.1 a.2.2, .int .i64 q.k, .int .i64 q.lit.kind, .bool q.lit.neg, .slice m.1 m.2.1 m.2.2, .slice d.1 d.2.1 d.2.2, .string q.lit.name, .int .i64 q.guard, .slice r.1 r.2.1 r.2.2]] w fun e w' => e = .returned (.bool b) ∧ Below w.heap.size w w' := by
  subst h
  cases hg : gdB S W q.guard with
  | false => exact ib_G B g c v S N gs gl W L q a m d r w hr hx hg
  | true =>
    by_cases h0 : r.2.1 = 0
    · rw [decide_eq_true h0]; exact ib_z B g c v S N gs gl W L q a m d r w hr hx hg h0
    · rw [decide_eq_false h0]; exact ib_p B g c v S N gs gl W L q a m d r w hr hx hg h0
/-- what deriv tells -/
def DrPost (B : Nat) (c : CodeM) (W : List Int) (q : InsP) (w : World) (e : Ending) (w' : World) : Prop := e = .returned (.bool (drB c W q)) ∧ Below w.heap.size w w'
theorem dr_eq {w : World} {B g : Nat} {c : CodeM} {v : CodeV} {S N gs gl : Nat} {W L : List Int} {q : InsP} {a m d r : Option Addr × Nat × Nat} (hr : Rd w B g c v S N gs gl W L) (hx : InsW w B q a m d r) :
    drB c W q = (decide (q.op = opSlope) && inB q.k v.conts.2.1 && (gdB S W q.guard && decide (r.2.1 = 0)) && twoB S W q.args) := by
  unfold drB
  rw [hx.resets.1, hr.is.conts.1, hr.slots]
set_option maxHeartbeats 1000000 in
theorem dr_1 (B g : Nat) (c : CodeM) (v : CodeV) (S N gs gl : Nat) (W L : List Int) (q : InsP) (a m d r : Option Addr × Nat × Nat) (w : World) (hr : Rd w B g c v S N gs gl W L) (hx : InsW w B q a m d r) (h1 : ¬ q.op = opSlope) : Calls Try.prog 23 #[.pointer (some ⟨g, 0, none⟩), .agg #[.string q.op, .int .i64 q.dst, .slice a.1 a.2.1 a.2.2, .int .i64 q.k, .int .i64 q.lit.kind, .bool q.lit.neg, .slice m.1 m.2.1 m.2.2, .slice d.1 d.2.1 d.2.2, .string q.lit.name, .int .i64 q.guard, .slice r.1 r.2.1 r.2.2]] w (DrPost B c W q w) := by
  obtain ⟨W1, hW1⟩ : ∃ W1, W1 = w.alloc (.cells #[.string q.op, .int .i64 q.dst, .slice a.1 a.2.1 a.2.2, .int .i64 q.k, .int .i64 q.lit.kind, .bool q.lit.neg, .slice m.1 m.2.1 m.2.2, .slice d.1 d.2.1 d.2.2, .string q.lit.name, .int .i64 q.guard, .slice r.1 r.2.1 r.2.2] 70) := ⟨_, rfl⟩
  have hb1 : Below w.heap.size w W1 := by rw [hW1]; exact (Below.refl _ _).alloc (Nat.le_refl _) _
  have HX := Lib.hid (show Blk W1 w.heap.size 70 (ics q a m d r) from by rw [hW1]; exact Blk.new _ _ _)
  have HR := Lib.hid (hr.later hb1)
  have HB := Lib.hid (hb1.mono hr.hB)
  have HW := Lib.hid (hx.keep HB.out)
  have HV := Lib.hid (dr_eq hr hx)
  have HGW : Hid (gs < w.heap.size) := Lib.hid hr.ms.lt
  have hma := hx.args.len_le
  have hmr := hx.resets.len_le
  have HMA := Lib.hid hma
  have hq0 : w.heap.size < W1.heap.size := HX.out.lt
  have g1 := str_no (l := [115, 108, 111, 112, 101]) h1
  have g2 : decide (q.op = opSlope) = false := decide_eq_false h1
  have H1 := Lib.hid g2
  clear h1 g2
  unfold maxLen at hma hmr
  obtain ⟨x0, x1, x2, x3, x4, x5, x6, x7, x8, x9, x10⟩ := HX.out.elev
  obtain ⟨n0, n1, n2, n3, n4, n5, n6, n7, n8, n9, n10, n11⟩ := HR.out.cells
  have HB1 := Lib.hid hb1
  clear n0 n1 n2 n3 n4 n5 n6 n7 n8 n9 hb1 hr hx
  go_enter Try.func23, Try.ntmps23
  go_upto_region 1 with fail
  rw [← hW1]
  clear hW1
  go_wp2_with fail
  go_ret
  exact ⟨by rw [HV.out, H1.out, Bool.false_and, Bool.false_and, Bool.false_and]; rfl, HB1.out⟩
set_option maxHeartbeats 1000000 in
theorem dr_2 (B g : Nat) (c : CodeM) (v : CodeV) (S N gs gl : Nat) (W L : List Int) (q : InsP) (a m d r : Option Addr × Nat × Nat) (w : World) (hr : Rd w B g c v S N gs gl W L) (hx : InsW w B q a m d r) (h1 : q.op = opSlope) (ho : a.2.1 % 2 = 1) : Calls Try.prog 23 #[.pointer (some ⟨g, 0, none⟩), .agg #[.string q.op, .int .i64 q.dst, .slice a.1 a.2.1 a.2.2, .int .i64 q.k, .int .i64 q.lit.kind, .bool q.lit.neg, .slice m.1 m.2.1 m.2.2, .slice d.1 d.2.1 d.2.2, .string q.lit.name, .int .i64 q.guard, .slice r.1 r.2.1 r.2.2]] w (DrPost B c W q w) := by
  obtain ⟨W1, hW1⟩ : ∃ W1, W1 = w.alloc (.cells #[.string q.op, .int .i64 q.dst, .slice a.1 a.2.1 a.2.2, .int .i64 q.k, .int .i64 q.lit.kind, .bool q.lit.neg, .slice m.1 m.2.1 m.2.2, .slice d.1 d.2.1 d.2.2, .string q.lit.name, .int .i64 q.guard, .slice r.1 r.2.1 r.2.2] 70) := ⟨_, rfl⟩
  have hb1 : Below w.heap.size w W1 := by rw [hW1]; exact (Below.refl _ _).alloc (Nat.le_refl _) _
  have HX := Lib.hid (show Blk W1 w.heap.size 70 (ics q a m d r) from by rw [hW1]; exact Blk.new _ _ _)
  have HR := Lib.hid (hr.later hb1)
  have HB := Lib.hid (hb1.mono hr.hB)
  have HW := Lib.hid (hx.keep HB.out)
  have HV := Lib.hid (dr_eq hr hx)
  have HGW : Hid (gs < w.heap.size) := Lib.hid hr.ms.lt
  have hma := hx.args.len_le
  have hmr := hx.resets.len_le
  have HMA := Lib.hid hma
  have hq0 : w.heap.size < W1.heap.size := HX.out.lt
  have g1 : (q.op.toList == [115, 108, 111, 112, 101]) = true := by rw [h1, Lib.toList_data]; rfl
  have H1 : Hid (decide (q.op = opSlope) = true) := Lib.hid (decide_eq_true h1)
  have HOP := Lib.hid h1
  clear h1
  have ho2 : (a.2.1 : Int) % 2 = 1 := by omega
  have HT : Hid (twoB S W q.args = false) := Lib.hid (twoB_odd S W q.args (by rw [hx.args.1]; omega))
  unfold maxLen at hma hmr
  obtain ⟨x0, x1, x2, x3, x4, x5, x6, x7, x8, x9, x10⟩ := HX.out.elev
  obtain ⟨n0, n1, n2, n3, n4, n5, n6, n7, n8, n9, n10, n11⟩ := HR.out.cells
  have HB1 := Lib.hid hb1
  clear n0 n1 n2 n3 n4 n5 n6 n7 n8 n9 hb1 hr hx
  go_enter Try.func23, Try.ntmps23
  go_upto_region 1 with fail
  rw [← hW1]
  clear hW1
  go_wp2_with fail
  go_ret
  exact ⟨by rw [HV.out, HT.out, Bool.and_false]; rfl, HB1.out⟩
set_option maxHeartbeats 1000000 in
theorem dr_3 (B g : Nat) (c : CodeM) (v : CodeV) (S N gs gl : Nat) (W L : List Int) (q : InsP) (a m d r : Option Addr × Nat × Nat) (w : World) (hr : Rd w B g c v S N gs gl W L) (hx : InsW w B q a m d r) (h1 : q.op = opSlope) (ho : a.2.1 % 2 = 0) (h2 : plK q.op q.k c.ins c.outs v.mems.2.1 v.conts.2.1 c.crosses = false) : Calls Try.prog 23 #[.pointer (some ⟨g, 0, none⟩), .agg #[.string q.op, .int .i64 q.dst, .slice a.1 a.2.1 a.2.2, .int .i64 q.k, .int .i64 q.lit.kind, .bool q.lit.neg, .slice m.1 m.2.1 m.2.2, .slice d.1 d.2.1 d.2.2, .string q.lit.name, .int .i64 q.guard, .slice r.1 r.2.1 r.2.2]] w (DrPost B c W q w) := by
  obtain ⟨W1, hW1⟩ : ∃ W1, W1 = w.alloc (.cells #[.string q.op, .int .i64 q.dst, .slice a.1 a.2.1 a.2.2, .int .i64 q.k, .int .i64 q.lit.kind, .bool q.lit.neg, .slice m.1 m.2.1 m.2.2, .slice d.1 d.2.1 d.2.2, .string q.lit.name, .int .i64 q.guard, .slice r.1 r.2.1 r.2.2] 70) := ⟨_, rfl⟩
  have hb1 : Below w.heap.size w W1 := by rw [hW1]; exact (Below.refl _ _).alloc (Nat.le_refl _) _
  have HX := Lib.hid (show Blk W1 w.heap.size 70 (ics q a m d r) from by rw [hW1]; exact Blk.new _ _ _)
  have HR := Lib.hid (hr.later hb1)
  have HB := Lib.hid (hb1.mono hr.hB)
  have HW := Lib.hid (hx.keep HB.out)
  have HV := Lib.hid (dr_eq hr hx)
  have HGW : Hid (gs < w.heap.size) := Lib.hid hr.ms.lt
  have hma := hx.args.len_le
  have hmr := hx.resets.len_le
  have HMA := Lib.hid hma
  have hq0 : w.heap.size < W1.heap.size := HX.out.lt
  have g1 : (q.op.toList == [115, 108, 111, 112, 101]) = true := by rw [h1, Lib.toList_data]; rfl
  have HPK : Hid (inB q.k v.conts.2.1 = false) := Lib.hid (by rw [← h2, h1]; rfl)
  have H1 : Hid (decide (q.op = opSlope) = true) := Lib.hid (decide_eq_true h1)
  have HOP := Lib.hid h1
  clear h1
  have he2 : (a.2.1 : Int) % 2 = 0 := by omega
  have H2 := Lib.hid h2
  clear h2
  unfold maxLen at hma hmr
  obtain ⟨x0, x1, x2, x3, x4, x5, x6, x7, x8, x9, x10⟩ := HX.out.elev
  obtain ⟨n0, n1, n2, n3, n4, n5, n6, n7, n8, n9, n10, n11⟩ := HR.out.cells
  have HB1 := Lib.hid hb1
  clear n0 n1 n2 n3 n4 n5 n6 n7 n8 n9 hb1 hr hx
  go_enter Try.func23, Try.ntmps23
  go_upto_region 1 with fail
  rw [← hW1]
  clear hW1
  go_wp2_with (go_at_call 35; (with_reducible refine (hasPlace_b c v B g S N gs gl W L q a m d r false _ HR.out H2.out).mono ?_); rintro e w3 ⟨rfl, hb3⟩; have HB1 := Lib.hid (HB1.out.trans (hb3.mono HB1.out.size)); have HX := Lib.hid (HX.out.later hb3); have HW := Lib.hid (HW.out.keep (hb3.mono HR.out.hB)); have HB := Lib.hid (HB.out.trans (hb3.mono HR.out.hB)); have HR := Lib.hid (HR.out.later hb3); clear hb3 x0 x1 x2 x3 x4 x5 x6 x7 x8 x9 x10 n10 n11 hq0; obtain ⟨x0, x1, x2, x3, x4, x5, x6, x7, x8, x9, x10⟩ := HX.out.elev; obtain ⟨n0, n1, n2, n3, n4, n5, n6, n7, n8, n9, n10, n11⟩ := HR.out.cells; clear n0 n1 n2 n3 n4 n5 n6 n7 n8 n9; have hq0 := HX.out.lt)
  go_ret
  exact ⟨by rw [HV.out, HPK.out, Bool.and_false, Bool.false_and, Bool.false_and]; rfl, HB1.out⟩
set_option maxHeartbeats 1000000 in
theorem dr_4 (B g : Nat) (c : CodeM) (v : CodeV) (S N gs gl : Nat) (W L : List Int) (q : InsP) (a m d r : Option Addr × Nat × Nat) (w : World) (hr : Rd w B g c v S N gs gl W L) (hx : InsW w B q a m d r) (h1 : q.op = opSlope) (ho : a.2.1 % 2 = 0) (h2 : plK q.op q.k c.ins c.outs v.mems.2.1 v.conts.2.1 c.crosses = true) (h3 : (gdB S W q.guard && decide (r.2.1 = 0)) = false) : Calls Try.prog 23 #[.pointer (some ⟨g, 0, none⟩), .agg #[.string q.op, .int .i64 q.dst, .slice a.1 a.2.1 a.2.2, .int .i64 q.k, .int .i64 q.lit.kind, .bool q.lit.neg, .slice m.1 m.2.1 m.2.2, .slice d.1 d.2.1 d.2.2, .string q.lit.name, .int .i64 q.guard, .slice r.1 r.2.1 r.2.2]] w (DrPost B c W q w) := by
  obtain ⟨W1, hW1⟩ : ∃ W1, W1 = w.alloc (.cells #[.string q.op, .int .i64 q.dst, .slice a.1 a.2.1 a.2.2, .int .i64 q.k, .int .i64 q.lit.kind, .bool q.lit.neg, .slice m.1 m.2.1 m.2.2, .slice d.1 d.2.1 d.2.2, .string q.lit.name, .int .i64 q.guard, .slice r.1 r.2.1 r.2.2] 70) := ⟨_, rfl⟩
  have hb1 : Below w.heap.size w W1 := by rw [hW1]; exact (Below.refl _ _).alloc (Nat.le_refl _) _
  have HX := Lib.hid (show Blk W1 w.heap.size 70 (ics q a m d r) from by rw [hW1]; exact Blk.new _ _ _)
  have HR := Lib.hid (hr.later hb1)
  have HB := Lib.hid (hb1.mono hr.hB)
  have HW := Lib.hid (hx.keep HB.out)
  have HV := Lib.hid (dr_eq hr hx)
  have HGW : Hid (gs < w.heap.size) := Lib.hid hr.ms.lt
  have hma := hx.args.len_le
  have hmr := hx.resets.len_le
  have HMA := Lib.hid hma
  have hq0 : w.heap.size < W1.heap.size := HX.out.lt
  have g1 : (q.op.toList == [115, 108, 111, 112, 101]) = true := by rw [h1, Lib.toList_data]; rfl
  have HPK : Hid (inB q.k v.conts.2.1 = true) := Lib.hid (by rw [← h2, h1]; rfl)
  have H1 : Hid (decide (q.op = opSlope) = true) := Lib.hid (decide_eq_true h1)
  have HOP := Lib.hid h1
  clear h1
  have he2 : (a.2.1 : Int) % 2 = 0 := by omega
  have H2 := Lib.hid h2
  clear h2
  have H3 := Lib.hid h3
  clear h3
  unfold maxLen at hma hmr
  obtain ⟨x0, x1, x2, x3, x4, x5, x6, x7, x8, x9, x10⟩ := HX.out.elev
  obtain ⟨n0, n1, n2, n3, n4, n5, n6, n7, n8, n9, n10, n11⟩ := HR.out.cells
  have HB1 := Lib.hid hb1
  clear n0 n1 n2 n3 n4 n5 n6 n7 n8 n9 hb1 hr hx
  go_enter Try.func23, Try.ntmps23
  go_upto_region 1 with fail
  rw [← hW1]
  clear hW1
  go_wp2_with (first | (go_at_call 35; (with_reducible refine (hasPlace_b c v B g S N gs gl W L q a m d r true _ HR.out H2.out).mono ?_); rintro e w3 ⟨rfl, hb3⟩; have HB1 := Lib.hid (HB1.out.trans (hb3.mono HB1.out.size)); have HX := Lib.hid (HX.out.later hb3); have HW := Lib.hid (HW.out.keep (hb3.mono HR.out.hB)); have HB := Lib.hid (HB.out.trans (hb3.mono HR.out.hB)); have HR := Lib.hid (HR.out.later hb3); clear hb3 x0 x1 x2 x3 x4 x5 x6 x7 x8 x9 x10 n10 n11 hq0; obtain ⟨x0, x1, x2, x3, x4, x5, x6, x7, x8, x9, x10⟩ := HX.out.elev; obtain ⟨n0, n1, n2, n3, n4, n5, n6, n7, n8, n9, n10, n11⟩ := HR.out.cells; clear n0 n1 n2 n3 n4 n5 n6 n7 n8 n9; have hq0 := HX.out.lt) | (go_at_call 41; (with_reducible refine (isBetween_b false B g c v S N gs gl W L q a m d r _ HR.out HW.out H3.out).mono ?_); rintro e w4 ⟨rfl, hb4⟩; have HB1 := Lib.hid (HB1.out.trans (hb4.mono HB1.out.size)); have HX := Lib.hid (HX.out.later hb4); have HW := Lib.hid (HW.out.keep (hb4.mono HR.out.hB)); have HB := Lib.hid (HB.out.trans (hb4.mono HR.out.hB)); have HR := Lib.hid (HR.out.later hb4); clear hb4 x0 x1 x2 x3 x4 x5 x6 x7 x8 x9 x10 n10 n11 hq0; obtain ⟨x0, x1, x2, x3, x4, x5, x6, x7, x8, x9, x10⟩ := HX.out.elev; obtain ⟨n0, n1, n2, n3, n4, n5, n6, n7, n8, n9, n10, n11⟩ := HR.out.cells; clear n0 n1 n2 n3 n4 n5 n6 n7 n8 n9; have hq0 := HX.out.lt))
  go_ret
  exact ⟨by rw [HV.out, H3.out, Bool.and_false, Bool.false_and]; rfl, HB1.out⟩
set_option maxHeartbeats 1000000 in
theorem dr_5 (B g : Nat) (c : CodeM) (v : CodeV) (S N gs gl : Nat) (W L : List Int) (q : InsP) (a m d r : Option Addr × Nat × Nat) (w : World) (hr : Rd w B g c v S N gs gl W L) (hx : InsW w B q a m d r) (h1 : q.op = opSlope) (ho : a.2.1 % 2 = 0) (h2 : plK q.op q.k c.ins c.outs v.mems.2.1 v.conts.2.1 c.crosses = true) (h3 : (gdB S W q.guard && decide (r.2.1 = 0)) = true) : Calls Try.prog 23 #[.pointer (some ⟨g, 0, none⟩), .agg #[.string q.op, .int .i64 q.dst, .slice a.1 a.2.1 a.2.2, .int .i64 q.k, .int .i64 q.lit.kind, .bool q.lit.neg, .slice m.1 m.2.1 m.2.2, .slice d.1 d.2.1 d.2.2, .string q.lit.name, .int .i64 q.guard, .slice r.1 r.2.1 r.2.2]] w (DrPost B c W q w) := by
  obtain ⟨W1, hW1⟩ : ∃ W1, W1 = w.alloc (.cells #[.string q.op, .int .i64 q.dst, .slice a.1 a.2.1 a.2.2, .int .i64 q.k, .int .i64 q.lit.kind, .bool q.lit.neg, .slice m.1 m.2.1 m.2.2, .slice d.1 d.2.1 d.2.2, .string q.lit.name, .int .i64 q.guard, .slice r.1 r.2.1 r.2.2] 70) := ⟨_, rfl⟩
  have hb1 : Below w.heap.size w W1 := by rw [hW1]; exact (Below.refl _ _).alloc (Nat.le_refl _) _
  have HX := Lib.hid (show Blk W1 w.heap.size 70 (ics q a m d r) from by rw [hW1]; exact Blk.new _ _ _)
  have HR := Lib.hid (hr.later hb1)
  have HB := Lib.hid (hb1.mono hr.hB)
  have HW := Lib.hid (hx.keep HB.out)
  have HV := Lib.hid (dr_eq hr hx)
  have HGW : Hid (gs < w.heap.size) := Lib.hid hr.ms.lt
  have hma := hx.args.len_le
  have hmr := hx.resets.len_le
  have HMA := Lib.hid hma
  have hq0 : w.heap.size < W1.heap.size := HX.out.lt
  have g1 : (q.op.toList == [115, 108, 111, 112, 101]) = true := by rw [h1, Lib.toList_data]; rfl
  have HPK : Hid (inB q.k v.conts.2.1 = true) := Lib.hid (by rw [← h2, h1]; rfl)
  have H1 : Hid (decide (q.op = opSlope) = true) := Lib.hid (decide_eq_true h1)
  have HOP := Lib.hid h1
  clear h1
  have he2 : (a.2.1 : Int) % 2 = 0 := by omega
  have H2 := Lib.hid h2
  clear h2
  have H3 := Lib.hid h3
  clear h3
  unfold maxLen at hma hmr
  obtain ⟨x0, x1, x2, x3, x4, x5, x6, x7, x8, x9, x10⟩ := HX.out.elev
  obtain ⟨n0, n1, n2, n3, n4, n5, n6, n7, n8, n9, n10, n11⟩ := HR.out.cells
  have HB1 := Lib.hid hb1
  clear n0 n1 n2 n3 n4 n5 n6 n7 n8 n9 hb1 hr hx
  go_enter Try.func23, Try.ntmps23
  go_upto_region 1 with fail
  rw [← hW1]
  clear hW1
  go_upto_region 3 with (first | (go_at_call 35; (with_reducible refine (hasPlace_b c v B g S N gs gl W L q a m d r true _ HR.out H2.out).mono ?_); rintro e w3 ⟨rfl, hb3⟩; have HB1 := Lib.hid (HB1.out.trans (hb3.mono HB1.out.size)); have HX := Lib.hid (HX.out.later hb3); have HW := Lib.hid (HW.out.keep (hb3.mono HR.out.hB)); have HB := Lib.hid (HB.out.trans (hb3.mono HR.out.hB)); have HR := Lib.hid (HR.out.later hb3); clear hb3 x0 x1 x2 x3 x4 x5 x6 x7 x8 x9 x10 n10 n11 hq0; obtain ⟨x0, x1, x2, x3, x4, x5, x6, x7, x8, x9, x10⟩ := HX.out.elev; obtain ⟨n0, n1, n2, n3, n4, n5, n6, n7, n8, n9, n10, n11⟩ := HR.out.cells; clear n0 n1 n2 n3 n4 n5 n6 n7 n8 n9; have hq0 := HX.out.lt) | (go_at_call 41; (with_reducible refine (isBetween_b true B g c v S N gs gl W L q a m d r _ HR.out HW.out H3.out).mono ?_); rintro e w4 ⟨rfl, hb4⟩; have HB1 := Lib.hid (HB1.out.trans (hb4.mono HB1.out.size)); have HX := Lib.hid (HX.out.later hb4); have HW := Lib.hid (HW.out.keep (hb4.mono HR.out.hB)); have HB := Lib.hid (HB.out.trans (hb4.mono HR.out.hB)); have HR := Lib.hid (HR.out.later hb4); clear hb4 x0 x1 x2 x3 x4 x5 x6 x7 x8 x9 x10 n10 n11 hq0; obtain ⟨x0, x1, x2, x3, x4, x5, x6, x7, x8, x9, x10⟩ := HX.out.elev; obtain ⟨n0, n1, n2, n3, n4, n5, n6, n7, n8, n9, n10, n11⟩ := HR.out.cells; clear n0 n1 n2 n3 n4 n5 n6 n7 n8 n9; have hq0 := HX.out.lt))
  have HV2 : Hid (drB c W q = twoB S W q.args) := Lib.hid (by rw [HV.out, H1.out, HPK.out, H3.out]; rfl)
  have HMS := Lib.hid HR.out.ms
  have HSS := Lib.hid HR.out.sS
  have HWA := Lib.hid HW.out.args
  go_wp2_with fail
  go_loopw [5] (fun t wr => ∃ k : Nat, k * 2 ≤ a.2.1 ∧ t = .int .i64 ((k * 2 : Nat) : Int) ∧ Hid (twoB S W q.args = twoB S W (q.args.drop (k * 2))) ∧ Hid (Below w4.heap.size w4 wr)) (fun t _ => a.2.1 - (intOf t).toNat)
  case atStart => exact ⟨0, Nat.zero_le _, rfl, Lib.hid rfl, Lib.hid (Below.refl _ _)⟩
  case round =>
    obtain ⟨k, hk, rfl, HK, HBr⟩ := hrel
    obtain ⟨i, hi⟩ : ∃ i : Nat, i = k * 2 := ⟨_, rfl⟩
    have HIK := Lib.hid hi
    rw [← hi] at hk HK ⊢
    have hev : i % 2 = 0 := by omega
    clear hi x0 x1 x2 x3 x4 x5 x6 x7 x8 x9 x10 n10 n11 hq0
    have HXr := Lib.hid (HX.out.later HBr.out)
    have HRr := Lib.hid (HR.out.later HBr.out)
    obtain ⟨x0, x1, x2, x3, x4, x5, x6, x7, x8, x9, x10⟩ := HXr.out.elev
    have n10 := HRr.out.blk.cell 10 rfl
    have hq0 := HXr.out.lt
    by_cases hlt : i < a.2.1
    · have hl1 : i + 1 < a.2.1 := by omega
      have HWr := Lib.hid (HWA.out.below (HBr.out.mono HR.out.hB))
      obtain ⟨b, off, ha, hbl, hc0⟩ := HWr.out.at_ hlt
      obtain ⟨b', off', ha', hbl', hc1⟩ := HWr.out.at_ hl1
      obtain ⟨rfl, rfl⟩ : b = b' ∧ off = off' := by rw [ha] at ha'; injection ha' with ha'; injection ha' with e1 e2; exact ⟨e1, e2⟩
      obtain ⟨G0, hG0⟩ : ∃ G0, G0 = q.args.getD i 0 := ⟨_, rfl⟩
      obtain ⟨V0, hV0⟩ : ∃ V0, V0 = q.args.getD (i + 1) 0 := ⟨_, rfl⟩
      have HTW := Lib.hid (twoB_at (S := (S : Int)) (W := W) (l := q.args) (k := i) (by rw [HWA.out.1]; exact hl1))
      rw [← hG0, ← hV0] at HTW
      rw [← hG0] at hc0
      rw [← hV0] at hc1
      rw [ha] at x2
      have HMr := Lib.hid HRr.out.ms
      have hi63 : i + 2 < 9223372036854775807 := by omega
      clear ha ha' hG0 hV0 hbl'
      cases hg0 : gdB S W G0 with
      | false =>
        have HG0 := Lib.hid hg0
        clear hg0
        go_wp2
        go_quiet ((first | (go_at_call 37; exact Calls.quiet_of_same (mayGuard_q gs S W G0 false _ _ HMr.out HSS.out HG0.out)) | (go_at_call 38; exact Calls.quiet_of_same (written_q gs S W V0 false _ _ HMr.out HSS.out rfl))))
        go_wp2
        go_ret
        exact ⟨by rw [HV2.out, HK.out, HTW.out, HG0.out]; rfl, below_drewN (HB1.out.trans (HBr.out.mono HB1.out.size))⟩
      | true =>
        have HG0 := Lib.hid hg0
        clear hg0
        cases hv0 : wrB S W V0 with
        | false =>
          have HV0 := Lib.hid hv0
          clear hv0
          go_wp2
          go_quiet ((first | (go_at_call 37; exact Calls.quiet_of_same (mayGuard_q gs S W G0 true _ _ HMr.out HSS.out HG0.out)) | (go_at_call 38; exact Calls.quiet_of_same (written_q gs S W V0 false _ _ HMr.out HSS.out HV0.out))))
          go_wp2
          go_ret
          exact ⟨by rw [HV2.out, HK.out, HTW.out, HG0.out, HV0.out]; rfl, below_drewN (HB1.out.trans (HBr.out.mono HB1.out.size))⟩
        | true =>
          have HV0 := Lib.hid hv0
          clear hv0
          go_wp2
          go_quiet ((first | (go_at_call 37; exact Calls.quiet_of_same (mayGuard_q gs S W G0 true _ _ HMr.out HSS.out HG0.out)) | (go_at_call 38; exact Calls.quiet_of_same (written_q gs S W V0 true _ _ HMr.out HSS.out HV0.out))))
          go_wp2
          go_roundw
          case rel => exact ⟨k + 1, by have := HIK.out; omega, by rw [show (k + 1) * 2 = i + 2 by have := HIK.out; omega]; go_num, Lib.hid (by rw [HK.out, HTW.out, HG0.out, HV0.out, show (k + 1) * 2 = i + 2 by have := HIK.out; omega]; rfl), Lib.hid (below_drewN HBr.out)⟩
          case measure => simp [intOf]; omega
    · obtain rfl : i = a.2.1 := by omega
      go_wp2
      go_ret
      exact ⟨by rw [HV2.out, HK.out, ← HWA.out.1, List.drop_length]; rfl, HB1.out.trans (HBr.out.mono HB1.out.size)⟩
theorem deriv_t (B g : Nat) (c : CodeM) (v : CodeV) (S N gs gl : Nat) (W L : List Int) (q : InsP) (a m d r : Option Addr × Nat × Nat) (w : World) (hr : Rd w B g c v S N gs gl W L) (hx : InsW w B q a m d r) : Calls Try.prog 23 #[.pointer (some ⟨g, 0, none⟩), .agg #[.string q.op, .int .i64 q.dst, .slice a.1 a.2.1 a.2.2, .int .i64 q.k, .int .i64 q.lit.kind, .bool q.lit.neg, .slice m.1 m.2.1 m.2.2, .slice d.1 d.2.1 d.2.2, .string q.lit.name, .int .i64 q.guard, .slice r.1 r.2.1 r.2.2]] w (DrPost B c W q w) := by
  by_cases h1 : q.op = opSlope
  · by_cases ho : a.2.1 % 2 = 1
    · exact dr_2 B g c v S N gs gl W L q a m d r w hr hx h1 ho
    · have ho : a.2.1 % 2 = 0 := by omega
      cases h2 : plK q.op q.k c.ins c.outs v.mems.2.1 v.conts.2.1 c.crosses with
      | false => exact dr_3 B g c v S N gs gl W L q a m d r w hr hx h1 ho h2
      | true =>
      cases h3 : (gdB S W q.guard && decide (r.2.1 = 0)) with
      | false => exact dr_4 B g c v S N gs gl W L q a m d r w hr hx h1 ho h2 h3
      | true => exact dr_5 B g c v S N gs gl W L q a m d r w hr hx h1 ho h2 h3
  · exact dr_1 B g c v S N gs gl W L q a m d r w hr hx h1

end Go.Proofs.Ytpcpbpinhdbjiaa
