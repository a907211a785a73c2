/- What hasPlace and operands of package safe tell. No condition but bounds. -/
import Derived.Test.YtcljmfhelgkfaaaSfC
import Derived.Deep.RegionWith
import Derived.OwnWalk
namespace Go.Proofs.Ytcljmfhelgkfaaa
set_option linter.unusedVariables false
set_option linter.unusedSimpArgs false
set_option maxRecDepth 100000
open Go.RowKit

theorem below_drewN {B : Nat} {a b : World} {k : Nat} (h : Below B a b) : Below B a (b.drewN k) := ⟨h.os, h.tape, h.output, h.size, h.block⟩
theorem plK_0 (k ni no nm nc nx : Int) : plK (bs [105, 110]) k ni no nm nc nx = inB k ni := rfl
set_option maxHeartbeats 1000000 in
theorem hp_0 (c : CodeM) (v : CodeV) (B g S N gs gl : Nat) (W L : List Int) (q : InsP) (a m d r : Option Addr × Nat × Nat) (w : World) (hr : Rd w B g c v S N gs gl W L) (h : q.op = bs [105, 110]) : Calls Try.prog 38 #[.pointer (some ⟨g, 0, none⟩), insV q a m d r] w fun e w' => e = .returned (.bool (plK q.op q.k c.ins c.outs v.mems.2.1 v.conts.2.1 c.crosses)) ∧ Below w.heap.size w w' := by
  have HR := Lib.hid hr
  obtain ⟨op, dst, args, k, lit, guard, resets⟩ := q
  simp only at h
  have HE := Lib.hid (plK_0 k c.ins c.outs v.mems.2.1 v.conts.2.1 c.crosses)
  have hmm : v.mems.2.1 ≤ maxLen := hr.is.mems.len_le
  have hmc : v.conts.2.1 ≤ maxLen := hr.is.conts.len_le
  unfold maxLen at hmm hmc
  obtain ⟨n0, n1, n2, n3, n4, n5, n6, n7, n8, n9, n10, n11⟩ := HR.out.cells
  have hgl : g < w.heap.size := HR.out.blk.lt
  clear n2 n4 n7 n8 n9 n10 n11
  clear hr
  subst h
  unfold bs at HE ⊢
  unfold insV
  go_enter Try.func38, Try.ntmps38
  go_wp2_with fail
  go_quiet ((go_at_call 60; exact Calls.quiet_of_same (isPlace_t k c.ins _ _ rfl)))
  go_wp2
  go_ret
  exact ⟨by rw [HE.out]; rfl, by first | exact (Below.refl _ _).alloc (Nat.le_refl _) _ | exact below_drewN ((Below.refl _ _).alloc (Nat.le_refl _) _)⟩
theorem plK_1 (k ni no nm nc nx : Int) : plK (bs [111, 117, 116]) k ni no nm nc nx = inB k no := rfl
set_option maxHeartbeats 1000000 in
theorem hp_1 (c : CodeM) (v : CodeV) (B g S N gs gl : Nat) (W L : List Int) (q : InsP) (a m d r : Option Addr × Nat × Nat) (w : World) (hr : Rd w B g c v S N gs gl W L) (h : q.op = bs [111, 117, 116]) : Calls Try.prog 38 #[.pointer (some ⟨g, 0, none⟩), insV q a m d r] w fun e w' => e = .returned (.bool (plK q.op q.k c.ins c.outs v.mems.2.1 v.conts.2.1 c.crosses)) ∧ Below w.heap.size w w' := by
  have HR := Lib.hid hr
  obtain ⟨op, dst, args, k, lit, guard, resets⟩ := q
  simp only at h
  have HE := Lib.hid (plK_1 k c.ins c.outs v.mems.2.1 v.conts.2.1 c.crosses)
  have hmm : v.mems.2.1 ≤ maxLen := hr.is.mems.len_le
  have hmc : v.conts.2.1 ≤ maxLen := hr.is.conts.len_le
  unfold maxLen at hmm hmc
  obtain ⟨n0, n1, n2, n3, n4, n5, n6, n7, n8, n9, n10, n11⟩ := HR.out.cells
  have hgl : g < w.heap.size := HR.out.blk.lt
  clear n2 n4 n7 n8 n9 n10 n11
  clear hr
  subst h
  unfold bs at HE ⊢
  unfold insV
  go_enter Try.func38, Try.ntmps38
  go_wp2_with fail
  go_quiet ((go_at_call 60; exact Calls.quiet_of_same (isPlace_t k c.outs _ _ rfl)))
  go_wp2
  go_ret
  exact ⟨by rw [HE.out]; rfl, by first | exact (Below.refl _ _).alloc (Nat.le_refl _) _ | exact below_drewN ((Below.refl _ _).alloc (Nat.le_refl _) _)⟩
theorem plK_2 (k ni no nm nc nx : Int) : plK (bs [109, 101, 109]) k ni no nm nc nx = inB k nm := rfl
set_option maxHeartbeats 1000000 in
theorem hp_2 (c : CodeM) (v : CodeV) (B g S N gs gl : Nat) (W L : List Int) (q : InsP) (a m d r : Option Addr × Nat × Nat) (w : World) (hr : Rd w B g c v S N gs gl W L) (h : q.op = bs [109, 101, 109]) : Calls Try.prog 38 #[.pointer (some ⟨g, 0, none⟩), insV q a m d r] w fun e w' => e = .returned (.bool (plK q.op q.k c.ins c.outs v.mems.2.1 v.conts.2.1 c.crosses)) ∧ Below w.heap.size w w' := by
  have HR := Lib.hid hr
  obtain ⟨op, dst, args, k, lit, guard, resets⟩ := q
  simp only at h
  have HE := Lib.hid (plK_2 k c.ins c.outs v.mems.2.1 v.conts.2.1 c.crosses)
  have hmm : v.mems.2.1 ≤ maxLen := hr.is.mems.len_le
  have hmc : v.conts.2.1 ≤ maxLen := hr.is.conts.len_le
  unfold maxLen at hmm hmc
  obtain ⟨n0, n1, n2, n3, n4, n5, n6, n7, n8, n9, n10, n11⟩ := HR.out.cells
  have hgl : g < w.heap.size := HR.out.blk.lt
  clear n2 n4 n7 n8 n9 n10 n11
  clear hr
  subst h
  unfold bs at HE ⊢
  unfold insV
  go_enter Try.func38, Try.ntmps38
  go_wp2_with fail
  go_quiet ((go_at_call 60; exact Calls.quiet_of_same (isPlace_t k (v.mems.2.1 : Int) _ _ rfl)))
  go_wp2
  go_ret
  exact ⟨by rw [HE.out]; rfl, by first | exact (Below.refl _ _).alloc (Nat.le_refl _) _ | exact below_drewN ((Below.refl _ _).alloc (Nat.le_refl _) _)⟩
theorem plK_3 (k ni no nm nc nx : Int) : plK (bs [107, 101, 101, 112]) k ni no nm nc nx = inB k nm := rfl
set_option maxHeartbeats 1000000 in
theorem hp_3 (c : CodeM) (v : CodeV) (B g S N gs gl : Nat) (W L : List Int) (q : InsP) (a m d r : Option Addr × Nat × Nat) (w : World) (hr : Rd w B g c v S N gs gl W L) (h : q.op = bs [107, 101, 101, 112]) : Calls Try.prog 38 #[.pointer (some ⟨g, 0, none⟩), insV q a m d r] w fun e w' => e = .returned (.bool (plK q.op q.k c.ins c.outs v.mems.2.1 v.conts.2.1 c.crosses)) ∧ Below w.heap.size w w' := by
  have HR := Lib.hid hr
  obtain ⟨op, dst, args, k, lit, guard, resets⟩ := q
  simp only at h
  have HE := Lib.hid (plK_3 k c.ins c.outs v.mems.2.1 v.conts.2.1 c.crosses)
  have hmm : v.mems.2.1 ≤ maxLen := hr.is.mems.len_le
  have hmc : v.conts.2.1 ≤ maxLen := hr.is.conts.len_le
  unfold maxLen at hmm hmc
  obtain ⟨n0, n1, n2, n3, n4, n5, n6, n7, n8, n9, n10, n11⟩ := HR.out.cells
  have hgl : g < w.heap.size := HR.out.blk.lt
  clear n2 n4 n7 n8 n9 n10 n11
  clear hr
  subst h
  unfold bs at HE ⊢
  unfold insV
  go_enter Try.func38, Try.ntmps38
  go_wp2_with fail
  go_quiet ((go_at_call 60; exact Calls.quiet_of_same (isPlace_t k (v.mems.2.1 : Int) _ _ rfl)))
  go_wp2
  go_ret
  exact ⟨by rw [HE.out]; rfl, by first | exact (Below.refl _ _).alloc (Nat.le_refl _) _ | exact below_drewN ((Below.refl _ _).alloc (Nat.le_refl _) _)⟩
theorem plK_4 (k ni no nm nc nx : Int) : plK (bs [99, 111, 110, 116]) k ni no nm nc nx = inB k nc := rfl
set_option maxHeartbeats 1000000 in
theorem hp_4 (c : CodeM) (v : CodeV) (B g S N gs gl : Nat) (W L : List Int) (q : InsP) (a m d r : Option Addr × Nat × Nat) (w : World) (hr : Rd w B g c v S N gs gl W L) (h : q.op = bs [99, 111, 110, 116]) : Calls Try.prog 38 #[.pointer (some ⟨g, 0, none⟩), insV q a m d r] w fun e w' => e = .returned (.bool (plK q.op q.k c.ins c.outs v.mems.2.1 v.conts.2.1 c.crosses)) ∧ Below w.heap.size w w' := by
  have HR := Lib.hid hr
  obtain ⟨op, dst, args, k, lit, guard, resets⟩ := q
  simp only at h
  have HE := Lib.hid (plK_4 k c.ins c.outs v.mems.2.1 v.conts.2.1 c.crosses)
  have hmm : v.mems.2.1 ≤ maxLen := hr.is.mems.len_le
  have hmc : v.conts.2.1 ≤ maxLen := hr.is.conts.len_le
  unfold maxLen at hmm hmc
  obtain ⟨n0, n1, n2, n3, n4, n5, n6, n7, n8, n9, n10, n11⟩ := HR.out.cells
  have hgl : g < w.heap.size := HR.out.blk.lt
  clear n2 n4 n7 n8 n9 n10 n11
  clear hr
  subst h
  unfold bs at HE ⊢
  unfold insV
  go_enter Try.func38, Try.ntmps38
  go_wp2_with fail
  go_quiet ((go_at_call 60; exact Calls.quiet_of_same (isPlace_t k (v.conts.2.1 : Int) _ _ rfl)))
  go_wp2
  go_ret
  exact ⟨by rw [HE.out]; rfl, by first | exact (Below.refl _ _).alloc (Nat.le_refl _) _ | exact below_drewN ((Below.refl _ _).alloc (Nat.le_refl _) _)⟩
theorem plK_5 (k ni no nm nc nx : Int) : plK (bs [115, 116, 97, 116, 101]) k ni no nm nc nx = inB k nc := rfl
set_option maxHeartbeats 1000000 in
theorem hp_5 (c : CodeM) (v : CodeV) (B g S N gs gl : Nat) (W L : List Int) (q : InsP) (a m d r : Option Addr × Nat × Nat) (w : World) (hr : Rd w B g c v S N gs gl W L) (h : q.op = bs [115, 116, 97, 116, 101]) : Calls Try.prog 38 #[.pointer (some ⟨g, 0, none⟩), insV q a m d r] w fun e w' => e = .returned (.bool (plK q.op q.k c.ins c.outs v.mems.2.1 v.conts.2.1 c.crosses)) ∧ Below w.heap.size w w' := by
  have HR := Lib.hid hr
  obtain ⟨op, dst, args, k, lit, guard, resets⟩ := q
  simp only at h
  have HE := Lib.hid (plK_5 k c.ins c.outs v.mems.2.1 v.conts.2.1 c.crosses)
  have hmm : v.mems.2.1 ≤ maxLen := hr.is.mems.len_le
  have hmc : v.conts.2.1 ≤ maxLen := hr.is.conts.len_le
  unfold maxLen at hmm hmc
  obtain ⟨n0, n1, n2, n3, n4, n5, n6, n7, n8, n9, n10, n11⟩ := HR.out.cells
  have hgl : g < w.heap.size := HR.out.blk.lt
  clear n2 n4 n7 n8 n9 n10 n11
  clear hr
  subst h
  unfold bs at HE ⊢
  unfold insV
  go_enter Try.func38, Try.ntmps38
  go_wp2_with fail
  go_quiet ((go_at_call 60; exact Calls.quiet_of_same (isPlace_t k (v.conts.2.1 : Int) _ _ rfl)))
  go_wp2
  go_ret
  exact ⟨by rw [HE.out]; rfl, by first | exact (Below.refl _ _).alloc (Nat.le_refl _) _ | exact below_drewN ((Below.refl _ _).alloc (Nat.le_refl _) _)⟩
theorem plK_6 (k ni no nm nc nx : Int) : plK (bs [115, 108, 111, 112, 101]) k ni no nm nc nx = inB k nc := rfl
set_option maxHeartbeats 1000000 in
theorem hp_6 (c : CodeM) (v : CodeV) (B g S N gs gl : Nat) (W L : List Int) (q : InsP) (a m d r : Option Addr × Nat × Nat) (w : World) (hr : Rd w B g c v S N gs gl W L) (h : q.op = bs [115, 108, 111, 112, 101]) : Calls Try.prog 38 #[.pointer (some ⟨g, 0, none⟩), insV q a m d r] w fun e w' => e = .returned (.bool (plK q.op q.k c.ins c.outs v.mems.2.1 v.conts.2.1 c.crosses)) ∧ Below w.heap.size w w' := by
  have HR := Lib.hid hr
  obtain ⟨op, dst, args, k, lit, guard, resets⟩ := q
  simp only at h
  have HE := Lib.hid (plK_6 k c.ins c.outs v.mems.2.1 v.conts.2.1 c.crosses)
  have hmm : v.mems.2.1 ≤ maxLen := hr.is.mems.len_le
  have hmc : v.conts.2.1 ≤ maxLen := hr.is.conts.len_le
  unfold maxLen at hmm hmc
  obtain ⟨n0, n1, n2, n3, n4, n5, n6, n7, n8, n9, n10, n11⟩ := HR.out.cells
  have hgl : g < w.heap.size := HR.out.blk.lt
  clear n2 n4 n7 n8 n9 n10 n11
  clear hr
  subst h
  unfold bs at HE ⊢
  unfold insV
  go_enter Try.func38, Try.ntmps38
  go_wp2_with fail
  go_quiet ((go_at_call 60; exact Calls.quiet_of_same (isPlace_t k (v.conts.2.1 : Int) _ _ rfl)))
  go_wp2
  go_ret
  exact ⟨by rw [HE.out]; rfl, by first | exact (Below.refl _ _).alloc (Nat.le_refl _) _ | exact below_drewN ((Below.refl _ _).alloc (Nat.le_refl _) _)⟩
theorem plK_7 (k ni no nm nc nx : Int) : plK (bs [108, 99, 111, 110, 116]) k ni no nm nc nx = inB k nc := rfl
set_option maxHeartbeats 1000000 in
theorem hp_7 (c : CodeM) (v : CodeV) (B g S N gs gl : Nat) (W L : List Int) (q : InsP) (a m d r : Option Addr × Nat × Nat) (w : World) (hr : Rd w B g c v S N gs gl W L) (h : q.op = bs [108, 99, 111, 110, 116]) : Calls Try.prog 38 #[.pointer (some ⟨g, 0, none⟩), insV q a m d r] w fun e w' => e = .returned (.bool (plK q.op q.k c.ins c.outs v.mems.2.1 v.conts.2.1 c.crosses)) ∧ Below w.heap.size w w' := by
  have HR := Lib.hid hr
  obtain ⟨op, dst, args, k, lit, guard, resets⟩ := q
  simp only at h
  have HE := Lib.hid (plK_7 k c.ins c.outs v.mems.2.1 v.conts.2.1 c.crosses)
  have hmm : v.mems.2.1 ≤ maxLen := hr.is.mems.len_le
  have hmc : v.conts.2.1 ≤ maxLen := hr.is.conts.len_le
  unfold maxLen at hmm hmc
  obtain ⟨n0, n1, n2, n3, n4, n5, n6, n7, n8, n9, n10, n11⟩ := HR.out.cells
  have hgl : g < w.heap.size := HR.out.blk.lt
  clear n2 n4 n7 n8 n9 n10 n11
  clear hr
  subst h
  unfold bs at HE ⊢
  unfold insV
  go_enter Try.func38, Try.ntmps38
  go_wp2_with fail
  go_quiet ((go_at_call 60; exact Calls.quiet_of_same (isPlace_t k (v.conts.2.1 : Int) _ _ rfl)))
  go_wp2
  go_ret
  exact ⟨by rw [HE.out]; rfl, by first | exact (Below.refl _ _).alloc (Nat.le_refl _) _ | exact below_drewN ((Below.refl _ _).alloc (Nat.le_refl _) _)⟩
theorem plK_8 (k ni no nm nc nx : Int) : plK (bs [102, 108, 97, 103]) k ni no nm nc nx = inB k nx := rfl
set_option maxHeartbeats 1000000 in
theorem hp_8 (c : CodeM) (v : CodeV) (B g S N gs gl : Nat) (W L : List Int) (q : InsP) (a m d r : Option Addr × Nat × Nat) (w : World) (hr : Rd w B g c v S N gs gl W L) (h : q.op = bs [102, 108, 97, 103]) : Calls Try.prog 38 #[.pointer (some ⟨g, 0, none⟩), insV q a m d r] w fun e w' => e = .returned (.bool (plK q.op q.k c.ins c.outs v.mems.2.1 v.conts.2.1 c.crosses)) ∧ Below w.heap.size w w' := by
  have HR := Lib.hid hr
  obtain ⟨op, dst, args, k, lit, guard, resets⟩ := q
  simp only at h
  have HE := Lib.hid (plK_8 k c.ins c.outs v.mems.2.1 v.conts.2.1 c.crosses)
  have hmm : v.mems.2.1 ≤ maxLen := hr.is.mems.len_le
  have hmc : v.conts.2.1 ≤ maxLen := hr.is.conts.len_le
  unfold maxLen at hmm hmc
  obtain ⟨n0, n1, n2, n3, n4, n5, n6, n7, n8, n9, n10, n11⟩ := HR.out.cells
  have hgl : g < w.heap.size := HR.out.blk.lt
  clear n2 n4 n7 n8 n9 n10 n11
  clear hr
  subst h
  unfold bs at HE ⊢
  unfold insV
  go_enter Try.func38, Try.ntmps38
  go_wp2_with fail
  go_quiet ((go_at_call 60; exact Calls.quiet_of_same (isPlace_t k c.crosses _ _ rfl)))
  go_wp2
  go_ret
  exact ⟨by rw [HE.out]; rfl, by first | exact (Below.refl _ _).alloc (Nat.le_refl _) _ | exact below_drewN ((Below.refl _ _).alloc (Nat.le_refl _) _)⟩
theorem plK_9 (k ni no nm nc nx : Int) : plK (bs [97, 115, 107]) k ni no nm nc nx = inB k nx := rfl
set_option maxHeartbeats 1000000 in
theorem hp_9 (c : CodeM) (v : CodeV) (B g S N gs gl : Nat) (W L : List Int) (q : InsP) (a m d r : Option Addr × Nat × Nat) (w : World) (hr : Rd w B g c v S N gs gl W L) (h : q.op = bs [97, 115, 107]) : Calls Try.prog 38 #[.pointer (some ⟨g, 0, none⟩), insV q a m d r] w fun e w' => e = .returned (.bool (plK q.op q.k c.ins c.outs v.mems.2.1 v.conts.2.1 c.crosses)) ∧ Below w.heap.size w w' := by
  have HR := Lib.hid hr
  obtain ⟨op, dst, args, k, lit, guard, resets⟩ := q
  simp only at h
  have HE := Lib.hid (plK_9 k c.ins c.outs v.mems.2.1 v.conts.2.1 c.crosses)
  have hmm : v.mems.2.1 ≤ maxLen := hr.is.mems.len_le
  have hmc : v.conts.2.1 ≤ maxLen := hr.is.conts.len_le
  unfold maxLen at hmm hmc
  obtain ⟨n0, n1, n2, n3, n4, n5, n6, n7, n8, n9, n10, n11⟩ := HR.out.cells
  have hgl : g < w.heap.size := HR.out.blk.lt
  clear n2 n4 n7 n8 n9 n10 n11
  clear hr
  subst h
  unfold bs at HE ⊢
  unfold insV
  go_enter Try.func38, Try.ntmps38
  go_wp2_with fail
  go_quiet ((go_at_call 60; exact Calls.quiet_of_same (isPlace_t k c.crosses _ _ rfl)))
  go_wp2
  go_ret
  exact ⟨by rw [HE.out]; rfl, by first | exact (Below.refl _ _).alloc (Nat.le_refl _) _ | exact below_drewN ((Below.refl _ _).alloc (Nat.le_refl _) _)⟩
theorem plK_10 (k ni no nm nc nx : Int) : plK (bs [108, 42]) k ni no nm nc nx = inB k 2 := rfl
set_option maxHeartbeats 1000000 in
theorem hp_10 (c : CodeM) (v : CodeV) (B g S N gs gl : Nat) (W L : List Int) (q : InsP) (a m d r : Option Addr × Nat × Nat) (w : World) (hr : Rd w B g c v S N gs gl W L) (h : q.op = bs [108, 42]) : Calls Try.prog 38 #[.pointer (some ⟨g, 0, none⟩), insV q a m d r] w fun e w' => e = .returned (.bool (plK q.op q.k c.ins c.outs v.mems.2.1 v.conts.2.1 c.crosses)) ∧ Below w.heap.size w w' := by
  have HR := Lib.hid hr
  obtain ⟨op, dst, args, k, lit, guard, resets⟩ := q
  simp only at h
  have HE := Lib.hid (plK_10 k c.ins c.outs v.mems.2.1 v.conts.2.1 c.crosses)
  have hmm : v.mems.2.1 ≤ maxLen := hr.is.mems.len_le
  have hmc : v.conts.2.1 ≤ maxLen := hr.is.conts.len_le
  unfold maxLen at hmm hmc
  obtain ⟨n0, n1, n2, n3, n4, n5, n6, n7, n8, n9, n10, n11⟩ := HR.out.cells
  have hgl : g < w.heap.size := HR.out.blk.lt
  clear n2 n4 n7 n8 n9 n10 n11
  clear hr
  subst h
  unfold bs at HE ⊢
  unfold insV
  go_enter Try.func38, Try.ntmps38
  go_wp2_with (go_at_call 60; (with_reducible refine (isPlace_t k 2 _ _ rfl).mono ?_); rintro e w1 ⟨rfl, rfl⟩)
  go_ret
  exact ⟨by rw [HE.out]; rfl, (Below.refl _ _).alloc (Nat.le_refl _) _⟩
theorem plK_no (op : ByteArray) (k ni no nm nc nx : Int) (h0 : ¬ op = bs [105, 110]) (h1 : ¬ op = bs [111, 117, 116]) (h2 : ¬ op = bs [109, 101, 109]) (h3 : ¬ op = bs [107, 101, 101, 112]) (h4 : ¬ op = bs [99, 111, 110, 116]) (h5 : ¬ op = bs [115, 116, 97, 116, 101]) (h6 : ¬ op = bs [115, 108, 111, 112, 101]) (h7 : ¬ op = bs [108, 99, 111, 110, 116]) (h8 : ¬ op = bs [102, 108, 97, 103]) (h9 : ¬ op = bs [97, 115, 107]) (h10 : ¬ op = bs [108, 42]) : plK op k ni no nm nc nx = true := by
  unfold plK opIn opOut hasOp opsMem opsCont opsFlag opLmul
  rw [if_neg h0, if_neg h1, if_neg (by simp [h2, h3]), if_neg (by simp [h4, h5, h6, h7]), if_neg (by simp [h8, h9]), if_neg h10]
set_option maxHeartbeats 1000000 in
theorem hp_none (c : CodeM) (v : CodeV) (B g S N gs gl : Nat) (W L : List Int) (q : InsP) (a m d r : Option Addr × Nat × Nat) (w : World) (hr : Rd w B g c v S N gs gl W L) (h0 : ¬ q.op = bs [105, 110]) (h1 : ¬ q.op = bs [111, 117, 116]) (h2 : ¬ q.op = bs [109, 101, 109]) (h3 : ¬ q.op = bs [107, 101, 101, 112]) (h4 : ¬ q.op = bs [99, 111, 110, 116]) (h5 : ¬ q.op = bs [115, 116, 97, 116, 101]) (h6 : ¬ q.op = bs [115, 108, 111, 112, 101]) (h7 : ¬ q.op = bs [108, 99, 111, 110, 116]) (h8 : ¬ q.op = bs [102, 108, 97, 103]) (h9 : ¬ q.op = bs [97, 115, 107]) (h10 : ¬ q.op = bs [108, 42]) : Calls Try.prog 38 #[.pointer (some ⟨g, 0, none⟩), insV q a m d r] w fun e w' => e = .returned (.bool (plK q.op q.k c.ins c.outs v.mems.2.1 v.conts.2.1 c.crosses)) ∧ Below w.heap.size w w' := by
  obtain ⟨op, dst, args, k, lit, guard, resets⟩ := q
  simp only at h0 h1 h2 h3 h4 h5 h6 h7 h8 h9 h10
  have HE := Lib.hid (plK_no op k c.ins c.outs v.mems.2.1 v.conts.2.1 c.crosses h0 h1 h2 h3 h4 h5 h6 h7 h8 h9 h10)
  clear hr
  have g0 := str_no h0; clear h0
  have g1 := str_no h1; clear h1
  have g2 := str_no h2; clear h2
  have g3 := str_no h3; clear h3
  have g4 := str_no h4; clear h4
  have g5 := str_no h5; clear h5
  have g6 := str_no h6; clear h6
  have g7 := str_no h7; clear h7
  have g8 := str_no h8; clear h8
  have g9 := str_no h9; clear h9
  have g10 := str_no h10; clear h10
  unfold insV
  go_enter Try.func38, Try.ntmps38
  go_wp2
  go_ret
  exact ⟨by rw [HE.out]; rfl, (Below.refl _ _).alloc (Nat.le_refl _) _⟩
theorem hasPlace_t (c : CodeM) (v : CodeV) (B g S N gs gl : Nat) (W L : List Int) (q : InsP) (a m d r : Option Addr × Nat × Nat) (w : World) (hr : Rd w B g c v S N gs gl W L) : Calls Try.prog 38 #[.pointer (some ⟨g, 0, none⟩), insV q a m d r] w fun e w' => e = .returned (.bool (plK q.op q.k c.ins c.outs v.mems.2.1 v.conts.2.1 c.crosses)) ∧ Below w.heap.size w w' := by
  by_cases h0 : q.op = bs [105, 110]
  · exact hp_0 c v B g S N gs gl W L q a m d r w hr h0
  by_cases h1 : q.op = bs [111, 117, 116]
  · exact hp_1 c v B g S N gs gl W L q a m d r w hr h1
  by_cases h2 : q.op = bs [109, 101, 109]
  · exact hp_2 c v B g S N gs gl W L q a m d r w hr h2
  by_cases h3 : q.op = bs [107, 101, 101, 112]
  · exact hp_3 c v B g S N gs gl W L q a m d r w hr h3
  by_cases h4 : q.op = bs [99, 111, 110, 116]
  · exact hp_4 c v B g S N gs gl W L q a m d r w hr h4
  by_cases h5 : q.op = bs [115, 116, 97, 116, 101]
  · exact hp_5 c v B g S N gs gl W L q a m d r w hr h5
  by_cases h6 : q.op = bs [115, 108, 111, 112, 101]
  · exact hp_6 c v B g S N gs gl W L q a m d r w hr h6
  by_cases h7 : q.op = bs [108, 99, 111, 110, 116]
  · exact hp_7 c v B g S N gs gl W L q a m d r w hr h7
  by_cases h8 : q.op = bs [102, 108, 97, 103]
  · exact hp_8 c v B g S N gs gl W L q a m d r w hr h8
  by_cases h9 : q.op = bs [97, 115, 107]
  · exact hp_9 c v B g S N gs gl W L q a m d r w hr h9
  by_cases h10 : q.op = bs [108, 42]
  · exact hp_10 c v B g S N gs gl W L q a m d r w hr h10
  exact hp_none c v B g S N gs gl W L q a m d r w hr h0 h1 h2 h3 h4 h5 h6 h7 h8 h9 h10
/-- what operands tells -/
def opnV : Option (Nat × Nat) → Value
  | none => .tuple #[.int .i64 0, .int .i64 0, .bool false]
  | some (s, l) => .tuple #[.int .i64 (s : Nat), .int .i64 (l : Nat), .bool true]
theorem opd_0 (op : ByteArray) (w : World) (h : op = bs [108, 99, 111, 110, 116]) : Calls Try.prog 45 #[.string op] w fun e w' => e = .returned (opnV (nLn op)) ∧ w' = w := by
  have HE : Hid (nLn (bs [108, 99, 111, 110, 116]) = some (0, 0)) := Lib.hid rfl
  subst h
  unfold bs at HE ⊢
  go_enter Try.func45, Try.ntmps45
  go_wp2
  go_ret3
  exact ⟨by rw [HE.out]; rfl, rfl⟩
theorem opd_1 (op : ByteArray) (w : World) (h : op = bs [108, 118, 97, 114]) : Calls Try.prog 45 #[.string op] w fun e w' => e = .returned (opnV (nLn op)) ∧ w' = w := by
  have HE : Hid (nLn (bs [108, 118, 97, 114]) = some (1, 0)) := Lib.hid rfl
  subst h
  unfold bs at HE ⊢
  go_enter Try.func45, Try.ntmps45
  go_wp2
  go_ret3
  exact ⟨by rw [HE.out]; rfl, rfl⟩
theorem opd_2 (op : ByteArray) (w : World) (h : op = bs [108, 110, 101, 103]) : Calls Try.prog 45 #[.string op] w fun e w' => e = .returned (opnV (nLn op)) ∧ w' = w := by
  have HE : Hid (nLn (bs [108, 110, 101, 103]) = some (0, 1)) := Lib.hid rfl
  subst h
  unfold bs at HE ⊢
  go_enter Try.func45, Try.ntmps45
  go_wp2
  go_ret3
  exact ⟨by rw [HE.out]; rfl, rfl⟩
theorem opd_3 (op : ByteArray) (w : World) (h : op = bs [97, 115, 107]) : Calls Try.prog 45 #[.string op] w fun e w' => e = .returned (opnV (nLn op)) ∧ w' = w := by
  have HE : Hid (nLn (bs [97, 115, 107]) = some (0, 1)) := Lib.hid rfl
  subst h
  unfold bs at HE ⊢
  go_enter Try.func45, Try.ntmps45
  go_wp2
  go_ret3
  exact ⟨by rw [HE.out]; rfl, rfl⟩
theorem opd_4 (op : ByteArray) (w : World) (h : op = bs [108, 43]) : Calls Try.prog 45 #[.string op] w fun e w' => e = .returned (opnV (nLn op)) ∧ w' = w := by
  have HE : Hid (nLn (bs [108, 43]) = some (0, 2)) := Lib.hid rfl
  subst h
  unfold bs at HE ⊢
  go_enter Try.func45, Try.ntmps45
  go_wp2
  go_ret3
  exact ⟨by rw [HE.out]; rfl, rfl⟩
theorem opd_5 (op : ByteArray) (w : World) (h : op = bs [108, 45]) : Calls Try.prog 45 #[.string op] w fun e w' => e = .returned (opnV (nLn op)) ∧ w' = w := by
  have HE : Hid (nLn (bs [108, 45]) = some (0, 2)) := Lib.hid rfl
  subst h
  unfold bs at HE ⊢
  go_enter Try.func45, Try.ntmps45
  go_wp2
  go_ret3
  exact ⟨by rw [HE.out]; rfl, rfl⟩
theorem opd_6 (op : ByteArray) (w : World) (h : op = bs [108, 42]) : Calls Try.prog 45 #[.string op] w fun e w' => e = .returned (opnV (nLn op)) ∧ w' = w := by
  have HE : Hid (nLn (bs [108, 42]) = some (0, 2)) := Lib.hid rfl
  subst h
  unfold bs at HE ⊢
  go_enter Try.func45, Try.ntmps45
  go_wp2
  go_ret3
  exact ⟨by rw [HE.out]; rfl, rfl⟩
theorem opd_7 (op : ByteArray) (w : World) (h : op = bs [108, 47]) : Calls Try.prog 45 #[.string op] w fun e w' => e = .returned (opnV (nLn op)) ∧ w' = w := by
  have HE : Hid (nLn (bs [108, 47]) = some (0, 2)) := Lib.hid rfl
  subst h
  unfold bs at HE ⊢
  go_enter Try.func45, Try.ntmps45
  go_wp2
  go_ret3
  exact ⟨by rw [HE.out]; rfl, rfl⟩
theorem opd_8 (op : ByteArray) (w : World) (h : op = bs [108, 115, 101, 108]) : Calls Try.prog 45 #[.string op] w fun e w' => e = .returned (opnV (nLn op)) ∧ w' = w := by
  have HE : Hid (nLn (bs [108, 115, 101, 108]) = some (1, 2)) := Lib.hid rfl
  subst h
  unfold bs at HE ⊢
  go_enter Try.func45, Try.ntmps45
  go_wp2
  go_ret3
  exact ⟨by rw [HE.out]; rfl, rfl⟩
theorem nLn_no (op : ByteArray) (h0 : ¬ op = bs [108, 99, 111, 110, 116]) (h1 : ¬ op = bs [108, 118, 97, 114]) (h2 : ¬ op = bs [108, 110, 101, 103]) (h3 : ¬ op = bs [97, 115, 107]) (h4 : ¬ op = bs [108, 43]) (h5 : ¬ op = bs [108, 45]) (h6 : ¬ op = bs [108, 42]) (h7 : ¬ op = bs [108, 47]) (h8 : ¬ op = bs [108, 115, 101, 108]) : nLn op = none := by
  unfold nLn hasOp opsL0 opsL1 opsL01 opsL02 opsL12
  rw [if_neg (by simp [h0]), if_neg (by simp [h1]), if_neg (by simp [h2, h3]), if_neg (by simp [h4, h5, h6, h7]), if_neg (by simp [h8])]
theorem opd_none (op : ByteArray) (w : World) (h0 : ¬ op = bs [108, 99, 111, 110, 116]) (h1 : ¬ op = bs [108, 118, 97, 114]) (h2 : ¬ op = bs [108, 110, 101, 103]) (h3 : ¬ op = bs [97, 115, 107]) (h4 : ¬ op = bs [108, 43]) (h5 : ¬ op = bs [108, 45]) (h6 : ¬ op = bs [108, 42]) (h7 : ¬ op = bs [108, 47]) (h8 : ¬ op = bs [108, 115, 101, 108]) : Calls Try.prog 45 #[.string op] w fun e w' => e = .returned (opnV (nLn op)) ∧ w' = w := by
  have HE := Lib.hid (nLn_no op h0 h1 h2 h3 h4 h5 h6 h7 h8)
  have g0 := str_no h0; clear h0
  have g1 := str_no h1; clear h1
  have g2 := str_no h2; clear h2
  have g3 := str_no h3; clear h3
  have g4 := str_no h4; clear h4
  have g5 := str_no h5; clear h5
  have g6 := str_no h6; clear h6
  have g7 := str_no h7; clear h7
  have g8 := str_no h8; clear h8
  go_enter Try.func45, Try.ntmps45
  go_wp2
  go_ret3
  exact ⟨by rw [HE.out]; rfl, rfl⟩
theorem operands_t (op : ByteArray) (w : World) : Calls Try.prog 45 #[.string op] w fun e w' => e = .returned (opnV (nLn op)) ∧ w' = w := by
  by_cases h0 : op = bs [108, 99, 111, 110, 116]
  · exact opd_0 op w h0
  by_cases h1 : op = bs [108, 118, 97, 114]
  · exact opd_1 op w h1
  by_cases h2 : op = bs [108, 110, 101, 103]
  · exact opd_2 op w h2
  by_cases h3 : op = bs [97, 115, 107]
  · exact opd_3 op w h3
  by_cases h4 : op = bs [108, 43]
  · exact opd_4 op w h4
  by_cases h5 : op = bs [108, 45]
  · exact opd_5 op w h5
  by_cases h6 : op = bs [108, 42]
  · exact opd_6 op w h6
  by_cases h7 : op = bs [108, 47]
  · exact opd_7 op w h7
  by_cases h8 : op = bs [108, 115, 101, 108]
  · exact opd_8 op w h8
  exact opd_none op w h0 h1 h2 h3 h4 h5 h6 h7 h8

end Go.Proofs.Ytcljmfhelgkfaaa
