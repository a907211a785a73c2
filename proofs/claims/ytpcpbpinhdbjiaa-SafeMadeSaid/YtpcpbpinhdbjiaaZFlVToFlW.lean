/- What the answer right tells. No condition. · What the answer asks tells. No condition. -/
import Derived.Test.YtpcpbpinhdbjiaaZFlSToFlU
namespace Go.Proofs.Ytpcpbpinhdbjiaa
set_option linter.unusedVariables false
set_option linter.unusedSimpArgs false
set_option maxRecDepth 100000
open Go.RowKit

theorem within_q (a : Option Addr) (n c B : Nat) (xs : List Int) (m : Nat) (w : World) (k : Nat) (hr : IRow w B a n c xs) :
    Calls Try.prog 25 #[.slice a n c, .int .i64 (m : Int)] (w.drewN k) fun e w' => e = .returned (.bool (wiB xs m)) ∧ w' = w.drewN k :=
  (within_at a n c B xs m _ (w.drewN k) (show IRow (w.drewN k) B a n c xs from hr) rfl).mono fun _ _ ⟨h1, h2⟩ => ⟨h1, h2.symm⟩
theorem plB_false {i : Int} {n : Nat} (h : i < 0 ∨ (n : Int) ≤ i) : plB i n = false := by unfold plB; simp; omega
theorem rg_1 (f : FlatM) (n : Nat) (k : Int) : rgL f (bs [105, 110]) n k = ((n == 0) && plB k f.ins.length && true) := rfl

set_option maxHeartbeats 1000000 in
theorem ri_1 (q : FEqM) (a m d : Option Addr × Nat × Nat) (v : FlatV) (f : FlatM) (B : Nat) (w : World) (hm : a.2.1 ≤ maxLen) (hF : FlatIs w B v f) (hB : B ≤ w.heap.size) (h : q.op = bs [105, 110]) : Calls Try.prog 26 #[flatV v, feqV q a m d] w fun e w' => e = .returned (.bool (rgL f q.op a.2.1 q.k)) ∧ Below w.heap.size w w' := by
  obtain ⟨var, op, args, k, lit, guard⟩ := q
  obtain ⟨A, n, c⟩ := a
  unfold maxLen at hm
  simp only at hm h
  have HE := Lib.hid (rg_1 f n k)
  have HN := Lib.hid hF.names.1
  have HI := Lib.hid hF.ins.1
  have HM := Lib.hid hF.mems.1
  have HC := Lib.hid hF.conts.1
  have HX := Lib.hid hF.cross.1
  have hmI := hF.ins.len_le
  have hmM := hF.mems.len_le
  have hmC := hF.conts.len_le
  have hmX := hF.cross.len_le
  have hmN := hF.names.len_le
  have HBB := Lib.hid hB
  have HF := Lib.hid hF; clear hF hB
  unfold maxLen at hmI hmM hmC hmX hmN
  subst h
  unfold bs at HE ⊢
  by_cases hn : n = 0
  rotate_left
  · have HV : Hid (rgL f ⟨#[105, 110]⟩ n k = false) := Lib.hid (by rw [HE.out, beq_eq_false_iff_ne.2 hn]; rfl)
    have g1 : ((n : Int) == 0) = false := by rw [beq_eq_false_iff_ne]; omega
    unfold feqV flatV sl3
    go_enter Try.func26, Try.ntmps26
    go_wp2
    go_ret
    exact ⟨by rw [HV.out]; rfl, by first | exact ((Below.refl _ _).alloc (Nat.le_refl _) _).alloc (by simp) _ | exact below_drewN (((Below.refl _ _).alloc (Nat.le_refl _) _).alloc (by simp) _)⟩
  subst hn
  by_cases hk0 : 0 ≤ k
  rotate_left
  · have HV : Hid (rgL f ⟨#[105, 110]⟩ 0 k = false) := Lib.hid (by rw [HE.out, plB_false (.inl (by omega))]; simp)
    have hk : k < 0 := by omega
    have g2 : decide (0 ≤ k) = false := by rw [decide_eq_false_iff_not]; omega
    clear hk0
    unfold feqV flatV sl3
    go_enter Try.func26, Try.ntmps26
    go_wp2
    go_ret
    exact ⟨by rw [HV.out]; rfl, by first | exact ((Below.refl _ _).alloc (Nat.le_refl _) _).alloc (by simp) _ | exact below_drewN (((Below.refl _ _).alloc (Nat.le_refl _) _).alloc (by simp) _)⟩
  by_cases hk1 : k < (v.ins.2.1 : Int)
  rotate_left
  · have HV : Hid (rgL f ⟨#[105, 110]⟩ 0 k = false) := Lib.hid (by rw [HE.out, plB_false (.inr (by rw [HI.out]; omega))]; simp)
    have hk : (v.ins.2.1 : Int) ≤ k := by omega
    have g3 : decide (k < (v.ins.2.1 : Int)) = false := by rw [decide_eq_false_iff_not]; omega
    clear hk1
    unfold feqV flatV sl3
    go_enter Try.func26, Try.ntmps26
    go_wp2
    go_ret
    exact ⟨by rw [HV.out]; rfl, by first | exact ((Below.refl _ _).alloc (Nat.le_refl _) _).alloc (by simp) _ | exact below_drewN (((Below.refl _ _).alloc (Nat.le_refl _) _).alloc (by simp) _)⟩
  have g2 : decide (0 ≤ k) = true := decide_eq_true hk0
  have g3 : decide (k < (v.ins.2.1 : Int)) = true := decide_eq_true hk1
  have HP : Hid (plB k f.ins.length = true) := Lib.hid (by unfold plB; rw [HI.out]; simp; omega)
  have HV : Hid (rgL f ⟨#[105, 110]⟩ 0 k = true) := Lib.hid (by rw [HE.out, HP.out]; rfl)
  unfold feqV flatV sl3
  go_enter Try.func26, Try.ntmps26
  go_wp2
  go_ret
  exact ⟨by rw [HV.out]; rfl, ((Below.refl _ _).alloc (Nat.le_refl _) _).alloc (by simp) _⟩
theorem rg_4 (f : FlatM) (n : Nat) (k : Int) : rgL f (bs [102, 108, 97, 103]) n k = ((n == 0) && plB k f.cross.length && true) := rfl

set_option maxHeartbeats 1000000 in
theorem ri_4 (q : FEqM) (a m d : Option Addr × Nat × Nat) (v : FlatV) (f : FlatM) (B : Nat) (w : World) (hm : a.2.1 ≤ maxLen) (hF : FlatIs w B v f) (hB : B ≤ w.heap.size) (h : q.op = bs [102, 108, 97, 103]) : Calls Try.prog 26 #[flatV v, feqV q a m d] w fun e w' => e = .returned (.bool (rgL f q.op a.2.1 q.k)) ∧ Below w.heap.size w w' := by
  obtain ⟨var, op, args, k, lit, guard⟩ := q
  obtain ⟨A, n, c⟩ := a
  unfold maxLen at hm
  simp only at hm h
  have HE := Lib.hid (rg_4 f n k)
  have HN := Lib.hid hF.names.1
  have HI := Lib.hid hF.ins.1
  have HM := Lib.hid hF.mems.1
  have HC := Lib.hid hF.conts.1
  have HX := Lib.hid hF.cross.1
  have hmI := hF.ins.len_le
  have hmM := hF.mems.len_le
  have hmC := hF.conts.len_le
  have hmX := hF.cross.len_le
  have hmN := hF.names.len_le
  have HBB := Lib.hid hB
  have HF := Lib.hid hF; clear hF hB
  unfold maxLen at hmI hmM hmC hmX hmN
  subst h
  unfold bs at HE ⊢
  by_cases hn : n = 0
  rotate_left
  · have HV : Hid (rgL f ⟨#[102, 108, 97, 103]⟩ n k = false) := Lib.hid (by rw [HE.out, beq_eq_false_iff_ne.2 hn]; rfl)
    have g1 : ((n : Int) == 0) = false := by rw [beq_eq_false_iff_ne]; omega
    unfold feqV flatV sl3
    go_enter Try.func26, Try.ntmps26
    go_wp2
    go_ret
    exact ⟨by rw [HV.out]; rfl, by first | exact ((Below.refl _ _).alloc (Nat.le_refl _) _).alloc (by simp) _ | exact below_drewN (((Below.refl _ _).alloc (Nat.le_refl _) _).alloc (by simp) _)⟩
  subst hn
  by_cases hk0 : 0 ≤ k
  rotate_left
  · have HV : Hid (rgL f ⟨#[102, 108, 97, 103]⟩ 0 k = false) := Lib.hid (by rw [HE.out, plB_false (.inl (by omega))]; simp)
    have hk : k < 0 := by omega
    have g2 : decide (0 ≤ k) = false := by rw [decide_eq_false_iff_not]; omega
    clear hk0
    unfold feqV flatV sl3
    go_enter Try.func26, Try.ntmps26
    go_wp2
    go_ret
    exact ⟨by rw [HV.out]; rfl, by first | exact ((Below.refl _ _).alloc (Nat.le_refl _) _).alloc (by simp) _ | exact below_drewN (((Below.refl _ _).alloc (Nat.le_refl _) _).alloc (by simp) _)⟩
  by_cases hk1 : k < (v.cross.2.1 : Int)
  rotate_left
  · have HV : Hid (rgL f ⟨#[102, 108, 97, 103]⟩ 0 k = false) := Lib.hid (by rw [HE.out, plB_false (.inr (by rw [HX.out]; omega))]; simp)
    have hk : (v.cross.2.1 : Int) ≤ k := by omega
    have g3 : decide (k < (v.cross.2.1 : Int)) = false := by rw [decide_eq_false_iff_not]; omega
    clear hk1
    unfold feqV flatV sl3
    go_enter Try.func26, Try.ntmps26
    go_wp2
    go_ret
    exact ⟨by rw [HV.out]; rfl, by first | exact ((Below.refl _ _).alloc (Nat.le_refl _) _).alloc (by simp) _ | exact below_drewN (((Below.refl _ _).alloc (Nat.le_refl _) _).alloc (by simp) _)⟩
  have g2 : decide (0 ≤ k) = true := decide_eq_true hk0
  have g3 : decide (k < (v.cross.2.1 : Int)) = true := decide_eq_true hk1
  have HP : Hid (plB k f.cross.length = true) := Lib.hid (by unfold plB; rw [HX.out]; simp; omega)
  have HV : Hid (rgL f ⟨#[102, 108, 97, 103]⟩ 0 k = true) := Lib.hid (by rw [HE.out, HP.out]; rfl)
  unfold feqV flatV sl3
  go_enter Try.func26, Try.ntmps26
  go_wp2
  go_ret
  exact ⟨by rw [HV.out]; rfl, ((Below.refl _ _).alloc (Nat.le_refl _) _).alloc (by simp) _⟩
theorem rg_2 (f : FlatM) (n : Nat) (k : Int) : rgL f (bs [109, 101, 109]) n k = ((n == 0) && plB k f.mems.length && wiB ((f.mems[k.toNat]?.map MemM.resets).getD []) f.names.length) := rfl

set_option maxHeartbeats 1000000 in
theorem ri_2 (q : FEqM) (a m d : Option Addr × Nat × Nat) (v : FlatV) (f : FlatM) (B : Nat) (w : World) (hm : a.2.1 ≤ maxLen) (hF : FlatIs w B v f) (hB : B ≤ w.heap.size) (h : q.op = bs [109, 101, 109]) : Calls Try.prog 26 #[flatV v, feqV q a m d] w fun e w' => e = .returned (.bool (rgL f q.op a.2.1 q.k)) ∧ Below w.heap.size w w' := by
  obtain ⟨var, op, args, k, lit, guard⟩ := q
  obtain ⟨A, n, c⟩ := a
  unfold maxLen at hm
  simp only at hm h
  have HE := Lib.hid (rg_2 f n k)
  have HN := Lib.hid hF.names.1
  have HI := Lib.hid hF.ins.1
  have HM := Lib.hid hF.mems.1
  have HC := Lib.hid hF.conts.1
  have HX := Lib.hid hF.cross.1
  have hmI := hF.ins.len_le
  have hmM := hF.mems.len_le
  have hmC := hF.conts.len_le
  have hmX := hF.cross.len_le
  have hmN := hF.names.len_le
  have HBB := Lib.hid hB
  have HF := Lib.hid hF; clear hF hB
  unfold maxLen at hmI hmM hmC hmX hmN
  subst h
  unfold bs at HE ⊢
  by_cases hn : n = 0
  rotate_left
  · have HV : Hid (rgL f ⟨#[109, 101, 109]⟩ n k = false) := Lib.hid (by rw [HE.out, beq_eq_false_iff_ne.2 hn]; rfl)
    have g1 : ((n : Int) == 0) = false := by rw [beq_eq_false_iff_ne]; omega
    unfold feqV flatV sl3
    go_enter Try.func26, Try.ntmps26
    go_wp2
    go_quiet (fail)
    go_wp2
    go_ret
    exact ⟨by rw [HV.out]; rfl, by first | exact ((Below.refl _ _).alloc (Nat.le_refl _) _).alloc (by simp) _ | exact below_drewN (((Below.refl _ _).alloc (Nat.le_refl _) _).alloc (by simp) _)⟩
  subst hn
  by_cases hk0 : 0 ≤ k
  rotate_left
  · have HV : Hid (rgL f ⟨#[109, 101, 109]⟩ 0 k = false) := Lib.hid (by rw [HE.out, plB_false (.inl (by omega))]; simp)
    have hk : k < 0 := by omega
    have g2 : decide (0 ≤ k) = false := by rw [decide_eq_false_iff_not]; omega
    clear hk0
    unfold feqV flatV sl3
    go_enter Try.func26, Try.ntmps26
    go_wp2
    go_quiet (fail)
    go_wp2
    go_ret
    exact ⟨by rw [HV.out]; rfl, by first | exact ((Below.refl _ _).alloc (Nat.le_refl _) _).alloc (by simp) _ | exact below_drewN (((Below.refl _ _).alloc (Nat.le_refl _) _).alloc (by simp) _)⟩
  by_cases hk1 : k < (v.mems.2.1 : Int)
  rotate_left
  · have HV : Hid (rgL f ⟨#[109, 101, 109]⟩ 0 k = false) := Lib.hid (by rw [HE.out, plB_false (.inr (by rw [HM.out]; omega))]; simp)
    have hk : (v.mems.2.1 : Int) ≤ k := by omega
    have g3 : decide (k < (v.mems.2.1 : Int)) = false := by rw [decide_eq_false_iff_not]; omega
    clear hk1
    unfold feqV flatV sl3
    go_enter Try.func26, Try.ntmps26
    go_wp2
    go_quiet (fail)
    go_wp2
    go_ret
    exact ⟨by rw [HV.out]; rfl, by first | exact ((Below.refl _ _).alloc (Nat.le_refl _) _).alloc (by simp) _ | exact below_drewN (((Below.refl _ _).alloc (Nat.le_refl _) _).alloc (by simp) _)⟩
  have g2 : decide (0 ≤ k) = true := decide_eq_true hk0
  have g3 : decide (k < (v.mems.2.1 : Int)) = true := decide_eq_true hk1
  have HP : Hid (plB k f.mems.length = true) := Lib.hid (by unfold plB; rw [HM.out]; simp; omega)
  obtain ⟨j, rfl⟩ : ∃ j : Nat, k = (j : Int) := ⟨k.toNat, by omega⟩
  have hj : j < v.mems.2.1 := by omega
  have HBW := Lib.hid (show Below w.heap.size w ((w.alloc (.cells (fvs v) 29)).alloc (.cells (qvs ⟨var, ⟨#[109, 101, 109]⟩, args, (j : Int), lit, guard⟩ (A, 0, c) m d) 52)) from ((Below.refl _ _).alloc (Nat.le_refl _) _).alloc (by simp) _)
  obtain ⟨x, hx⟩ := HF.out.mems.ex hj
  obtain ⟨b, off, ha, hlb, hat⟩ := HF.out.mems.at_ hx
  obtain ⟨A3, L3, C3, p3, q3⟩ := hat.resets
  have hlen3 := q3.len_le
  have HR3 := Lib.hid (q3.below (HBW.out.mono HBB.out))
  have hbw : b < w.heap.size := Nat.lt_of_lt_of_le hlb HBB.out
  have HV : Hid (rgL f ⟨#[109, 101, 109]⟩ 0 (j : Int) = wiB x.resets v.names.2.1) := Lib.hid (by rw [HE.out, HP.out, HN.out]; simp [hx])
  clear hx hat q3
  unfold fvs qvs at HR3
  rw [ha] at HR3
  unfold feqV flatV sl3
  rw [ha]
  clear ha HBW
  go_enter Try.func26, Try.ntmps26
  go_wp2
  go_quiet ((go_at_call 25; exact Calls.quiet_of_same (within_q A3 L3 C3 B x.resets v.names.2.1 _ _ HR3.out)))
  go_wp2
  go_ret
  exact ⟨by rw [HV.out]; rfl, by first | exact ((Below.refl _ _).alloc (Nat.le_refl _) _).alloc (by simp) _ | exact below_drewN (((Below.refl _ _).alloc (Nat.le_refl _) _).alloc (by simp) _)⟩
theorem rg_3 (f : FlatM) (n : Nat) (k : Int) : rgL f (bs [99, 111, 110, 116]) n k = ((n == 0) && plB k f.conts.length && wiB ((f.conts[k.toNat]?.map ContM.resets).getD []) f.names.length) := rfl

set_option maxHeartbeats 1000000 in
theorem ri_3 (q : FEqM) (a m d : Option Addr × Nat × Nat) (v : FlatV) (f : FlatM) (B : Nat) (w : World) (hm : a.2.1 ≤ maxLen) (hF : FlatIs w B v f) (hB : B ≤ w.heap.size) (h : q.op = bs [99, 111, 110, 116]) : Calls Try.prog 26 #[flatV v, feqV q a m d] w fun e w' => e = .returned (.bool (rgL f q.op a.2.1 q.k)) ∧ Below w.heap.size w w' := by
  obtain ⟨var, op, args, k, lit, guard⟩ := q
  obtain ⟨A, n, c⟩ := a
  unfold maxLen at hm
  simp only at hm h
  have HE := Lib.hid (rg_3 f n k)
  have HN := Lib.hid hF.names.1
  have HI := Lib.hid hF.ins.1
  have HM := Lib.hid hF.mems.1
  have HC := Lib.hid hF.conts.1
  have HX := Lib.hid hF.cross.1
  have hmI := hF.ins.len_le
  have hmM := hF.mems.len_le
  have hmC := hF.conts.len_le
  have hmX := hF.cross.len_le
  have hmN := hF.names.len_le
  have HBB := Lib.hid hB
  have HF := Lib.hid hF; clear hF hB
  unfold maxLen at hmI hmM hmC hmX hmN
  subst h
  unfold bs at HE ⊢
  by_cases hn : n = 0
  rotate_left
  · have HV : Hid (rgL f ⟨#[99, 111, 110, 116]⟩ n k = false) := Lib.hid (by rw [HE.out, beq_eq_false_iff_ne.2 hn]; rfl)
    have g1 : ((n : Int) == 0) = false := by rw [beq_eq_false_iff_ne]; omega
    unfold feqV flatV sl3
    go_enter Try.func26, Try.ntmps26
    go_wp2
    go_quiet (fail)
    go_wp2
    go_ret
    exact ⟨by rw [HV.out]; rfl, by first | exact ((Below.refl _ _).alloc (Nat.le_refl _) _).alloc (by simp) _ | exact below_drewN (((Below.refl _ _).alloc (Nat.le_refl _) _).alloc (by simp) _)⟩
  subst hn
  by_cases hk0 : 0 ≤ k
  rotate_left
  · have HV : Hid (rgL f ⟨#[99, 111, 110, 116]⟩ 0 k = false) := Lib.hid (by rw [HE.out, plB_false (.inl (by omega))]; simp)
    have hk : k < 0 := by omega
    have g2 : decide (0 ≤ k) = false := by rw [decide_eq_false_iff_not]; omega
    clear hk0
    unfold feqV flatV sl3
    go_enter Try.func26, Try.ntmps26
    go_wp2
    go_quiet (fail)
    go_wp2
    go_ret
    exact ⟨by rw [HV.out]; rfl, by first | exact ((Below.refl _ _).alloc (Nat.le_refl _) _).alloc (by simp) _ | exact below_drewN (((Below.refl _ _).alloc (Nat.le_refl _) _).alloc (by simp) _)⟩
  by_cases hk1 : k < (v.conts.2.1 : Int)
  rotate_left
  · have HV : Hid (rgL f ⟨#[99, 111, 110, 116]⟩ 0 k = false) := Lib.hid (by rw [HE.out, plB_false (.inr (by rw [HC.out]; omega))]; simp)
    have hk : (v.conts.2.1 : Int) ≤ k := by omega
    have g3 : decide (k < (v.conts.2.1 : Int)) = false := by rw [decide_eq_false_iff_not]; omega
    clear hk1
    unfold feqV flatV sl3
    go_enter Try.func26, Try.ntmps26
    go_wp2
    go_quiet (fail)
    go_wp2
    go_ret
    exact ⟨by rw [HV.out]; rfl, by first | exact ((Below.refl _ _).alloc (Nat.le_refl _) _).alloc (by simp) _ | exact below_drewN (((Below.refl _ _).alloc (Nat.le_refl _) _).alloc (by simp) _)⟩
  have g2 : decide (0 ≤ k) = true := decide_eq_true hk0
  have g3 : decide (k < (v.conts.2.1 : Int)) = true := decide_eq_true hk1
  have HP : Hid (plB k f.conts.length = true) := Lib.hid (by unfold plB; rw [HC.out]; simp; omega)
  obtain ⟨j, rfl⟩ : ∃ j : Nat, k = (j : Int) := ⟨k.toNat, by omega⟩
  have hj : j < v.conts.2.1 := by omega
  have HBW := Lib.hid (show Below w.heap.size w ((w.alloc (.cells (fvs v) 29)).alloc (.cells (qvs ⟨var, ⟨#[99, 111, 110, 116]⟩, args, (j : Int), lit, guard⟩ (A, 0, c) m d) 52)) from ((Below.refl _ _).alloc (Nat.le_refl _) _).alloc (by simp) _)
  obtain ⟨x, hx⟩ := HF.out.conts.ex hj
  obtain ⟨b, off, ha, hlb, hat⟩ := HF.out.conts.at_ hx
  obtain ⟨A3, L3, C3, p3, q3⟩ := hat.resets
  have hlen3 := q3.len_le
  have HR3 := Lib.hid (q3.below (HBW.out.mono HBB.out))
  have hbw : b < w.heap.size := Nat.lt_of_lt_of_le hlb HBB.out
  have HV : Hid (rgL f ⟨#[99, 111, 110, 116]⟩ 0 (j : Int) = wiB x.resets v.names.2.1) := Lib.hid (by rw [HE.out, HP.out, HN.out]; simp [hx])
  clear hx hat q3
  unfold fvs qvs at HR3
  rw [ha] at HR3
  unfold feqV flatV sl3
  rw [ha]
  clear ha HBW
  go_enter Try.func26, Try.ntmps26
  go_wp2
  go_quiet ((go_at_call 25; exact Calls.quiet_of_same (within_q A3 L3 C3 B x.resets v.names.2.1 _ _ HR3.out)))
  go_wp2
  go_ret
  exact ⟨by rw [HV.out]; rfl, by first | exact ((Below.refl _ _).alloc (Nat.le_refl _) _).alloc (by simp) _ | exact below_drewN (((Below.refl _ _).alloc (Nat.le_refl _) _).alloc (by simp) _)⟩

theorem right_t (q : FEqM) (a m d : Option Addr × Nat × Nat) (v : FlatV) (f : FlatM) (B : Nat) (w : World) (hm : a.2.1 ≤ maxLen) (hF : FlatIs w B v f) (hB : B ≤ w.heap.size) : Calls Try.prog 26 #[flatV v, feqV q a m d] w fun e w' => e = .returned (.bool (rgL f q.op a.2.1 q.k)) ∧ Below w.heap.size w w' := by
  by_cases h0 : q.op = bs [108, 105, 116]
  · exact ri_0 q a m d v f B w hm hF hB h0
  by_cases h1 : q.op = bs [105, 110]
  · exact ri_1 q a m d v f B w hm hF hB h1
  by_cases h2 : q.op = bs [109, 101, 109]
  · exact ri_2 q a m d v f B w hm hF hB h2
  by_cases h3 : q.op = bs [99, 111, 110, 116]
  · exact ri_3 q a m d v f B w hm hF hB h3
  by_cases h4 : q.op = bs [102, 108, 97, 103]
  · exact ri_4 q a m d v f B w hm hF hB h4
  by_cases h5 : q.op = bs [99, 111, 112, 121]
  · exact ri_5 q a m d v f B w hm hF hB h5
  by_cases h6 : q.op = bs [110, 101, 103]
  · exact ri_6 q a m d v f B w hm hF hB h6
  by_cases h7 : q.op = bs [110, 111, 116]
  · exact ri_7 q a m d v f B w hm hF hB h7
  by_cases h8 : q.op = bs [102, 108, 111, 111, 114]
  · exact ri_8 q a m d v f B w hm hF hB h8
  by_cases h9 : q.op = bs [114, 97, 116]
  · exact ri_9 q a m d v f B w hm hF hB h9
  by_cases h10 : q.op = bs [103, 97, 110, 100]
  · exact ri_10 q a m d v f B w hm hF hB h10
  by_cases h11 : q.op = bs [109, 114, 103]
  · exact ri_11 q a m d v f B w hm hF hB h11
  by_cases h12 : q.op = bs [43]
  · exact ri_12 q a m d v f B w hm hF hB h12
  by_cases h13 : q.op = bs [45]
  · exact ri_13 q a m d v f B w hm hF hB h13
  by_cases h14 : q.op = bs [42]
  · exact ri_14 q a m d v f B w hm hF hB h14
  by_cases h15 : q.op = bs [47]
  · exact ri_15 q a m d v f B w hm hF hB h15
  by_cases h16 : q.op = bs [100, 105, 118]
  · exact ri_16 q a m d v f B w hm hF hB h16
  by_cases h17 : q.op = bs [109, 111, 100]
  · exact ri_17 q a m d v f B w hm hF hB h17
  by_cases h18 : q.op = bs [60]
  · exact ri_18 q a m d v f B w hm hF hB h18
  by_cases h19 : q.op = bs [60, 61]
  · exact ri_19 q a m d v f B w hm hF hB h19
  by_cases h20 : q.op = bs [62]
  · exact ri_20 q a m d v f B w hm hF hB h20
  by_cases h21 : q.op = bs [62, 61]
  · exact ri_21 q a m d v f B w hm hF hB h21
  by_cases h22 : q.op = bs [61, 61]
  · exact ri_22 q a m d v f B w hm hF hB h22
  by_cases h23 : q.op = bs [33, 61]
  · exact ri_23 q a m d v f B w hm hF hB h23
  by_cases h24 : q.op = bs [97, 110, 100]
  · exact ri_24 q a m d v f B w hm hF hB h24
  by_cases h25 : q.op = bs [111, 114]
  · exact ri_25 q a m d v f B w hm hF hB h25
  by_cases h26 : q.op = bs [115, 101, 108]
  · exact ri_26 q a m d v f B w hm hF hB h26
  exact ri_none q a m d v f B w hm hF hB h0 h1 h2 h3 h4 h5 h6 h7 h8 h9 h10 h11 h12 h13 h14 h15 h16 h17 h18 h19 h20 h21 h22 h23 h24 h25 h26
theorem right_b (q : FEqM) (a m d : Option Addr × Nat × Nat) (v : FlatV) (f : FlatM) (B : Nat) (b : Bool) (w : World) (hm : a.2.1 ≤ maxLen) (hF : FlatIs w B v f) (hB : B ≤ w.heap.size) (h : rgL f q.op a.2.1 q.k = b) :
    Calls Try.prog 26 #[flatV v, feqV q a m d] w fun e w' => e = .returned (.bool b) ∧ Below w.heap.size w w' := by
  subst h; exact right_t q a m d v f B w hm hF hB

end Go.Proofs.Ytpcpbpinhdbjiaa

namespace Go.Proofs.Ytpcpbpinhdbjiaa
set_option linter.unusedVariables false
set_option linter.unusedSimpArgs false
set_option maxRecDepth 100000
open Go.RowKit

theorem within2 (a : Option Addr) (n c B : Nat) (xs : List Int) (b : Bool) (w : World) (hr : IRow w B a n c xs) (h : wiB xs 2 = b) :
    Calls Try.prog 25 #[.slice a n c, .int .i64 2] w fun e w' => e = .returned (.bool b) ∧ w = w' := within_at a n c B xs 2 b w hr h
/-- what the answer asks of a crossing's operations, one at least -/
def asB (f : FlatM) (l : List COpM) : Bool := asksB f 0 l && decide (0 < l.length)
theorem asB_no {f : FlatM} {l : List COpM} (h : asksB f 0 l = false) : asB f l = false := by unfold asB; rw [h]; rfl

set_option maxHeartbeats 8000000 in
theorem asks_t (l : List COpM) (a : Option Addr) (n c : Nat) (v : FlatV) (f : FlatM) (B : Nat) (w : World) (hF : FlatIs w B v f) (hr : SRow 2 COpAt w B a n c l) (hB : B ≤ w.heap.size) :
    Calls Try.prog 27 #[flatV v, .slice a n c, .int .i64 (v.names.2.1 : Int)] w fun e w' => e = .returned (.bool (asB f l)) ∧ Below w.heap.size w w' := by
  have hm := hr.len_le
  have hmC := hF.conts.len_le
  have HN := Lib.hid hF.names.1
  have HC := Lib.hid hF.conts.1
  have HL := Lib.hid hr.1
  have HB0 := Lib.hid (show Below w.heap.size w (w.alloc (.cells (fvs v) 29)) from (Below.refl _ _).alloc (Nat.le_refl _) _)
  have HK := Lib.hid (Blk.new w 29 (fvs v))
  have HR := Lib.hid (show SRow 2 COpAt (w.alloc (.cells (fvs v) 29)) B a n c l from hr.keep fun _ _ _ q1 q2 => q2.keep q1 fun _ hp => (HB0.out.mono hB).cell hp)
  have HBB := Lib.hid hB
  clear hF hr hB
  unfold maxLen at hm hmC
  unfold flatV sl3
  go_enter Try.func27, Try.ntmps27
  go_wp2
  go_loop [7] (fun t => ∃ k : Nat, k ≤ n ∧ t = .int .i64 k ∧ Hid (asksB f 0 (l.take k) = true)) (fun t => n - (intOf t).toNat)
  case atStart => exact ⟨0, Nat.zero_le _, rfl, Lib.hid rfl⟩
  case round =>
    obtain ⟨k, hk, rfl, hz⟩ := hrel
    by_cases hlt : k < n
    · obtain ⟨W, hW⟩ : ∃ W, W = w.alloc (.cells (fvs v) 29) := ⟨_, rfl⟩
      have hbl0 : W.heap.size = w.heap.size + 1 := by rw [hW]; simp
      rw [← hW] at HK HR HB0
      unfold fvs at hW
      rw [← hW]
      have HB1 : Hid (Below w.heap.size w W) := HB0
      have HW := Lib.hid hW; clear hW
      obtain ⟨⟨op, args⟩, hx⟩ := HR.out.ex hlt
      obtain ⟨b, off, ha, hlb, hat⟩ := HR.out.at_ hx
      obtain ⟨⟨A, n', c'⟩, hrow, e0, e1⟩ := hat.cells
      obtain ⟨f0, f1, f2, f3, f4, f5, f6, f7⟩ := HK.out.flat
      have hm' := hrow.len_le
      unfold maxLen at hm'
      have HRW := Lib.hid hrow
      have HRL := Lib.hid hrow.1
      have hcc := hrow.2.1
      have hcx : c' ≤ 9223372036854775807 := by have := hrow.2.2.1; unfold maxLen at this; omega
      have HX := Lib.hid hx
      have HAK : Hid (askB f k ⟨op, args⟩ = askL op args k v.names.2.1 v.conts.2.1) := Lib.hid (by unfold askB; rw [HN.out, HC.out])
      rw [ha]
      simp only at e0 e1 hm' hcc hcx
      clear hat hrow hx ha HB0 hbl0
      by_cases h0 : op = bs [118, 97, 114]
      · subst h0
        unfold bs at e0
        have HE := Lib.hid (ask_0 args k v.names.2.1 v.conts.2.1)
        by_cases hn : n' = 1
        rotate_left
        · have g1 : ((n' : Int) == 1) = false := by rw [beq_eq_false_iff_ne]; omega
          have HV : Hid (askL (bs [118, 97, 114]) args k v.names.2.1 v.conts.2.1 = false) := Lib.hid (by rw [HE.out, HRL.out, beq_eq_false_iff_ne.2 hn]; rfl)
          clear hn
          go_wp2
          go_ret
          exact ⟨ret_bool' (asB_no (asksB_no HX.out (by rw [HAK.out, HV.out]))).symm, HB1.out⟩
        subst hn
        cases hw : wiB args v.names.2.1 with
        | false =>
          have HWI := Lib.hid hw; clear hw
          have HV : Hid (askL (bs [118, 97, 114]) args k v.names.2.1 v.conts.2.1 = false) := Lib.hid (by rw [HE.out, HRL.out, HWI.out]; rfl)
          go_wp2_with (go_at_call 25; refine (within_at A 1 c' B args v.names.2.1 false _ HRW.out HWI.out).mono ?_; rintro e w' ⟨rfl, rfl⟩)
          go_ret
          exact ⟨ret_bool' (asB_no (asksB_no HX.out (by rw [HAK.out, HV.out]))).symm, HB1.out⟩
        | true =>
          have HWI := Lib.hid hw; clear hw
          have HV : Hid (askL (bs [118, 97, 114]) args k v.names.2.1 v.conts.2.1 = true) := Lib.hid (by rw [HE.out, HRL.out, HWI.out]; rfl)
          go_wp2_with (go_at_call 25; refine (within_at A 1 c' B args v.names.2.1 true _ HRW.out HWI.out).mono ?_; rintro e w' ⟨rfl, rfl⟩)
          go_round
          case rel => exact ⟨k + 1, by omega, by go_num, Lib.hid (by rw [asksB_succ HX.out, hz.out, HAK.out, HV.out]; rfl)⟩
          case measure => simp [intOf]; omega
      by_cases h1 : op = bs [99, 111, 110, 116]
      · subst h1
        unfold bs at e0
        have HE := Lib.hid (ask_1 args k v.names.2.1 v.conts.2.1)
        by_cases hn : n' = 1
        rotate_left
        · have g1 : ((n' : Int) == 1) = false := by rw [beq_eq_false_iff_ne]; omega
          have HV : Hid (askL (bs [99, 111, 110, 116]) args k v.names.2.1 v.conts.2.1 = false) := Lib.hid (by rw [HE.out, HRL.out, beq_eq_false_iff_ne.2 hn]; rfl)
          clear hn
          go_wp2
          go_ret
          exact ⟨ret_bool' (asB_no (asksB_no HX.out (by rw [HAK.out, HV.out]))).symm, HB1.out⟩
        subst hn
        cases hw : wiB args v.conts.2.1 with
        | false =>
          have HWI := Lib.hid hw; clear hw
          have HV : Hid (askL (bs [99, 111, 110, 116]) args k v.names.2.1 v.conts.2.1 = false) := Lib.hid (by rw [HE.out, HRL.out, HWI.out]; rfl)
          go_wp2_with (go_at_call 25; refine (within_at A 1 c' B args v.conts.2.1 false _ HRW.out HWI.out).mono ?_; rintro e w' ⟨rfl, rfl⟩)
          go_ret
          exact ⟨ret_bool' (asB_no (asksB_no HX.out (by rw [HAK.out, HV.out]))).symm, HB1.out⟩
        | true =>
          have HWI := Lib.hid hw; clear hw
          have HV : Hid (askL (bs [99, 111, 110, 116]) args k v.names.2.1 v.conts.2.1 = true) := Lib.hid (by rw [HE.out, HRL.out, HWI.out]; rfl)
          go_wp2_with (go_at_call 25; refine (within_at A 1 c' B args v.conts.2.1 true _ HRW.out HWI.out).mono ?_; rintro e w' ⟨rfl, rfl⟩)
          go_round
          case rel => exact ⟨k + 1, by omega, by go_num, Lib.hid (by rw [asksB_succ HX.out, hz.out, HAK.out, HV.out]; rfl)⟩
          case measure => simp [intOf]; omega
      by_cases h2 : op = bs [110, 101, 103]
      · subst h2
        unfold bs at e0
        have HE := Lib.hid (ask_2 args k v.names.2.1 v.conts.2.1)
        by_cases hn : n' = 1
        rotate_left
        · have g1 : ((n' : Int) == 1) = false := by rw [beq_eq_false_iff_ne]; omega
          have HV : Hid (askL (bs [110, 101, 103]) args k v.names.2.1 v.conts.2.1 = false) := Lib.hid (by rw [HE.out, HRL.out, beq_eq_false_iff_ne.2 hn]; rfl)
          clear hn
          go_wp2
          go_ret
          exact ⟨ret_bool' (asB_no (asksB_no HX.out (by rw [HAK.out, HV.out]))).symm, HB1.out⟩
        subst hn
        cases hw : wiB args k with
        | false =>
          have HWI := Lib.hid hw; clear hw
          have HV : Hid (askL (bs [110, 101, 103]) args k v.names.2.1 v.conts.2.1 = false) := Lib.hid (by rw [HE.out, HRL.out, HWI.out]; rfl)
          go_wp2_with (go_at_call 25; refine (within_at A 1 c' B args k false _ HRW.out HWI.out).mono ?_; rintro e w' ⟨rfl, rfl⟩)
          go_ret
          exact ⟨ret_bool' (asB_no (asksB_no HX.out (by rw [HAK.out, HV.out]))).symm, HB1.out⟩
        | true =>
          have HWI := Lib.hid hw; clear hw
          have HV : Hid (askL (bs [110, 101, 103]) args k v.names.2.1 v.conts.2.1 = true) := Lib.hid (by rw [HE.out, HRL.out, HWI.out]; rfl)
          go_wp2_with (go_at_call 25; refine (within_at A 1 c' B args k true _ HRW.out HWI.out).mono ?_; rintro e w' ⟨rfl, rfl⟩)
          go_round
          case rel => exact ⟨k + 1, by omega, by go_num, Lib.hid (by rw [asksB_succ HX.out, hz.out, HAK.out, HV.out]; rfl)⟩
          case measure => simp [intOf]; omega
      by_cases h3 : op = bs [43]
      · subst h3
        unfold bs at e0
        have HE := Lib.hid (ask_3 args k v.names.2.1 v.conts.2.1)
        by_cases hn : n' = 2
        rotate_left
        · have g1 : ((n' : Int) == 2) = false := by rw [beq_eq_false_iff_ne]; omega
          have HV : Hid (askL (bs [43]) args k v.names.2.1 v.conts.2.1 = false) := Lib.hid (by rw [HE.out, HRL.out, beq_eq_false_iff_ne.2 hn]; rfl)
          clear hn
          go_wp2
          go_ret
          exact ⟨ret_bool' (asB_no (asksB_no HX.out (by rw [HAK.out, HV.out]))).symm, HB1.out⟩
        subst hn
        cases hw : wiB args k with
        | false =>
          have HWI := Lib.hid hw; clear hw
          have HV : Hid (askL (bs [43]) args k v.names.2.1 v.conts.2.1 = false) := Lib.hid (by rw [HE.out, HRL.out, HWI.out]; rfl)
          go_wp2_with (go_at_call 25; refine (within_at A 2 c' B args k false _ HRW.out HWI.out).mono ?_; rintro e w' ⟨rfl, rfl⟩)
          go_ret
          exact ⟨ret_bool' (asB_no (asksB_no HX.out (by rw [HAK.out, HV.out]))).symm, HB1.out⟩
        | true =>
          have HWI := Lib.hid hw; clear hw
          have HV : Hid (askL (bs [43]) args k v.names.2.1 v.conts.2.1 = true) := Lib.hid (by rw [HE.out, HRL.out, HWI.out]; rfl)
          go_wp2_with (go_at_call 25; refine (within_at A 2 c' B args k true _ HRW.out HWI.out).mono ?_; rintro e w' ⟨rfl, rfl⟩)
          go_round
          case rel => exact ⟨k + 1, by omega, by go_num, Lib.hid (by rw [asksB_succ HX.out, hz.out, HAK.out, HV.out]; rfl)⟩
          case measure => simp [intOf]; omega
      by_cases h4 : op = bs [45]
      · subst h4
        unfold bs at e0
        have HE := Lib.hid (ask_4 args k v.names.2.1 v.conts.2.1)
        by_cases hn : n' = 2
        rotate_left
        · have g1 : ((n' : Int) == 2) = false := by rw [beq_eq_false_iff_ne]; omega
          have HV : Hid (askL (bs [45]) args k v.names.2.1 v.conts.2.1 = false) := Lib.hid (by rw [HE.out, HRL.out, beq_eq_false_iff_ne.2 hn]; rfl)
          clear hn
          go_wp2
          go_ret
          exact ⟨ret_bool' (asB_no (asksB_no HX.out (by rw [HAK.out, HV.out]))).symm, HB1.out⟩
        subst hn
        cases hw : wiB args k with
        | false =>
          have HWI := Lib.hid hw; clear hw
          have HV : Hid (askL (bs [45]) args k v.names.2.1 v.conts.2.1 = false) := Lib.hid (by rw [HE.out, HRL.out, HWI.out]; rfl)
          go_wp2_with (go_at_call 25; refine (within_at A 2 c' B args k false _ HRW.out HWI.out).mono ?_; rintro e w' ⟨rfl, rfl⟩)
          go_ret
          exact ⟨ret_bool' (asB_no (asksB_no HX.out (by rw [HAK.out, HV.out]))).symm, HB1.out⟩
        | true =>
          have HWI := Lib.hid hw; clear hw
          have HV : Hid (askL (bs [45]) args k v.names.2.1 v.conts.2.1 = true) := Lib.hid (by rw [HE.out, HRL.out, HWI.out]; rfl)
          go_wp2_with (go_at_call 25; refine (within_at A 2 c' B args k true _ HRW.out HWI.out).mono ?_; rintro e w' ⟨rfl, rfl⟩)
          go_round
          case rel => exact ⟨k + 1, by omega, by go_num, Lib.hid (by rw [asksB_succ HX.out, hz.out, HAK.out, HV.out]; rfl)⟩
          case measure => simp [intOf]; omega
      by_cases h5 : op = bs [47]
      · subst h5
        unfold bs at e0
        have HE := Lib.hid (ask_5 args k v.names.2.1 v.conts.2.1)
        by_cases hn : n' = 2
        rotate_left
        · have g1 : ((n' : Int) == 2) = false := by rw [beq_eq_false_iff_ne]; omega
          have HV : Hid (askL (bs [47]) args k v.names.2.1 v.conts.2.1 = false) := Lib.hid (by rw [HE.out, HRL.out, beq_eq_false_iff_ne.2 hn]; rfl)
          clear hn
          go_wp2
          go_ret
          exact ⟨ret_bool' (asB_no (asksB_no HX.out (by rw [HAK.out, HV.out]))).symm, HB1.out⟩
        subst hn
        cases hw : wiB args k with
        | false =>
          have HWI := Lib.hid hw; clear hw
          have HV : Hid (askL (bs [47]) args k v.names.2.1 v.conts.2.1 = false) := Lib.hid (by rw [HE.out, HRL.out, HWI.out]; rfl)
          go_wp2_with (go_at_call 25; refine (within_at A 2 c' B args k false _ HRW.out HWI.out).mono ?_; rintro e w' ⟨rfl, rfl⟩)
          go_ret
          exact ⟨ret_bool' (asB_no (asksB_no HX.out (by rw [HAK.out, HV.out]))).symm, HB1.out⟩
        | true =>
          have HWI := Lib.hid hw; clear hw
          have HV : Hid (askL (bs [47]) args k v.names.2.1 v.conts.2.1 = true) := Lib.hid (by rw [HE.out, HRL.out, HWI.out]; rfl)
          go_wp2_with (go_at_call 25; refine (within_at A 2 c' B args k true _ HRW.out HWI.out).mono ?_; rintro e w' ⟨rfl, rfl⟩)
          go_round
          case rel => exact ⟨k + 1, by omega, by go_num, Lib.hid (by rw [asksB_succ HX.out, hz.out, HAK.out, HV.out]; rfl)⟩
          case measure => simp [intOf]; omega
      by_cases h6 : op = bs [42]
      · subst h6
        unfold bs at e0
        have HE := Lib.hid (ask_6 args k v.names.2.1 v.conts.2.1)
        by_cases hn : n' = 3
        rotate_left
        · have g1 : ((n' : Int) == 3) = false := by rw [beq_eq_false_iff_ne]; omega
          have HV : Hid (askL (bs [42]) args k v.names.2.1 v.conts.2.1 = false) := Lib.hid (by rw [HE.out, HRL.out, beq_eq_false_iff_ne.2 hn]; rfl)
          clear hn
          go_wp2
          go_ret
          exact ⟨ret_bool' (asB_no (asksB_no HX.out (by rw [HAK.out, HV.out]))).symm, HB1.out⟩
        subst hn
        obtain ⟨x, y, z, rfl⟩ := three_int HRL.out
        obtain ⟨b', off', ha', hb', hcell⟩ := HRW.out.at_ (i := 0) (show 0 < 3 by decide)
        simp only at ha'
        subst ha'
        clear hcell
        have hc1 : ¬ c' = 1 := by omega
        have hc2 : ¬ c' = 2 := by omega
        have HR1 := Lib.hid (HRW.out.take 2 (show 2 ≤ 3 by decide))
        have HR2 := Lib.hid (HRW.out.drop 2 (show 2 < 3 by decide))
        cases hw : wiB [x, y] k with
        | false =>
          have HWI := Lib.hid hw; clear hw
          have HV : Hid (askL (bs [42]) [x, y, z] k v.names.2.1 v.conts.2.1 = false) := Lib.hid (by rw [HE.out]; show (_ && (wiB [x, y] k && _)) = _; rw [HWI.out]; simp)
          go_wp2_with (go_at_call 25; refine (within_at (some ⟨b', off', none⟩) 2 c' B [x, y] k false _ HR1.out HWI.out).mono ?_; rintro e w' ⟨rfl, rfl⟩)
          go_ret
          exact ⟨ret_bool' (asB_no (asksB_no HX.out (by rw [HAK.out, HV.out]))).symm, HB1.out⟩
        | true =>
          have HWI := Lib.hid hw; clear hw
          cases hw : wiB [z] 2 with
          | false =>
            have HW2 := Lib.hid hw; clear hw
            have HV : Hid (askL (bs [42]) [x, y, z] k v.names.2.1 v.conts.2.1 = false) := Lib.hid (by rw [HE.out]; show (_ && (wiB [x, y] k && wiB [z] 2)) = _; rw [HWI.out, HW2.out]; simp)
            go_wp2_with (first | (have _t := HWI; go_at_call 25; refine (within_at (some ⟨b', off', none⟩) 2 c' B [x, y] k true _ HR1.out HWI.out).mono ?_; rintro e w' ⟨rfl, rfl⟩; clear HWI _t) | (go_at_call 25; refine (within2 (some ⟨b', off' + 2, none⟩) 1 (c' - 2) B [z] false _ HR2.out HW2.out).mono ?_; rintro e w' ⟨rfl, rfl⟩))
            go_ret
            exact ⟨ret_bool' (asB_no (asksB_no HX.out (by rw [HAK.out, HV.out]))).symm, HB1.out⟩
          | true =>
            have HW2 := Lib.hid hw; clear hw
            have HV : Hid (askL (bs [42]) [x, y, z] k v.names.2.1 v.conts.2.1 = true) := Lib.hid (by rw [HE.out]; show (_ && (wiB [x, y] k && wiB [z] 2)) = _; rw [HWI.out, HW2.out]; simp)
            go_wp2_with (first | (have _t := HWI; go_at_call 25; refine (within_at (some ⟨b', off', none⟩) 2 c' B [x, y] k true _ HR1.out HWI.out).mono ?_; rintro e w' ⟨rfl, rfl⟩; clear HWI _t) | (go_at_call 25; refine (within2 (some ⟨b', off' + 2, none⟩) 1 (c' - 2) B [z] true _ HR2.out HW2.out).mono ?_; rintro e w' ⟨rfl, rfl⟩))
            go_round
            case rel => exact ⟨k + 1, by omega, by go_num, Lib.hid (by rw [asksB_succ HX.out, hz.out, HAK.out, HV.out]; rfl)⟩
            case measure => simp [intOf]; omega
      by_cases h7 : op = bs [115, 101, 108]
      · subst h7
        unfold bs at e0
        have HE := Lib.hid (ask_7 args k v.names.2.1 v.conts.2.1)
        by_cases hn : n' = 3
        rotate_left
        · have g1 : ((n' : Int) == 3) = false := by rw [beq_eq_false_iff_ne]; omega
          have HV : Hid (askL (bs [115, 101, 108]) args k v.names.2.1 v.conts.2.1 = false) := Lib.hid (by rw [HE.out, HRL.out, beq_eq_false_iff_ne.2 hn]; rfl)
          clear hn
          go_wp2
          go_ret
          exact ⟨ret_bool' (asB_no (asksB_no HX.out (by rw [HAK.out, HV.out]))).symm, HB1.out⟩
        subst hn
        obtain ⟨x, y, z, rfl⟩ := three_int HRL.out
        obtain ⟨b', off', ha', hb', hcell⟩ := HRW.out.at_ (i := 0) (show 0 < 3 by decide)
        simp only at ha'
        subst ha'
        clear hcell
        have hc1 : ¬ c' = 1 := by omega
        have hc2 : ¬ c' = 2 := by omega
        have HR1 := Lib.hid (HRW.out.take 1 (show 1 ≤ 3 by decide))
        have HR2 := Lib.hid (HRW.out.drop 1 (show 1 < 3 by decide))
        cases hw : wiB [x] v.names.2.1 with
        | false =>
          have HWI := Lib.hid hw; clear hw
          have HV : Hid (askL (bs [115, 101, 108]) [x, y, z] k v.names.2.1 v.conts.2.1 = false) := Lib.hid (by rw [HE.out]; show (_ && (wiB [x] v.names.2.1 && _)) = _; rw [HWI.out]; simp)
          go_wp2_with (go_at_call 25; refine (within_at (some ⟨b', off', none⟩) 1 c' B [x] v.names.2.1 false _ HR1.out HWI.out).mono ?_; rintro e w' ⟨rfl, rfl⟩)
          go_ret
          exact ⟨ret_bool' (asB_no (asksB_no HX.out (by rw [HAK.out, HV.out]))).symm, HB1.out⟩
        | true =>
          have HWI := Lib.hid hw; clear hw
          cases hw : wiB [y, z] k with
          | false =>
            have HW2 := Lib.hid hw; clear hw
            have HV : Hid (askL (bs [115, 101, 108]) [x, y, z] k v.names.2.1 v.conts.2.1 = false) := Lib.hid (by rw [HE.out]; show (_ && (wiB [x] v.names.2.1 && wiB [y, z] k)) = _; rw [HWI.out, HW2.out]; simp)
            go_wp2_with (first | (have _t := HWI; go_at_call 25; refine (within_at (some ⟨b', off', none⟩) 1 c' B [x] v.names.2.1 true _ HR1.out HWI.out).mono ?_; rintro e w' ⟨rfl, rfl⟩; clear HWI _t) | (go_at_call 25; refine (within_at (some ⟨b', off' + 1, none⟩) 2 (c' - 1) B [y, z] k false _ HR2.out HW2.out).mono ?_; rintro e w' ⟨rfl, rfl⟩))
            go_ret
            exact ⟨ret_bool' (asB_no (asksB_no HX.out (by rw [HAK.out, HV.out]))).symm, HB1.out⟩
          | true =>
            have HW2 := Lib.hid hw; clear hw
            have HV : Hid (askL (bs [115, 101, 108]) [x, y, z] k v.names.2.1 v.conts.2.1 = true) := Lib.hid (by rw [HE.out]; show (_ && (wiB [x] v.names.2.1 && wiB [y, z] k)) = _; rw [HWI.out, HW2.out]; simp)
            go_wp2_with (first | (have _t := HWI; go_at_call 25; refine (within_at (some ⟨b', off', none⟩) 1 c' B [x] v.names.2.1 true _ HR1.out HWI.out).mono ?_; rintro e w' ⟨rfl, rfl⟩; clear HWI _t) | (go_at_call 25; refine (within_at (some ⟨b', off' + 1, none⟩) 2 (c' - 1) B [y, z] k true _ HR2.out HW2.out).mono ?_; rintro e w' ⟨rfl, rfl⟩))
            go_round
            case rel => exact ⟨k + 1, by omega, by go_num, Lib.hid (by rw [asksB_succ HX.out, hz.out, HAK.out, HV.out]; rfl)⟩
            case measure => simp [intOf]; omega
      have HV := Lib.hid (ask_no op args k v.names.2.1 v.conts.2.1 h0 h1 h2 h3 h4 h5 h6 h7)
      have g0 := str_no h0; clear h0
      have g1 := str_no h1; clear h1
      have g2 := str_no h2; clear h2
      have g3 := str_no h3; clear h3
      have g4 := str_no h4; clear h4
      have g5 := str_no h5; clear h5
      have g6 := str_no h6; clear h6
      have g7 := str_no h7; clear h7
      go_wp2
      go_ret
      exact ⟨ret_bool' (asB_no (asksB_no HX.out (by rw [HAK.out, HV.out]))).symm, HB1.out⟩
    · have hkn : n = k := by omega
      have HV : Hid (asB f l = decide (0 < l.length)) := Lib.hid (by unfold asB; rw [asksB_end HL.out (by rw [hkn]; exact hz.out)]; rfl)
      by_cases h0 : 0 < n
      · have HV2 : Hid (asB f l = true) := Lib.hid (by rw [HV.out, decide_eq_true_eq, HL.out]; exact h0)
        clear hkn
        go_wp2
        go_ret
        exact ⟨by rw [HV2.out]; first | rfl | (congr 1; simp; omega), HB0.out⟩
      · have HV2 : Hid (asB f l = false) := Lib.hid (by rw [HV.out, decide_eq_false_iff_not, HL.out]; exact h0)
        have h00 : n = 0 := by omega
        subst h00
        clear hkn h0
        go_wp2
        go_ret
        exact ⟨by rw [HV2.out]; rfl, HB0.out⟩
theorem asks_b (l : List COpM) (a : Option Addr) (n c : Nat) (v : FlatV) (f : FlatM) (B : Nat) (b : Bool) (w : World) (hF : FlatIs w B v f) (hr : SRow 2 COpAt w B a n c l) (hB : B ≤ w.heap.size) (h : asB f l = b) :
    Calls Try.prog 27 #[flatV v, .slice a n c, .int .i64 (v.names.2.1 : Int)] w fun e w' => e = .returned (.bool b) ∧ Below w.heap.size w w' := by
  subst h; exact asks_t l a n c v f B w hF hr hB

end Go.Proofs.Ytpcpbpinhdbjiaa
