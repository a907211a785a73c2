/- What shiftUp and shiftDown tell: times, and divided by, a power of two below a limb. -/
import Derived.Test.YtjpjibdcjmjcgaaOff
import Derived.Test.YtjpjibdcjmjcgaaNumsH
namespace Go.Proofs.Ytjpjibdcjmjcgaa
open Go.RowKit Nums
theorem pow_room31 (s : Nat) (hs : s ≤ 31) : 2 ^ s ≤ 2147483648 := Nat.pow_le_pow_right (n := 2) (by omega) hs

theorem up_or (c x s : Nat) (hc : c < 2 ^ s) (hx : x < 4294967296) (hs : s ≤ 31) : bits BinOp.or IntKind.u64 (c : Int) (IntKind.u64.wrap ((x : Int) * 2 ^ s)) = ((c + x * 2 ^ s : Nat) : Int) := by
  have h1 := pow_room31 s hs
  have h2 : x * 2 ^ s ≤ 4294967295 * 2147483648 := Nat.mul_le_mul (by omega) h1
  have e : ((x : Int) * 2 ^ s) = ((x * 2 ^ s : Nat) : Int) := by simp
  have e2 : IntKind.u64.wrap ((x * 2 ^ s : Nat) : Int) = ((x * 2 ^ s : Nat) : Int) := by rw [IntKind.wrap_u64]; omega
  rw [e, e2, u64_or_nat _ _ (by omega) (by omega), Nat.or_comm, nat_join s (x * 2 ^ s) c (Nat.mul_mod_left x (2 ^ s)) hc, Nat.add_comm]

theorem up_step {zs xs : List Nat} {k c x s u c' : Nat} (h : val (zs.take k) + 4294967296 ^ k * c = val (xs.take k) * 2 ^ s) (hk : k < zs.length) (hx : x = xs.getD k 0) (hu : u + 4294967296 * c' = c + x * 2 ^ s) : val ((zs.set k u).take (k + 1)) + 4294967296 ^ (k + 1) * c' = val (xs.take (k + 1)) * 2 ^ s := by
  rw [val_set_take zs k u hk, val_take_next xs, ← hx, Nat.pow_succ, Nat.mul_assoc, Nat.add_mul, ← h, Nat.mul_assoc]
  have e : 4294967296 ^ k * (u + 4294967296 * c') = 4294967296 ^ k * (c + x * 2 ^ s) := by rw [hu]
  simp only [Nat.mul_add] at e
  omega

theorem up_carry {c x s : Nat} (hc : c < 2 ^ s) (hx : x < 4294967296) : (c + x * 2 ^ s) / 4294967296 < 2 ^ s := by
  rw [Nat.div_lt_iff_lt_mul (by omega)]
  have h2 : x * 2 ^ s ≤ 4294967295 * 2 ^ s := Nat.mul_le_mul_right _ (by omega)
  omega

set_option maxHeartbeats 2000000 in
theorem shiftUp_any (a : Option Addr) (n c s : Nat) (xs : List Nat) (w : World) (hr : Row w a n c xs) (hn : n ≤ 100000000) (hs : s ≤ 31) :
    Calls Try.prog 55 #[.slice a n c, .int .i64 (s : Int)] w fun e w' => (∃ (g : Nat) (zs : List Nat), e = .returned (.slice (some ⟨g, 0, none⟩) (n + 1) (n + 1)) ∧ w.heap.size ≤ g ∧ Mem w' g zs ∧ zs.length = n + 1 ∧ Small zs ∧ val zs = val xs * 2 ^ s) ∧ Below w.heap.size w w' := by
  obtain ⟨hl, -, -, -, hsm, b0, o0, hor0, hc0⟩ := hr
  have HL := Lib.hid hl; clear hl
  have HC0 := Lib.hid hc0; clear hc0
  have si : (0 : Int) ≤ (s : Int) := by omega
  have sj : (s : Int) < 64 := by omega
  rcases (show _ ∨ Hid _ from hor0) with rfl | hor0
  all_goals
    go_enter Try.func55, Try.ntmps55
    go_wp2_with (at_make; refine make32 rfl _ rfl _ (n + 1) rfl (by omega) (by omega) ?_)
    intro g w1 hg hmem hbel
    have HG := Lib.hid hmem; clear hmem
    go_wp2
    go_loopw [6, 14] (fun cv t wr => ∃ (k c : Nat) (zs : List Nat), k ≤ n ∧ t = .int .i64 (k : Int) ∧ cv = .int .u64 (c : Int) ∧ c < 4294967296 ∧ Hid (zs.length = n + 1 ∧ Small zs ∧ Mem wr g zs ∧ c < 2 ^ s ∧ val (zs.take k) + 4294967296 ^ k * c = val (xs.take k) * 2 ^ s) ∧ Below w.heap.size w wr) (fun _ t _ => n - (intOf t).toNat)
    case atStart => exact ⟨0, 0, List.replicate (n + 1) 0, Nat.zero_le _, rfl, rfl, by omega, ⟨by simp, by intro x hx; simp at hx; omega, HG.out, Nat.pow_pos (by omega), by simp [val]⟩, hbel⟩
    case round =>
      obtain ⟨k, c, zs, hk, rfl, rfl, hc1, HZ, hbr⟩ := hrel
      by_cases hk0 : k < n
      · first
        | (exfalso; have := hor0.out; omega)
        | (have hcell0 := cells_at HC0.out hbr k hk0
           have hx := getD_lt xs hsm k
           obtain ⟨x, hxe⟩ : ∃ x, x = xs.getD k 0 := ⟨_, rfl⟩
           rw [← hxe] at hcell0 hx
           have HXE := Lib.hid hxe; clear hxe
           have hz := HZ.out.2.2.1.cell k (by rw [HZ.out.1]; omega)
           have hzf := HZ.out.2.2.1.free k
           have hor := up_or c x s HZ.out.2.2.2.1 hx hs
           obtain ⟨v, hv⟩ : ∃ v, v = c + x * 2 ^ s := ⟨_, rfl⟩
           have hvr := up_carry HZ.out.2.2.2.1 hx
           rw [← hv] at hor hvr
           have HVR := Lib.hid hvr; clear hvr
           have HP := Lib.hid (pow_room31 s hs)
           have hv1 : v / 4294967296 < 4294967296 := by have h1 := HVR.out; have h2 := HP.out; omega
           have HV := Lib.hid hv; clear hv
           go_wp2
           go_roundw
           case rel => exact ⟨k + 1, v / 4294967296, zs.set k (v % 4294967296), by omega, by go_num, by go_num, hv1, ⟨by simp [HZ.out.1], small_set HZ.out.2.1 _ _ (Nat.mod_lt _ (by omega)), HZ.out.2.2.1.setI k _ _ (by simp), HVR.out, up_step HZ.out.2.2.2.2 (by rw [HZ.out.1]; omega) HXE.out (by rw [← HV.out]; omega)⟩, hbr.setCell (by exact hg) _⟩
           case measure => simp [intOf]; omega)
      · obtain rfl : n = k := by omega
        have hz := HZ.out.2.2.1.cell n (by rw [HZ.out.1]; omega)
        have hzf := HZ.out.2.2.1.free n
        go_wp2
        go_ret
        refine ⟨⟨g, zs.set n c, rfl, hg, HZ.out.2.2.1.setI n _ _ (by omega), by simp [HZ.out.1], small_set HZ.out.2.1 _ _ hc1, ?_⟩, hbr.setCell (by exact hg) _⟩
        have e := val_set_take zs n c (by rw [HZ.out.1]; omega)
        rw [List.take_of_length_le (by simp [HZ.out.1]), HZ.out.2.2.2.2, List.take_of_length_le (by rw [HL.out]; exact Nat.le_refl _)] at e
        exact e
theorem or_up (x y : Nat) (hx : x < 4294967296) (hy : y < 4294967296) : bits BinOp.or IntKind.u64 (x : Int) ((y : Int) * 4294967296) = ((x + 4294967296 * y : Nat) : Int) := by
  have e : ((y : Int) * 4294967296) = ((y * 4294967296 : Nat) : Int) := by simp
  rw [e, u64_or_nat _ _ (by omega) (by omega), Nat.or_comm, nat_join 32 (y * 4294967296) x (by omega) (by omega)]
  congr 1
  omega

set_option maxHeartbeats 2000000 in
theorem shiftDown_any (g n c s : Nat) (cs : List Nat) (w : World) (hm : Mem w g cs) (hcs : Small cs) (hl : cs.length = n) (hn : n ≤ 1000000000) (hs : s ≤ 31) :
    Calls Try.prog 57 #[.slice (some ⟨g, 0, none⟩) n c, .int .i64 (s : Int)] w fun e w' => (∃ zs : List Nat, e = .returned (.tuple #[]) ∧ Mem w' g zs ∧ zs.length = n ∧ Small zs ∧ val zs = val cs / 2 ^ s) ∧ w.grownBy w' (some g) := by
  have HM := Lib.hid hm; clear hm
  have HL := Lib.hid hl; clear hl
  have si : (0 : Int) ≤ (s : Int) := by omega
  have sj : (s : Int) < 64 := by omega
  go_enter Try.func57, Try.ntmps57
  go_wp2
  go_loopw [8] (fun t wr => ∃ (k : Nat) (zs : List Nat), k ≤ n ∧ t = .int .i64 (k : Int) ∧ Hid (zs.length = n ∧ Small zs ∧ Mem wr g zs ∧ DownAt cs s zs k) ∧ w.grownBy wr (some g)) (fun t _ => n - (intOf t).toNat)
  case atStart => exact ⟨0, cs, Nat.zero_le _, rfl, ⟨HL.out, hcs, HM.out, by simp [val], fun _ _ => rfl⟩, grown_refl _ _⟩
  case round =>
    obtain ⟨k, zs, hk, rfl, HZ, hgr⟩ := hrel
    by_cases hk0 : k < n
    · have hx := HZ.out.2.2.1.cell k (by rw [HZ.out.1]; omega)
      have hxf := HZ.out.2.2.1.free k
      have hxl := getD_lt zs HZ.out.2.1 k
      obtain ⟨x, hxe⟩ : ∃ x, x = zs.getD k 0 := ⟨_, rfl⟩
      rw [← hxe] at hx hxl
      have HXE := Lib.hid hxe; clear hxe
      by_cases hk1 : k + 1 < n
      · have hy := HZ.out.2.2.1.cell (k + 1) (by rw [HZ.out.1]; omega)
        have hyl := getD_lt zs HZ.out.2.1 (k + 1)
        obtain ⟨y, hye⟩ : ∃ y, y = zs.getD (k + 1) 0 := ⟨_, rfl⟩
        rw [← hye] at hy hyl
        have HYE := Lib.hid hye; clear hye
        have hor := or_up x y hxl hyl
        obtain ⟨v, hv⟩ : ∃ v, v = x + 4294967296 * y := ⟨_, rfl⟩
        rw [← hv] at hor
        have HV := Lib.hid hv; clear hv
        have hk2 : (k : Int) + 1 < (n : Int) := by omega
        go_wp2
        go_roundw
        case rel =>
          refine ⟨k + 1, zs.set k (v / 2 ^ s % 4294967296), by omega, by go_num, ⟨by simp [HZ.out.1], small_set HZ.out.2.1 _ _ (Nat.mod_lt _ (by omega)), HZ.out.2.2.1.setI k _ _ (by simp), ?_⟩, grown_set hgr _ _⟩
          rw [HV.out]
          exact HZ.out.2.2.2.step hs hcs (by rw [HZ.out.1, HL.out]) (by rw [HZ.out.1]; exact hk0) HXE.out HYE.out
        case measure => simp [intOf]; omega
      · have hk2 : ¬ (k : Int) + 1 < (n : Int) := by omega
        have HYE : Hid (0 = zs.getD (k + 1) 0) := by rw [getD_ge zs (k + 1) (by rw [HZ.out.1]; omega)]; exact rfl
        go_wp2
        go_roundw
        case rel =>
          refine ⟨k + 1, zs.set k (x / 2 ^ s % 4294967296), by omega, by go_num, ⟨by simp [HZ.out.1], small_set HZ.out.2.1 _ _ (Nat.mod_lt _ (by omega)), HZ.out.2.2.1.setI k _ _ (by simp), ?_⟩, grown_set hgr _ _⟩
          have h := HZ.out.2.2.2.step (y := 0) hs hcs (by rw [HZ.out.1, HL.out]) (by rw [HZ.out.1]; exact hk0) HXE.out HYE.out
          simpa using h
        case measure => simp [intOf]; omega
    · obtain rfl : n = k := by omega
      go_wp2
      go_end0
      refine ⟨⟨zs, rfl, HZ.out.2.2.1, HZ.out.1, HZ.out.2.1, ?_⟩, hgr⟩
      have h := HZ.out.2.2.2
      rw [← HL.out] at h
      exact h.done (by rw [HZ.out.1, HL.out])
end Go.Proofs.Ytjpjibdcjmjcgaa
