/- What word, split and shrink tell: numbers of one machine word; a division by one limb where the number lies. -/
import Derived.Test.YtjpjibdcjmjcgaaMul
import Derived.Test.YtjpjibdcjmjcgaaNumsC
namespace Go.Proofs.Ytjpjibdcjmjcgaa
open Go.RowKit Nums

theorem or_limbs (r x : Nat) (hr : r < 4294967296) (hx : x < 4294967296) : bits BinOp.or IntKind.u64 ((r : Int) * 4294967296) (x : Int) = ((r * 4294967296 + x : Nat) : Int) := by
  have e : ((r : Int) * 4294967296) = ((r * 4294967296 : Nat) : Int) := by simp
  rw [e, u64_or_nat _ _ (by omega) (by omega), nat_join 32 (r * 4294967296) x (by omega) (by omega)]

theorem grown_set {w wr : World} {g : Nat} (h : w.grownBy wr (some g)) (i : Nat) (u : Value) : w.grownBy (wr.setCell ⟨g, i, none⟩ u) (some g) :=
  ⟨h.os, h.tape, h.output, by simpa [World.setCell] using h.size, fun k hk hne => by rw [Below.heap_setCell _ _ _ _ (fun e => hne (by simp [e]))]; exact h.block k hk hne⟩

theorem grown_refl (w : World) (row : Option Nat) : w.grownBy w row := ⟨rfl, rfl, rfl, Nat.le_refl _, fun _ _ _ => rfl⟩

set_option maxHeartbeats 1000000 in
theorem shrink_any (g n c : Nat) (cs : List Nat) (w : World) (D : Int) (d : Nat) (hD : D = (d : Int)) (hd : 0 < d) (hdl : d < 4294967296) (hm : Mem w g cs) (hs : Small cs) (hn : n ≤ cs.length) (hn1 : n ≤ 1000000000) :
    Calls Try.prog 49 #[.slice (some ⟨g, 0, none⟩) n c, .int .u32 D] w fun e w' => (∃ qs : List Nat, ∃ r : Nat, e = .returned (.int .u32 (r : Nat)) ∧ qs.length = n ∧ Small qs ∧ r < d ∧ val (cs.take n) = val qs * d + r ∧ Mem w' g (qs ++ cs.drop n)) ∧ w.grownBy w' (some g) := by
  subst hD
  have HM := Lib.hid hm; clear hm
  have hdi : (0 : Int) < (d : Int) := by omega
  have hdi1 : (1 : Int) ≤ (d : Int) := by omega
  go_enter Try.func49, Try.ntmps49
  go_wp2
  go_loopw [5, 6] (fun rv t wr => ∃ (k r : Nat) (qs : List Nat), k ≤ n ∧ t = .int .i64 ((k : Int) - 1) ∧ rv = .int .u64 (r : Int) ∧ r < d ∧ Hid (qs.length = n - k ∧ Small qs ∧ val ((cs.take n).drop k) = val qs * d + r ∧ Mem wr g (cs.take k ++ (qs ++ cs.drop n))) ∧ w.grownBy wr (some g)) (fun _ t _ => (intOf t + 1).toNat)
  case atStart => exact ⟨n, 0, [], Nat.le_refl _, rfl, rfl, hd, ⟨by simp, (fun x hx => by cases hx), by simp [val], by simpa using HM.out⟩, grown_refl _ _⟩
  case round =>
    obtain ⟨k, r, qs, hk, rfl, rfl, hr, HZ, hgr⟩ := hrel
    by_cases hk0 : 0 < k
    · have hcell : wr.cell? ⟨g, k - 1, none⟩ = some (.int .u32 (cs.getD (k - 1) 0 : Nat)) := by
        rw [HZ.out.2.2.2.cell (k - 1) (by simp; omega), getD_seam cs _ k hk0 (by omega)]
      have hfree := HZ.out.2.2.2.free (k - 1)
      have hx := getD_lt cs hs (k - 1)
      obtain ⟨x, hxe⟩ : ∃ x, x = cs.getD (k - 1) 0 := ⟨_, rfl⟩
      rw [← hxe] at hcell hx
      have HXE := Lib.hid hxe; clear hxe
      have e : ((k : Int) - 1).toNat = k - 1 := by omega
      have hor := or_limbs r x (by omega) hx
      obtain ⟨t, ht⟩ : ∃ t, t = r * 4294967296 + x := ⟨_, rfl⟩
      rw [← ht] at hor
      have hroom := short_room r x d t hd hr hx ht
      have HT := Lib.hid ht; clear ht
      obtain ⟨q, hq⟩ : ∃ q, q = t / d := ⟨_, rfl⟩
      obtain ⟨r', hr'⟩ : ∃ r', r' = t % d := ⟨_, rfl⟩
      have hr1 : r' < d := by rw [hr']; exact Nat.mod_lt _ hd
      rw [← hq] at hroom
      have hqi : (t : Int) / (d : Int) = (q : Int) := by rw [hq]; simp
      have hri : (t : Int) % (d : Int) = (r' : Int) := by rw [hr']; simp
      have HQ : Hid (t = q * d + r') := by rw [hq, hr', Nat.mul_comm]; exact (Nat.div_add_mod t d).symm
      clear hq hr'
      go_wp2
      go_roundw
      case rel => exact ⟨k - 1, r', q :: qs, by omega, by go_num, congrArg (Value.int .u64) hri, hr1, ⟨by simp [HZ.out.1]; omega, small_cons.2 ⟨hroom, HZ.out.2.1⟩, short_step cs qs k n d r x t q r' hk0 hk hn HZ.out.2.2.1 HXE.out HT.out HQ.out, by
        have := HZ.out.2.2.2.setI (k - 1) _ q rfl
        rw [set_seam cs _ k q hk0 (by omega)] at this
        exact this⟩, grown_set hgr _ _⟩
      case measure => simp [intOf]; omega
    · go_wp2
      go_ret
      obtain rfl : k = 0 := by omega
      exact ⟨⟨qs, r, rfl, by simpa using HZ.out.1, HZ.out.2.1, hr, by simpa using HZ.out.2.2.1, by simpa using HZ.out.2.2.2⟩, hgr⟩

theorem tail_room (xs : List Nat) (hs : Small xs) (k r : Nat) (hl : xs.length ≤ 2) (hk : 0 < k) (h : r = val (xs.drop k)) : r < 4294967296 := by
  have h2 := val_lt (xs.drop k) (fun x hx => hs x (List.mem_of_mem_drop hx))
  rw [← h, List.length_drop] at h2
  have h3 : xs.length - k ≤ 1 := by omega
  have h4 : 4294967296 ^ (xs.length - k) ≤ 4294967296 ^ 1 := Nat.pow_le_pow_right (by omega) h3
  omega

theorem word_step {xs ys : List Nat} {x t r : Nat} {k : Nat} (h : xs.drop (k - 1) = x :: ys) (ht : t = r * 4294967296 + x) (hr : r = val ys) : t = val (xs.drop (k - 1)) := by
  rw [h, ht, hr]; simp only [val]; omega

set_option maxHeartbeats 1000000 in
/-- word: the number of two limbs at most. -/
theorem word_any (a : Option Addr) (n c : Nat) (xs : List Nat) (w : World) (hr : Row w a n c xs) (hn : n ≤ 2) :
    Calls Try.prog 46 #[.slice a n c] w fun e w' => e = .returned (.int .u64 (val xs : Nat)) ∧ w = w' := by
  obtain ⟨hl, -, -, -, hs, b, off, hor, hc⟩ := hr
  have HL := Lib.hid hl; clear hl
  have HC := Lib.hid hc; clear hc
  have HV : Hid (val (xs.drop 0) = val xs) := rfl
  have HE : Hid (∀ k, n ≤ k → val (xs.drop k) = 0) := fun k hk => by rw [List.drop_eq_nil_of_le (by rw [HL.out]; exact hk)]; rfl
  rcases (show _ ∨ Hid _ from hor) with rfl | hor
  all_goals
    go_enter Try.func46, Try.ntmps46
    go_wp2
    go_loop [3, 4] (fun v t => ∃ (k r : Nat), k ≤ n ∧ t = .int .i64 ((k : Int) - 1) ∧ v = .int .u64 (r : Int) ∧ Hid (r = val (xs.drop k))) (fun _ t => (intOf t + 1).toNat)
    case atStart => exact ⟨n, 0, Nat.le_refl _, rfl, rfl, (HE.out n (Nat.le_refl _)).symm⟩
    case round =>
      obtain ⟨k, r, hk, rfl, rfl, HZ⟩ := hrel
      by_cases hk0 : 0 < k
      · first
        | (exfalso; have := hor.out; omega)
        | (have hcell := (HC.out (k - 1) (by omega)).2
           have hx := getD_lt xs hs (k - 1)
           have HR : Hid (r < 4294967296) := tail_room xs hs k r (by rw [HL.out]; exact hn) hk0 HZ.out
           have HD : Hid (xs.drop (k - 1) = xs.getD (k - 1) 0 :: xs.drop k) := drop_pred xs k hk0 (by rw [HL.out]; exact hk)
           obtain ⟨x, hxe⟩ : ∃ x, x = xs.getD (k - 1) 0 := ⟨_, rfl⟩
           rw [← hxe] at hcell hx HD
           have HXE := Lib.hid hxe; clear hxe
           have e : ((k : Int) - 1).toNat = k - 1 := by omega
           have hrl := HR.out
           have hor := or_limbs r x hrl hx
           obtain ⟨t, ht⟩ : ∃ t, t = r * 4294967296 + x := ⟨_, rfl⟩
           rw [← ht] at hor
           have HT := Lib.hid ht; clear ht
           go_wp2
           go_round
           case rel => exact ⟨k - 1, t, by omega, by go_num, rfl, word_step HD.out HT.out HZ.out⟩
           case measure => simp [intOf]; omega)
      · go_wp2
        go_ret
        obtain rfl : k = 0 := by omega
        have hz : r = val xs := by have := HZ.out; simpa using this
        exact ⟨by subst hz; exact rfl, rfl⟩
end Go.Proofs.Ytjpjibdcjmjcgaa
