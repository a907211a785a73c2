/- What guess tells: the quotient's limb, or one more. -/
import Derived.Test.YtjpjibdcjmjcgaaTake
import Derived.Test.YtjpjibdcjmjcgaaNumsG
namespace Go.Proofs.Ytjpjibdcjmjcgaa
open Go.RowKit Nums

theorem grown_cell {w wr : World} {a : Addr} {v : Value} (h : w.cell? a = some v) (hg : w.grownBy wr none) : wr.cell? a = some v := hg.cell h (by simp)

theorem grown_drewN {w wr : World} {row : Option Nat} (h : w.grownBy wr row) (n : Nat) : w.grownBy (wr.drewN n) row :=
  ⟨h.os, h.tape, h.output, h.size, h.block⟩

theorem wrap_small (q : Nat) (h : q ≤ 4294967297) : IntKind.u64.wrap (q : Int) = (q : Int) := by
  simp [IntKind.wrap, IntKind.bits, IntKind.signed]
  omega

set_option maxHeartbeats 4000000 in
theorem guess_any (g i m cap gb capb : Nat) (A D : Nat) (us ds es : List Nat) (cs : List Nat) (w : World)
    (hm : Mem w g (win cs i us)) (hA : us.length = m + 3) (hAs : Small us) (hi : i + (m + 3) ≤ cs.length) (hb : Mem w gb es) (hes : Small es) (hnd : m + 2 ≤ es.length) (hds : ds = es.take (m + 2))
    (hmm : m ≤ 1000000000) (hil : i ≤ 1000000000) (hAv : A = val us) (hDv : D = val ds) (hhigh : 2147483648 ≤ ds.getD (m + 1) 0) (hq : A < 4294967296 * D) :
    Calls Try.prog 58 #[.slice (some ⟨g, i, none⟩) (m + 3) cap, .slice (some ⟨gb, 0, none⟩) (m + 2) capb] w fun e w' =>
      (∃ t : Nat, e = .returned (.int .u32 (t : Nat)) ∧ t < 4294967296 ∧ A / D ≤ t ∧ t ≤ A / D + 1) ∧ w.grownBy w' none := by
  have hsd : Small ds := by rw [hds]; exact small_take hes _
  have hld : ds.length = m + 2 := by rw [hds]; simp; omega
  have htop := top_le (m + 2) us ds hA hld (by omega) hsd (by rw [← hAv, ← hDv]; exact hq)
  have hwl : i + us.length ≤ cs.length := by rw [hA]; exact hi
  have hlen := length_win hwl
  have c2 := hm.cell (i + (m + 2)) (by rw [hlen]; omega)
  have c1 := hm.cell (i + (m + 1)) (by rw [hlen]; omega)
  have c0 := hm.cell (i + m) (by rw [hlen]; omega)
  rw [getD_win hwl (by omega)] at c2 c1 c0
  have d1 := hb.cell (m + 1) (by omega)
  have d0 := hb.cell m (by omega)
  have e1 : es.getD (m + 1) 0 = ds.getD (m + 1) 0 := by rw [hds, getD_take (by omega)]
  have e0 : es.getD m 0 = ds.getD m 0 := by rw [hds, getD_take (by omega)]
  rw [e1] at d1
  rw [e0] at d0
  obtain ⟨x2, hx2⟩ : ∃ x, x = us.getD (m + 2) 0 := ⟨_, rfl⟩
  obtain ⟨x1, hx1⟩ : ∃ x, x = us.getD (m + 1) 0 := ⟨_, rfl⟩
  obtain ⟨x0, hx0⟩ : ∃ x, x = us.getD m 0 := ⟨_, rfl⟩
  obtain ⟨y1, hy1⟩ : ∃ x, x = ds.getD (m + 1) 0 := ⟨_, rfl⟩
  obtain ⟨y0, hy0⟩ : ∃ x, x = ds.getD m 0 := ⟨_, rfl⟩
  have l2 : x2 < 4294967296 := by rw [hx2]; exact getD_lt us hAs _
  have l1 : x1 < 4294967296 := by rw [hx1]; exact getD_lt us hAs _
  have l0 : x0 < 4294967296 := by rw [hx0]; exact getD_lt us hAs _
  have k1 : y1 < 4294967296 := by rw [hy1]; exact getD_lt ds hsd _
  have k0 : y0 < 4294967296 := by rw [hy0]; exact getD_lt ds hsd _
  have hh : 2147483648 ≤ y1 := by rw [hy1]; exact hhigh
  have htop' : x2 ≤ y1 := by rw [hx2, hy1]; exact htop
  have HDONE := Lib.hid (fun t h1 h2 h3 => guess_done A D m t us ds x2 x1 x0 y1 y0 hA hld hAs hsd hAv hDv hx2 hx1 hx0 hy1 hy0 (by omega) hq h1 h2 h3)
  rw [← hx2] at c2
  rw [← hx1] at c1
  rw [← hx0] at c0
  rw [← hy1] at d1
  rw [← hy0] at d0
  clear hx2 hx1 hx0 hy1 hy0 htop hhigh e1 e0 hlen hwl hld hsd hds hq hAv hDv hA hAs hes hm hb hnd
  have C2 := Lib.hid c2
  have C1 := Lib.hid c1
  have C0 := Lib.hid c0; clear c0
  have D1 := Lib.hid d1
  have D0 := Lib.hid d0; clear d0
  have hor := or_limbs x2 x1 l2 l1
  obtain ⟨top, ht⟩ : ∃ top, top = x2 * 4294967296 + x1 := ⟨_, rfl⟩
  rw [← ht] at hor
  have htl : top < (y1 + 1) * 4294967296 := by omega
  have HTL := Lib.hid htl
  have htb : top / y1 ≤ 4294967297 := by
    apply Nat.le_of_lt_succ
    rw [Nat.div_lt_iff_lt_mul (by omega)]
    omega
  have hrb : top % y1 < y1 := Nat.mod_lt _ (by omega)
  have HST := Lib.hid (guess_start y1 top y0 x0 (by omega) l0)
  have HT := Lib.hid ht; clear ht htl
  obtain ⟨q0, hq0⟩ : ∃ q0, q0 = top / y1 := ⟨_, rfl⟩
  obtain ⟨r0, hr0⟩ : ∃ r0, r0 = top % y1 := ⟨_, rfl⟩
  rw [← hq0] at htb HST
  rw [← hr0] at hrb HST
  have hqi : (top : Int) / (y1 : Int) = (q0 : Int) := by rw [hq0]; simp
  have hri : (top : Int) % (y1 : Int) = (r0 : Int) := by rw [hr0]; simp
  have HQ0 := Lib.hid hqi; clear hqi hq0
  have HR0 := Lib.hid hri; clear hri hr0
  have i1 : (1 : Int) ≤ (y1 : Int) := by omega
  have j0 : (0 : Int) ≤ (m : Int) := by omega
  have n0 : ((m : Int) + 2 - 1).toNat = m + 1 := by omega
  have n1 : ((m : Int) + 2).toNat = m + 2 := by omega
  go_enter Try.func58, Try.ntmps58
  go_wp2
  go_quiet (fail)
  go_wp2
  go_quiet (fail)
  go_wp2
  go_loopw [8, 9] (fun tv rv wr => ∃ t r : Nat, tv = .int .u64 (t : Int) ∧ rv = .int .u64 (r : Int) ∧ t ≤ 4294967297 ∧ r < 8589934592 ∧ Hid (GuessAt y1 top y0 x0 t r) ∧ w.grownBy wr none) (fun tv _ _ => (intOf tv).toNat)
  case atStart => exact ⟨q0, r0, congrArg (Value.int .u64) (by rw [HQ0.out]; exact wrap_small q0 htb), congrArg (Value.int .u64) HR0.out, htb, by omega, HST.out, grown_drewN (grown_drewN (grown_refl _ _) _) _⟩
  case round =>
    obtain ⟨t, r, rfl, rfl, htl, hrl, HG, hgr⟩ := hrel
    have f0 := grown_cell C0.out hgr
    have h0 := grown_cell D0.out hgr
    have n2 : ((m : Int) + 2 - 2).toNat = m := by omega
    have j2 : (0 : Int) ≤ (m : Int) + 2 - 2 := by omega
    by_cases hr : r ≤ 4294967295
    · have hrI : (r : Int) ≤ 4294967295 := by omega
      by_cases ht : t ≤ 4294967295
      · have htI : decide ((4294967295 : Int) < (t : Int)) = false := by rw [decide_eq_false_iff_not]; omega
        have hroom := mul_room 0 t y0 0 (by omega) (by omega) k0 (by omega)
        have hr1 : (t : Int) * (y0 : Int) ≤ 18446744065119617025 := by have := hroom.1; rw [← Int.natCast_mul]; omega
        have hr2 : 0 ≤ (t : Int) * (y0 : Int) := by rw [← Int.natCast_mul]; omega
        clear hroom
        have hor2 := or_limbs r x0 (by omega) l0
        obtain ⟨U, hU⟩ : ∃ U, U = r * 4294967296 + x0 := ⟨_, rfl⟩
        rw [← hU] at hor2
        have HU := Lib.hid hU; clear hU
        by_cases hc : U < t * y0
        · have hcI : (U : Int) < (t : Int) * (y0 : Int) := by rw [← Int.natCast_mul]; omega
          have HSTEP := Lib.hid (guess_step HG.out (Or.inr (by rw [← HU.out]; exact hc)))
          have HC := Lib.hid hc; clear hc
          have ht0 : 0 < t := HSTEP.out.1
          go_wp2
          go_quiet (fail)
          go_wp2
          go_roundw
          case rel => exact ⟨t - 1, r + y1, by go_num, by go_num, by omega, by omega, HSTEP.out.2, grown_drewN hgr _⟩
          case measure => simp [intOf]; omega
        · have hcI : decide ((U : Int) < (t : Int) * (y0 : Int)) = false := by rw [decide_eq_false_iff_not, ← Int.natCast_mul]; omega
          have HEX := Lib.hid (guess_exit HG.out k0 HTL.out (by omega) (Or.inr ⟨ht, by rw [← HU.out]; omega⟩))
          have HC := Lib.hid hc; clear hc
          go_wp2
          go_quiet (fail)
          go_wp2
          go_ret
          refine ⟨⟨t, congrArg Ending.returned (congrArg (Value.int .u32) (rfl)), by have := HEX.out.1; omega, ?_⟩, grown_drewN hgr _⟩
          have h2 := HEX.out.2
          have h3 := HG.out.2
          rw [HT.out] at h2 h3
          exact HDONE.out t HEX.out.1 h2 h3
      · have HSTEP := Lib.hid (guess_step HG.out (Or.inl (by omega)))
        have htI : (4294967295 : Int) < (t : Int) := by omega
        have ht0 : 0 < t := by omega
        go_wp2
        go_quiet (fail)
        go_wp2
        go_roundw
        case rel => exact ⟨t - 1, r + y1, by go_num, by go_num, by omega, by omega, HSTEP.out.2, grown_drewN hgr _⟩
        case measure => simp [intOf]; omega
    · have HEX := Lib.hid (guess_exit HG.out k0 HTL.out (by omega) (Or.inl (by omega)))
      have hrI : decide ((r : Int) ≤ 4294967295) = false := by rw [decide_eq_false_iff_not]; omega
      go_wp2
      go_quiet (fail)
      go_wp2
      go_ret
      refine ⟨⟨t, congrArg Ending.returned (congrArg (Value.int .u32) (by have := HEX.out.1; omega)), by have := HEX.out.1; omega, ?_⟩, grown_drewN hgr _⟩
      have h2 := HEX.out.2
      have h3 := HG.out.2
      rw [HT.out] at h2 h3
      exact HDONE.out t HEX.out.1 h2 h3
end Go.Proofs.Ytjpjibdcjmjcgaa
