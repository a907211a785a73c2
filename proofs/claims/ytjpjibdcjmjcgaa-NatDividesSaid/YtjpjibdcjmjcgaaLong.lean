/- What divideLong tells: quotient and rest of two rows, the divisor of two limbs at least, not above what is divided. -/
import Derived.Test.YtjpjibdcjmjcgaaShift
import Derived.Test.YtjpjibdcjmjcgaaNumsI
import Derived.Test.YtjpjibdcjmjcgaaShelf
import Derived.Lib.ItoaNum
namespace Go.Proofs.Ytjpjibdcjmjcgaa
open Go.RowKit Nums

theorem len_bits (x : Nat) (h0 : 0 < x) (hx : x < 4294967296) : 1 ≤ Lib.bitLen x ∧ Lib.bitLen x ≤ 32 ∧ 2 ^ (Lib.bitLen x - 1) ≤ x ∧ x < 2 ^ Lib.bitLen x := by
  have h := Lib.bitLenAux_bounds 64 x (by omega) (by omega)
  have h2 := Lib.bitLen_le x 32 (by omega) hx
  exact ⟨h.1, h2, h.2.1, h.2.2⟩

theorem lz_any (x : Nat) (w : World) (h0 : 0 < x) (hx : x < 4294967296) :
    Calls Try.prog 54 #[.int .u32 (x : Int)] w fun e w' => (∃ s : Nat, e = .returned (.int .i64 (s : Int)) ∧ s ≤ 31 ∧ x * 2 ^ s < 4294967296 ∧ 2147483648 ≤ x * 2 ^ s) ∧ w = w' := by
  refine (Try.bits_LeadingZeros32 (x : Int) w (by omega) (by omega)).mono ?_
  rintro e w' ⟨rfl, rfl⟩
  obtain ⟨h1, h2, h3, h4⟩ := len_bits x h0 hx
  rw [Int.toNat_natCast]
  refine ⟨⟨32 - Lib.bitLen x, congrArg Ending.returned (congrArg (Value.int .i64) (by omega)), by omega, ?_, ?_⟩, rfl⟩
  · have e1 : 2 ^ Lib.bitLen x * 2 ^ (32 - Lib.bitLen x) = 4294967296 := by rw [← Nat.pow_add, show Lib.bitLen x + (32 - Lib.bitLen x) = 32 by omega]
    rw [← e1]
    exact (Nat.mul_lt_mul_right (Nat.pow_pos (by omega))).2 h4
  · have e1 : 2 ^ (Lib.bitLen x - 1) * 2 ^ (32 - Lib.bitLen x) = 2147483648 := by rw [← Nat.pow_add, show Lib.bitLen x - 1 + (32 - Lib.bitLen x) = 31 by omega]
    rw [← e1]
    exact Nat.mul_le_mul_right _ h3

theorem takeOff_len (g i m N cap gb capb : Nat) (A D : Nat) (us ds es : List Nat) (cs : List Nat) (w : World) (hN : N = m + 3)
    (hm : Mem w g (win cs i us)) (hA : us.length = m + 3) (hAs : Small us) (hi : i + (m + 3) ≤ cs.length) (hb : Mem w gb es) (hes : Small es) (hnd : m + 2 ≤ es.length) (hds : ds = es.take (m + 2)) (hne : gb ≠ g)
    (hmm : m ≤ 100000000) (hil : i ≤ 1000000000) (hAv : A = val us) (hDv : D = val ds) (hhigh : 2147483648 ≤ ds.getD (m + 1) 0) (hq : A < 4294967296 * D) :
    Calls Try.prog 56 #[.slice (some ⟨g, i, none⟩) N cap, .slice (some ⟨gb, 0, none⟩) (m + 2) capb] w fun e w' =>
      (∃ zs : List Nat, e = .returned (.int .u32 (A / D : Nat)) ∧ zs.length = m + 3 ∧ Small zs ∧ Mem w' g (win cs i zs) ∧ val zs = A - A / D * D) ∧ w.grownBy w' (some g) := by
  subst hN
  exact takeOff_any g i m cap gb capb A D us ds es cs w hm hA hAs hi hb hes hnd hds hne hmm hil hAv hDv hhigh hq

theorem cut_mem {N : Nat} {w : World} {zs : List Nat} {g n : Nat} (hm : Mem w g zs) (hs : Small zs) (hl : zs.length = n) (hn : n ≤ 1000000000) (hv : val zs = N) :
    Calls Try.prog 33 #[.slice (some ⟨g, 0, none⟩) n n] w fun e w' => ∃ a' m, e = .returned (.slice a' m m) ∧ m = (limbs N).length ∧ Row w a' m m (limbs N) ∧ w = w' := by
  subst hl
  refine (cut_num _ _ _ zs w (hm.row0 hs zs.length (Nat.le_refl _) (by unfold maxLen; omega)) hn).mono ?_
  rintro e w' ⟨a', m, rfl, hm, hmn, hrow, -, rfl⟩
  rw [hv] at hm hrow
  exact ⟨a', m, rfl, hm, hrow, rfl⟩

theorem pow_le_of_len {B n : Nat} (h : (limbs B).length = n + 1) : 4294967296 ^ n ≤ B := by
  apply Nat.le_of_not_lt
  intro hlt
  have := limbs_len B n hlt
  omega

set_option maxHeartbeats 4000000 in
theorem divide_long (a0 a1 : Option Addr) (n0 m : Nat) (A B : Nat) (w : World) (h0 : Row w a0 n0 n0 (limbs A)) (h1 : Row w a1 (m + 2) (m + 2) (limbs B)) (hn0 : n0 ≤ 100000000) (hle : m + 2 ≤ n0) :
    Calls Try.prog 53 #[.slice a0 n0 n0, .slice a1 (m + 2) (m + 2)] w (QR A B w) := by
  have hl1 : (limbs B).length = m + 2 := h1.1
  have hl0 : (limbs A).length = n0 := h0.1
  have HPB := Lib.hid (pow_le_of_len hl1)
  have HPA : Hid (A < 4294967296 ^ n0) := by have := lt_pow_len A; rw [hl0] at this; exact this
  have HL1 := Lib.hid hl1; clear hl1
  have HL0 := Lib.hid hl0; clear hl0
  have H0 := Lib.hid h0; clear h0
  obtain ⟨-, -, -, -, -, b1, o1, hor1, hc1⟩ := h1
  rcases hor1 with rfl | hor1
  case inr => omega
  have H1 : Hid (Row w (some ⟨b1, o1, none⟩) (m + 2) (m + 2) (limbs B)) := ⟨HL1.out, by omega, by unfold maxLen; omega, by simp, small_limbs B, b1, o1, Or.inl rfl, hc1⟩
  have hcell := (hc1 (m + 1) (by omega)).2
  have hyl := getD_lt (limbs B) (small_limbs B) (m + 1)
  have hy0 : (limbs B).getD (m + 1) 0 ≠ 0 := by
    intro h
    have e := val_take_succ (limbs B) (m + 1) (by rw [HL1.out]; omega)
    rw [h, List.take_of_length_le (by rw [HL1.out]; exact Nat.le_refl _), val_limbs] at e
    have h2 := val_lt ((limbs B).take (m + 1)) (small_take (small_limbs B) _)
    rw [List.length_take, Nat.min_eq_left (by rw [HL1.out]; omega)] at h2
    have h3 := HPB.out
    omega
  obtain ⟨y, hy⟩ : ∃ y, y = (limbs B).getD (m + 1) 0 := ⟨_, rfl⟩
  rw [← hy] at hcell hyl hy0
  have HY := Lib.hid hy; clear hy hc1
  have hyp : 0 < y := by omega
  clear hy0
  have n1 : ((m : Int) + 2 - 1).toNat = m + 1 := by omega
  have n2 : ((m : Int) + 2).toNat = m + 2 := by omega
  go_enter Try.func53, Try.ntmps53
  go_wp2_with fail
  refine (lz_any y _ hyp hyl).mono ?_
  rintro e w' ⟨⟨s, rfl, hs, hs1, hs2⟩, rfl⟩
  have HS1 := Lib.hid hs1; clear hs1
  have HS2 := Lib.hid hs2; clear hs2
  go_wp2_with fail
  refine (shiftUp_any _ (m + 2) (m + 2) s (limbs B) w H1.out (by omega) hs).mono ?_
  rintro e w1 ⟨⟨gb, es, rfl, hgb, hmb, hlb, hsb, hvb⟩, hb1⟩
  rw [val_limbs] at hvb
  have HN := Lib.hid (norm_divisor (limbs B) es (m + 1) s y HL1.out (small_limbs B) HY.out HS1.out HS2.out hs hlb hsb (by rw [val_limbs]; exact hvb))
  have HMB := Lib.hid hmb; clear hmb
  have HLB := Lib.hid hlb; clear hlb
  have HSB := Lib.hid hsb; clear hsb hvb
  have HB1 := Lib.hid hb1; clear hb1
  have H01 := Lib.hid (row_below (Nat.le_refl _) HB1.out H0.out)
  go_wp2_with fail
  refine (shiftUp_any _ n0 n0 s (limbs A) w1 H01.out (by omega) hs).mono ?_
  rintro e w2 ⟨⟨g, cs, rfl, hg, hmg, hlg, hsg, hvg⟩, hb2⟩
  rw [val_limbs] at hvg
  have HMB2 := Lib.hid (HMB.out.below hb2 HMB.out.lt)
  have hne : gb ≠ g := by have := HMB.out.lt; omega
  have HNE := Lib.hid hne; clear hne
  have HGG : Hid (w.heap.size ≤ g) := Nat.le_trans HB1.out.size hg
  clear hg
  have HMG := Lib.hid hmg; clear hmg
  have HLG := Lib.hid hlg; clear hlg
  have HSG := Lib.hid hsg; clear hsg
  have HVG := Lib.hid hvg; clear hvg
  have HB2 := Lib.hid (HB1.out.trans (hb2.mono HB1.out.size)); clear hb2
  obtain ⟨l, rfl⟩ : ∃ l, n0 = m + 1 + l := ⟨n0 - (m + 1), by omega⟩
  go_wp2_with (at_make; refine make32 rfl _ rfl _ l rfl (by omega) (by omega) ?_)
  intro gq w3 hgq hmq hb3
  have HMB3 := Lib.hid (HMB2.out.below hb3 HMB2.out.lt)
  have HMG3 := Lib.hid (HMG.out.below hb3 HMG.out.lt)
  have HNQ : Hid (g ≠ gq) := by
    have h1 := HMG.out.lt
    exact (by omega : g ≠ gq)
  have HNB : Hid (gb ≠ gq) := by
    have h1 := HMB2.out.lt
    exact (by omega : gb ≠ gq)
  have HGQ : Hid (w.heap.size ≤ gq) := Nat.le_trans HB2.out.size hgq
  have HMQ := Lib.hid hmq; clear hmq hgq
  have HB3 := Lib.hid (HB2.out.trans (hb3.mono HB2.out.size)); clear hb3
  have HST : Hid (LongAt (A * 2 ^ s) (B * 2 ^ s) cs (List.replicate l 0) l) := by
    have h := LongAt.start (A := A) (s := s) (D := B * 2 ^ s) (n0 := m + 1 + l) (n1 := m + 2) HVG.out HLG.out HSG.out HPA.out hle (by
      rw [Nat.pow_succ, Nat.mul_right_comm]
      exact Nat.mul_le_mul_right _ (Nat.mul_le_mul_right _ HPB.out)) hs (by omega)
    rw [show m + 1 + l - (m + 2) + 1 = l by omega] at h
    exact h
  have hl1 : 1 ≤ l := by omega
  go_wp2
  go_loopw [11] (fun t wr => ∃ (k : Nat) (cs qs : List Nat), k ≤ l ∧ t = .int .i64 ((k : Int) - 1) ∧ Hid (cs.length = m + 1 + l + 1 ∧ Small cs ∧ Mem wr g cs ∧ qs.length = l ∧ Small qs ∧ Mem wr gq qs ∧ Mem wr gb es ∧ LongAt (A * 2 ^ s) (B * 2 ^ s) cs qs k) ∧ Below w.heap.size w wr) (fun t _ => (intOf t + 1).toNat)
  case atStart => exact ⟨l, cs, List.replicate l 0, Nat.le_refl _, rfl, ⟨HLG.out, HSG.out, HMG3.out, by simp, by intro x hx; simp at hx; omega, HMQ.out, HMB3.out, HST.out⟩, HB3.out⟩
  case round =>
    obtain ⟨k, cs, qs, hk, rfl, HZ, hbr⟩ := hrel
    by_cases hk0 : 0 < k
    · obtain ⟨i, rfl⟩ : ∃ i, k = i + 1 := ⟨k - 1, by omega⟩
      have ei : ((i + 1 : Nat) : Int) - 1 = (i : Int) := by omega
      rw [ei]
      clear ei hk0
      have HDV : Hid (val (es.take (m + 2)) = B * 2 ^ s) := by have := HN.out.1; rw [val_limbs] at this; exact this
      have HDL : Hid (B * 2 ^ s < 4294967296 ^ (m + 2)) := by have := HN.out.2.2; rw [val_limbs] at this; exact this
      have HPRE : Hid (val (cs.drop i) < 4294967296 * (B * 2 ^ s)) := HZ.out.2.2.2.2.2.2.2.pre HZ.out.2.1 (by rw [HZ.out.1]; omega)
      have HDP : Hid (B * 2 ^ s * 4294967296 ≤ 4294967296 ^ (m + 3)) := by
        have h1 := HDL.out
        have h2 : 4294967296 ^ (m + 3) = 4294967296 ^ (m + 2) * 4294967296 := by rw [← Nat.pow_succ]
        rw [h2]
        exact Nat.mul_le_mul_right _ (Nat.le_of_lt h1)
      obtain ⟨us, hus⟩ : ∃ us, us = (cs.drop i).take (m + 3) := ⟨_, rfl⟩
      have HUV : Hid (val us = val (cs.drop i)) := by
        rw [hus]
        refine (val_take_lt (cs.drop i) (m + 3) ?_).1
        have h1 := HPRE.out
        have h2 := HDP.out
        omega
      have HULEN : Hid (us.length = m + 3) := by
        have h1 := HZ.out.1
        rw [hus]
        have : ((cs.drop i).take (m + 3)).length = m + 3 := by simp; omega
        exact this
      have HUS : Hid (Small us) := by rw [hus]; exact small_take (fun x hx => HZ.out.2.1 x (List.mem_of_mem_drop hx)) _
      have HWIN : Hid (Mem wr g (win cs i us)) := by
        rw [hus, win_self (by rw [HZ.out.1]; omega)]; exact HZ.out.2.2.1
      have HUQ : Hid (val us < 4294967296 * val (es.take (m + 2))) := by rw [HUV.out, HDV.out]; exact HPRE.out
      have HUSE := Lib.hid hus; clear hus
      have hil : ¬ m + 1 + l + 1 = i := by omega
      have hil2 : (i : Int) + ((m : Int) + 2) + 1 ≤ (m : Int) + 1 + (l : Int) + 1 := by omega
      go_wp2_with fail
      refine (takeOff_len g i m _ _ gb (m + 2 + 1) (val us) (val (es.take (m + 2))) us (es.take (m + 2)) es cs wr (by omega) HWIN.out HULEN.out HUS.out (by rw [HZ.out.1]; omega) HZ.out.2.2.2.2.2.2.1 HSB.out (by rw [HLB.out]; omega) rfl HNE.out (by omega) (by omega) rfl rfl HN.out.2.1 HUQ.out).mono ?_
      rintro e w4 ⟨⟨zs, rfl, hzl, hzs, hzm, hzv⟩, hgr⟩
      have HGR := Lib.hid hgr; clear hgr
      have hql : val us / val (es.take (m + 2)) < 4294967296 := by
        rw [Nat.div_lt_iff_lt_mul]
        · exact HUQ.out
        · have h1 := HUQ.out
          rcases Nat.eq_zero_or_pos (val (es.take (m + 2))) with h | h
          · rw [h] at h1; omega
          · exact h
      obtain ⟨q, hqe⟩ : ∃ q, q = val us / val (es.take (m + 2)) := ⟨_, rfl⟩
      rw [← hqe] at hql hzv ⊢
      rw [HDV.out] at hqe hzv
      have HQE := Lib.hid hqe; clear hqe
      have HZL := Lib.hid hzl; clear hzl
      have HZS := Lib.hid hzs; clear hzs
      have HZM := Lib.hid hzm; clear hzm
      have HZV := Lib.hid hzv; clear hzv
      have HMQ4 := Lib.hid (HZ.out.2.2.2.2.2.1.grown HGR.out HNQ.out.symm)
      have HMB4 := Lib.hid (HZ.out.2.2.2.2.2.2.1.grown HGR.out HNE.out)
      have hq := HMQ4.out.cell i (by rw [HZ.out.2.2.2.1]; omega)
      have hqf := HMQ4.out.free i
      have hb4 : Below w.heap.size w w4 := hbr.grown HGR.out hbr.size (by intro k hk; simp at hk; have := HGG.out; omega)
      go_wp2
      go_roundw
      case rel =>
        refine ⟨i, win cs i zs, qs.set i q, by omega, by go_num, ⟨?_, small_win HZ.out.2.1 HZS.out, ?_, by simp [HZ.out.2.2.2.1], small_set HZ.out.2.2.2.2.1 _ _ hql, HMQ4.out.setI i _ q rfl, ?_, ?_⟩, hb4.setCell (by exact HGQ.out) _⟩
        · rw [length_win (by rw [HZL.out, HZ.out.1]; omega), HZ.out.1]
        · exact HZM.out.keep (Below.heap_setCell _ _ _ _ HNQ.out)
        · exact HMB4.out.keep (Below.heap_setCell _ _ _ _ HNB.out)
        · have h := HZ.out.2.2.2.2.2.2.2.step (q := q) (zs := zs) HZ.out.2.1 (by rw [HZ.out.1]; omega) (by rw [HZ.out.2.2.2.1]; omega) HDP.out (by omega) HUSE.out HQE.out (by rw [HZV.out, ← HQE.out]) HZL.out
          exact h
      case measure => simp [intOf]
    · obtain rfl : k = 0 := by omega
      have HDONE := Lib.hid (HZ.out.2.2.2.2.2.2.2.done)
      go_wp2_with fail
      refine (shiftDown_any g (m + 1 + l + 1) _ s cs wr HZ.out.2.2.1 HZ.out.2.1 HZ.out.1 (by omega) hs).mono ?_
      rintro e w4 ⟨⟨zs, rfl, hzm, hzl, hzs, hzv⟩, hgr⟩
      have HGR := Lib.hid hgr; clear hgr
      rw [HDONE.out.2] at hzv
      have HZM := Lib.hid hzm; clear hzm
      have HZL := Lib.hid hzl; clear hzl
      have HZS := Lib.hid hzs; clear hzs
      have HZV := Lib.hid hzv; clear hzv
      have HMQ4 := Lib.hid (HZ.out.2.2.2.2.2.1.grown HGR.out HNQ.out.symm)
      have HB4 : Hid (Below w.heap.size w w4) := hbr.grown HGR.out hbr.size (by intro k hk; simp at hk; have := HGG.out; omega)
      go_wp2_with fail
      refine (cut_mem (N := A / B) HMQ4.out HZ.out.2.2.2.2.1 HZ.out.2.2.2.1 (by omega) HDONE.out.1).mono ?_
      rintro e w' ⟨q, mq, rfl, hmq, hrq, rfl⟩
      have HMQ5 := Lib.hid hmq; clear hmq
      have HRQ := Lib.hid hrq; clear hrq
      go_wp2_with fail
      refine (cut_mem (N := A % B) HZM.out HZS.out HZL.out (by omega) HZV.out).mono ?_
      rintro e w' ⟨r, mr, rfl, hmr, hrr, rfl⟩
      have HMR5 := Lib.hid hmr; clear hmr
      have HRR := Lib.hid hrr; clear hrr
      go_wp2
      go_ret2
      exact ⟨q, mq, r, mr, rfl, HMQ5.out, HRQ.out, HMR5.out, HRR.out, HB4.out⟩
end Go.Proofs.Ytjpjibdcjmjcgaa
