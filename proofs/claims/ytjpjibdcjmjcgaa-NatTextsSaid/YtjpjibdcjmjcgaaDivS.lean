/- What split, and divide by one limb, tell. -/
import Derived.Test.YtjpjibdcjmjcgaaShort
namespace Go.Proofs.Ytjpjibdcjmjcgaa
open Go.RowKit Nums

theorem mem_alloc (w : World) (cs : List Nat) (vs : Array Value) (h : vs = (cs.map u32).toArray) : Mem (w.alloc (.cells vs 38)) w.heap.size cs := by
  unfold Mem; rw [heap_alloc_new, h]

theorem cut_pair (w : World) (A B : Int) (a b : Nat) (hA : A = (a : Int)) (hB : B = (b : Int)) (ha : a < 4294967296) (hb : b < 4294967296) :
    Calls Try.prog 33 #[.slice (some ⟨w.heap.size, 0, none⟩) 2 2] (w.alloc (.cells #[.int .u32 A, .int .u32 B] 38)) (Num (a + 4294967296 * b) w) := by
  subst hA; subst hB
  exact num_of_cut (zs := [a, b]) (mem_alloc w [a, b] _ rfl) (by intro x hx; simp at hx; omega) rfl (by omega) (by simp [val]) ((Below.refl _ _).alloc (Nat.le_refl _) _)

set_option maxHeartbeats 1000000 in
theorem split_any (X : Int) (x : Nat) (w : World) (hX : X = (x : Int)) (hx : x < 18446744073709551616) :
    Calls Try.prog 47 #[.int .u64 X] w (Num x w) := by
  subst hX
  have h1 : x / 4294967296 < 4294967296 := by omega
  obtain ⟨lo, hlo⟩ : ∃ lo, lo = x % 4294967296 := ⟨_, rfl⟩
  obtain ⟨hi, hhi⟩ : ∃ hi, hi = x / 4294967296 := ⟨_, rfl⟩
  have hloI : (x : Int) % 4294967296 = (lo : Int) := by omega
  have hhiI : (x : Int) / 4294967296 = (hi : Int) := by omega
  have hl : lo < 4294967296 := by omega
  have hh : hi < 4294967296 := by omega
  have hs : lo + 4294967296 * hi = x := by omega
  have HLO := Lib.hid hloI; clear hloI hlo
  have HHI := Lib.hid hhiI; clear hhiI hhi
  have HS := Lib.hid hs; clear hs
  go_enter Try.func47, Try.ntmps47
  go_wp2_with fail
  refine (cut_pair w _ _ lo hi HLO.out (by first | exact HHI.out | (rw [HHI.out]; omega)) hl hh).mono ?_
  rw [HS.out]
  rintro e w' ⟨a', m, rfl, hm, hrow, hb⟩
  have HM := Lib.hid hm; clear hm
  have HROW := Lib.hid hrow; clear hrow
  have HB := Lib.hid hb; clear hb
  go_wp2
  go_ret
  exact ⟨a', m, rfl, HM.out, HROW.out, HB.out⟩

/-- quotient and rest of A by B -/
def QR (A B : Nat) (w : World) (e : Ending) (w' : World) : Prop :=
  ∃ q mq r mr, e = .returned (.tuple #[.slice q mq mq, .slice r mr mr]) ∧ mq = (limbs (A / B)).length ∧ Row w' q mq mq (limbs (A / B)) ∧ mr = (limbs (A % B)).length ∧ Row w' r mr mr (limbs (A % B)) ∧ Below w.heap.size w w'

set_option maxHeartbeats 1000000 in
/-- the divisor is greater -/
theorem divide_less (a0 a1 : Option Addr) (n0 n1 : Nat) (A B : Nat) (w : World) (h0 : Row w a0 n0 n0 (limbs A)) (h1 : Row w a1 n1 n1 (limbs B)) (hn0 : n0 ≤ 100000000) (hn1 : n1 ≤ 100000000) (hlt : A < B) :
    Calls Try.prog 44 #[.slice a0 n0 n0, .slice a1 n1 n1] w (QR A B w) := by
  have H0 := Lib.hid h0; clear h0
  have H1 := Lib.hid h1; clear h1
  have HL := Lib.hid hlt; clear hlt
  go_enter Try.func44, Try.ntmps44
  go_wp2_with fail
  refine (cmp_lt a0 a1 n0 n0 n1 n1 _ _ w H0.out H1.out (by omega) (by omega) (by rw [val_limbs, val_limbs]; exact HL.out)).mono ?_
  rintro e w1 ⟨rfl, hb⟩
  have HB := Lib.hid hb; clear hb
  go_wp2_with fail
  refine (told_any a0 n0 n0 (limbs A) w1 (row_below (Nat.le_refl _) HB.out H0.out) (by omega)).mono ?_
  rintro e w2 ⟨⟨a', m, rfl, hm, hmn, hrow, -⟩, hb2⟩
  have HB2 := Lib.hid hb2; clear hb2
  have hml : m = (limbs A).length := by rw [hm, tl_limbs]
  rw [hml, List.take_length] at hrow
  rw [← hml] at hrow
  have HM := Lib.hid hml; clear hml hm
  have HROW := Lib.hid hrow; clear hrow
  go_wp2
  go_ret2
  have hq : A / B = 0 := Nat.div_eq_of_lt HL.out
  have hr : A % B = A := Nat.mod_eq_of_lt HL.out
  refine ⟨none, 0, a', m, rfl, ?_, ?_, ?_, ?_, HB.out.trans (HB2.out.mono HB.out.size)⟩
  · rw [hq, limbs_zero]; rfl
  · rw [hq, limbs_zero]; exact row_nil _
  · rw [hr]; exact HM.out
  · rw [hr]; exact HROW.out

theorem quot_rest (A V d r : Nat) (hr : r < d) (h : A = V * d + r) : V = A / d ∧ r = A % d := by
  have h2 : A = d * V + r := by rw [h, Nat.mul_comm]
  constructor
  · rw [h2, Nat.mul_add_div (by omega), Nat.div_eq_of_lt hr]; rfl
  · rw [h2, Nat.mul_add_mod, Nat.mod_eq_of_lt hr]

set_option maxHeartbeats 2000000 in
/-- the divisor has one limb -/
theorem divide_short (a0 a1 : Option Addr) (n0 n1 : Nat) (A B : Nat) (w : World) (h0 : Row w a0 n0 n0 (limbs A)) (h1 : Row w a1 n1 n1 (limbs B)) (hn0 : n0 ≤ 100000000) (hn1 : n1 = 1) (hge : B ≤ A) :
    Calls Try.prog 44 #[.slice a0 n0 n0, .slice a1 n1 n1] w (QR A B w) := by
  subst hn1
  have hl1 : (limbs B).length = 1 := h1.1
  have hl0 : (limbs A).length = n0 := h0.1
  have hBv : B = (limbs B).getD 0 0 := by
    have h := val_limbs B
    match hb : limbs B, hl1 with
    | [b], _ => rw [hb] at h; simp [val] at h; simp [h]
  have hB0 : 0 < B := by
    rcases Nat.eq_zero_or_pos B with h | h
    · rw [h, limbs_zero] at hl1; simp at hl1
    · exact h
  have hBl : B < 4294967296 := by rw [hBv]; exact getD_lt _ (small_limbs B) 0
  have HL1 := Lib.hid hl1; clear hl1
  have HL0 := Lib.hid hl0; clear hl0
  obtain ⟨-, -, -, -, -, b1, o1, hor1, hc1⟩ := h1
  have hcell := hc1 0 (by omega)
  rw [← hBv, Nat.add_zero] at hcell
  have HBV := Lib.hid hBv; clear hBv
  rcases hor1 with rfl | hor1
  case inr => omega
  have H1 : Hid (Row w (some ⟨b1, o1, none⟩) 1 1 (limbs B)) := ⟨HL1.out, by omega, by unfold maxLen; omega, by simp, small_limbs B, b1, o1, Or.inl rfl, hc1⟩
  clear hc1
  have HC := Lib.hid hcell; clear hcell
  have H0 := Lib.hid h0; clear h0
  have HG := Lib.hid hge; clear hge
  go_enter Try.func44, Try.ntmps44
  go_wp2_with fail
  refine (cmp_ge a0 _ n0 n0 1 1 _ _ w H0.out H1.out (by omega) (by omega) (by rw [val_limbs, val_limbs]; exact HG.out)).mono ?_
  rintro e w1 ⟨⟨r, rfl, hr0⟩, hb⟩
  have HB := Lib.hid hb; clear hb
  go_wp2_with fail
  refine (told_any a0 n0 n0 (limbs A) w1 (row_below (Nat.le_refl _) HB.out H0.out) (by omega)).mono ?_
  rintro e w2 ⟨⟨a', m, rfl, hm, hmn, hrow, hor⟩, hb2⟩
  have hml : m = (limbs A).length := by rw [hm, tl_limbs]
  have hmpos : 0 < m := by
    rw [hml]
    rcases Nat.eq_zero_or_pos (limbs A).length with h | h
    · have := length_limbs_zero.1 h; have := HG.out; omega
    · exact h
  rcases hor with ⟨h, _⟩ | ⟨_, g, rfl, hg, hmem⟩
  · omega
  rw [hml, List.take_length] at hmem
  have HM := Lib.hid hml; clear hml hm hrow
  have HMEM := Lib.hid hmem; clear hmem
  have HB2 : Hid (Below w.heap.size w w2) := HB.out.trans (hb2.mono HB.out.size)
  have hg : w.heap.size ≤ g := Nat.le_trans HB.out.size hg
  clear hb2
  have hcellB : w2.cell? ⟨b1, o1, none⟩ = some (.int .u32 (B : Nat)) := by
    rw [HB2.out.cell (p := ⟨b1, o1, none⟩) HC.out.1]; exact HC.out.2
  go_wp2_with fail
  refine (shrink_any g m m (limbs A) w2 _ B rfl hB0 hBl HMEM.out (small_limbs A) (by rw [HM.out]; exact Nat.le_refl _) (by omega)).mono ?_
  rintro e w3 ⟨⟨qs, r', rfl, hql, hqs, hr', hv, hmem3⟩, hgr⟩
  have hv' : A = val qs * B + r' := by
    rw [List.take_of_length_le (by rw [HM.out]; exact Nat.le_refl _), val_limbs] at hv; exact hv
  rw [List.drop_eq_nil_of_le (by rw [HM.out]; exact Nat.le_refl _), List.append_nil] at hmem3
  have HQR := Lib.hid (quot_rest A (val qs) B r' hr' hv')
  have HQL := Lib.hid hql; clear hql
  have HMEM3 := Lib.hid hmem3; clear hmem3
  have hb3 : Below w.heap.size w w3 := HB2.out.grown hgr HB2.out.size (by rintro k hk; simp at hk; omega)
  have HB3 := Lib.hid hb3; clear hb3 hgr hv hv' hcellB
  go_wp2_with fail
  refine (num_of_cut (N := A / B) (w0 := w) (n := m) HMEM3.out hqs HQL.out (by omega) HQR.out.1 HB3.out).mono ?_
  rintro e w4 ⟨q, mq, rfl, hmq, hrowq, hb4⟩
  have HMQ := Lib.hid hmq; clear hmq
  have HRQ := Lib.hid hrowq; clear hrowq
  have HB4 := Lib.hid hb4; clear hb4
  go_wp2_with fail
  refine (split_any _ r' w4 rfl (by omega)).mono ?_
  rintro e w5 ⟨rr, mr, rfl, hmr, hrowr, hb5⟩
  have HMR := Lib.hid hmr; clear hmr
  have HRR := Lib.hid hrowr; clear hrowr
  have HB5 := Lib.hid hb5; clear hb5
  go_wp2
  go_ret2
  refine ⟨q, mq, rr, mr, rfl, HMQ.out, row_below (Nat.le_refl _) HB5.out HRQ.out, ?_, ?_, HB4.out.trans (HB5.out.mono HB4.out.size)⟩
  · rw [← HQR.out.2]; exact HMR.out
  · rw [← HQR.out.2]; exact HRR.out
end Go.Proofs.Ytjpjibdcjmjcgaa
