/- Plain facts on a division limb by limb, of rows that were shifted. -/
import Derived.Test.YtjpjibdcjmjcgaaNumsH
namespace Go.Proofs.Ytjpjibdcjmjcgaa.Nums

theorem val_cut (xs : List Nat) (n : Nat) : val xs = val (xs.take n) + 4294967296 ^ (min n xs.length) * val (xs.drop n) := by
  have h := val_append (xs.take n) (xs.drop n)
  rw [List.take_append_drop, List.length_take] at h
  exact h

theorem val_take_lt (xs : List Nat) (n : Nat) (h : val xs < 4294967296 ^ n) : val (xs.take n) = val xs ∧ val (xs.drop n) = 0 := by
  by_cases hn : n ≤ xs.length
  · have h1 := val_cut xs n
    rw [Nat.min_eq_left hn] at h1
    have h2 : val (xs.drop n) = 0 := by
      rcases Nat.eq_zero_or_pos (val (xs.drop n)) with h2 | h2
      · exact h2
      · exfalso
        have : 4294967296 ^ n * 1 ≤ 4294967296 ^ n * val (xs.drop n) := Nat.mul_le_mul_left _ h2
        omega
    rw [h2] at h1
    exact ⟨by omega, h2⟩
  · rw [List.take_of_length_le (by omega), List.drop_eq_nil_of_le (by omega)]
    exact ⟨rfl, rfl⟩

/-- the divisor, shifted till its highest bit is set, has as many limbs, and its highest one is great -/
theorem norm_divisor (bs ds : List Nat) (n s y : Nat) (hb : bs.length = n + 1) (hsb : Small bs) (hy : y = bs.getD n 0) (h1 : y * 2 ^ s < 4294967296) (h2 : 2147483648 ≤ y * 2 ^ s) (hs : s ≤ 31) (hd : ds.length = n + 2) (hsd : Small ds) (hv : val ds = val bs * 2 ^ s) :
    val (ds.take (n + 1)) = val bs * 2 ^ s ∧ 2147483648 ≤ (ds.take (n + 1)).getD n 0 ∧ val bs * 2 ^ s < 4294967296 ^ (n + 1) := by
  have hP : 0 < 2 ^ s := Nat.pow_pos (by omega)
  have e := val_take_succ bs n (by omega)
  rw [List.take_of_length_le (by omega), ← hy] at e
  have hlow := val_lt (bs.take n) (small_take hsb n)
  rw [List.length_take, Nat.min_eq_left (by omega)] at hlow
  have hPQ : 2 ^ s * 2 ^ (32 - s) = 4294967296 := by rw [← Nat.pow_add, show s + (32 - s) = 32 by omega]
  have hy1 : (y + 1) * 2 ^ s ≤ 4294967296 := by
    have h3 : y < 2 ^ (32 - s) := by
      apply Nat.lt_of_mul_lt_mul_right (a := 2 ^ s)
      rw [Nat.mul_comm (2 ^ (32 - s)), hPQ]; exact h1
    have h4 : (y + 1) * 2 ^ s ≤ 2 ^ (32 - s) * 2 ^ s := Nat.mul_le_mul_right _ h3
    rw [Nat.mul_comm (2 ^ (32 - s)), hPQ] at h4
    exact h4
  have hlt : val bs * 2 ^ s < 4294967296 ^ (n + 1) := by
    have h5 : val bs < 4294967296 ^ n * (y + 1) := by rw [Nat.mul_add]; omega
    have h6 : val bs * 2 ^ s < 4294967296 ^ n * (y + 1) * 2 ^ s := (Nat.mul_lt_mul_right hP).2 h5
    have h7 : 4294967296 ^ n * (y + 1) * 2 ^ s ≤ 4294967296 ^ (n + 1) := by
      rw [Nat.mul_assoc, Nat.pow_succ]; exact Nat.mul_le_mul_left _ hy1
    omega
  have ht := val_take_lt ds (n + 1) (by rw [hv]; exact hlt)
  refine ⟨by rw [ht.1, hv], ?_, hlt⟩
  have e2 := val_take_succ (ds.take (n + 1)) n (by simp; omega)
  rw [List.take_of_length_le (by rw [List.length_take]; exact Nat.min_le_left _ _), ht.1, hv] at e2
  have hlow2 := val_lt ((ds.take (n + 1)).take n) (small_take (small_take hsd _) n)
  rw [List.length_take, List.length_take, Nat.min_eq_left (by omega)] at hlow2
  have h8 : 4294967296 ^ n * 2147483648 ≤ val bs * 2 ^ s := by
    have h9 : 4294967296 ^ n * y * 2 ^ s ≤ val bs * 2 ^ s := Nat.mul_le_mul_right _ (by omega)
    have h10 : 4294967296 ^ n * 2147483648 ≤ 4294967296 ^ n * (y * 2 ^ s) := Nat.mul_le_mul_left _ h2
    rw [← Nat.mul_assoc] at h10
    omega
  generalize (ds.take (n + 1)).getD n 0 = z at *
  have h11 : 4294967296 ^ n * 2147483648 < 4294967296 ^ n * (z + 1) := by rw [Nat.mul_add (4294967296 ^ n) z 1]; omega
  have := Nat.lt_of_mul_lt_mul_left h11
  omega

/-- k limbs of the quotient are still to come -/
def LongAt (N D : Nat) (cs qs : List Nat) (k : Nat) : Prop := N = val (qs.drop k) * 4294967296 ^ k * D + val cs ∧ val (cs.drop k) < D

theorem LongAt.pre {N D i : Nat} {cs qs : List Nat} (h : LongAt N D cs qs (i + 1)) (hcs : Small cs) (hi : i < cs.length) : val (cs.drop i) < 4294967296 * D := by
  have h2 := h.2
  rw [val_drop cs i hi]
  have := getD_lt cs hcs i
  omega

theorem LongAt.step {N D i n q : Nat} {cs qs us zs : List Nat} (h : LongAt N D cs qs (i + 1)) (hcs : Small cs) (hi : i + n ≤ cs.length) (hiq : i < qs.length) (hD : D * 4294967296 ≤ 4294967296 ^ n) (hn : 0 < n)
    (hus : us = (cs.drop i).take n) (hq : q = val us / D) (hz : val zs = val us - val us / D * D) (hzl : zs.length = n) : LongAt N D (cs.take i ++ (zs ++ cs.drop (i + zs.length))) (qs.set i q) i := by
  have hpre := h.pre hcs (by omega)
  have hcut := val_take_lt (cs.drop i) n (by omega)
  rw [← hus, List.drop_drop] at hcut
  have hD0 : 0 < D := by
    rcases Nat.eq_zero_or_pos D with h' | h'
    · rw [h'] at hpre; omega
    · exact h'
  have hle : val us / D * D ≤ val us := Nat.div_mul_le_self _ _
  have e1 := val_cut cs i
  rw [Nat.min_eq_left (by omega), ← hcut.1] at e1
  have hdrop : val (cs.drop (i + zs.length)) = 0 := by rw [hzl]; exact hcut.2
  have hti : (cs.take i).length = i := by simp; omega
  have e2 : val (cs.take i ++ (zs ++ cs.drop (i + zs.length))) = val (cs.take i) + 4294967296 ^ i * val zs := by
    rw [val_append, hti, val_append, hdrop, Nat.mul_zero, Nat.add_zero]
  have e3 : val ((qs.set i q).drop i) = q + 4294967296 * val (qs.drop (i + 1)) := by
    rw [val_drop _ i (by simpa using hiq)]
    have e4 : (qs.set i q).getD i 0 = q := by simp [hiq]
    rw [e4, List.drop_set, if_pos (by omega)]
  refine ⟨?_, ?_⟩
  · rw [e2, e3, h.1, e1, hz, ← hq, Nat.pow_succ]
    have e5 : 4294967296 ^ i * val us = 4294967296 ^ i * (val us - q * D) + 4294967296 ^ i * (q * D) := by
      rw [← Nat.mul_add]; congr 1; rw [hq]; omega
    rw [e5]
    have e6 : (q + 4294967296 * val (qs.drop (i + 1))) * 4294967296 ^ i * D = 4294967296 ^ i * (q * D) + val (qs.drop (i + 1)) * (4294967296 ^ i * 4294967296) * D := by
      rw [Nat.add_mul, Nat.add_mul]
      congr 1
      · rw [Nat.mul_comm q, Nat.mul_assoc]
      · congr 1
        rw [Nat.mul_comm 4294967296 (val _), Nat.mul_assoc, Nat.mul_comm 4294967296 (4294967296 ^ i)]
    rw [e6]
    omega
  · have e7 : (cs.take i ++ (zs ++ cs.drop (i + zs.length))).drop i = zs ++ cs.drop (i + zs.length) := by
      rw [List.drop_append_of_le_length (by omega), List.drop_eq_nil_of_le (by omega), List.nil_append]
    rw [e7, val_append, hdrop, Nat.mul_zero, Nat.add_zero, hz]
    have := Nat.mod_lt (val us) hD0
    have e8 := Nat.div_add_mod (val us) D
    rw [Nat.mul_comm D] at e8
    omega

theorem LongAt.start {A s D n0 n1 : Nat} {cs : List Nat} (hv : val cs = A * 2 ^ s) (hl : cs.length = n0 + 1) (hcs : Small cs) (hA : A < 4294967296 ^ n0) (hn : n1 ≤ n0) (hD : 4294967296 ^ n1 * 2 ^ s ≤ D * 4294967296) (hs : s ≤ 31) (h1 : 1 ≤ n1) : LongAt (A * 2 ^ s) D cs (List.replicate (n0 - n1 + 1) 0) (n0 - n1 + 1) := by
  refine ⟨?_, ?_⟩
  · rw [List.drop_eq_nil_of_le (by simp), hv]; simp [val]
  · have h2 := val_cut cs (n0 - n1 + 1)
    rw [Nat.min_eq_left (by omega), hv] at h2
    have hP : 0 < 2 ^ s := Nat.pow_pos (by omega)
    have h3 : A * 2 ^ s < 4294967296 ^ n0 * 2 ^ s := (Nat.mul_lt_mul_right hP).2 hA
    have h4 : 4294967296 ^ n0 * 2 ^ s * 4294967296 = 4294967296 ^ (n0 - n1 + 1) * (4294967296 ^ n1 * 2 ^ s) := by
      rw [← Nat.mul_assoc, ← Nat.pow_add, Nat.mul_right_comm, ← Nat.pow_succ, show n0 - n1 + 1 + n1 = n0 + 1 by omega]
    have h5 : 4294967296 ^ (n0 - n1 + 1) * (4294967296 ^ n1 * 2 ^ s) ≤ 4294967296 ^ (n0 - n1 + 1) * D * 4294967296 := by
      rw [Nat.mul_assoc (4294967296 ^ (n0 - n1 + 1)) D]; exact Nat.mul_le_mul_left _ hD
    have h6 : 4294967296 ^ n0 * 2 ^ s ≤ 4294967296 ^ (n0 - n1 + 1) * D := by
      have : 4294967296 ^ n0 * 2 ^ s * 4294967296 ≤ 4294967296 ^ (n0 - n1 + 1) * D * 4294967296 := by rw [h4]; exact h5
      exact Nat.le_of_mul_le_mul_right this (by omega)
    have h7 : 4294967296 ^ (n0 - n1 + 1) * val (cs.drop (n0 - n1 + 1)) < 4294967296 ^ (n0 - n1 + 1) * D := by omega
    exact Nat.lt_of_mul_lt_mul_left h7

theorem LongAt.done {A B s : Nat} {cs qs : List Nat} (h : LongAt (A * 2 ^ s) (B * 2 ^ s) cs qs 0) : val qs = A / B ∧ val cs / 2 ^ s = A % B := by
  have hP : 0 < 2 ^ s := Nat.pow_pos (by omega)
  obtain ⟨h1, h2⟩ := h
  simp only [List.drop_zero, Nat.pow_zero, Nat.mul_one] at h1 h2
  have e1 : val cs = (A - val qs * B) * 2 ^ s := by
    rw [Nat.sub_mul, h1, Nat.mul_assoc]; omega
  have e2 : A - val qs * B < B := by
    rw [e1] at h2
    exact Nat.lt_of_mul_lt_mul_right h2
  have e3 : val qs * B ≤ A := by
    have : val qs * B * 2 ^ s ≤ A * 2 ^ s := by rw [h1, Nat.mul_assoc]; omega
    exact Nat.le_of_mul_le_mul_right this hP
  have e4 : A = val qs * B + (A - val qs * B) := by omega
  have hd : val qs = A / B ∧ A - val qs * B = A % B := by
    have hB : 0 < B := by omega
    have h5 : A = B * val qs + (A - val qs * B) := by rw [Nat.mul_comm B]; exact e4
    generalize A - val qs * B = r at *
    subst h5
    exact ⟨by rw [Nat.mul_add_div hB, Nat.div_eq_of_lt e2]; rfl, by rw [Nat.mul_add_mod, Nat.mod_eq_of_lt e2]⟩
  refine ⟨hd.1, ?_⟩
  rw [e1, Nat.mul_div_cancel _ hP, hd.2]
end Go.Proofs.Ytjpjibdcjmjcgaa.Nums
