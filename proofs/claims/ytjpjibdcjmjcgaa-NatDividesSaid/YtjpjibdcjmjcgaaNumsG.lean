/- Plain facts on the guess of a quotient's limb. -/
import Derived.Test.YtjpjibdcjmjcgaaNumsF
namespace Go.Proofs.Ytjpjibdcjmjcgaa.Nums

theorem val_split2 (xs : List Nat) (n : Nat) (hl : xs.length = n + 2) : val xs = val (xs.take n) + 4294967296 ^ n * (xs.getD n 0 + 4294967296 * xs.getD (n + 1) 0) := by
  have h1 := val_take_next xs n
  have h2 := val_take_next xs (n + 1)
  rw [List.take_of_length_le (by omega), Nat.pow_succ] at h2
  rw [h2, h1, Nat.mul_add, Nat.mul_assoc]
  omega

theorem val_split3 (xs : List Nat) (n : Nat) (hl : xs.length = n + 3) : val xs = val (xs.take n) + 4294967296 ^ n * (xs.getD n 0 + 4294967296 * (xs.getD (n + 1) 0 + 4294967296 * xs.getD (n + 2) 0)) := by
  have h1 := val_take_next xs n
  have h2 := val_take_next xs (n + 1)
  have h3 := val_take_next xs (n + 2)
  rw [List.take_of_length_le (by omega), Nat.pow_succ, Nat.pow_succ] at h3
  rw [Nat.pow_succ] at h2
  rw [h3, h2, h1]
  simp only [Nat.mul_add, Nat.mul_assoc]
  omega

theorem low_lt (xs : List Nat) (hs : Small xs) (n : Nat) (hn : n ≤ xs.length) : val (xs.take n) < 4294967296 ^ n := by
  have := val_lt (xs.take n) (small_take hs n)
  rwa [List.length_take, Nat.min_eq_left hn] at this

/-- what the loop of the guess keeps: t times high and r are top; no right q is above t -/
def GuessAt (high top y0 x0 t r : Nat) : Prop := t * high + r = top ∧ ∀ q, q * (high * 4294967296 + y0) ≤ top * 4294967296 + x0 → q ≤ 4294967295 → q ≤ t

theorem guess_start (high top y0 x0 : Nat) (hh : 0 < high) (hx : x0 < 4294967296) : GuessAt high top y0 x0 (top / high) (top % high) := by
  refine ⟨by rw [Nat.mul_comm]; exact Nat.div_add_mod top high, fun q hq _ => ?_⟩
  rw [Nat.le_div_iff_mul_le hh]
  have h1 : q * (high * 4294967296 + y0) = q * high * 4294967296 + q * y0 := by rw [Nat.mul_add, Nat.mul_assoc]
  omega

theorem guess_step {high top y0 x0 t r : Nat} (h : GuessAt high top y0 x0 t r) (hc : 4294967295 < t ∨ r * 4294967296 + x0 < t * y0) : 0 < t ∧ GuessAt high top y0 x0 (t - 1) (r + high) := by
  obtain ⟨h1, h2⟩ := h
  have h0 : 0 < t := by
    rcases Nat.eq_zero_or_pos t with h | h
    · subst h; omega
    · exact h
  refine ⟨h0, ?_, fun q hq hq' => ?_⟩
  · obtain ⟨s, rfl⟩ : ∃ s, t = s + 1 := ⟨t - 1, by omega⟩
    rw [Nat.add_mul, Nat.one_mul] at h1
    simp only [Nat.add_sub_cancel]
    omega
  · have h3 := h2 q hq hq'
    rcases hc with hc | hc
    · omega
    · have : q ≠ t := by
        rintro rfl
        have e : q * (high * 4294967296 + y0) = q * high * 4294967296 + q * y0 := by rw [Nat.mul_add, Nat.mul_assoc]
        omega
      omega

theorem guess_exit {high top y0 x0 t r : Nat} (h : GuessAt high top y0 x0 t r) (hy : y0 < 4294967296) (htop : top < (high + 1) * 4294967296) (hh : 0 < high) (hc : 4294967295 < r ∨ (t ≤ 4294967295 ∧ t * y0 ≤ r * 4294967296 + x0)) : t ≤ 4294967295 ∧ t * (high * 4294967296 + y0) ≤ top * 4294967296 + x0 := by
  obtain ⟨h1, _⟩ := h
  have e : t * (high * 4294967296 + y0) = t * high * 4294967296 + t * y0 := by rw [Nat.mul_add, Nat.mul_assoc]
  rcases hc with hc | ⟨hc, hc'⟩
  · have ht : t ≤ 4294967295 := by
      rcases Nat.lt_or_ge 4294967295 t with h | h
      · exfalso
        have : 4294967296 * high ≤ t * high := Nat.mul_le_mul_right _ h
        rw [Nat.add_mul] at htop
        omega
      · exact h
    refine ⟨ht, ?_⟩
    have : t * y0 ≤ 4294967295 * 4294967295 := Nat.mul_le_mul ht (by omega)
    omega
  · exact ⟨hc, by omega⟩

theorem guess_cover {A D u v K t a d : Nat} (ea : A = a + K * u) (ed : D = d + K * v) (la : a < K) (ld : d < K) (hle : t * v ≤ u) (hv : t ≤ v + 1) (hmax : ∀ q, q * v ≤ u → q ≤ 4294967295 → q ≤ t) (hq : A < 4294967296 * D) : A / D ≤ t ∧ t ≤ A / D + 1 := by
  refine guess_right A D u v K t ?_ ?_ ?_ ?_ hle hv hmax hq
  · rw [Nat.mul_comm u]; omega
  · rw [Nat.add_mul, Nat.one_mul, Nat.mul_comm u]; omega
  · rw [Nat.mul_comm v]; omega
  · rw [Nat.add_mul, Nat.one_mul, Nat.mul_comm v]; omega

theorem guess_done (A D n t : Nat) (as ds : List Nat) (x2 x1 x0 y1 y0 : Nat) (ha : as.length = n + 3) (hd : ds.length = n + 2) (hsa : Small as) (hsd : Small ds) (hA : A = val as) (hD : D = val ds)
    (hx2 : x2 = as.getD (n + 2) 0) (hx1 : x1 = as.getD (n + 1) 0) (hx0 : x0 = as.getD n 0) (hy1 : y1 = ds.getD (n + 1) 0) (hy0 : y0 = ds.getD n 0)
    (hy : 0 < y1) (hq : A < 4294967296 * D) (ht : t ≤ 4294967295) (hle : t * (y1 * 4294967296 + y0) ≤ (x2 * 4294967296 + x1) * 4294967296 + x0)
    (hmax : ∀ q, q * (y1 * 4294967296 + y0) ≤ (x2 * 4294967296 + x1) * 4294967296 + x0 → q ≤ 4294967295 → q ≤ t) : A / D ≤ t ∧ t ≤ A / D + 1 := by
  have ea := val_split3 as n ha
  have ed := val_split2 ds n hd
  have la := low_lt as hsa n (by omega)
  have ld := low_lt ds hsd n (by omega)
  rw [← hx2, ← hx1, ← hx0, ← hA] at ea
  rw [← hy1, ← hy0, ← hD] at ed
  have eu : x0 + 4294967296 * (x1 + 4294967296 * x2) = (x2 * 4294967296 + x1) * 4294967296 + x0 := by omega
  have ev : y0 + 4294967296 * y1 = y1 * 4294967296 + y0 := by omega
  rw [eu] at ea
  rw [ev] at ed
  have hv : t ≤ y1 * 4294967296 + y0 + 1 := by omega
  exact guess_cover ea ed la ld hle hv hmax hq

/-- the highest limb is not above the divisor's -/
theorem top_le (n : Nat) (as ds : List Nat) (ha : as.length = n + 1) (hd : ds.length = n) (hn : 1 ≤ n) (hsd : Small ds) (hq : val as < 4294967296 * val ds) : as.getD n 0 ≤ ds.getD (n - 1) 0 := by
  obtain ⟨m, rfl⟩ : ∃ m, n = m + 1 := ⟨n - 1, by omega⟩
  have h1 := val_take_next as (m + 1)
  rw [List.take_of_length_le (by omega)] at h1
  have h2 := val_take_next ds m
  rw [List.take_of_length_le (by omega)] at h2
  have h3 := low_lt ds hsd m (by omega)
  simp only [Nat.add_sub_cancel]
  generalize as.getD (m + 1) 0 = x at *
  generalize ds.getD m 0 = y at *
  have h4 : val ds < 4294967296 ^ m * (y + 1) := by rw [Nat.mul_add]; omega
  have h5 : 4294967296 ^ (m + 1) * x < 4294967296 ^ (m + 1) * (y + 1) := by
    have e : 4294967296 ^ (m + 1) * (y + 1) = 4294967296 * (4294967296 ^ m * (y + 1)) := by rw [Nat.pow_succ, Nat.mul_comm (4294967296 ^ m) 4294967296, Nat.mul_assoc]
    rw [e]
    omega
  have := Nat.lt_of_mul_lt_mul_left h5
  omega
end Go.Proofs.Ytjpjibdcjmjcgaa.Nums
