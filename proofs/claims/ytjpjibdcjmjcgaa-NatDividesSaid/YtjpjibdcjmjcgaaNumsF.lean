/- Plain facts on a division of long numbers: the guess, taking off, giving back. -/
import Derived.Test.YtjpjibdcjmjcgaaNumsC
namespace Go.Proofs.Ytjpjibdcjmjcgaa.Nums

/-- The guess from the highest limbs is the quotient, or one more. v: the two highest limbs of the divisor, u: the three highest of what is divided; K: what the limbs below count. -/
theorem guess_right (A D u v K t : Nat) (hA : u * K ≤ A) (hA' : A < (u + 1) * K) (hD : v * K ≤ D) (hD' : D < (v + 1) * K) (ht : t * v ≤ u) (htv : t ≤ v + 1) (hmax : ∀ q, q * v ≤ u → q ≤ 4294967295 → q ≤ t) (hq : A < 4294967296 * D) :
    A / D ≤ t ∧ t ≤ A / D + 1 := by
  have hD0 : 0 < D := by
    rcases Nat.eq_zero_or_pos D with h | h
    · rw [h] at hq; omega
    · exact h
  constructor
  · apply hmax
    · have h1 : A / D * D ≤ A := Nat.div_mul_le_self A D
      have h2 : A / D * (v * K) ≤ A / D * D := Nat.mul_le_mul_left _ hD
      have h3 : A / D * v * K < (u + 1) * K := by rw [Nat.mul_assoc]; omega
      exact Nat.le_of_lt_succ (Nat.lt_of_mul_lt_mul_right h3)
    · have : A / D < 4294967296 := by rw [Nat.div_lt_iff_lt_mul hD0]; exact hq
      omega
  · rcases Nat.eq_zero_or_pos t with h0 | h0
    · rw [h0]; exact Nat.zero_le _
    · obtain ⟨s, rfl⟩ : ∃ s, t = s + 1 := ⟨t - 1, by omega⟩
      have h1 : s * D ≤ A := by
        have e1 : s * D ≤ s * ((v + 1) * K) := Nat.mul_le_mul_left _ (Nat.le_of_lt hD')
        have e2 : s * ((v + 1) * K) = (s * v + s) * K := by rw [← Nat.mul_assoc, Nat.mul_add, Nat.mul_one]
        have e3 : (s * v + s) * K ≤ u * K := by
          apply Nat.mul_le_mul_right
          rw [Nat.add_mul, Nat.one_mul] at ht
          omega
        omega
      have h2 : s ≤ A / D := (Nat.le_div_iff_mul_le hD0).2 h1
      omega

/-- Taking t times D off A, limb by limb: the row zs now; c: what is carried, b: what is borrowed. -/
def TakeAt (A D : List Nat) (t : Nat) (zs : List Nat) (k c b : Nat) : Prop := val (zs.take k) + t * val (D.take k) = val (A.take k) + 4294967296 ^ k * (b + c) ∧ ∀ j, k ≤ j → zs.getD j 0 = A.getD j 0

theorem TakeAt.step {A D zs : List Nat} {t k c b x y lo c' d b' : Nat} (h : TakeAt A D t zs k c b) (hk : k < zs.length) (hx : x = zs.getD k 0) (hy : y = D.getD k 0) (hc : lo + 4294967296 * c' = c + y * t) (hd : d + lo + b = x + 4294967296 * b') : TakeAt A D t (zs.set k d) (k + 1) c' b' := by
  obtain ⟨h1, h2⟩ := h
  refine ⟨?_, ?_⟩
  · rw [val_set_take zs k d hk, val_take_next D, val_take_next A, ← h2 k (Nat.le_refl _), ← hx, ← hy, Nat.pow_succ, Nat.mul_assoc, Nat.mul_add t]
    have e : 4294967296 ^ k * (d + lo + b + (c + y * t)) = 4294967296 ^ k * (x + 4294967296 * b' + (lo + 4294967296 * c')) := by rw [hd, hc]
    simp only [Nat.mul_add] at e ⊢
    have e2 : t * (4294967296 ^ k * y) = 4294967296 ^ k * (y * t) := by rw [Nat.mul_comm y t, Nat.mul_left_comm]
    rw [e2]
    simp only [Nat.mul_add] at h1
    omega
  · intro j hj
    rw [← h2 j (by omega)]
    simp [show k ≠ j by omega]

/-- the row after the last limb: A less t times D, or more by a power -/
theorem TakeAt.last {A D zs : List Nat} {t n c b x d b' : Nat} (h : TakeAt A D t zs n c b) (hl : zs.length = n + 1) (hA : A.length = n + 1) (hD : D.length = n) (hx : x = zs.getD n 0) (hd : d + c + b = x + 4294967296 * b') : val (zs.set n d) + t * val D = val A + 4294967296 ^ (n + 1) * b' := by
  have h' := h.step (d := d) (lo := c) (c' := 0) (b' := b') (y := 0) (by omega) hx (by rw [getD_ge D n (by omega)]) (by omega) hd
  have h1 := h'.1
  rw [List.take_of_length_le (by simp; omega), List.take_of_length_le (by omega), List.take_of_length_le (by omega), Nat.add_zero] at h1
  exact h1

/-- Giving D back, limb by limb. -/
def GiveAt (A D : List Nat) (zs : List Nat) (k c : Nat) : Prop := val (zs.take k) + 4294967296 ^ k * c = val (A.take k) + val (D.take k) ∧ ∀ j, k ≤ j → zs.getD j 0 = A.getD j 0

theorem GiveAt.step {A D zs : List Nat} {k c x y u c' : Nat} (h : GiveAt A D zs k c) (hk : k < zs.length) (hx : x = zs.getD k 0) (hy : y = D.getD k 0) (hu : u + 4294967296 * c' = x + y + c) : GiveAt A D (zs.set k u) (k + 1) c' := by
  obtain ⟨h1, h2⟩ := h
  refine ⟨?_, ?_⟩
  · rw [val_set_take zs k u hk, val_take_next D, val_take_next A, ← h2 k (Nat.le_refl _), ← hx, ← hy, Nat.pow_succ, Nat.mul_assoc]
    have e : 4294967296 ^ k * (u + 4294967296 * c') = 4294967296 ^ k * (x + y + c) := by rw [hu]
    simp only [Nat.mul_add] at e
    omega
  · intro j hj
    rw [← h2 j (by omega)]
    simp [show k ≠ j by omega]

theorem GiveAt.last {A D zs : List Nat} {n c x u c' : Nat} (h : GiveAt A D zs n c) (hl : zs.length = n + 1) (hA : A.length = n + 1) (hD : D.length = n) (hx : x = zs.getD n 0) (hu : u + 4294967296 * c' = x + c) : val (zs.set n u) + 4294967296 ^ (n + 1) * c' = val A + val D := by
  have h' := h.step (u := u) (c' := c') (y := 0) (by omega) hx (by rw [getD_ge D n (by omega)]) (by omega)
  have h1 := h'.1
  rw [List.take_of_length_le (by simp; omega), List.take_of_length_le (by omega), List.take_of_length_le (by omega)] at h1
  exact h1

/-- what takeOff comes to -/
theorem off_plain {A D V t M b' : Nat} (h : V + t * D = A + M * b') (hb : b' = 0) (hq : A / D ≤ t) (hD : 0 < D) : V = A - A / D * D ∧ t = A / D := by
  subst hb
  rw [Nat.mul_zero, Nat.add_zero] at h
  have h1 : t * D ≤ A := by omega
  have h2 : t ≤ A / D := (Nat.le_div_iff_mul_le hD).2 h1
  have e : t = A / D := by omega
  subst e
  exact ⟨by omega, rfl⟩

theorem off_back {A D V V' t M b' c' : Nat} (hV : V < M) (hV' : V' < M) (hDM : D ≤ M) (h : V + t * D = A + M * b') (hb : b' = 1) (hg : V' + M * c' = V + D) (hq : t ≤ A / D + 1) (hD : 0 < D) : 0 < t ∧ t - 1 = A / D ∧ V' = A - A / D * D := by
  subst hb
  have hlt : A < t * D := by omega
  have h0 : 0 < t := by
    rcases Nat.eq_zero_or_pos t with h | h
    · subst h; omega
    · exact h
  have h1 : A / D < t := by rw [Nat.div_lt_iff_lt_mul hD]; exact hlt
  have e : t = A / D + 1 := by omega
  have h2 : A / D * D ≤ A := Nat.div_mul_le_self A D
  have h3 : t * D = A / D * D + D := by rw [e, Nat.add_mul, Nat.one_mul]
  refine ⟨h0, by omega, ?_⟩
  have h4 : A < A / D * D + D := by omega
  have hc : c' = 1 := by
    rcases Nat.lt_or_ge c' 1 with hh | hh
    · have : c' = 0 := by omega
      subst this; omega
    · rcases Nat.lt_or_ge 1 c' with hh2 | hh2
      · exfalso
        have : M * 2 ≤ M * c' := Nat.mul_le_mul_left _ hh2
        omega
      · omega
  subst hc
  omega
end Go.Proofs.Ytjpjibdcjmjcgaa.Nums
