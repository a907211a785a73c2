/- Plain facts on decimal digits. -/
import Derived.Test.YtjpjibdcjmjcgaaNumsC
namespace Go.Proofs.Ytjpjibdcjmjcgaa.Nums

/-- the number that digits say, the least first -/
def dval : List UInt8 → Nat
  | [] => 0
  | c :: r => (c.toNat - 48) + 10 * dval r

def Digs (l : List UInt8) : Prop := ∀ c ∈ l, 48 ≤ c.toNat ∧ c.toNat ≤ 57

def dig (n : Nat) : List UInt8 := if h : n = 0 then [] else UInt8.ofNat (48 + n % 10) :: dig (n / 10)
termination_by n
decreasing_by omega

theorem dig_zero : dig 0 = [] := by rw [dig]; simp
theorem dig_pos {n : Nat} (h : n ≠ 0) : dig n = UInt8.ofNat (48 + n % 10) :: dig (n / 10) := by rw [dig]; simp [h]

theorem toNat_dig (n : Nat) : (UInt8.ofNat (48 + n % 10)).toNat = 48 + n % 10 := by
  rw [UInt8.toNat_ofNat']; omega

theorem digs_cons {c : UInt8} {l : List UInt8} : Digs (c :: l) ↔ (48 ≤ c.toNat ∧ c.toNat ≤ 57) ∧ Digs l := by simp [Digs]

theorem dval_append (a b : List UInt8) : dval (a ++ b) = dval a + 10 ^ a.length * dval b := by
  induction a with
  | nil => simp [dval]
  | cons c r ih =>
    simp only [List.cons_append, dval, ih, List.length_cons, Nat.pow_succ, Nat.mul_add]
    rw [Nat.mul_comm (10 ^ r.length) 10, Nat.mul_assoc, Nat.add_assoc]

theorem dval_dig (n : Nat) : dval (dig n) = n := by
  induction n using Nat.strongRecOn with
  | _ n ih =>
    by_cases h : n = 0
    · subst h; rw [dig_zero]; rfl
    · rw [dig_pos h, dval, ih (n / 10) (by omega), toNat_dig]; omega

theorem digs_dig (n : Nat) : Digs (dig n) := by
  induction n using Nat.strongRecOn with
  | _ n ih =>
    by_cases h : n = 0
    · subst h; rw [dig_zero]; intro c hc; cases hc
    · rw [dig_pos h, digs_cons, toNat_dig]; exact ⟨by omega, ih _ (by omega)⟩

/-- digits that do not end in a nought are the number's -/
theorem dig_unique (l : List UInt8) (hd : Digs l) (hl : l = [] ∨ (l.getD (l.length - 1) 0).toNat ≠ 48) : l = dig (dval l) := by
  induction l with
  | nil => rw [show dval [] = 0 from rfl, dig_zero]
  | cons c r ih =>
    have h := digs_cons.1 hd
    have hr : r = dig (dval r) := by
      apply ih h.2
      by_cases e : r = []
      · exact Or.inl e
      · right
        rcases hl with hl | hl
        · cases hl
        · obtain ⟨m, hm⟩ : ∃ m, r.length = m + 1 := ⟨r.length - 1, by have := List.length_pos_iff.2 e; omega⟩
          simp only [List.length_cons, hm, Nat.add_sub_cancel, List.getD_cons_succ] at hl ⊢
          exact hl
    have hne : dval (c :: r) ≠ 0 := by
      intro e
      simp only [dval] at e
      have e2 : dval r = 0 := by omega
      rw [e2, dig_zero] at hr
      subst hr
      rcases hl with hl | hl
      · cases hl
      · simp at hl; omega
    rw [dig_pos hne]
    have e1 : dval (c :: r) % 10 = c.toNat - 48 := by simp only [dval]; omega
    have e2 : dval (c :: r) / 10 = dval r := by simp only [dval]; omega
    rw [e1, e2, ← hr]
    congr 1
    apply UInt8.toNat_inj.1
    rw [UInt8.toNat_ofNat']; omega

/-- T's digits have been told of N0, what is left: part and, nine digits further, N; j of the nine have been told. -/
def DigAt (N0 : Nat) (T : List UInt8) (p N j : Nat) : Prop := Digs T ∧ N0 = dval T + 10 ^ T.length * (p + 10 ^ (9 - j) * N) ∧ p < 10 ^ (9 - j)

theorem DigAt.step {N0 p N j : Nat} {T : List UInt8} (h : DigAt N0 T p N j) (hj : j < 9) : DigAt N0 (T ++ [UInt8.ofNat (48 + p % 10)]) (p / 10) N (j + 1) := by
  obtain ⟨h1, h2, h3⟩ := h
  have e9 : 9 - j = (9 - (j + 1)) + 1 := by omega
  rw [e9, Nat.pow_succ] at h2 h3
  refine ⟨?_, ?_, ?_⟩
  · intro c hc
    rcases List.mem_append.1 hc with hc | hc
    · exact h1 c hc
    · rw [List.mem_singleton] at hc; rw [hc, toNat_dig]; omega
  · rw [h2, dval_append, List.length_append, List.length_singleton, Nat.pow_succ]
    simp only [dval, toNat_dig]
    have e : p + 10 ^ (9 - (j + 1)) * 10 * N = (48 + p % 10 - 48 + 10 * 0) + 10 * (p / 10 + 10 ^ (9 - (j + 1)) * N) := by
      have : 10 ^ (9 - (j + 1)) * 10 * N = 10 * (10 ^ (9 - (j + 1)) * N) := by rw [Nat.mul_comm (10 ^ (9 - (j + 1))) 10, Nat.mul_assoc]
      rw [this]; omega
    rw [e, Nat.mul_add (10 ^ T.length), Nat.mul_assoc, Nat.add_assoc]
  · omega

theorem DigAt.start {N0 N r N' : Nat} {T : List UInt8} (h : DigAt N0 T 0 N 9) (hN : N = N' * 1000000000 + r) (hr : r < 1000000000) : DigAt N0 T r N' 0 := by
  obtain ⟨h1, h2, h3⟩ := h
  refine ⟨h1, ?_, by simpa using hr⟩
  rw [h2, hN]
  congr 2
  simp only [Nat.sub_self, Nat.pow_zero, Nat.one_mul, Nat.zero_add, Nat.sub_zero]
  omega

theorem DigAt.next {N0 p N : Nat} {T : List UInt8} (h : DigAt N0 T p N 9) : DigAt N0 T 0 N 9 := by
  have : p = 0 := by have := h.2.2; simp at this; exact this
  rw [this] at h; exact h

theorem DigAt.len {N0 N n : Nat} {T : List UInt8} (h : DigAt N0 T 0 N 9) (hN : 0 < N) (hb : N0 < 4294967296 ^ n) : T.length ≤ 32 * n := by
  have h2 := h.2.1
  simp only [Nat.sub_self, Nat.pow_zero, Nat.one_mul, Nat.zero_add] at h2
  have h3 : 10 ^ T.length ≤ N0 := by
    have : 10 ^ T.length * 1 ≤ 10 ^ T.length * N := Nat.mul_le_mul_left _ hN
    omega
  have h4 : 2 ^ T.length ≤ 10 ^ T.length := Nat.pow_le_pow_left (by omega) _
  have h5 : (4294967296 : Nat) ^ n = 2 ^ (32 * n) := by rw [Nat.pow_mul]
  rw [h5] at hb
  apply Nat.le_of_lt
  exact (Nat.pow_lt_pow_iff_right (by omega)).1 (Nat.lt_of_le_of_lt (Nat.le_trans h4 h3) hb)

theorem DigAt.done {N0 : Nat} {T : List UInt8} (h : DigAt N0 T 0 0 9) : Digs T ∧ N0 = dval T := by
  refine ⟨h.1, ?_⟩
  have := h.2.1
  simpa using this

theorem dval_zeros (l : List UInt8) (h : ∀ i, i < l.length → (l.getD i 0).toNat = 48) : dval l = 0 := by
  induction l with
  | nil => rfl
  | cons c r ih =>
    have h0 := h 0 (by simp)
    simp at h0
    have := ih (fun i hi => by have := h (i + 1) (by simp; omega); simpa using this)
    simp only [dval, this, h0]

theorem dval_take (l : List UInt8) (m : Nat) (hm : m ≤ l.length) (h : ∀ i, m ≤ i → i < l.length → (l.getD i 0).toNat = 48) : dval (l.take m) = dval l := by
  have e : dval l = dval (l.take m ++ l.drop m) := by rw [List.take_append_drop]
  rw [e, dval_append]
  have : dval (l.drop m) = 0 := by
    apply dval_zeros
    intro i hi
    have := h (m + i) (by omega) (by simp at hi; omega)
    simpa using this
  rw [this]; simp

theorem digs_take {l : List UInt8} (h : Digs l) (m : Nat) : Digs (l.take m) := fun c hc => h c (List.mem_of_mem_take hc)

/-- The text of a number in radix 10. -/
def decStr (n : Nat) : ByteArray := if n = 0 then ⟨#[48]⟩ else ⟨(dig n).reverse.toArray⟩

theorem length_dig (n k : Nat) (h : n < 10 ^ k) : (dig n).length ≤ k := by
  induction k generalizing n with
  | zero => have : n = 0 := by simp at h; omega
            subst this; simp [dig_zero]
  | succ k ih =>
    by_cases hz : n = 0
    · subst hz; simp [dig_zero]
    · rw [dig_pos hz]
      have : n / 10 < 10 ^ k := by rw [Nat.div_lt_iff_lt_mul (by omega)]; rw [Nat.pow_succ] at h; exact h
      have := ih _ this
      simp; omega
end Go.Proofs.Ytjpjibdcjmjcgaa.Nums
