/- Plain facts on rows of bits, the least first. -/
import Derived.Test.YtjpjibdcjmjcgaaNums
namespace Go.Proofs.Ytjpjibdcjmjcgaa.Nums

def bnum (b : Bool) : Nat := if b then 1 else 0
def bval : List Bool → Nat
  | [] => 0
  | b :: r => bnum b + 2 * bval r

def bitsOf (n : Nat) : List Bool := if h : n = 0 then [] else (n % 2 == 1) :: bitsOf (n / 2)
termination_by n
decreasing_by omega

def btl : List Bool → Nat
  | [] => 0
  | b :: r => if btl r = 0 ∧ b = false then 0 else btl r + 1

theorem bnum_le (b : Bool) : bnum b ≤ 1 := by cases b <;> decide
theorem bits_zero : bitsOf 0 = [] := by rw [bitsOf]; simp
theorem bits_pos {n : Nat} (h : n ≠ 0) : bitsOf n = (n % 2 == 1) :: bitsOf (n / 2) := by rw [bitsOf]; simp [h]

theorem bnum_mod (n : Nat) : bnum (n % 2 == 1) = n % 2 := by
  rcases Nat.mod_two_eq_zero_or_one n with h | h <;> simp [h, bnum]

theorem bval_bits (n : Nat) : bval (bitsOf n) = n := by
  induction n using Nat.strongRecOn with
  | _ n ih =>
    by_cases h : n = 0
    · subst h; rw [bits_zero]; rfl
    · rw [bits_pos h, bval, ih (n / 2) (by omega), bnum_mod]; omega

theorem btl_le (bs : List Bool) : btl bs ≤ bs.length := by
  induction bs with
  | nil => simp [btl]
  | cons b r ih => simp only [btl, List.length_cons]; split <;> omega

theorem bval_zero_btl (bs : List Bool) : bval bs = 0 ↔ btl bs = 0 := by
  induction bs with
  | nil => simp [bval, btl]
  | cons b r ih =>
    simp only [bval, btl]
    split
    · rename_i h; simp [h.2, ih.2 h.1, bnum]
    · rename_i h
      constructor
      · intro e; exfalso; apply h; constructor
        · apply ih.1; omega
        · cases b
          · rfl
          · simp [bnum] at e
      · intro e; omega

theorem bits_bval (bs : List Bool) : bitsOf (bval bs) = bs.take (btl bs) := by
  induction bs with
  | nil => simp [bval, bits_zero]
  | cons b r ih =>
    by_cases hz : bval (b :: r) = 0
    · rw [hz, bits_zero, (bval_zero_btl _).1 hz]; simp
    · have ht : btl (b :: r) ≠ 0 := fun e => hz ((bval_zero_btl _).2 e)
      rw [bits_pos hz]
      have hb := bnum_le b
      have e1 : (bval (b :: r) % 2 == 1) = b := by
        simp only [bval]
        cases b
        · simp [bnum]
        · simp [bnum]
      have e2 : bval (b :: r) / 2 = bval r := by simp only [bval]; omega
      have e3 : btl (b :: r) = btl r + 1 := by
        simp only [btl] at ht ⊢; split
        · rename_i hh; simp [hh] at ht
        · rfl
      rw [e1, e2, e3, ih]; rfl

theorem btl_eq (bs : List Bool) : btl bs = (bitsOf (bval bs)).length := by
  rw [bits_bval, List.length_take]
  have := btl_le bs
  omega

theorem btl_unique (bs : List Bool) (k : Nat) (hk : k ≤ bs.length) (h0 : ∀ i, k ≤ i → bs.getD i false = false) (h1 : k = 0 ∨ bs.getD (k - 1) false = true) : btl bs = k := by
  induction bs generalizing k with
  | nil => simp at hk; simp [btl, hk]
  | cons b r ih =>
    match k with
    | 0 =>
      have ht : btl r = 0 := ih 0 (Nat.zero_le _) (fun i _ => by simpa using h0 (i + 1) (Nat.zero_le _)) (Or.inl rfl)
      have hx : b = false := by simpa using h0 0 (Nat.le_refl _)
      simp [btl, ht, hx]
    | k + 1 =>
      have ht : btl r = k := by
        refine ih k (by simp at hk; omega) (fun i hi => by simpa using h0 (i + 1) (by omega)) ?_
        by_cases hk0 : k = 0
        · exact Or.inl hk0
        · right
          obtain ⟨j, rfl⟩ : ∃ j, k = j + 1 := ⟨k - 1, by omega⟩
          rcases h1 with h1 | h1
          · omega
          · simpa using h1
      simp only [btl, ht]
      split
      · rename_i hh
        obtain ⟨rfl, rfl⟩ := hh
        rcases h1 with h1 | h1
        · omega
        · simp at h1
      · rfl

theorem bgetD_ge (bs : List Bool) (i : Nat) (h : bs.length ≤ i) : bs.getD i false = false := by simp [List.getElem?_eq_none h]

theorem bval_append (a b : List Bool) : bval (a ++ b) = bval a + 2 ^ a.length * bval b := by
  induction a with
  | nil => simp [bval]
  | cons x r ih =>
    simp only [List.cons_append, bval, ih, List.length_cons, Nat.pow_succ, Nat.mul_add]
    rw [Nat.mul_comm (2 ^ r.length) 2, Nat.mul_assoc, Nat.add_assoc]

theorem bval_snoc (a : List Bool) (b : Bool) : bval (a ++ [b]) = bval a + 2 ^ a.length * bnum b := by rw [bval_append]; simp [bval]

theorem bval_lt (bs : List Bool) : bval bs < 2 ^ bs.length := by
  induction bs with
  | nil => simp [bval]
  | cons b r ih =>
    have := bnum_le b
    simp only [bval, List.length_cons, Nat.pow_succ]
    omega

theorem bval_take_next (bs : List Bool) (k : Nat) : bval (bs.take (k + 1)) = bval (bs.take k) + 2 ^ k * bnum (bs.getD k false) := by
  by_cases h : k < bs.length
  · have e : bs.take (k + 1) = bs.take k ++ [bs.getD k false] := by
      rw [List.take_succ_eq_append_getElem h]; simp [h]
    rw [e, bval_snoc, List.length_take, Nat.min_eq_left (by omega)]
  · rw [bgetD_ge bs k (by omega), List.take_of_length_le (by omega), List.take_of_length_le (by omega)]; simp [bnum]

theorem bits_len (n k : Nat) (h : n < 2 ^ k) : (bitsOf n).length ≤ k := by
  induction k generalizing n with
  | zero => have : n = 0 := by simp at h; omega
            subst this; simp [bits_zero]
  | succ k ih =>
    by_cases hz : n = 0
    · subst hz; simp [bits_zero]
    · rw [bits_pos hz]
      have : n / 2 < 2 ^ k := by rw [Nat.div_lt_iff_lt_mul (by omega)]; rw [Nat.pow_succ] at h; exact h
      have := ih _ this
      simp; omega

theorem blt_at (xs ys : List Bool) (k : Nat) (h : ∀ j, k < j → xs.getD j false = ys.getD j false) (hx : xs.getD k false = false) (hy : ys.getD k false = true) : bval xs < bval ys := by
  induction xs generalizing ys k with
  | nil =>
    induction ys generalizing k with
    | nil => simp at hy
    | cons y ys ihy =>
      simp only [bval]
      cases k with
      | zero => simp at hy; subst hy; simp [bnum]; omega
      | succ k =>
        have := ihy k (fun j hj => by simpa using h (j + 1) (by omega)) (by simp) (by simpa using hy)
        simp only [bval] at this
        omega
  | cons x xs ih => cases ys with
    | nil => simp at hy
    | cons y ys =>
      simp only [bval]
      cases k with
      | zero =>
        simp at hx hy
        subst hx; subst hy
        have e : bval xs = bval ys := by
          clear ih
          induction xs generalizing ys with
          | nil =>
            have : btl ys = 0 := btl_unique ys 0 (Nat.zero_le _) (fun i _ => by have := h (i + 1) (by omega); simpa using this.symm) (Or.inl rfl)
            rw [(bval_zero_btl ys).2 this]; rfl
          | cons a r ihr =>
            cases ys with
            | nil =>
              have : btl (a :: r) = 0 := btl_unique (a :: r) 0 (Nat.zero_le _) (fun i _ => by have := h (i + 1) (by omega); simpa using this) (Or.inl rfl)
              rw [(bval_zero_btl (a :: r)).2 this]; rfl
            | cons c s =>
              have e0 : a = c := by have := h 1 (by omega); simpa using this
              have e1 := ihr s (fun j hj => by
                have := h (j + 1) (by omega)
                cases j with
                | zero => omega
                | succ j => simpa using this)
              simp only [bval, e0, e1]
        rw [e]; simp [bnum]
      | succ k =>
        have := ih ys k (fun j hj => by simpa using h (j + 1) (by omega)) (by simpa using hx) (by simpa using hy)
        have := bnum_le x
        have := bnum_le y
        omega

theorem beq_at (xs ys : List Bool) (h : ∀ j, xs.getD j false = ys.getD j false) : bval xs = bval ys := by
  induction xs generalizing ys with
  | nil =>
    have : btl ys = 0 := btl_unique ys 0 (Nat.zero_le _) (fun i _ => by have := h i; simpa using this.symm) (Or.inl rfl)
    rw [(bval_zero_btl ys).2 this]; rfl
  | cons a r ih => cases ys with
    | nil =>
      have : btl (a :: r) = 0 := btl_unique (a :: r) 0 (Nat.zero_le _) (fun i _ => by have := h i; simpa using this) (Or.inl rfl)
      rw [(bval_zero_btl (a :: r)).2 this]; rfl
    | cons c s =>
      have e0 : a = c := by have := h 0; simpa using this
      have e1 := ih s (fun j => by have := h (j + 1); simpa using this)
      simp only [bval, e0, e1]
end Go.Proofs.Ytjpjibdcjmjcgaa.Nums
