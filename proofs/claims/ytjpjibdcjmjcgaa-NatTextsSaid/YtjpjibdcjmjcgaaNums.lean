/- Plain facts on rows of numbers below 2^32, least first: the number that they say, its one row without noughts at the end. No condition. -/
namespace Go.Proofs.Ytjpjibdcjmjcgaa.Nums

def val : List Nat → Nat
  | [] => 0
  | x :: xs => x + 4294967296 * val xs

def limbs (n : Nat) : List Nat := if h : n = 0 then [] else n % 4294967296 :: limbs (n / 4294967296)
termination_by n
decreasing_by omega

def Small (xs : List Nat) : Prop := ∀ x ∈ xs, x < 4294967296

def tl : List Nat → Nat
  | [] => 0
  | x :: xs => if tl xs = 0 ∧ x = 0 then 0 else tl xs + 1

theorem limbs_zero : limbs 0 = [] := by rw [limbs]; simp
theorem limbs_pos {n : Nat} (h : n ≠ 0) : limbs n = n % 4294967296 :: limbs (n / 4294967296) := by
  rw [limbs]; simp [h]

theorem val_limbs (n : Nat) : val (limbs n) = n := by
  induction n using Nat.strongRecOn with
  | _ n ih =>
    by_cases h : n = 0
    · subst h; rw [limbs_zero]; rfl
    · rw [limbs_pos h, val, ih (n / 4294967296) (by omega)]; omega

theorem small_limbs (n : Nat) : Small (limbs n) := by
  induction n using Nat.strongRecOn with
  | _ n ih =>
    by_cases h : n = 0
    · subst h; rw [limbs_zero]; intro x hx; cases hx
    · rw [limbs_pos h]
      intro x hx
      rcases List.mem_cons.1 hx with rfl | hx
      · omega
      · exact ih _ (by omega) x hx

theorem small_cons {x : Nat} {xs : List Nat} : Small (x :: xs) ↔ x < 4294967296 ∧ Small xs := by simp [Small]

theorem tl_le (xs : List Nat) : tl xs ≤ xs.length := by
  induction xs with
  | nil => simp [tl]
  | cons x xs ih => simp only [tl, List.length_cons]; split <;> omega

theorem val_zero_tl (xs : List Nat) : val xs = 0 ↔ tl xs = 0 := by
  induction xs with
  | nil => simp [val, tl]
  | cons x xs ih =>
    simp only [val, tl]
    split
    · rename_i h; simp [h.2, ih.2 h.1]
    · rename_i h
      constructor
      · intro e; exfalso; apply h; constructor
        · apply ih.1; omega
        · omega
      · intro e; omega

theorem limbs_val (xs : List Nat) (h : Small xs) : limbs (val xs) = xs.take (tl xs) := by
  induction xs with
  | nil => simp [val, limbs_zero]
  | cons x xs ih =>
    have hs := small_cons.1 h
    by_cases hz : val (x :: xs) = 0
    · rw [hz, limbs_zero, (val_zero_tl _).1 hz]; simp
    · have ht : tl (x :: xs) ≠ 0 := fun e => hz ((val_zero_tl _).2 e)
      rw [limbs_pos hz]
      have e1 : val (x :: xs) % 4294967296 = x := by simp only [val]; omega
      have e2 : val (x :: xs) / 4294967296 = val xs := by simp only [val]; omega
      have e3 : tl (x :: xs) = tl xs + 1 := by
        simp only [tl] at ht ⊢; split
        · rename_i hh; simp [hh] at ht
        · rfl
      rw [e1, e2, e3, ih hs.2]; rfl

theorem tl_unique (xs : List Nat) (k : Nat) (hk : k ≤ xs.length) (h0 : ∀ i, k ≤ i → xs.getD i 0 = 0) (h1 : k = 0 ∨ xs.getD (k - 1) 0 ≠ 0) : tl xs = k := by
  induction xs generalizing k with
  | nil => simp at hk; simp [tl, hk]
  | cons x xs ih =>
    match k with
    | 0 =>
      have ht : tl xs = 0 := ih 0 (Nat.zero_le _) (fun i _ => by simpa using h0 (i + 1) (Nat.zero_le _)) (Or.inl rfl)
      have hx : x = 0 := by simpa using h0 0 (Nat.le_refl _)
      simp [tl, ht, hx]
    | k + 1 =>
      have ht : tl xs = k := by
        refine ih k (by simp at hk; omega) (fun i hi => by simpa using h0 (i + 1) (by omega)) ?_
        by_cases hk0 : k = 0
        · exact Or.inl hk0
        · right
          obtain ⟨j, rfl⟩ : ∃ j, k = j + 1 := ⟨k - 1, by omega⟩
          rcases h1 with h1 | h1
          · omega
          · simpa using h1
      simp only [tl, ht]
      split
      · rename_i hh
        obtain ⟨rfl, rfl⟩ := hh
        rcases h1 with h1 | h1
        · omega
        · simp at h1
      · rfl

theorem getD_ge (xs : List Nat) (i : Nat) (h : xs.length ≤ i) : xs.getD i 0 = 0 := by
  simp [List.getElem?_eq_none h]

theorem val_append (xs ys : List Nat) : val (xs ++ ys) = val xs + 4294967296 ^ xs.length * val ys := by
  induction xs with
  | nil => simp [val]
  | cons x xs ih =>
    simp only [List.cons_append, val, ih, List.length_cons, Nat.pow_succ, Nat.mul_add]
    rw [Nat.mul_comm (4294967296 ^ xs.length) 4294967296, Nat.mul_assoc, Nat.add_assoc]

theorem val_lt (xs : List Nat) (h : Small xs) : val xs < 4294967296 ^ xs.length := by
  induction xs with
  | nil => simp [val]
  | cons x xs ih =>
    have hs := small_cons.1 h
    have := ih hs.2
    simp only [val, List.length_cons, Nat.pow_succ]
    omega

theorem take_succ_getD (xs : List Nat) (k : Nat) (h : k < xs.length) : xs.take (k + 1) = xs.take k ++ [xs.getD k 0] := by
  rw [List.take_succ_eq_append_getElem h]; simp [List.getElem?_eq_getElem h]

theorem val_take_succ (xs : List Nat) (k : Nat) (h : k < xs.length) : val (xs.take (k + 1)) = val (xs.take k) + 4294967296 ^ k * xs.getD k 0 := by
  rw [take_succ_getD xs k h, val_append]
  simp [val, List.length_take, Nat.min_eq_left (Nat.le_of_lt h)]

theorem val_take_next (xs : List Nat) (k : Nat) : val (xs.take (k + 1)) = val (xs.take k) + 4294967296 ^ k * xs.getD k 0 := by
  by_cases h : k < xs.length
  · exact val_take_succ xs k h
  · rw [getD_ge xs k (by omega), List.take_of_length_le (by omega), List.take_of_length_le (by omega)]; simp

theorem val_take_ge (xs : List Nat) (k : Nat) (h : xs.length ≤ k) : val (xs.take k) = val xs := by
  rw [List.take_of_length_le h]

theorem getD_lt (xs : List Nat) (h : Small xs) (i : Nat) : xs.getD i 0 < 4294967296 := by
  by_cases hi : i < xs.length
  · have : xs.getD i 0 = xs[i] := by simp [List.getElem?_eq_getElem hi]
    rw [this]; exact h _ (List.getElem_mem hi)
  · rw [getD_ge xs i (by omega)]; omega

theorem small_take {xs : List Nat} (h : Small xs) (k : Nat) : Small (xs.take k) := fun x hx => h x (List.mem_of_mem_take hx)
theorem small_set {xs : List Nat} (h : Small xs) (k u : Nat) (hu : u < 4294967296) : Small (xs.set k u) := by
  intro x hx
  rcases List.mem_or_eq_of_mem_set hx with hx | rfl
  · exact h x hx
  · exact hu

theorem small_append {xs ys : List Nat} (h : Small xs) (h' : Small ys) : Small (xs ++ ys) := by
  intro x hx
  rcases List.mem_append.1 hx with hx | hx
  · exact h x hx
  · exact h' x hx

theorem limbs_len (n k : Nat) (h : n < 4294967296 ^ k) : (limbs n).length ≤ k := by
  induction k generalizing n with
  | zero => have : n = 0 := by simp at h; omega
            subst this; simp [limbs_zero]
  | succ k ih =>
    by_cases hz : n = 0
    · subst hz; simp [limbs_zero]
    · rw [limbs_pos hz]
      have : n / 4294967296 < 4294967296 ^ k := by
        rw [Nat.div_lt_iff_lt_mul (by omega)]; rw [Nat.pow_succ] at h; exact h
      have := ih _ this
      simp; omega

theorem val_inj {xs ys : List Nat} (hx : Small xs) (hy : Small ys) (hl : xs.length = ys.length) (h : val xs = val ys) : xs = ys := by
  induction xs generalizing ys with
  | nil => cases ys with
    | nil => rfl
    | cons y ys => simp at hl
  | cons x xs ih => cases ys with
    | nil => simp at hl
    | cons y ys =>
      have h1 := small_cons.1 hx
      have h2 := small_cons.1 hy
      simp only [val] at h
      have e1 : x = y := by omega
      have e2 : val xs = val ys := by omega
      rw [e1, ih h1.2 h2.2 (by simpa using hl) e2]

theorem set_take (xs : List Nat) (k u : Nat) (h : k < xs.length) : (xs.set k u).take (k + 1) = xs.take k ++ [u] := by
  rw [take_succ_getD _ _ (by simpa using h), List.take_set]
  have e : (xs.set k u).getD k 0 = u := by simp [h]
  rw [e]
  congr 1
  rw [List.set_eq_of_length_le (by simp; omega)]

theorem val_set_take (xs : List Nat) (k u : Nat) (h : k < xs.length) : val ((xs.set k u).take (k + 1)) = val (xs.take k) + 4294967296 ^ k * u := by
  rw [set_take xs k u h, val_append]
  simp [val, List.length_take, Nat.min_eq_left (Nat.le_of_lt h)]

theorem length_limbs_zero {n : Nat} : (limbs n).length = 0 ↔ n = 0 := by
  constructor
  · intro h; rw [List.length_eq_zero_iff] at h; have := val_limbs n; rw [h] at this; exact this.symm
  · rintro rfl; rw [limbs_zero]; rfl

theorem tl_limbs (n : Nat) : tl (limbs n) = (limbs n).length := by
  have h := limbs_val (limbs n) (small_limbs n)
  rw [val_limbs] at h
  have := congrArg List.length h
  rw [List.length_take] at this
  have := tl_le (limbs n)
  omega

theorem limbs_inj {m n : Nat} (h : limbs m = limbs n) : m = n := by rw [← val_limbs m, h, val_limbs]

theorem lt_pow_len (n : Nat) : n < 4294967296 ^ (limbs n).length := by
  have := val_lt (limbs n) (small_limbs n)
  rwa [val_limbs] at this

theorem limbs_len_mono {m n : Nat} (h : m ≤ n) : (limbs m).length ≤ (limbs n).length :=
  limbs_len m _ (Nat.lt_of_le_of_lt h (lt_pow_len n))

theorem lt_of_len {m n : Nat} (h : (limbs m).length < (limbs n).length) : m < n := by
  apply Nat.lt_of_not_le
  intro hle
  have := limbs_len_mono hle
  omega

theorem lt_at (xs ys : List Nat) (hl : xs.length = ys.length) (hx : Small xs) (hy : Small ys) (k : Nat) (h : ∀ j, k < j → xs.getD j 0 = ys.getD j 0) (hk : xs.getD k 0 < ys.getD k 0) : val xs < val ys := by
  induction xs generalizing ys k with
  | nil => cases ys with
    | nil => simp at hk
    | cons y ys => simp at hl
  | cons x xs ih => cases ys with
    | nil => simp at hl
    | cons y ys =>
      have h1 := small_cons.1 hx
      have h2 := small_cons.1 hy
      simp only [val]
      cases k with
      | zero =>
        have : xs = ys := by
          apply List.ext_getElem (by simpa using hl)
          intro i hi hi'
          have := h (i + 1) (by omega)
          simpa [hi, hi'] using this
        subst this
        simp at hk
        omega
      | succ k =>
        have := ih ys (by simpa using hl) h1.2 h2.2 k (fun j hj => by simpa using h (j + 1) (by omega)) (by simpa using hk)
        omega

def cmpv (a b : Nat) : Int := if a < b then -1 else if b < a then 1 else 0

theorem limbs_take (xs : List Nat) (h : Small xs) : xs.take (tl xs) = limbs (val xs) := (limbs_val xs h).symm
theorem tl_eq (xs : List Nat) (h : Small xs) : tl xs = (limbs (val xs)).length := by
  rw [limbs_val xs h, List.length_take]
  have := tl_le xs
  omega

/-- One step of a sum, limb by limb. -/
def SumAt (P Q : Nat) (zs : List Nat) (k c : Nat) : Prop := val (zs.take k) + 4294967296 ^ k * c = val ((limbs P).take k) + val ((limbs Q).take k)

theorem SumAt.step {P Q k c x y u d : Nat} {zs : List Nat} (h : SumAt P Q zs k c) (hk : k < zs.length) (hx : x = (limbs P).getD k 0) (hy : y = (limbs Q).getD k 0) (hu : u + 4294967296 * d = c + x + y) : SumAt P Q (zs.set k u) (k + 1) d := by
  unfold SumAt at *
  rw [val_set_take zs k u hk, val_take_next, val_take_next, ← hx, ← hy, Nat.pow_succ]
  have e : 4294967296 ^ k * (u + 4294967296 * d) = 4294967296 ^ k * (c + x + y) := by rw [hu]
  simp only [Nat.mul_add] at e
  rw [Nat.mul_assoc]
  omega

theorem SumAt.done {P Q k c : Nat} {zs : List Nat} (h : SumAt P Q zs k c) (hk : zs.length = k + 1) (hP : (limbs P).length ≤ k) (hQ : (limbs Q).length ≤ k) : val (zs.set k c) = P + Q := by
  unfold SumAt at h
  have e := val_set_take zs k c (by omega)
  rw [List.take_of_length_le (by simp; omega)] at e
  rw [List.take_of_length_le hP, List.take_of_length_le hQ, val_limbs, val_limbs] at h
  omega

/-- One step of a difference, limb by limb. -/
def DiffAt (P Q : Nat) (zs : List Nat) (k b : Nat) : Prop := val (zs.take k) + val ((limbs Q).take k) = val ((limbs P).take k) + 4294967296 ^ k * b

theorem DiffAt.step {P Q k b x y d b' : Nat} {zs : List Nat} (h : DiffAt P Q zs k b) (hk : k < zs.length) (hx : x = (limbs P).getD k 0) (hy : y = (limbs Q).getD k 0) (hd : d + y + b = x + 4294967296 * b') : DiffAt P Q (zs.set k d) (k + 1) b' := by
  unfold DiffAt at *
  rw [val_set_take zs k d hk, val_take_next, val_take_next, ← hx, ← hy, Nat.pow_succ]
  have e : 4294967296 ^ k * (d + y + b) = 4294967296 ^ k * (x + 4294967296 * b') := by rw [hd]
  simp only [Nat.mul_add] at e
  rw [Nat.mul_assoc]
  omega

theorem DiffAt.done {P Q k b : Nat} {zs : List Nat} (h : DiffAt P Q zs k b) (hs : Small zs) (hk : zs.length = k) (hP : (limbs P).length ≤ k) (hQ : (limbs Q).length ≤ k) (hle : Q ≤ P) : val zs = P - Q := by
  unfold DiffAt at h
  rw [List.take_of_length_le hP, List.take_of_length_le hQ, List.take_of_length_le (by omega), val_limbs, val_limbs] at h
  have hv := val_lt zs hs
  rw [hk] at hv
  cases b with
  | zero => simp at h; omega
  | succ b =>
    exfalso
    rw [Nat.mul_add] at h
    omega

end Go.Proofs.Ytjpjibdcjmjcgaa.Nums
