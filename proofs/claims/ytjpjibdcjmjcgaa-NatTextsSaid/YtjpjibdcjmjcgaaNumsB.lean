/- Plain facts on products, limb by limb. -/
import Derived.Test.YtjpjibdcjmjcgaaNums
namespace Go.Proofs.Ytjpjibdcjmjcgaa.Nums

theorem val_set_at (zs : List Nat) (k n u : Nat) (hk : k < n) (hn : n ≤ zs.length) : val ((zs.set k u).take n) + 4294967296 ^ k * zs.getD k 0 = val (zs.take n) + 4294967296 ^ k * u := by
  induction n with
  | zero => omega
  | succ n ih =>
    rw [val_take_next, val_take_next]
    by_cases h : k = n
    · subst h
      have e1 : (zs.set k u).take k = zs.take k := by rw [List.take_set, List.set_eq_of_length_le (by simp; omega)]
      have e2 : (zs.set k u).getD k 0 = u := by
        have hk' : k < zs.length := by omega
        simp [hk']
      rw [e1, e2]; omega
    · have e2 : (zs.set k u).getD n 0 = zs.getD n 0 := by simp [h]
      have := ih (by omega) (by omega)
      rw [e2]; omega

/-- Within a row of a product: j limbs of Q have been multiplied by x and added from place i on; A: what stood there. -/
def RowAt (Q A x i l : Nat) (zs : List Nat) (j c : Nat) : Prop := val (zs.take l) + 4294967296 ^ (i + j) * c = A + 4294967296 ^ i * (x * val ((limbs Q).take j))

theorem RowAt.step {Q A x i l j c y z u c' : Nat} {zs : List Nat} (h : RowAt Q A x i l zs j c) (hk : i + j < l) (hl : l ≤ zs.length) (hy : y = (limbs Q).getD j 0) (hz : z = zs.getD (i + j) 0) (hu : u + 4294967296 * c' = c + (x * y + z)) : RowAt Q A x i l (zs.set (i + j) u) (j + 1) c' := by
  unfold RowAt at *
  have e1 := val_set_at zs (i + j) l u hk hl
  have e2 : 4294967296 ^ (i + j) * (u + 4294967296 * c') = 4294967296 ^ (i + j) * (c + (x * y + z)) := by rw [hu]
  have e3 : 4294967296 ^ (i + (j + 1)) * c' = 4294967296 ^ (i + j) * (4294967296 * c') := by rw [← Nat.add_assoc, Nat.pow_succ, Nat.mul_assoc]
  have e4 : 4294967296 ^ i * (x * val ((limbs Q).take (j + 1))) = 4294967296 ^ i * (x * val ((limbs Q).take j)) + 4294967296 ^ (i + j) * (x * y) := by
    rw [val_take_next, ← hy, Nat.mul_add, Nat.mul_add, Nat.pow_add]
    congr 1
    rw [Nat.mul_assoc, Nat.mul_left_comm x]
  rw [← hz] at e1
  simp only [Nat.mul_add] at e2
  rw [e3, e4]
  omega

theorem val_zeros (n k : Nat) : val ((List.replicate n 0).take k) = 0 := by
  rw [List.take_replicate]
  generalize min k n = m
  induction m with
  | zero => rfl
  | succ m ih => simp [List.replicate_succ, val, ih]

/-- After i rows of a product. -/
def ProdAt (P Q i l : Nat) (zs : List Nat) : Prop := val (zs.take (i + l)) = val ((limbs P).take i) * Q

theorem prodAt_zero (P Q l n : Nat) : ProdAt P Q 0 l (List.replicate n 0) := by
  unfold ProdAt; rw [val_zeros]; simp [val]

theorem RowAt.start {P Q x i l : Nat} {zs : List Nat} (h : ProdAt P Q i l zs) : RowAt Q (val ((limbs P).take i) * Q) x i (i + l) zs 0 0 := by
  unfold RowAt ProdAt at *
  simp [val, h]

theorem RowAt.done {P Q x i l c : Nat} {zs : List Nat} (h : RowAt Q (val ((limbs P).take i) * Q) x i (i + l) zs l c) (hl : i + l < zs.length) (hQ : (limbs Q).length ≤ l) (hx : x = (limbs P).getD i 0) : ProdAt P Q (i + 1) l (zs.set (i + l) c) := by
  unfold RowAt ProdAt at *
  rw [show i + 1 + l = (i + l) + 1 by omega, val_set_take zs (i + l) c hl, val_take_next, ← hx, h, List.take_of_length_le hQ, val_limbs, Nat.add_mul, Nat.mul_assoc]

end Go.Proofs.Ytjpjibdcjmjcgaa.Nums
