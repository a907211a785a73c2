/- Plain facts on a row that is divided by a power of two where it lies. -/
import Derived.Test.YtjpjibdcjmjcgaaNumsG
namespace Go.Proofs.Ytjpjibdcjmjcgaa.Nums

theorem shr_core (x W y w0 w1 y1 P Q : Nat) (hPQ : P * Q = 4294967296) (hP : 0 < P) (hx : x < 4294967296) (hw0 : w0 < P) (hW : W = P * w1 + w0) (hy : y = P * y1 + w0) :
    (x + 4294967296 * W) / P = (x + 4294967296 * y) / P % 4294967296 + 4294967296 * w1 := by
  have e1 : (x + 4294967296 * W) / P = x / P + Q * W := by
    rw [← hPQ, Nat.mul_assoc, Nat.add_mul_div_left _ _ hP]
  have e2 : (x + 4294967296 * y) / P = x / P + Q * y := by
    rw [← hPQ, Nat.mul_assoc, Nat.add_mul_div_left _ _ hP]
  have hxq : x / P < Q := by rw [Nat.div_lt_iff_lt_mul hP, Nat.mul_comm, hPQ]; exact hx
  have h1 : Q * W = 4294967296 * w1 + Q * w0 := by rw [hW, Nat.mul_add, ← Nat.mul_assoc, Nat.mul_comm Q P, hPQ]
  have h2 : Q * y = 4294967296 * y1 + Q * w0 := by rw [hy, Nat.mul_add, ← Nat.mul_assoc, Nat.mul_comm Q P, hPQ]
  have h3 : Q * w0 + Q ≤ 4294967296 := by
    have : Q * (w0 + 1) ≤ Q * P := Nat.mul_le_mul_left _ hw0
    rw [Nat.mul_comm Q P, hPQ, Nat.mul_add, Nat.mul_one] at this
    exact this
  rw [e1, e2, h1, h2]
  generalize x / P = a at *
  generalize Q * w0 = b at *
  omega

theorem shr_limb (x W s : Nat) (hx : x < 4294967296) (hs : s ≤ 31) : (x + 4294967296 * W) / 2 ^ s = (x + 4294967296 * (W % 4294967296)) / 2 ^ s % 4294967296 + 4294967296 * (W / 2 ^ s) := by
  have hP : 0 < 2 ^ s := Nat.pow_pos (by omega)
  have hPQ : 2 ^ s * 2 ^ (32 - s) = 4294967296 := by rw [← Nat.pow_add, show s + (32 - s) = 32 by omega]
  have hd : W % 4294967296 % 2 ^ s = W % 2 ^ s := by
    apply Nat.mod_mod_of_dvd
    exact ⟨2 ^ (32 - s), hPQ.symm⟩
  refine shr_core x W (W % 4294967296) (W % 2 ^ s) (W / 2 ^ s) (W % 4294967296 / 2 ^ s) (2 ^ s) (2 ^ (32 - s)) hPQ hP hx (Nat.mod_lt _ hP) (Nat.div_add_mod _ _).symm ?_
  have := (Nat.div_add_mod (W % 4294967296) (2 ^ s)).symm
  rw [hd] at this
  exact this

theorem val_mod (xs : List Nat) (h : Small xs) : val xs % 4294967296 = xs.getD 0 0 := by
  cases xs with
  | nil => rfl
  | cons x xs =>
    have := (small_cons.1 h).1
    simp only [val, List.getD_cons_zero]
    omega

theorem val_drop (xs : List Nat) (k : Nat) (hk : k < xs.length) : val (xs.drop k) = xs.getD k 0 + 4294967296 * val (xs.drop (k + 1)) := by
  have := drop_pred xs (k + 1) (by omega) hk
  simp only [Nat.add_sub_cancel] at this
  rw [this]
  rfl

/-- k limbs have been divided by 2^s -/
def DownAt (cs : List Nat) (s : Nat) (zs : List Nat) (k : Nat) : Prop := val (zs.take k) + 4294967296 ^ k * (val (cs.drop k) / 2 ^ s) = val cs / 2 ^ s ∧ ∀ j, k ≤ j → zs.getD j 0 = cs.getD j 0

theorem DownAt.step {cs zs : List Nat} {s k x y : Nat} (h : DownAt cs s zs k) (hs : s ≤ 31) (hcs : Small cs) (hl : zs.length = cs.length) (hk : k < zs.length) (hx : x = zs.getD k 0) (hy : y = zs.getD (k + 1) 0) : DownAt cs s (zs.set k ((x + 4294967296 * y) / 2 ^ s % 4294967296)) (k + 1) := by
  obtain ⟨h1, h2⟩ := h
  have ex : x = cs.getD k 0 := by rw [hx, h2 k (Nat.le_refl _)]
  have ey : y = val (cs.drop (k + 1)) % 4294967296 := by
    rw [val_mod _ (fun z hz => hcs z (List.mem_of_mem_drop hz)), hy, h2 (k + 1) (by omega)]
    simp
  have hxl : x < 4294967296 := by rw [ex]; exact getD_lt cs hcs k
  refine ⟨?_, ?_⟩
  · rw [val_set_take zs k _ hk, ← h1, val_drop cs k (by omega), ← ex, shr_limb x (val (cs.drop (k + 1))) s hxl hs, ← ey, Nat.pow_succ, Nat.mul_add, Nat.mul_assoc, Nat.add_assoc]
  · intro j hj
    rw [← h2 j (by omega)]
    simp [show k ≠ j by omega]

theorem DownAt.done {cs zs : List Nat} {s : Nat} (h : DownAt cs s zs cs.length) (hl : zs.length = cs.length) : val zs = val cs / 2 ^ s := by
  have h1 := h.1
  rw [List.take_of_length_le (by omega), List.drop_length] at h1
  simp [val] at h1
  exact h1
end Go.Proofs.Ytjpjibdcjmjcgaa.Nums
