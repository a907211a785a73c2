/- Plain facts on a division by one limb. -/
import Derived.Test.YtjpjibdcjmjcgaaNumsB
namespace Go.Proofs.Ytjpjibdcjmjcgaa.Nums

theorem set_seam (cs rest : List Nat) (k q : Nat) (hk : 0 < k) (hl : k ≤ cs.length) : (cs.take k ++ rest).set (k - 1) q = cs.take (k - 1) ++ (q :: rest) := by
  obtain ⟨j, rfl⟩ : ∃ j, k = j + 1 := ⟨k - 1, by omega⟩
  simp only [Nat.add_sub_cancel]
  rw [take_succ_getD cs j (by omega), List.append_assoc, List.set_append_right _ _ (by simp; omega), List.length_take, Nat.min_eq_left (by omega), Nat.sub_self]
  rfl

theorem getD_seam (cs rest : List Nat) (k : Nat) (hk : 0 < k) (hl : k ≤ cs.length) : (cs.take k ++ rest).getD (k - 1) 0 = cs.getD (k - 1) 0 := by
  obtain ⟨j, rfl⟩ : ∃ j, k = j + 1 := ⟨k - 1, by omega⟩
  have h1 : j < cs.length := by omega
  have h2 : j < min (j + 1) cs.length := by omega
  simp [List.getElem?_append, h1, h2, List.getElem?_take]

theorem drop_pred (cs : List Nat) (k : Nat) (hk : 0 < k) (hl : k ≤ cs.length) : cs.drop (k - 1) = cs.getD (k - 1) 0 :: cs.drop k := by
  obtain ⟨j, rfl⟩ : ∃ j, k = j + 1 := ⟨k - 1, by omega⟩
  have h1 : j < cs.length := by omega
  simp only [Nat.add_sub_cancel]
  rw [List.drop_eq_getElem_cons h1]
  simp [h1]

theorem short_step (cs qs : List Nat) (k n d r x t q r' : Nat) (hk : 0 < k) (hkn : k ≤ n) (hn : n ≤ cs.length) (h : val ((cs.take n).drop k) = val qs * d + r) (hx : x = cs.getD (k - 1) 0) (ht : t = r * 4294967296 + x) (hq : t = q * d + r') :
    val ((cs.take n).drop (k - 1)) = val (q :: qs) * d + r' := by
  rw [drop_pred (cs.take n) k hk (by simp; omega)]
  have e : (cs.take n).getD (k - 1) 0 = x := by
    rw [hx]
    simp [List.getElem?_take, show k - 1 < n by omega]
  rw [e]
  simp only [val]
  rw [h, Nat.add_mul, Nat.mul_add, Nat.mul_assoc]
  omega

theorem short_room (r x d t : Nat) (hd : 0 < d) (hr : r < d) (hx : x < 4294967296) (ht : t = r * 4294967296 + x) : t / d < 4294967296 := by
  rw [Nat.div_lt_iff_lt_mul hd]
  have : (r + 1) * 4294967296 ≤ d * 4294967296 := Nat.mul_le_mul_right _ hr
  rw [Nat.mul_comm 4294967296 d]
  omega
end Go.Proofs.Ytjpjibdcjmjcgaa.Nums
