/- Plain facts on texts of numbers: what is printed is read, and what is read is printed but for noughts ahead. -/
import Derived.Test.YtjpjibdcjmjcgaaParse
import Derived.Test.YtjpjibdcjmjcgaaNumsD
namespace Go.Proofs.Ytjpjibdcjmjcgaa
open Nums

theorem numOf_reverse (l : List UInt8) : numOf l.reverse = dval l := by
  induction l with
  | nil => rfl
  | cons c r ih => rw [List.reverse_cons, numOf_snoc, ih]; simp only [dval]; omega

theorem dval_reverse (l : List UInt8) : dval l.reverse = numOf l := by
  rw [← numOf_reverse, List.reverse_reverse]

theorem numOf_dec (n : Nat) : numOf (decStr n).data.toList = n := by
  unfold decStr
  split
  · rename_i h; rw [h]; rfl
  · show numOf (dig n).reverse.toArray.toList = n
    rw [List.toList_toArray, numOf_reverse, dval_dig]

theorem size_dec_pos (n : Nat) : 0 < (decStr n).size := by
  unfold decStr
  split
  · decide
  · rename_i h
    show 0 < (dig n).reverse.toArray.size
    rw [List.size_toArray, List.length_reverse, dig_pos h]
    simp

theorem size_dec_le (n k : Nat) (hk : 1 ≤ k) (h : n < 10 ^ k) : (decStr n).size ≤ k := by
  unfold decStr
  split
  · exact hk
  · show (dig n).reverse.toArray.size ≤ k
    rw [List.size_toArray, List.length_reverse]
    exact length_dig n k h

theorem allDig_list (s : ByteArray) (h : Digs s.data.toList) : allDig s := by
  intro i hi
  exact h s[i] (by
    have : s[i] = s.data[i] := rfl
    rw [this]
    simp)

theorem digs_list (s : ByteArray) (h : allDig s) : Digs s.data.toList := by
  intro c hc
  obtain ⟨i, hi, rfl⟩ := List.getElem_of_mem hc
  exact h i (by simpa using hi)

theorem allDig_dec (n : Nat) : allDig (decStr n) := by
  apply allDig_list
  unfold decStr
  split
  · intro c hc; simp at hc; subst hc; decide
  · intro c hc
    have hc' : c ∈ dig n := by simpa using hc
    exact digs_dig n c hc'

theorem numOf_append (a b : List UInt8) (h : numOf a = 0) : numOf (a ++ b) = numOf b := by
  unfold numOf at *
  rw [List.foldl_append, h]

theorem numOf_zeros (l : List UInt8) (h : ∀ c ∈ l, c.toNat = 48) : numOf l = 0 := by
  rw [← dval_reverse]
  apply dval_zeros
  intro i hi
  have hi' : i < l.reverse.length := hi
  have e : l.reverse.getD i 0 = l.reverse[i] := by simp [List.getD_eq_getElem?_getD, List.getElem?_eq_getElem hi']
  rw [e]
  exact h _ (List.mem_reverse.1 (List.getElem_mem hi'))

/-- all of a text but the noughts ahead (one digit stays) is its number's text -/
theorem drop_dec (l : List UInt8) (hd : Digs l) (i : Nat) (hi : i < l.length) (hz : ∀ j, j < i → (l.getD j 0).toNat = 48) (he : i + 1 = l.length ∨ (l.getD i 0).toNat ≠ 48) : l.drop i = (decStr (numOf l)).data.toList := by
  have hn : numOf l = numOf (l.drop i) := by
    have h1 : numOf (l.take i) = 0 := by
      apply numOf_zeros
      intro c hc
      obtain ⟨j, hj, rfl⟩ := List.getElem_of_mem hc
      have hji : j < i := by simp at hj; omega
      have := hz j hji
      have hjl : j < l.length := by omega
      simp [hjl] at this
      simpa using this
    have h2 := numOf_append (l.take i) (l.drop i) h1
    rw [List.take_append_drop] at h2
    exact h2
  rw [hn]
  have hdr : Digs (l.drop i) := fun c hc => hd c (List.mem_of_mem_drop hc)
  have hcons : l.drop i = l[i] :: l.drop (i + 1) := List.drop_eq_getElem_cons hi
  have hg : l.getD i 0 = l[i] := by simp [hi]
  by_cases h0 : (l[i]).toNat = 48
  · have hlast : i + 1 = l.length := by
      rcases he with he | he
      · exact he
      · rw [hg] at he; exact absurd h0 he
    have : l.drop (i + 1) = [] := List.drop_eq_nil_of_le (by omega)
    rw [hcons, this]
    have h48 : l[i] = 48 := UInt8.toNat_inj.1 h0
    rw [h48]
    rfl
  · have hu := dig_unique (l.drop i).reverse (fun c hc => hdr c (List.mem_reverse.1 hc)) (Or.inr (by
      have e : (l.drop i).reverse.getD ((l.drop i).reverse.length - 1) 0 = l[i] := by
        rw [hcons, List.reverse_cons]
        simp
      rw [e]; exact h0))
    rw [dval_reverse] at hu
    have hne : numOf (l.drop i) ≠ 0 := by
      intro h
      rw [h, dig_zero] at hu
      have := congrArg List.length hu
      simp at this
      omega
    unfold decStr
    rw [if_neg hne]
    show l.drop i = (dig (numOf (l.drop i))).reverse.toArray.toList
    rw [List.toList_toArray, ← hu, List.reverse_reverse]
end Go.Proofs.Ytjpjibdcjmjcgaa
