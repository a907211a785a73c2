/- Short numbers are parsed back; words; counts. -/
import Derived.Test.YtkcgikoploohkaaGreatDoorSo1
namespace Go.Proofs.YtkcgikoploohkaaGreatDoor
set_option linter.unusedVariables false
set_option linter.unusedSimpArgs false
set_option maxRecDepth 100000
open Go.RowKit Go.Shelf Nums

theorem dec_head (n : Nat) : ∃ c r, (decStr n).data.toList = c :: r ∧ c ≠ 45 ∧ ∀ x ∈ c :: r, x ≠ 47 := by
  have hp := size_dec_pos n
  have hd := digs_list _ (allDig_dec n)
  have hl := Lib.size_eq (decStr n)
  cases h : (decStr n).data.toList with
  | nil =>
    have h0 : (decStr n).size = 0 := by rw [hl, h]; rfl
    omega
  | cons c r =>
    rw [h] at hd
    refine ⟨c, r, rfl, ?_, fun x hx => ?_⟩
    · rintro rfl; exact absurd (hd 45 (List.mem_cons_self ..)).1 (by decide)
    · rintro rfl; exact absurd (hd 47 hx).1 (by decide)
theorem trim_rat (q : Rat) : Lib.trimPrefix (ratStr q).data.toList [45] = (decStr q.num.natAbs).data.toList ++ (if q.den = 1 then [] else 47 :: (decStr q.den).data.toList) := by
  obtain ⟨c, r, h1, h2, -⟩ := dec_head q.num.natAbs
  have e : ∀ (tl : List UInt8), Lib.trimPrefix ((decI q.num).data.toList ++ tl) [45] = (decStr q.num.natAbs).data.toList ++ tl := by
    intro tl
    unfold decI Lib.trimPrefix Lib.hasPrefix
    by_cases hn : q.num < 0
    · rw [if_pos hn, ByteArray.data_append, Array.toList_append]
      show (if ([45] : List UInt8).isPrefixOf (([45] ++ (decStr q.num.natAbs).data.toList) ++ tl) = true then _ else _) = _
      rw [if_pos (by simp [List.isPrefixOf])]
      rfl
    · rw [if_neg hn, h1]
      rw [if_neg (by simp [List.isPrefixOf]; exact fun hh => h2 hh.symm)]
  unfold ratStr
  by_cases hd : q.den = 1
  · rw [if_pos hd, if_pos hd]
    have := e []
    rw [List.append_nil] at this
    exact this
  · rw [if_neg hd, if_neg hd, ByteArray.data_append, Array.toList_append, ByteArray.data_append, Array.toList_append]
    exact e _
/-- short: neither part has more than 300 digits -/
theorem short_dec {q : Rat} (h : shortT (ratStr q) = true) : (decStr q.num.natAbs).size ≤ 300 ∧ (q.den ≠ 1 → (decStr q.den).size ≤ 300) := by
  unfold shortT at h
  rw [trim_rat, Bool.and_eq_true] at h
  obtain ⟨c, r, h1, -, h3⟩ := dec_head q.num.natAbs
  have s1 := Lib.size_eq (decStr q.num.natAbs)
  have s2 := Lib.size_eq (decStr q.den)
  rw [← h1] at h3
  by_cases hd : q.den = 1
  · rw [if_pos hd, List.append_nil, cut_none (cutL_free _ h3)] at h
    have := of_decide_eq_true h.1
    refine ⟨?_, fun hx => absurd hd hx⟩
    rw [s1]; exact this
  · rw [if_neg hd, cut_some (cutL_app _ _ h3)] at h
    have a := of_decide_eq_true h.1
    have b := of_decide_eq_true h.2
    exact ⟨by rw [s1]; exact a, fun _ => by rw [s2]; exact b⟩
theorem den_one {q : Rat} (h : q.den = 1) : (decStr q.den).size ≤ 300 := by rw [h]; exact size_dec_le 1 300 (by decide) (by decide +kernel)
/-- what is printed of a short number is parsed -/
theorem backX (q : Rat) (hs : shortT (ratStr q) = true) (w : World) : Calls Tryz.prog 63 #[.string (ratStr q)] w (RatRes 0 (ToldAs 50 50 q) w) := by
  obtain ⟨l1, l2'⟩ := short_dec hs
  have l2 : (decStr q.den).size ≤ 300 := by
    by_cases hd : q.den = 1
    · exact den_one hd
    · exact l2' hd
  have p1 := size_dec_pos q.num.natAbs
  have p2 := size_dec_pos q.den
  have e1 : sv (decide (q.num < 0)) (numOf (decStr q.num.natAbs).data.toList) = q.num := by rw [numOf_dec, sv_told]
  by_cases h : q.den = 1
  · have e : ((q.num : Int) : Rat) = q := Rat.ext (by rw [Rat.num_intCast]) (by rw [Rat.den_intCast, h])
    have := parseI_text 50 q.num (ratStr q) (decStr q.num.natAbs) (decide (q.num < 0)) w (by rw [ratStr, if_pos h]; exact decI_not _ (Or.inl rfl)) (by rw [ratStr, if_pos h]; exact decI_not _ (Or.inr rfl)) (by rw [ratStr, if_pos h]; exact signed_dec _) p1 (by omega) (allDig_dec _) (by omega) (by omega) e1
    rw [e] at this
    exact this
  · refine parseQ_ok 50 q (ratStr q) (decI q.num) (decStr q.den) (decStr q.num.natAbs) (decide (q.num < 0)) w ⟨?_, decI_not _ (Or.inl rfl)⟩ (signed_dec _) p1 (by omega) (allDig_dec _) p2 (by omega) (allDig_dec _) (by omega) (by omega) (by omega) (by omega) (by rw [numOf_dec]; exact q.den_pos) (by rw [e1, numOf_dec, Rat.mkRat_self])
    rw [ratStr, if_neg h, ByteArray.data_append, Array.toList_append, ByteArray.data_append, Array.toList_append]
    rfl
theorem num_back2 {q : Rat} {w : World} (hg : Gl w) (hs : shortT (ratStr q) = true) (h1 : (limbs q.num.natAbs).length ≤ 67) (h2 : (limbs q.den).length ≤ 67) : numS (ratStr q) = some q := by
  have := numS_eq hg (number_is (ratStr q) q 50 50 (fun w => backX q hs w) (by omega) (by omega))
  rw [this]
  unfold numO
  rw [if_pos hs]
theorem spl_mem {c : UInt8} : ∀ (l : List UInt8), ∀ w ∈ spl c l, w.length ≤ l.length
  | [], w, h => by
    have : w = [] := by simpa [spl] using h
    subst this; exact Nat.le_refl _
  | b :: l, w, h => by
    have ih := spl_mem (c := c) l
    by_cases hb : b = c
    · rw [spl_hit l hb] at h
      rcases List.mem_cons.1 h with rfl | h
      · exact Nat.zero_le _
      · exact Nat.le_succ_of_le (ih w h)
    · obtain ⟨x, r, hs⟩ : ∃ x r, spl c l = x :: r := by
        have := spl_ne c l
        cases hx : spl c l with
        | nil => exact absurd hx this
        | cons x r => exact ⟨x, r, rfl⟩
      rw [spl_miss hb hs] at h
      rw [hs] at ih
      rcases List.mem_cons.1 h with rfl | h
      · exact Nat.succ_le_succ (ih x (List.mem_cons_self ..))
      · exact Nat.le_succ_of_le (ih w (List.mem_cons_of_mem _ h))
theorem takeM_words {rest r : List UInt8} {L : List ByteArray} (h : takeM rest = some (L, r)) : ∀ w ∈ L, w.size + r.length + 1 ≤ rest.length := by
  unfold takeM at h
  cases hc : cutL 10 rest with
  | none => rw [hc] at h; cases h
  | some p =>
    obtain ⟨x, r'⟩ := p
    rw [hc] at h
    injection h with h
    injection h with ha hb
    subst ha; subst hb
    intro w hw
    obtain ⟨y, hy, rfl⟩ := List.mem_map.1 hw
    have e1 := spl_mem x y hy
    have e2 := cutL_len hc
    have e3 : (bsL y).size = y.length := by rw [Lib.size_eq]; rfl
    show (bsL y).size + r'.length + 1 ≤ rest.length
    omega
theorem decFrom_lt : ∀ (l : List UInt8) (acc m : Nat), Lib.decFrom acc l = some m → m < (acc + 1) * 10 ^ l.length
  | [], acc, m, h => by
    rw [Lib.decFrom] at h; injection h with h; subst h; simp
  | b :: l, acc, m, h => by
    rw [Lib.decFrom] at h
    cases hd : Lib.digitVal b with
    | none => rw [hd] at h; cases h
    | some d =>
      rw [hd] at h
      have hd9 : d ≤ 9 := by
        unfold Lib.digitVal at hd
        split at hd
        · injection hd with hd; omega
        · cases hd
      have := decFrom_lt l (acc * 10 + d) m h
      rw [List.length_cons, Nat.pow_succ]
      refine Nat.lt_of_lt_of_le this ?_
      rw [Nat.mul_comm (10 ^ l.length) 10, ← Nat.mul_assoc]
      exact Nat.mul_le_mul_right _ (by omega)
theorem cnt_range {s : ByteArray} {n : Int} (h : cntS s = some n) : cntB n = true := by
  have h' : cntO s.data.toList = some n := h
  generalize s.data.toList = l at h'
  unfold cntO at h'
  split at h'
  · rename_i hc
    obtain ⟨hl, hd⟩ := hc
    rw [List.any_eq_false] at hd
    cases l with
    | nil => cases h'
    | cons b r =>
      have hb := hd b (List.mem_cons_self ..)
      have n1 : (b == 45) = false := by rw [beq_eq_false_iff_ne]; rintro rfl; exact hb (by decide)
      have n2 : (b == 43) = false := by rw [beq_eq_false_iff_ne]; rintro rfl; exact hb (by decide)
      simp only [Lib.atoi, n1, n2, Bool.false_eq_true, if_false] at h'
      cases hm : Lib.decNat (b :: r) with
      | none => rw [hm] at h'; cases h'
      | some m =>
        rw [hm] at h'
        injection h' with h'
        have hn : n = (m : Int) := h'.symm
        subst hn
        have hlt := decFrom_lt (b :: r) 0 m (Lib.decNat_some hm).2
        have hp := pow_mono hl
        unfold cntB
        rw [Bool.and_eq_true]
        refine ⟨decide_eq_true (by omega), decide_eq_true ?_⟩
        have : (10 : Nat) ^ 6 = 1000000 := by decide
        omega
  · cases h'

end Go.Proofs.YtkcgikoploohkaaGreatDoor
