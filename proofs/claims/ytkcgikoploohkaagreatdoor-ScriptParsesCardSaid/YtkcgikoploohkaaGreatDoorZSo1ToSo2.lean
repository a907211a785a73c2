import Derived.Test.YtkcgikoploohkaaGreatDoorZSf5ToSf8
namespace Go.Proofs.YtkcgikoploohkaaGreatDoor
set_option linter.unusedVariables false
set_option linter.unusedSimpArgs false
set_option maxRecDepth 100000
open Go.RowKit Go.Shelf Nums
def Bd (q : Rat) (d : Nat) : Prop := q.num.natAbs < 10 ^ d∧q.den≤10 ^ d
theorem bd_raw {N : Int} {D d : Nat} {q : Rat} (hD : 0 < D) (h : mkRat N D = q) (h1 : N.natAbs < 10 ^ d) (h2 : D≤10 ^ d) : Bd q d := by
  obtain ⟨g,hg,e1,e2⟩ := raw_parts hD h
  have hg' : 1≤g := by omega
  refine ⟨?_, ?_⟩
  · have : q.num.natAbs≤N.natAbs := by
      rw [e1,Int.natAbs_mul]
      exact Nat.le_mul_of_pos_right _ (by omega)
    exact Nat.lt_of_le_of_lt this h1
  · have : q.den≤D := by rw [e2];exact Nat.le_mul_of_pos_right _ hg'
    exact Nat.le_trans this h2
theorem pow_mono {a b : Nat} (h : a≤b) : 10 ^ a≤10 ^ b := Nat.pow_le_pow_right (by decide) h
def ParsesTo2 (s : ByteArray) : Prop := (∃ q : Rat,Bd q s.size∧∀ w,Calls Tryz.prog 63 #[.string s] w (RatRes 0 (ToldAs 67 67 q) w))∨∃ E : Int,(E != 0) = true∧∀ w,Calls Tryz.prog 63 #[.string s] w (RatRes E NoneAs w)
theorem parse_any2 (s : ByteArray) (hs : s.size≤1000000) : ParsesTo2 s := by
  rcases splits_any s 47 with n1 | ⟨h,t,H⟩
  · rcases splits_any s 46 with n2 | ⟨h,t,H⟩
    · obtain ⟨neg,u,HS⟩ := signed_any s
      have hu := signed_sizeP HS
      rcases int_cases s u neg HS (by omega) with ⟨a,b,c⟩ | a | a
      · refine .inl ⟨_, ?_,fun w => (parse_int 50 50 _ s w n1 n2 (by omega) (int_call 50 neg s u HS a c b (by omega) (by omega))).mono fun _ _ => told_more (by omega)⟩
        refine bd_raw (N := sv neg (numOf u.data.toList)) (D := 1) (by decide) (Rat.mkRat_one _) ?_ (Nat.one_le_pow _ _ (by decide))
        rw [natAbs_sv]
        exact Nat.lt_of_lt_of_le (digs_pow b) (pow_mono (by omega))
      · exact .inr ⟨2,by decide,fun w => parse_int_err 2 s w n1 n2 (by decide) a⟩
      · exact .inr ⟨4,by decide,fun w => parse_int_err 4 s w n1 n2 (by decide) a⟩
    · obtain ⟨neg,u,HS⟩ := signed_any h
      have hu := signed_sizeP HS
      have hz := H.size
      rcases parts_cases h t u neg HS (by omega) (by omega) with ⟨⟨a,b,c⟩,a',b',c'⟩ | ⟨G,hG,hp⟩
      · have hnum : numOf u.data.toList * 10 ^ t.size + numOf t.data.toList < 10 ^ (u.size + t.size) := by
          have h1 := digs_pow b
          have h2 := digs_pow b'
          rw [Nat.pow_add]
          have : (numOf u.data.toList + 1) * 10 ^ t.size≤10 ^ u.size * 10 ^ t.size := Nat.mul_le_mul_right _ h1
          rw [Nat.add_mul] at this
          omega
        refine .inl ⟨mkRat (sv neg (numOf u.data.toList * 10 ^ t.size + numOf t.data.toList)) (10 ^ t.size), ?_,fun w => parse_point 0 _ s h t w n1 H hs (fun w => (decimal_ok 67 _ neg _ _ h u t w HS a' c' (by omega) (by omega) (by omega) ?_ rfl
          (fun w => parts_ok 67 67 _ _ h t w (int_call 67 neg h u HS a c b (by omega) (by omega)) (nat_call 67 t a' c' b' (by omega) (by omega)))).mono fun _ _ h => ratRes_ok h)⟩
        · refine bd_raw (Nat.one_le_pow _ _ (by decide)) rfl ?_ (pow_mono (by omega))
          rw [natAbs_sv]
          exact Nat.lt_of_lt_of_le hnum (pow_mono (by omega))
        · apply limbs_len
          exact Nat.lt_trans hnum (pow_room9 (u.size + t.size) 67 (by omega) (by omega))
      · exact .inr ⟨G,hG,fun w => parse_point G _ s h t w n1 H hs (fun w => (decimal_err G h t w hG hp).mono fun _ _ h => ratRes_err h)⟩
  · obtain ⟨neg,u,HS⟩ := signed_any h
    have hu := signed_sizeP HS
    have hz := H.size
    rcases parts_cases h t u neg HS (by omega) (by omega) with ⟨⟨a,b,c⟩,a',b',c'⟩ | ⟨G,hG,hp⟩
    · rcases Nat.eq_zero_or_pos (numOf t.data.toList) with hN | hN
      · exact .inr ⟨4,by decide,fun w => parseQ_zero s h t u neg w H HS a c b a' c' b' hN⟩
      · refine .inl ⟨_, ?_,fun w => (parseQ_ok 50 _ s h t u neg w H HS a c b a' c' b' (by omega) (by omega) (by omega) (by omega) hN rfl).mono fun _ _ => told_more (by omega)⟩
        refine bd_raw hN rfl ?_ (Nat.le_of_lt (Nat.lt_of_lt_of_le (digs_pow b') (pow_mono (by omega))))
        rw [natAbs_sv]
        exact Nat.lt_of_lt_of_le (digs_pow b) (pow_mono (by omega))
    · exact .inr ⟨G,hG,fun w => parse_slash G _ s h t w H hs (fun w => (quot_err G h t w hG hp).mono fun _ _ h => ratRes_err h)⟩
theorem bd_size {q : Rat} {d : Nat} (h : Bd q d) : (ratStr q).size≤2 * d + 5 := by
  have e1 : (decStr q.num.natAbs).size≤d + 1 := size_dec_le _ _ (by omega) (Nat.lt_of_lt_of_le h.1 (pow_mono (by omega)))
  have e2 : (decStr q.den).size≤d + 1 := size_dec_le _ _ (by omega) (Nat.lt_of_le_of_lt h.2 (Nat.pow_lt_pow_right (by decide) (by omega)))
  have e3 : (decI q.num).size≤d + 2 := by
    unfold decI
    split
    · rw [ByteArray.size_append];show 1 + _≤_;omega
    · omega
  unfold ratStr
  split
  · omega
  · rw [ByteArray.size_append,ByteArray.size_append]
    show _ + (1 + _)≤_
    omega
theorem num_facts {s : ByteArray} {q : Rat} {w : World} (hg : Gl w) (hs : s.size≤1000000) (h : numS s = some q) : shortT (ratStr q) = true∧Bd q s.size∧(limbs q.num.natAbs).length≤67∧(limbs q.den).length≤67 := by
  rcases parse_any2 s hs with ⟨p,hb,hp⟩ | ⟨E,hE,hp⟩
  · obtain ⟨e,w',_,_,_,_,_,_,_,_,_,_,⟨_,l1,l2,l3,l4⟩,r1,r2,_⟩ := calls_ex (hp w)
    have f1 : (limbs p.num.natAbs).length≤67 := by rw [←l3,r1.1];omega
    have f2 : (limbs p.den).length≤67 := by rw [←l4,r2.1];omega
    have := numS_eq hg (number_is s p 67 67 hp (by omega) (by omega))
    rw [h] at this
    unfold numO at this
    split at this
    · rename_i hsh
      injection this with e
      subst e
      exact ⟨hsh,hb,f1,f2⟩
    · cases this
  · have := numS_eq hg (number_bad s E hE hp)
    rw [h] at this
    cases this
end Go.Proofs.YtkcgikoploohkaaGreatDoor
namespace Go.Proofs.YtkcgikoploohkaaGreatDoor
set_option linter.unusedVariables false
set_option linter.unusedSimpArgs false
set_option maxRecDepth 100000
open Go.RowKit Go.Shelf Nums
theorem dec_head (n : Nat) : ∃ c r,(decStr n).data.toList = c :: r∧c≠45∧∀ x∈c :: r,x≠47 := by
  have hp := size_dec_pos n
  have hd := digs_list _ (allDig_dec n)
  have hl := Lib.size_eq (decStr n)
  cases h : (decStr n).data.toList with
  | nil =>
    have h0 : (decStr n).size = 0 := by rw [hl,h];rfl
    omega
  | cons c r =>
    rw [h] at hd
    refine ⟨c,r,rfl, ?_,fun x hx => ?_⟩
    · rintro rfl;exact absurd (hd 45 (List.mem_cons_self ..)).1 (by decide)
    · rintro rfl;exact absurd (hd 47 hx).1 (by decide)
theorem trim_rat (q : Rat) : Lib.trimPrefix (ratStr q).data.toList [45] = (decStr q.num.natAbs).data.toList ++ (if q.den = 1 then [] else 47 :: (decStr q.den).data.toList) := by
  obtain ⟨c,r,h1,h2,-⟩ := dec_head q.num.natAbs
  have e : ∀ (tl : List UInt8),Lib.trimPrefix ((decI q.num).data.toList ++ tl) [45] = (decStr q.num.natAbs).data.toList ++ tl := by
    intro tl
    unfold decI Lib.trimPrefix Lib.hasPrefix
    by_cases hn : q.num < 0
    · rw [if_pos hn,ByteArray.data_append,Array.toList_append]
      show (if ([45] : List UInt8).isPrefixOf (([45] ++ (decStr q.num.natAbs).data.toList) ++ tl) = true then _ else _) = _
      rw [if_pos (by simp [List.isPrefixOf])]
      rfl
    · rw [if_neg hn,h1]
      rw [if_neg (by simp [List.isPrefixOf];exact fun hh => h2 hh.symm)]
  unfold ratStr
  by_cases hd : q.den = 1
  · rw [if_pos hd,if_pos hd]
    have := e []
    rw [List.append_nil] at this
    exact this
  · rw [if_neg hd,if_neg hd,ByteArray.data_append,Array.toList_append,ByteArray.data_append,Array.toList_append]
    exact e _
theorem short_dec {q : Rat} (h : shortT (ratStr q) = true) : (decStr q.num.natAbs).size≤300∧(q.den≠1→(decStr q.den).size≤300) := by
  unfold shortT at h
  rw [trim_rat,Bool.and_eq_true] at h
  obtain ⟨c,r,h1,-,h3⟩ := dec_head q.num.natAbs
  have s1 := Lib.size_eq (decStr q.num.natAbs)
  have s2 := Lib.size_eq (decStr q.den)
  rw [←h1] at h3
  by_cases hd : q.den = 1
  · rw [if_pos hd,List.append_nil,cut_none (cutL_free _ h3)] at h
    have := of_decide_eq_true h.1
    refine ⟨?_,fun hx => absurd hd hx⟩
    rw [s1];exact this
  · rw [if_neg hd,cut_some (cutL_app _ _ h3)] at h
    have a := of_decide_eq_true h.1
    have b := of_decide_eq_true h.2
    exact ⟨by rw [s1];exact a,fun _ => by rw [s2];exact b⟩
theorem den_one {q : Rat} (h : q.den = 1) : (decStr q.den).size≤300 := by rw [h];exact size_dec_le 1 300 (by decide) (by decide +kernel)
theorem spl_mem {c : UInt8} : ∀ (l : List UInt8),∀ w∈spl c l,w.length≤l.length
  | [],w,h => by
    have : w = [] := by simpa [spl] using h
    subst this;exact Nat.le_refl _
  | b :: l,w,h => by
    have ih := spl_mem (c := c) l
    by_cases hb : b = c
    · rw [spl_hit l hb] at h
      rcases List.mem_cons.1 h with rfl | h
      · exact Nat.zero_le _
      · exact Nat.le_succ_of_le (ih w h)
    · obtain ⟨x,r,hs⟩ : ∃ x r,spl c l = x :: r := by
        have := spl_ne c l
        cases hx : spl c l with
        | nil => exact absurd hx this
        | cons x r => exact ⟨x,r,rfl⟩
      rw [spl_miss hb hs] at h
      rw [hs] at ih
      rcases List.mem_cons.1 h with rfl | h
      · exact Nat.succ_le_succ (ih x (List.mem_cons_self ..))
      · exact Nat.le_succ_of_le (ih w (List.mem_cons_of_mem _ h))
theorem takeM_words {rest r : List UInt8} {L : List ByteArray} (h : takeM rest = some (L,r)) : ∀ w∈L,w.size + r.length + 1≤rest.length := by
  unfold takeM at h
  cases hc : cutL 10 rest with
  | none => rw [hc] at h;cases h
  | some p =>
    obtain ⟨x,r'⟩ := p
    rw [hc] at h
    injection h with h
    injection h with ha hb
    subst ha;subst hb
    intro w hw
    obtain ⟨y,hy,rfl⟩ := List.mem_map.1 hw
    have e1 := spl_mem x y hy
    have e2 := cutL_len hc
    have e3 : (bsL y).size = y.length := by rw [Lib.size_eq];rfl
    show (bsL y).size + r'.length + 1≤rest.length
    omega
theorem decFrom_lt : ∀ (l : List UInt8) (acc m : Nat),Lib.decFrom acc l = some m→m < (acc + 1) * 10 ^ l.length
  | [],acc,m,h => by
    rw [Lib.decFrom] at h;injection h with h;subst h;simp
  | b :: l,acc,m,h => by
    rw [Lib.decFrom] at h
    cases hd : Lib.digitVal b with
    | none => rw [hd] at h;cases h
    | some d =>
      rw [hd] at h
      have hd9 : d≤9 := by
        unfold Lib.digitVal at hd
        split at hd
        · injection hd with hd;omega
        · cases hd
      have := decFrom_lt l (acc * 10 + d) m h
      rw [List.length_cons,Nat.pow_succ]
      refine Nat.lt_of_lt_of_le this ?_
      rw [Nat.mul_comm (10 ^ l.length) 10,←Nat.mul_assoc]
      exact Nat.mul_le_mul_right _ (by omega)
theorem cnt_range {s : ByteArray} {n : Int} (h : cntS s = some n) : cntB n = true := by
  have h' : cntO s.data.toList = some n := h
  generalize s.data.toList = l at h'
  unfold cntO at h'
  split at h'
  · rename_i hc
    obtain ⟨hl,hd⟩ := hc
    rw [List.any_eq_false] at hd
    cases l with
    | nil => cases h'
    | cons b r =>
      have hb := hd b (List.mem_cons_self ..)
      have n1 : (b == 45) = false := by rw [beq_eq_false_iff_ne];rintro rfl;exact hb (by decide)
      have n2 : (b == 43) = false := by rw [beq_eq_false_iff_ne];rintro rfl;exact hb (by decide)
      simp only [Lib.atoi,n1,n2,Bool.false_eq_true,if_false] at h'
      cases hm : Lib.decNat (b :: r) with
      | none => rw [hm] at h';cases h'
      | some m =>
        rw [hm] at h'
        injection h' with h'
        have hn : n = (m : Int) := h'.symm
        subst hn
        have hlt := decFrom_lt (b :: r) 0 m (Lib.decNat_some hm).2
        have hp := pow_mono hl
        unfold cntB
        rw [Bool.and_eq_true]
        refine ⟨decide_eq_true (by omega),decide_eq_true ?_⟩
        have : (10 : Nat) ^ 6 = 1000000 := by decide
        omega
  · cases h'
end Go.Proofs.YtkcgikoploohkaaGreatDoor
