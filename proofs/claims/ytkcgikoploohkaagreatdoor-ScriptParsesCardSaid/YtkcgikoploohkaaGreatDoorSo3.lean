import Derived.Test.YtkcgikoploohkaaGreatDoorZSo1ToSo2
import Derived.Lib.ItoaLen
namespace Go.Proofs.YtkcgikoploohkaaGreatDoor
set_option linter.unusedVariables false
set_option linter.unusedSimpArgs false
set_option maxRecDepth 100000
open Go.RowKit Go.Shelf Nums
def NG (q : Rat) : Prop := shortT (ratStr q) = true∧(limbs q.num.natAbs).length≤67∧(limbs q.den).length≤67
def CG (x : Rat × ByteArray × Rat) : Prop := chB x = true∧NG x.1∧NG x.2.2
theorem line_word {α : Type} {x : ByteArray} {read : ByteArray→Option α} {b r : List UInt8} {y : α} (h : lineM (wordM x read) b = some (y,r)) : ∃ w,read w = some y∧w.size + r.length + 1≤b.length := by
  unfold lineM at h
  cases ht : takeM b with
  | none => rw [ht] at h;cases h
  | some p =>
    obtain ⟨L,r'⟩ := p
    rw [ht] at h
    have hw := takeM_words ht
    match L,hw,h with
    | [a, c], hw, h =>
      have h' : ((if a = x then read c else none).map fun x => (x,r')) = some (y,r) := h
      split at h'
      · cases hr : read c with
        | none => rw [hr] at h';cases h'
        | some z =>
          rw [hr] at h'
          injection h' with h'
          injection h' with h1 h2
          subst h1;subst h2
          exact ⟨c,hr,hw c (by simp)⟩
      · cases h'
    | [],_,h => cases h
    | [a],_,h => cases h
    | a :: b :: c :: L,_,h => cases h
theorem line_change {b r : List UInt8} {x : Rat × ByteArray × Rat} (h : lineM (changeM numS) b = some (x,r)) : ∃ u v,numS u = some x.1∧numS v = some x.2.2∧nameB x.2.1.data.toList = true∧u.size + r.length + 1≤b.length∧v.size + r.length + 1≤b.length∧x.2.1.size + r.length + 1≤b.length := by
  unfold lineM at h
  cases ht : takeM b with
  | none => rw [ht] at h;cases h
  | some p =>
    obtain ⟨L,r'⟩ := p
    rw [ht] at h
    have hw := takeM_words ht
    match L,hw,h with
    | [a, u, c, d, v], hw, h =>
      have h' : ((if a = bAT∧nameB c.data.toList = true∧d = bEQ then pairM c (numS u) (numS v) else none).map fun x => (x,r')) = some (x,r) := h
      split at h'
      · rename_i hc
        cases h1 : numS u with
        | none => rw [h1] at h';cases h'
        | some p =>
          cases h2 : numS v with
          | none => rw [h1,h2] at h';cases h'
          | some q =>
            rw [h1,h2] at h'
            have h3 : some ((p,c,q),r') = some (x,r) := h'
            injection h3 with h3
            injection h3 with h3 h4
            subst h3;subst h4
            exact ⟨u,v,h1,h2,hc.2.1,hw u (by simp),hw v (by simp),hw c (by simp)⟩
      · cases h'
    | [],_,h => cases h
    | [a],_,h => cases h
    | [a,b],_,h => cases h
    | [a,b,c],_,h => cases h
    | [a,b,c,d],_,h => cases h
    | a :: b :: c :: d :: e :: f :: L,_,h => cases h
theorem num_good {w : World} {s : ByteArray} {q : Rat} (hg : Gl w) (hs : s.size≤1000000) (h : numS s = some q) : NG q∧(ratStr q).size≤2 * s.size + 5 := by
  obtain ⟨a,b,c,d⟩ := num_facts hg hs h
  exact ⟨⟨a,c,d⟩,bd_size b⟩
theorem loop_facts {w : World} (hg : Gl w) : ∀ (f : Nat) (rest : List UInt8) (k : Nat) (acc L : List (Rat × ByteArray × Rat)),rest.length≤1000000→loopM numS f rest k acc = .inr L→∃ M,L = acc ++ M∧(∀ x∈M,CG x)∧((M.map chP).flatten).length≤30 * rest.length∧M.length≤rest.length∧∀ x∈M,x.2.1.size≤rest.length
  | 0,rest,k,acc,L,_,h => by
    injection h with h;subst h
    exact ⟨[],by simp,by simp,by simp,by simp,by simp⟩
  | f + 1, rest, k, acc, L, hl, h => by
    by_cases hr : rest = []
    · rw [hr,loopM_end (by omega)] at h
      injection h with h;subst h
      exact ⟨[],by simp,by simp,by simp,by simp,by simp⟩
    · cases hc : lineM (changeM numS) rest with
      | none => rw [loopM_no hr hc] at h;cases h
      | some p =>
        obtain ⟨x,r⟩ := p
        rw [loopM_yes hr hc] at h
        obtain ⟨u,v,h1,h2,h3,w1,w2,w3⟩ := line_change hc
        obtain ⟨M,e,hM,hML,hMn,hMs⟩ := loop_facts hg f r (k + 1) (acc ++ [x]) L (by omega) h
        obtain ⟨g1,s1⟩ := num_good hg (by omega) h1
        obtain ⟨g2,s2⟩ := num_good hg (by omega) h2
        refine ⟨x :: M,by rw [e];simp, ?_, ?_,by rw [List.length_cons];omega, ?_⟩
        · intro y hy
          rcases List.mem_cons.1 hy with rfl | hy
          · refine ⟨?_,g1,g2⟩
            unfold chB
            rw [h3,g1.1,g2.1];rfl
          · exact hM y hy
        · rw [List.map_cons,List.flatten_cons,List.length_append]
          have e1 := Lib.size_eq (ratStr x.1)
          have e2 := Lib.size_eq (ratStr x.2.2)
          have e3 := Lib.size_eq x.2.1
          have : (chP x).length = (ratStr x.1).size + (ratStr x.2.2).size + x.2.1.size + 8 := by
            unfold chP numL
            rw [lineP_len,join5_len,e1,e2,e3]
            have : ([97,116] : List UInt8).length = 2 := rfl
            have : ([61] : List UInt8).length = 1 := rfl
            omega
          omega
        · intro y hy
          rcases List.mem_cons.1 hy with rfl | hy
          · omega
          · have := hMs y hy;omega
structure OnceS (S : ScT) : Prop where
  ok : okP S = true
  h : NG S.h
  c : ∀ x∈S.ch,NG x.1∧NG x.2.2
  n : S.ch.length≤2000
  s : ∀ x∈S.ch,x.2.1.size≤2000
  len : (printM S).length≤65536
theorem parse_facts {w : World} (hg : Gl w) {l : List UInt8} {S : ScT} (hl : l.length≤2000) (h : parseM numS l = .inr S) : OnceS S := by
  unfold parseM at h
  cases h1 : lineM (wordM bHOR numS) l with
  | none => rw [h1] at h;cases h
  | some p1 =>
    obtain ⟨q,r1⟩ := p1
    rw [h1] at h
    dsimp only at h
    cases h2 : lineM (wordM bCAS cntS) r1 with
    | none => rw [h2] at h;cases h
    | some p2 =>
      obtain ⟨c,r2⟩ := p2
      rw [h2] at h
      dsimp only at h
      cases h3 : lineM (wordM bBITS cntS) r2 with
      | none => rw [h3] at h;cases h
      | some p3 =>
        obtain ⟨t,r3⟩ := p3
        rw [h3] at h
        dsimp only at h
        cases h4 : loopM numS (r3.length + 1) r3 3 [] with
        | inl k => rw [h4] at h;cases h
        | inr L =>
          rw [h4] at h
          injection h with h
          subst h
          obtain ⟨w1,n1,z1⟩ := line_word h1
          obtain ⟨w2,n2,z2⟩ := line_word h2
          obtain ⟨w3,n3,z3⟩ := line_word h3
          obtain ⟨M,e,hM,hML,hMn,hMs⟩ := loop_facts hg _ r3 3 [] L (by omega) h4
          rw [List.nil_append] at e
          subst e
          obtain ⟨g1,s1⟩ := num_good hg (by omega) n1
          have c2 := cnt_range n2
          have c3 := cnt_range n3
          have hok : okP ⟨q,c,t,L⟩ = true := by
            unfold okP
            rw [g1.1,c2,c3,Bool.true_and,Bool.true_and,Bool.true_and,List.all_eq_true]
            exact fun x hx => (hM x hx).1
          refine ⟨hok,g1,fun x hx => (hM x hx).2,(by show L.length≤2000;omega),fun x hx => (by have := hMs x hx;omega), ?_⟩
          unfold cntB at c2 c3
          rw [Bool.and_eq_true] at c2 c3
          have a1 := of_decide_eq_true c2.1
          have a2 := of_decide_eq_true c2.2
          have a3 := of_decide_eq_true c3.1
          have a4 := of_decide_eq_true c3.2
          have b1 := Lib.itoa_length_le c (by omega) (by omega)
          have b2 := Lib.itoa_length_le t (by omega) (by omega)
          have e1 := Lib.size_eq (ratStr q)
          unfold printM numL
          show (lineP [bHOR.data.toList,(ratStr q).data.toList] ++ lineP [bCAS.data.toList,Lib.itoa c] ++ lineP [bBITS.data.toList,Lib.itoa t] ++ (L.map chP).flatten).length≤65536
          rw [List.length_append,List.length_append,List.length_append,lineP_len,lineP_len,lineP_len,join2_len,join2_len,join2_len]
          have : bHOR.data.toList.length = 7 := rfl
          have : bCAS.data.toList.length = 7 := rfl
          have : bBITS.data.toList.length = 4 := rfl
          omega
theorem dec_lt {n k : Nat} (h : (decStr n).size≤k) : n < 10 ^ k := by
  have h1 := digs_pow (allDig_dec n)
  rw [numOf_dec] at h1
  exact Nat.lt_of_lt_of_le h1 (pow_mono h)
theorem ng_limbs {q : Rat} (h : NG q) : (limbs q.num.natAbs).length≤34∧(limbs q.den).length≤34 := by
  obtain ⟨l1,l2'⟩ := short_dec h.1
  have l2 : (decStr q.den).size≤300 := by
    by_cases hd : q.den = 1
    · exact den_one hd
    · exact l2' hd
  have hp : ∀ {n k : Nat},(decStr n).size≤k→k≤306→(limbs n).length≤34 := fun {n k} h hk => limbs_len n 34 (Nat.lt_trans (dec_lt h) (pow_room9 k 34 (by decide) (by omega)))
  exact ⟨hp l1 (by decide),hp l2 (by decide)⟩
end Go.Proofs.YtkcgikoploohkaaGreatDoor
