/- Plain lists: that the code that is made may run, first part. No condition. · Plain lists: that the code that is made may run, its first two bodies. No condition. · Plain lists: that the code that is made may run. No condition. -/
import Derived.Test.YtpcpbpinhdbjiaaZMdGToMdH
import Derived.Test.YtpcpbpinhdbjiaaZRoAToRpR
namespace Go.Proofs.Ytpcpbpinhdbjiaa
set_option linter.unusedVariables false
set_option linter.unusedSimpArgs false
set_option maxRecDepth 100000
open Go.RowKit Gr

theorem getD_far {α : Type} (l : List α) {i j : Nat} (h : i ≠ j) (u d : α) : (l.set i u).getD j d = l.getD j d := by simp [List.getD, List.getElem?_set, h]
theorem vars_ne {f : FlatM} (hg : goodB f = true) {i k : Nat} {q r : FEqM} (hq : f.eqs[i]? = some q) (hr : f.eqs[k]? = some r) (hik : i ≠ k) : q.var.toNat ≠ r.var.toNat := by
  have p1 := (plB_yes (goodB_eq hg hq).1).1
  have p2 := (plB_yes (goodB_eq hg hr).1).1
  unfold goodB onceB at hg
  rw [Bool.and_eq_true, Bool.and_eq_true, Bool.and_eq_true, Bool.and_eq_true, Bool.and_eq_true] at hg
  have hnd : (f.eqs.map FEqM.var).Nodup := by simpa using hg.1.1.1.1.2
  intro e
  have e' : q.var = r.var := by omega
  refine hik (nd_inj hnd (by simp; exact (List.getElem?_eq_some_iff.1 hq).1) (by simp; exact (List.getElem?_eq_some_iff.1 hr).1) ?_)
  simp [hq, hr, e']
theorem gOf_at {f : FlatM} (hg : goodB f = true) {i : Nat} {q : FEqM} (hq : f.eqs[i]? = some q) : (gOf f).getD q.var.toNat [] = needsL f q := by
  obtain ⟨p0, p1⟩ := plB_yes (goodB_eq hg hq).1
  have key : ∀ k, i < k → k ≤ f.eqs.length → (gTo f k).getD q.var.toNat [] = needsL f q := by
    intro k
    induction k with
    | zero => intro h; omega
    | succ k ih =>
      intro h1 h2
      obtain ⟨r, hr⟩ : ∃ r, f.eqs[k]? = some r := ⟨_, List.getElem?_eq_getElem (by omega)⟩
      rw [gTo_succ hr]
      by_cases e : i = k
      · subst e
        rw [hq] at hr
        obtain rfl := Option.some.inj hr
        have : q.var.toNat < (gTo f i).length := by rw [gTo_len]; omega
        simp [this]
      · have hne := vars_ne hg hq hr e
        have := ih (by omega) (by omega)
        rw [getD_far _ (fun e => hne e.symm), this]
  exact key _ (List.getElem?_eq_some_iff.1 hq).1 (Nat.le_refl _)
/-- each variable has an equation -/
theorem has_eq {f : FlatM} (hg : goodB f = true) {v : Nat} (hv : v < f.names.length) : ∃ (i : Nat) (q : FEqM), f.eqs[i]? = some q ∧ q.var.toNat = v := by
  have hlen := goodB_len hg
  have hall : ∀ x ∈ f.eqs.map FEqM.var, 0 ≤ x ∧ x < (f.names.length : Int) := by
    intro x hx
    obtain ⟨q, hq, rfl⟩ := List.mem_map.1 hx
    obtain ⟨i, hi, e⟩ := List.mem_iff_getElem.1 hq
    exact plB_yes (goodB_eq hg (show f.eqs[i]? = some q by simp [hi, e])).1
  have hg' := hg
  unfold goodB onceB at hg'
  rw [Bool.and_eq_true, Bool.and_eq_true, Bool.and_eq_true, Bool.and_eq_true, Bool.and_eq_true] at hg'
  have hnd : (f.eqs.map FEqM.var).Nodup := by simpa using hg'.1.1.1.1.2
  have hm := mem_of_full (toNat_nd _ hnd fun x hx => (hall x hx).1) (fun x hx => by
    obtain ⟨y, hy, rfl⟩ := List.mem_map.1 hx
    have := hall y hy; omega) (by simp; exact hlen) v hv
  obtain ⟨y, hy, e⟩ := List.mem_map.1 hm
  obtain ⟨q, hq, rfl⟩ := List.mem_map.1 hy
  obtain ⟨i, hi, e2⟩ := List.mem_iff_getElem.1 hq
  exact ⟨i, q, by simp [hi, e2], e⟩
theorem hasOp_iff {l : List ByteArray} {op : ByteArray} : hasOp l op = true ↔ op ∈ l := by
  unfold hasOp
  rw [List.any_eq_true]
  constructor
  · rintro ⟨x, hx, e⟩; exact (of_decide_eq_true e) ▸ hx
  · intro h; exact ⟨op, h, decide_eq_true rfl⟩
/-- the names of equations -/
def eqNames : List ByteArray := opsNone ++ opsOne ++ opsSome ++ opsTwo ++ [opSel]
theorem en_name {op : ByteArray} {n : Nat} (h : enB op n = true) : op ∈ eqNames := by
  unfold enB at h
  unfold eqNames
  simp only [List.mem_append, List.mem_cons, List.not_mem_nil, or_false]
  by_cases h1 : op = opLit ∨ op = opIn ∨ op = opMem ∨ op = opCont ∨ op = opFlag
  · refine .inl (.inl (.inl (.inl ?_)))
    rcases h1 with h | h | h | h | h <;> rw [h] <;> exact hasOp_iff.1 rfl
  rw [if_neg h1] at h
  by_cases h2 : opsOne.any (fun x => decide (op = x)) = true
  · exact .inl (.inl (.inl (.inr (hasOp_iff.1 h2))))
  rw [if_neg h2] at h
  by_cases h3 : opsSome.any (fun x => decide (op = x)) = true
  · exact .inl (.inl (.inr (hasOp_iff.1 h3)))
  rw [if_neg h3] at h
  by_cases h4 : opsTwo.any (fun x => decide (op = x)) = true
  · exact .inl (.inr (hasOp_iff.1 h4))
  rw [if_neg h4] at h
  by_cases h5 : op = opSel
  · exact .inr h5
  rw [if_neg h5] at h
  cases h
/-- what the two ways of asking an equation's name have in common -/
theorem en_same {op : ByteArray} (h : op ∈ eqNames) : (∀ n, enS op n = enB op n) ∧ isEnd op = false ∧ (op ≠ opMem → op ≠ opCont → mayB op = mayB op) := by
  simp only [eqNames, opsNone, opsOne, opsSome, opsTwo, List.cons_append, List.nil_append, List.mem_cons, List.not_mem_nil, or_false] at h
  rcases h with h | h | h | h | h | h | h | h | h | h | h | h | h | h | h | h | h | h | h | h | h | h | h | h | h | h | h <;> subst h <;> exact ⟨fun n => rfl, rfl, fun _ _ => rfl⟩
theorem plK_same {op : ByteArray} (h : op ∈ eqNames) (k : Int) (li lo lm lc lx : Nat) : kL op k li lm lc lx = true → plK op (if op = bs [105, 110] ∨ op = bs [102, 108, 97, 103] ∨ op = bs [109, 101, 109] ∨ op = bs [99, 111, 110, 116] then k else 0) (li : Int) (lo : Int) (lm : Int) (lc : Int) (lx : Int) = true := by
  simp only [eqNames, opsNone, opsOne, opsSome, opsTwo, List.cons_append, List.nil_append, List.mem_cons, List.not_mem_nil, or_false] at h
  rcases h with h | h | h | h | h | h | h | h | h | h | h | h | h | h | h | h | h | h | h | h | h | h | h | h | h | h | h <;> subst h <;> intro q <;> first | exact q | rfl
def noEq : FEqM := ⟨0, ⟨#[]⟩, [], 0, noVal, 0⟩
/-- the equation of a variable -/
def pickQ (f : FlatM) (x : Int) : FEqM := (f.eqs.filter fun q => decide (q.var = x)).head?.getD noEq
theorem filter_one : ∀ {l : List FEqM} {q : FEqM}, (l.map FEqM.var).Nodup → q ∈ l → l.filter (fun p => decide (p.var = q.var)) = [q]
  | [], q, _, h => by cases h
  | p :: r, q, hn, h => by
    rw [List.map_cons, List.nodup_cons] at hn
    rw [List.filter_cons]
    rcases List.mem_cons.1 h with e | e
    · subst e
      rw [if_pos (decide_eq_true rfl)]
      congr 1
      rw [List.filter_eq_nil_iff]
      intro a ha hd
      exact hn.1 (List.mem_map.2 ⟨a, ha, of_decide_eq_true hd⟩)
    · have hne : p.var ≠ q.var := fun e' => hn.1 (List.mem_map.2 ⟨q, e, e'.symm⟩)
      rw [if_neg (by simp [hne])]
      exact filter_one hn.2 e
theorem pick_at {f : FlatM} (hg : goodB f = true) {v : Nat} (hv : v < f.names.length) : ∃ i : Nat, f.eqs[i]? = some (pickQ f (v : Int)) ∧ (pickQ f (v : Int)).var = (v : Int) ∧ f.eqs.filter (fun q => decide (q.var = (v : Int))) = [pickQ f (v : Int)] := by
  obtain ⟨i, q, hq, e⟩ := has_eq hg hv
  have p0 := (plB_yes (goodB_eq hg hq).1).1
  have ev : q.var = (v : Int) := by omega
  have hnd : (f.eqs.map FEqM.var).Nodup := by
    have h := hg
    unfold goodB onceB at h
    rw [Bool.and_eq_true, Bool.and_eq_true, Bool.and_eq_true, Bool.and_eq_true, Bool.and_eq_true] at h
    simpa using h.1.1.1.1.2
  have hf := filter_one hnd (List.mem_of_getElem? hq)
  rw [ev] at hf
  have hp : pickQ f (v : Int) = q := by unfold pickQ; rw [hf]; rfl
  exact ⟨i, by rw [hp]; exact hq, by rw [hp]; exact ev, by rw [hp]; exact hf⟩
theorem filterMap_same {α β : Type} {g h : α → Option β} : ∀ {l : List α}, (∀ x ∈ l, g x = h x) → l.filterMap g = l.filterMap h
  | [], _ => rfl
  | x :: l, hh => by
    rw [List.filterMap_cons, List.filterMap_cons, hh x (by simp), filterMap_same fun y hy => hh y (by simp [hy])]
/-- what an equation of a good program is -/
theorem eq_all {f : FlatM} (hg : goodB f = true) {i : Nat} {q : FEqM} (hq : f.eqs[i]? = some q) : guB q.guard f.names.length = true ∧ wiB q.args f.names.length = true ∧ enB q.op q.args.length = true ∧ kB f q = true := by
  have h := hg
  unfold goodB at h
  rw [Bool.and_eq_true, Bool.and_eq_true, Bool.and_eq_true] at h
  have he := List.all_eq_true.1 h.1.1.2 q (List.mem_of_getElem? hq)
  unfold eqB at he
  rw [Bool.and_eq_true, Bool.and_eq_true, Bool.and_eq_true] at he
  exact ⟨he.1.1.1, he.1.1.2, he.1.2, he.2⟩
theorem flatMap_single {α β : Type} {g : α → List β} {h : α → β} : ∀ {l : List α}, (∀ x ∈ l, g x = [h x]) → l.flatMap g = l.map h
  | [], _ => rfl
  | x :: l, hh => by
    rw [List.flatMap_cons, hh x (by simp), List.map_cons, flatMap_single fun y hy => hh y (by simp [hy])]
    rfl
section
variable {f : FlatM} {n : Nat} {o ss : List Int} {S : Int}
theorem ord_nat (hR : RightP f n o ss S) {x : Int} (hx : x ∈ o) : ∃ v : Nat, x = (v : Int) ∧ v < n := by
  have := hR.once.pl x hx
  exact ⟨x.toNat, by omega, by omega⟩
theorem stepEq_map (hR : RightP f n o ss S) (hn : f.names.length = n) : stepEq f ss o = o.map fun x => eqI f ss (pickQ f x) := by
  unfold stepEq
  refine flatMap_single fun x hx => ?_
  obtain ⟨v, rfl, hv⟩ := ord_nat hR hx
  obtain ⟨i, _, _, hf⟩ := pick_at hR.good (v := v) (by omega)
  rw [hf]
  rfl
theorem wTo_map {l : List Int} (hR : RightP f n o ss S) (hn : f.names.length = n) (hl : ∀ x ∈ l, x ∈ o) : wTo (l.map fun x => eqI f ss (pickQ f x)) = l.map (slotS ss) := by
  unfold wTo
  rw [List.filterMap_map]
  rw [← List.filterMap_eq_map]
  refine filterMap_same fun x hx => ?_
  obtain ⟨v, rfl, hv⟩ := ord_nat hR (hl x hx)
  obtain ⟨i, hq, hvar, _⟩ := pick_at hR.good (v := v) (by omega)
  have hen := (eq_all hR.good hq).2.2.1
  have hend := (en_same (en_name hen)).2.1
  show (if isEnd (pickQ f (v : Int)).op = true then none else some (slotS ss (pickQ f (v : Int)).var)) = some (slotS ss (v : Int))
  rw [hend, hvar]
  rfl
/-- a variable's slot, written -/
theorem wr_var (hR : RightP f n o ss S) {W : List Int} {y : Int} (hy : 0 ≤ y ∧ y < (n : Int)) (hW : slotS ss y ∈ W) : wrB S W (slotS ss y) = true := by
  have hs : 0 ≤ slotS ss y ∧ slotS ss y < S := by
    unfold slotS
    rw [if_neg (by omega)]
    have hl : y.toNat < ss.length := by rw [hR.slots.1]; omega
    exact hR.slots.2 _ (by rw [List.getD_eq_getElem?_getD, List.getElem?_eq_getElem hl]; exact List.getElem_mem _)
  unfold wrB inB
  rw [decide_eq_true hs.1, decide_eq_true hs.2, decide_eq_true hW]
  rfl
theorem gd_var (hR : RightP f n o ss S) {W : List Int} {y : Int} (hy : y < (n : Int)) (hW : 0 ≤ y → slotS ss y ∈ W) : gdB S W (slotS ss y) = true := by
  unfold gdB
  by_cases h : y < 0
  · rw [show slotS ss y = -1 by unfold slotS; rw [if_pos h]]
    rfl
  · rw [wr_var hR ⟨by omega, hy⟩ (hW (by omega)), Bool.or_true]
theorem in_var (hR : RightP f n o ss S) {y : Int} (hy : 0 ≤ y ∧ y < (n : Int)) : inB (slotS ss y) S = true := by
  have := wr_var hR (W := [slotS ss y]) hy (by simp)
  unfold wrB at this
  rw [Bool.and_eq_true] at this
  exact this.1
end

end Go.Proofs.Ytpcpbpinhdbjiaa

namespace Go.Proofs.Ytpcpbpinhdbjiaa
set_option linter.unusedVariables false
set_option linter.unusedSimpArgs false
set_option maxRecDepth 100000
open Go.RowKit Gr

section
variable {f : FlatM} {n : Nat} {o ss : List Int} {S : Int}
theorem order_before (hR : RightP f n o ss S) (hn : f.names.length = n) {i : Nat} {x : Int} (hx : o[i]? = some x) {y : Int} (hy : y ∈ needsL f (pickQ f x)) : 0 ≤ y ∧ y < (n : Int) ∧ y ∈ o.take i := by
  have hxo : x ∈ o := List.mem_of_getElem? hx
  obtain ⟨v, rfl, hv⟩ := ord_nat hR hxo
  obtain ⟨k, hq, hvar, _⟩ := pick_at hR.good (v := v) (by omega)
  have hp := plB_yes (needs_places hR.good hq y hy)
  obtain ⟨u, rfl⟩ : ∃ u : Nat, y = (u : Int) := ⟨y.toNat, by omega⟩
  have hu : u < n := by omega
  have hnd : ndB (gOf f) (v : Int) (u : Int) = true := by
    have hg := gOf_at hR.good hq
    rw [hvar, Int.toNat_natCast] at hg
    have hl : (gOf f).length = f.names.length := by unfold gOf; exact gTo_len f _
    unfold ndB
    rw [hl, Int.toNat_natCast, hg, decide_eq_true (show (0 : Int) ≤ (v : Int) by omega), decide_eq_true (show (v : Int) < (f.names.length : Int) by omega), decide_eq_true (show (0 : Int) ≤ (u : Int) by omega), decide_eq_true (show (u : Int) < (f.names.length : Int) by omega), decide_eq_true hy]
    rfl
  have hlt := hR.behind v hv u hu hnd
  have hi : i < n := by have := (List.getElem?_eq_some_iff.1 hx).1; rw [hR.once.len] at this; exact this
  have hgd : o.getD i 0 = (v : Int) := by rw [List.getD_eq_getElem?_getD, hx]; rfl
  have hpi := hR.once.plc_get hi
  rw [hgd] at hpi
  obtain ⟨j, hj, e1, e2⟩ := hR.once.plc hu
  rw [hpi, e1] at hlt
  refine ⟨by omega, by omega, ?_⟩
  have hjo : j < o.length := by rw [hR.once.len]; exact hj
  rw [List.mem_take_iff_getElem]
  refine ⟨j, by rw [Nat.lt_min]; omega, ?_⟩
  rw [List.getD_eq_getElem?_getD, List.getElem?_eq_getElem hjo] at e2
  simpa using e2
theorem resets_need {q : FEqM} {y : Int} (h : y ∈ (if q.op = bs [109, 101, 109] then (f.mems[q.k.toNat]?.map MemM.resets).getD [] else if q.op = bs [99, 111, 110, 116] then (f.conts[q.k.toNat]?.map ContM.resets).getD [] else [])) : y ∈ needsL f q := by
  unfold needsL
  rw [List.mem_append, List.mem_append]
  by_cases h1 : q.op = bs [109, 101, 109]
  · rw [if_pos h1] at h
    rw [if_pos (show q.op = opMem from h1)]
    exact .inl (.inr h)
  · rw [if_neg h1] at h
    by_cases h2 : q.op = bs [99, 111, 110, 116]
    · rw [if_pos h2] at h
      rw [if_pos (show q.op = opCont from h2)]
      exact .inr h
    · rw [if_neg h2] at h
      cases h
theorem all_wr {W l : List Int} (h : ∀ y ∈ l, wrB S W (slotS ss y) = true) : (l.map (slotS ss)).all (wrB S W) = true := by
  rw [List.all_eq_true]
  intro z hz
  obtain ⟨y, hy, rfl⟩ := List.mem_map.1 hz
  exact h y hy
theorem stEq (hR : RightP f n o ss S) (hn : f.names.length = n) {i : Nat} {x : Int} (hx : o[i]? = some x) : stB (madeC f o ss S) ((o.take i).map (slotS ss)) (eqI f ss (pickQ f x)) = true := by
  have hxo : x ∈ o := List.mem_of_getElem? hx
  have hbef := fun y hy => order_before hR hn hx (y := y) hy
  obtain ⟨v, rfl, hv⟩ := ord_nat hR hxo
  obtain ⟨k, hq, hvar, _⟩ := pick_at hR.good (v := v) (by omega)
  obtain ⟨q, hqq⟩ : ∃ q, q = pickQ f (v : Int) := ⟨_, rfl⟩
  rw [← hqq] at hq hvar hbef ⊢
  obtain ⟨g1, g2, g3, g4⟩ := eq_all hR.good hq
  have hnm := en_name g3
  have hwr : ∀ y ∈ needsL f q, wrB S ((o.take i).map (slotS ss)) (slotS ss y) = true := fun y hy => by
    obtain ⟨a, b, c⟩ := hbef y hy
    exact wr_var hR ⟨a, b⟩ (List.mem_map.2 ⟨y, c, rfl⟩)
  unfold stB
  have e1 : enS (eqI f ss q).op (eqI f ss q).args.length = true := by
    show enS q.op (q.args.map (slotS ss)).length = true
    rw [List.length_map, (en_same hnm).1]
    exact g3
  have e2 : plK (eqI f ss q).op (eqI f ss q).k (madeC f o ss S).ins (madeC f o ss S).outs (madeC f o ss S).mems.length (madeC f o ss S).conts.length (madeC f o ss S).crosses = true := by
    have := plK_same hnm q.k f.ins.length f.outs.length f.mems.length f.conts.length f.cross.length g4
    show plK q.op _ (f.ins.length : Int) (f.outs.length : Int) ((f.mems.map MemM.init).length : Int) ((f.conts.map ContM.init).length : Int) (f.cross.length : Int) = true
    rw [List.length_map, List.length_map]
    exact this
  have e3 : (decide ((eqI f ss q).resets.length = 0) || mayB (eqI f ss q).op) = true := by
    show (decide (((if q.op = bs [109, 101, 109] then (f.mems[q.k.toNat]?.map MemM.resets).getD [] else if q.op = bs [99, 111, 110, 116] then (f.conts[q.k.toNat]?.map ContM.resets).getD [] else []).map (slotS ss)).length = 0) || mayB q.op) = true
    by_cases h1 : q.op = bs [109, 101, 109]
    · rw [h1, show mayB (bs [109, 101, 109]) = true from rfl, Bool.or_true]
    · by_cases h2 : q.op = bs [99, 111, 110, 116]
      · rw [h2, show mayB (bs [99, 111, 110, 116]) = true from rfl, Bool.or_true]
      · rw [if_neg h1, if_neg h2]; rfl
  have e4 : gdB (madeC f o ss S).slots ((o.take i).map (slotS ss)) (eqI f ss q).guard = true := by
    refine gd_var hR (by rw [← hn]; exact of_decide_eq_true g1) fun h0 => ?_
    have hy : q.guard ∈ needsL f q := by
      unfold needsL
      rw [if_pos h0]
      simp
    exact List.mem_map.2 ⟨q.guard, (hbef _ hy).2.2, rfl⟩
  have e5 : (eqI f ss q).args.all (wrB (madeC f o ss S).slots ((o.take i).map (slotS ss))) = true := all_wr fun y hy => hwr y (by unfold needsL; simp [hy])
  have e6 : (eqI f ss q).resets.all (wrB (madeC f o ss S).slots ((o.take i).map (slotS ss))) = true := all_wr fun y hy => hwr y (resets_need hy)
  have e7 : (isEnd (eqI f ss q).op || inB (eqI f ss q).dst (madeC f o ss S).slots) = true := by
    have := in_var hR (y := q.var) (by rw [hvar]; omega)
    rw [show inB (eqI f ss q).dst (madeC f o ss S).slots = true from this, Bool.or_true]
  rw [e1, e2, e3, e4, e5, e6, e7]
  rfl
theorem wr_all (hR : RightP f n o ss S) {W : List Int} (hW : ∀ y ∈ o, slotS ss y ∈ W) {y : Int} (hy : 0 ≤ y ∧ y < (n : Int)) : wrB S W (slotS ss y) = true := by
  obtain ⟨u, rfl⟩ : ∃ u : Nat, y = (u : Int) := ⟨y.toNat, by omega⟩
  exact wr_var hR hy (hW _ (hR.once.mem (by omega)))
theorem gd_all (hR : RightP f n o ss S) {W : List Int} (hW : ∀ y ∈ o, slotS ss y ∈ W) {y : Int} (hy : y < (n : Int)) : gdB S W (slotS ss y) = true := gd_var hR hy fun h0 => by
  obtain ⟨u, rfl⟩ : ∃ u : Nat, y = (u : Int) := ⟨y.toNat, by omega⟩
  exact hW _ (hR.once.mem (by omega))
/-- a memory of a good program -/
theorem mem_all (hg : goodB f = true) {m : MemM} (hm : m ∈ f.mems) : plB m.next f.names.length = true ∧ guB m.guard f.names.length = true ∧ wiB m.resets f.names.length = true := by
  have h := hg
  unfold goodB at h
  rw [Bool.and_eq_true, Bool.and_eq_true] at h
  have hk := h.1.2
  unfold keptB at hk
  rw [Bool.and_eq_true, Bool.and_eq_true, Bool.and_eq_true] at hk
  have := List.all_eq_true.1 hk.1.2 m hm
  unfold memB at this
  rw [Bool.and_eq_true, Bool.and_eq_true] at this
  exact ⟨this.1.1, this.1.2, this.2⟩
theorem cont_all (hg : goodB f = true) {m : ContM} (hm : m ∈ f.conts) : plB m.var f.names.length = true ∧ guB m.guard f.names.length = true ∧ wiB m.resets f.names.length = true ∧ ∀ s ∈ m.slopes, guB s.guard f.names.length = true ∧ plB s.var f.names.length = true := by
  have h := hg
  unfold goodB at h
  rw [Bool.and_eq_true, Bool.and_eq_true] at h
  have hk := h.1.2
  unfold keptB at hk
  rw [Bool.and_eq_true, Bool.and_eq_true, Bool.and_eq_true] at hk
  have := List.all_eq_true.1 hk.2 m hm
  unfold contB at this
  rw [Bool.and_eq_true, Bool.and_eq_true, Bool.and_eq_true] at this
  refine ⟨this.1.1.1, this.1.1.2, this.1.2, fun s hs => ?_⟩
  have q := List.all_eq_true.1 this.2 s hs
  unfold slopeB at q
  rw [Bool.and_eq_true] at q
  exact q
theorem outs_all (hg : goodB f = true) : wiB f.outs f.names.length = true ∧ wiB f.again f.names.length = true := by
  have h := hg
  unfold goodB at h
  rw [Bool.and_eq_true, Bool.and_eq_true] at h
  have hk := h.1.2
  unfold keptB at hk
  rw [Bool.and_eq_true, Bool.and_eq_true, Bool.and_eq_true] at hk
  exact hk.1.1
theorem inB_nat {i n : Nat} (h : i < n) : inB (i : Int) (n : Int) = true := by
  unfold inB
  rw [decide_eq_true (show (0 : Int) ≤ (i : Int) by omega), decide_eq_true (show (i : Int) < (n : Int) by omega)]
  rfl
/-- what stands behind the equations -/
theorem stEnd (hR : RightP f n o ss S) (hn : f.names.length = n) {W : List Int} (hW : ∀ y ∈ o, slotS ss y ∈ W) {x : InsP} (hx : x ∈ f.mems.mapIdx (keepI ss) ++ f.conts.mapIdx (stateI ss) ++ f.outs.mapIdx (outI ss) ++ f.again.map (againI ss)) : stB (madeC f o ss S) W x = true := by
  have wa : ∀ {y : Int}, plB y f.names.length = true → wrB S W (slotS ss y) = true := fun h => wr_all hR hW (by have := plB_yes h; omega)
  have ga : ∀ {y : Int}, guB y f.names.length = true → gdB S W (slotS ss y) = true := fun h => gd_all hR hW (by rw [← hn]; exact of_decide_eq_true h)
  have ra : ∀ {l : List Int}, wiB l f.names.length = true → (l.map (slotS ss)).all (wrB S W) = true := fun h => all_wr fun y hy => wa (List.all_eq_true.1 h y hy)
  have one : ∀ {y : Int}, wrB S W (slotS ss y) = true → [slotS ss y].all (wrB S W) = true := fun h => by simp [h]
  rw [List.mem_append, List.mem_append, List.mem_append] at hx
  rcases hx with ((hx | hx) | hx) | hx
  · obtain ⟨i, hi, rfl⟩ := List.mem_mapIdx.1 hx
    obtain ⟨h1, h2, h3⟩ := mem_all hR.good (List.getElem_mem hi)
    unfold stB
    rw [show (keepI ss i f.mems[i]).resets.all (wrB (madeC f o ss S).slots W) = true from ra h3, show (keepI ss i f.mems[i]).args.all (wrB (madeC f o ss S).slots W) = true from one (wa h1), show gdB (madeC f o ss S).slots W (keepI ss i f.mems[i]).guard = true from ga h2,
      show plK (keepI ss i f.mems[i]).op (keepI ss i f.mems[i]).k (madeC f o ss S).ins (madeC f o ss S).outs (madeC f o ss S).mems.length (madeC f o ss S).conts.length (madeC f o ss S).crosses = true from (show inB (i : Int) ((f.mems.map MemM.init).length : Int) = true by rw [List.length_map]; exact inB_nat hi),
      show mayB (keepI ss i f.mems[i]).op = true from rfl, show enS (keepI ss i f.mems[i]).op (keepI ss i f.mems[i]).args.length = true from rfl, show isEnd (keepI ss i f.mems[i]).op = true from rfl]
    simp
  · obtain ⟨i, hi, rfl⟩ := List.mem_mapIdx.1 hx
    obtain ⟨h1, h2, h3, _⟩ := cont_all hR.good (List.getElem_mem hi)
    unfold stB
    rw [show (stateI ss i f.conts[i]).resets.all (wrB (madeC f o ss S).slots W) = true from ra h3, show (stateI ss i f.conts[i]).args.all (wrB (madeC f o ss S).slots W) = true from one (wa h1), show gdB (madeC f o ss S).slots W (stateI ss i f.conts[i]).guard = true from ga h2,
      show plK (stateI ss i f.conts[i]).op (stateI ss i f.conts[i]).k (madeC f o ss S).ins (madeC f o ss S).outs (madeC f o ss S).mems.length (madeC f o ss S).conts.length (madeC f o ss S).crosses = true from (show inB (i : Int) ((f.conts.map ContM.init).length : Int) = true by rw [List.length_map]; exact inB_nat hi),
      show mayB (stateI ss i f.conts[i]).op = true from rfl, show enS (stateI ss i f.conts[i]).op (stateI ss i f.conts[i]).args.length = true from rfl, show isEnd (stateI ss i f.conts[i]).op = true from rfl]
    simp
  · obtain ⟨i, hi, rfl⟩ := List.mem_mapIdx.1 hx
    have h1 := List.all_eq_true.1 (outs_all hR.good).1 _ (List.getElem_mem hi)
    unfold stB
    rw [show (outI ss i f.outs[i]).resets.all (wrB (madeC f o ss S).slots W) = true from rfl, show (outI ss i f.outs[i]).args.all (wrB (madeC f o ss S).slots W) = true from one (wa h1), show gdB (madeC f o ss S).slots W (outI ss i f.outs[i]).guard = true from rfl,
      show plK (outI ss i f.outs[i]).op (outI ss i f.outs[i]).k (madeC f o ss S).ins (madeC f o ss S).outs (madeC f o ss S).mems.length (madeC f o ss S).conts.length (madeC f o ss S).crosses = true from inB_nat hi,
      show enS (outI ss i f.outs[i]).op (outI ss i f.outs[i]).args.length = true from rfl, show isEnd (outI ss i f.outs[i]).op = true from rfl, show decide ((outI ss i f.outs[i]).resets.length = 0) = true from rfl]
    rfl
  · obtain ⟨y, hy, rfl⟩ := List.mem_map.1 hx
    have h1 := List.all_eq_true.1 (outs_all hR.good).2 _ hy
    unfold stB
    rw [show (againI ss y).resets.all (wrB (madeC f o ss S).slots W) = true from rfl, show (againI ss y).args.all (wrB (madeC f o ss S).slots W) = true from one (wa h1), show gdB (madeC f o ss S).slots W (againI ss y).guard = true from rfl,
      show plK (againI ss y).op (againI ss y).k (madeC f o ss S).ins (madeC f o ss S).outs (madeC f o ss S).mems.length (madeC f o ss S).conts.length (madeC f o ss S).crosses = true from rfl,
      show enS (againI ss y).op (againI ss y).args.length = true from rfl, show isEnd (againI ss y).op = true from rfl, show decide ((againI ss y).resets.length = 0) = true from rfl]
    rfl
theorem wTo_append (l m : List InsP) : wTo (l ++ m) = wTo l ++ wTo m := by unfold wTo; rw [List.filterMap_append]
theorem lTo_append (l m : List InsP) : lTo (l ++ m) = lTo l ++ lTo m := by unfold lTo; rw [List.filterMap_append]
theorem step_right (hR : RightP f n o ss S) (hn : f.names.length = n) : ∀ (i : Nat) (x : InsP), (madeC f o ss S).step[i]? = some x → stB (madeC f o ss S) (wTo ((madeC f o ss S).step.take i)) x = true := by
  intro i x hx
  have hE := stepEq_map hR hn
  have hL : (stepEq f ss o).length = n := by rw [hE, List.length_map, hR.once.len]
  have hst : (madeC f o ss S).step = stepEq f ss o ++ (f.mems.mapIdx (keepI ss) ++ f.conts.mapIdx (stateI ss) ++ f.outs.mapIdx (outI ss) ++ f.again.map (againI ss)) := by
    show stepL f ss o = _
    unfold stepL
    simp only [List.append_assoc]
  rw [hst] at hx ⊢
  by_cases hi : i < n
  · rw [List.getElem?_append_left (by omega)] at hx
    rw [List.take_append_of_le_length (by omega), hE, ← List.map_take, wTo_map hR hn (fun y hy => List.mem_of_mem_take hy)]
    rw [hE, List.getElem?_map] at hx
    obtain ⟨y, hy, rfl⟩ : ∃ y, o[i]? = some y ∧ eqI f ss (pickQ f y) = x := by
      cases h : o[i]? with
      | none => rw [h] at hx; cases hx
      | some y => rw [h] at hx; exact ⟨y, rfl, by simpa using hx⟩
    exact stEq hR hn hy
  · rw [List.getElem?_append_right (by omega)] at hx
    refine stEnd hR hn (fun y hy => ?_) (List.mem_of_getElem? hx)
    rw [List.take_append, wTo_append, List.take_of_length_le (by omega), hE, wTo_map hR hn (fun y hy => hy)]
    exact List.mem_append_left _ (List.mem_map.2 ⟨y, hy, rfl⟩)
theorem all_written (hR : RightP f n o ss S) (hn : f.names.length = n) : ∀ y ∈ o, slotS ss y ∈ wTo (madeC f o ss S).step := by
  intro y hy
  have hst : (madeC f o ss S).step = stepEq f ss o ++ (f.mems.mapIdx (keepI ss) ++ f.conts.mapIdx (stateI ss) ++ f.outs.mapIdx (outI ss) ++ f.again.map (againI ss)) := by
    show stepL f ss o = _
    unfold stepL
    simp only [List.append_assoc]
  rw [hst, wTo_append, stepEq_map hR hn, wTo_map hR hn (fun y hy => hy)]
  exact List.mem_append_left _ (List.mem_map.2 ⟨y, hy, rfl⟩)
theorem two_all {W : List Int} : ∀ {l : List SlopeM}, (∀ s ∈ l, gdB S W (slotS ss s.guard) = true ∧ wrB S W (slotS ss s.var) = true) → twoB S W (l.flatMap fun s => [slotS ss s.guard, slotS ss s.var]) = true
  | [], _ => rfl
  | s :: l, h => by
    obtain ⟨h1, h2⟩ := h s (by simp)
    have ih := two_all (W := W) (l := l) fun t ht => h t (by simp [ht])
    rw [List.flatMap_cons]
    show (gdB S W (slotS ss s.guard) && wrB S W (slotS ss s.var) && twoB S W (l.flatMap fun s => [slotS ss s.guard, slotS ss s.var])) = true
    rw [h1, h2, ih]
    rfl
theorem deriv_right (hR : RightP f n o ss S) (hn : f.names.length = n) : ∀ (i : Nat) (x : InsP), (madeC f o ss S).deriv[i]? = some x → drB (madeC f o ss S) (wTo (madeC f o ss S).step) x = true := by
  intro i x hx
  have hm : x ∈ derivL f ss := List.mem_of_getElem? hx
  unfold derivL at hm
  obtain ⟨k, hk, rfl⟩ := List.mem_mapIdx.1 hm
  obtain ⟨h1, h2, h3, h4⟩ := cont_all hR.good (List.getElem_mem hk)
  have hW := all_written hR hn
  unfold drB
  rw [show twoB (madeC f o ss S).slots (wTo (madeC f o ss S).step) (slopeI ss k f.conts[k]).args = true from two_all fun s hs => by
      obtain ⟨a, b⟩ := h4 s hs
      exact ⟨gd_all hR hW (by rw [← hn]; exact of_decide_eq_true a), wr_all hR hW (by have := plB_yes b; omega)⟩,
    show gdB (madeC f o ss S).slots (wTo (madeC f o ss S).step) (slopeI ss k f.conts[k]).guard = true from gd_all hR hW (by rw [← hn]; exact of_decide_eq_true h2),
    show inB (slopeI ss k f.conts[k]).k (madeC f o ss S).conts.length = true from (show inB (k : Int) ((f.conts.map ContM.init).length : Int) = true by rw [List.length_map]; exact inB_nat hk),
    show decide ((slopeI ss k f.conts[k]).op = opSlope) = true from rfl, show decide ((slopeI ss k f.conts[k]).resets.length = 0) = true from rfl]
  rfl
theorem baseTo_mono {k m : Nat} (h : k ≤ m) : baseTo f k ≤ baseTo f m := by
  induction m with
  | zero => obtain rfl : k = 0 := by omega
            exact Nat.le_refl _
  | succ m ih =>
    rcases Nat.lt_or_ge m k with q | q
    · obtain rfl : k = m + 1 := by omega
      exact Nat.le_refl _
    · refine Nat.le_trans (ih q) ?_
      show baseTo f m ≤ baseTo f m + _
      omega
theorem lTo_mem {l : List InsP} {a : Nat} {x : InsP} (h : l[a]? = some x) (ho : x.op ≠ opAsk) : x.dst ∈ lTo l := by
  unfold lTo
  rw [List.mem_filterMap]
  exact ⟨x, List.mem_of_getElem? h, by rw [if_neg ho]⟩
end

end Go.Proofs.Ytpcpbpinhdbjiaa

namespace Go.Proofs.Ytpcpbpinhdbjiaa
set_option linter.unusedVariables false
set_option linter.unusedSimpArgs false
set_option maxRecDepth 100000
open Go.RowKit Gr

section
variable {f : FlatM} {n : Nat} {o ss : List Int} {S : Int}
theorem lop_ask {op : ByteArray} (h : op ∈ [copVar, copCont, copNeg, bs [43], bs [45], bs [47], copMul, copSel]) : (⟨#[108]⟩ ++ op : ByteArray) ≠ opAsk := by
  simp only [List.mem_cons, List.not_mem_nil, or_false] at h
  rcases h with h | h | h | h | h | h | h | h <;> subst h <;> decide
theorem two_len {l : List Int} (h : l.length = 2) : l = [l.getD 0 0, l.getD 1 0] := by
  match l, h with
  | [a, b], _ => rfl
theorem three_len {l : List Int} (h : l.length = 3) : l = [l.getD 0 0, l.getD 1 0, l.getD 2 0] := by
  match l, h with
  | [a, b, c], _ => rfl
theorem wi_get {l : List Int} {m : Nat} (h : wiB l m = true) {i : Nat} (hi : i < l.length) : 0 ≤ l.getD i 0 ∧ l.getD i 0 < (m : Int) := wiB_bd h _ (by rw [List.getD_eq_getElem?_getD, List.getElem?_eq_getElem hi]; exact List.getElem_mem _)
/-- an operation's instruction, where the lines of those ahead are told -/
theorem line_right (hR : RightP f n o ss S) (hn : f.names.length = n) {W L : List Int} (hW : ∀ y ∈ o, slotS ss y ∈ W) {j base : Nat} {q : COpM} {g : Int} (ha : askB f j q = true) (hg : gdB S W g = true) (hL : ∀ a : Nat, a < j → ((base : Int) + (a : Int)) ∈ L) (hb : base + j < baseTo f f.cross.length) :
    crB (madeC f o ss S) W L (lineI ss q (base : Int) ((base : Int) + (j : Int)) g) = true ∧ (lineI ss q (base : Int) ((base : Int) + (j : Int)) g).op ≠ opAsk := by
  obtain ⟨op, args⟩ := q
  have wl : ∀ {z : Int}, 0 ≤ z ∧ z < (j : Int) → wrB (madeC f o ss S).lines L ((base : Int) + z) = true := fun {z} hz => by
    have hm := hL z.toNat (by omega)
    rw [Int.toNat_of_nonneg hz.1] at hm
    unfold wrB inB
    rw [decide_eq_true hm, decide_eq_true (show (0 : Int) ≤ (base : Int) + z by omega), decide_eq_true (show (base : Int) + z < (madeC f o ss S).lines from (show (base : Int) + z < ((baseTo f f.cross.length : Nat) : Int) by omega))]
    rfl
  have ws : ∀ {y : Int}, 0 ≤ y ∧ y < (f.names.length : Int) → wrB (madeC f o ss S).slots W (slotS ss y) = true := fun h => wr_all hR hW (by omega)
  have hd : inB ((base : Int) + (j : Int)) (madeC f o ss S).lines = true := by
    have := inB_nat hb
    rw [Int.natCast_add] at this
    exact this
  unfold askB askL at ha
  simp only at ha
  by_cases h0 : op = copVar
  · rw [if_pos h0, Bool.and_eq_true] at ha
    subst h0
    refine ⟨?_, by show (⟨#[108]⟩ ++ copVar : ByteArray) ≠ opAsk; decide⟩
    have hl := len_beq ha.1
    have h1 := ws (wi_get ha.2 (i := 0) (by omega))
    show (decide (([slotS ss (args.getD 0 0)] : List Int).length = 1 + 0) && true && (gdB (madeC f o ss S).slots W g && true) && ([slotS ss (args.getD 0 0)].all (wrB (madeC f o ss S).slots W) && ([] : List Int).all (wrB (madeC f o ss S).lines L)) && (false || inB ((base : Int) + (j : Int)) (madeC f o ss S).lines)) = true
    rw [hd, show gdB (madeC f o ss S).slots W g = true from hg]
    simp only [List.all_cons, List.all_nil, h1]
    rfl
  rw [if_neg h0] at ha
  by_cases h1 : op = copCont
  · rw [if_pos h1, Bool.and_eq_true] at ha
    subst h1
    refine ⟨?_, by show (⟨#[108]⟩ ++ copCont : ByteArray) ≠ opAsk; decide⟩
    have hl := len_beq ha.1
    have hk : inB (args.getD 0 0) ((f.conts.map ContM.init).length : Int) = true := by
      have := wi_get ha.2 (i := 0) (by omega)
      rw [List.length_map]
      unfold inB
      rw [decide_eq_true this.1, decide_eq_true this.2]
      rfl
    show (decide (([] : List Int).length = 0 + 0) && inB (args.getD 0 0) ((f.conts.map ContM.init).length : Int) && (gdB (madeC f o ss S).slots W g && true) && (([] : List Int).all (wrB (madeC f o ss S).slots W) && ([] : List Int).all (wrB (madeC f o ss S).lines L)) && (false || inB ((base : Int) + (j : Int)) (madeC f o ss S).lines)) = true
    rw [hd, hk, show gdB (madeC f o ss S).slots W g = true from hg]
    rfl
  rw [if_neg h1] at ha
  by_cases h2 : op = copNeg
  · rw [if_pos h2, Bool.and_eq_true] at ha
    subst h2
    refine ⟨?_, by show (⟨#[108]⟩ ++ copNeg : ByteArray) ≠ opAsk; decide⟩
    have hl := len_beq ha.1
    have h1 := wl (wi_get ha.2 (i := 0) (by omega))
    show (decide (([(base : Int) + args.getD 0 0] : List Int).length = 0 + 1) && true && (gdB (madeC f o ss S).slots W g && true) && (([] : List Int).all (wrB (madeC f o ss S).slots W) && [(base : Int) + args.getD 0 0].all (wrB (madeC f o ss S).lines L)) && (false || inB ((base : Int) + (j : Int)) (madeC f o ss S).lines)) = true
    rw [hd, show gdB (madeC f o ss S).slots W g = true from hg]
    simp only [List.all_cons, List.all_nil, h1]
    rfl
  rw [if_neg h2] at ha
  by_cases h3 : copsTwo.any (fun x => decide (op = x)) = true
  · rw [if_pos h3, Bool.and_eq_true] at ha
    have hl := len_beq ha.1
    have hx0 := wl (wi_get ha.2 (i := 0) (by omega))
    have hx1 := wl (wi_get ha.2 (i := 1) (by omega))
    have hop : op = bs [43] ∨ op = bs [45] ∨ op = bs [47] := by
      obtain ⟨y, hy, e⟩ := List.any_eq_true.1 h3
      have := of_decide_eq_true e
      subst this
      simpa [copsTwo] using hy
    have hG : gdB (madeC f o ss S).slots W g = true := hg
    rcases hop with e | e | e <;> subst e <;> refine ⟨?_, by show (⟨#[108]⟩ ++ bs _ : ByteArray) ≠ opAsk; decide⟩ <;>
    · show (decide (([(base : Int) + args.getD 0 0, (base : Int) + args.getD 1 0] : List Int).length = 0 + 2) && true && (gdB (madeC f o ss S).slots W g && true) && (([] : List Int).all (wrB (madeC f o ss S).slots W) && [(base : Int) + args.getD 0 0, (base : Int) + args.getD 1 0].all (wrB (madeC f o ss S).lines L)) && (false || inB ((base : Int) + (j : Int)) (madeC f o ss S).lines)) = true
      rw [hd, hG]
      simp only [List.all_cons, List.all_nil, hx0, hx1]
      rfl
  rw [if_neg h3] at ha
  by_cases h4 : op = copMul
  · rw [if_pos h4, Bool.and_eq_true, Bool.and_eq_true] at ha
    subst h4
    refine ⟨?_, by show (⟨#[108]⟩ ++ copMul : ByteArray) ≠ opAsk; decide⟩
    have hl := len_beq ha.1
    have e3 := three_len hl
    have ht := ha.2.1
    have hr := ha.2.2
    rw [e3] at ht hr
    simp only [List.take_succ_cons, List.take_zero, List.drop_succ_cons, List.drop_zero] at ht hr
    have hx0 := wl (wiB_bd ht (args.getD 0 0) (by simp))
    have hx1 := wl (wiB_bd ht (args.getD 1 0) (by simp))
    have hk : inB (args.getD 2 0) 2 = true := by
      have := wiB_bd hr (args.getD 2 0) (by simp)
      unfold inB
      rw [decide_eq_true this.1, decide_eq_true (show args.getD 2 0 < 2 from this.2)]
      rfl
    show (decide (([(base : Int) + args.getD 0 0, (base : Int) + args.getD 1 0] : List Int).length = 0 + 2) && inB (args.getD 2 0) 2 && (gdB (madeC f o ss S).slots W g && true) && (([] : List Int).all (wrB (madeC f o ss S).slots W) && [(base : Int) + args.getD 0 0, (base : Int) + args.getD 1 0].all (wrB (madeC f o ss S).lines L)) && (false || inB ((base : Int) + (j : Int)) (madeC f o ss S).lines)) = true
    rw [hd, hk, show gdB (madeC f o ss S).slots W g = true from hg]
    simp only [List.all_cons, List.all_nil, hx0, hx1]
    rfl
  rw [if_neg h4] at ha
  by_cases h5 : op = copSel
  · rw [if_pos h5, Bool.and_eq_true, Bool.and_eq_true] at ha
    subst h5
    refine ⟨?_, by show (⟨#[108]⟩ ++ copSel : ByteArray) ≠ opAsk; decide⟩
    have hl := len_beq ha.1
    have e3 := three_len hl
    have ht := ha.2.1
    have hr := ha.2.2
    rw [e3] at ht hr
    simp only [List.take_succ_cons, List.take_zero, List.drop_succ_cons, List.drop_zero] at ht hr
    have hx0 := ws (wiB_bd ht (args.getD 0 0) (by simp))
    have hx1 := wl (wiB_bd hr (args.getD 1 0) (by simp))
    have hx2 := wl (wiB_bd hr (args.getD 2 0) (by simp))
    show (decide (([slotS ss (args.getD 0 0), (base : Int) + args.getD 1 0, (base : Int) + args.getD 2 0] : List Int).length = 1 + 2) && true && (gdB (madeC f o ss S).slots W g && true) && ([slotS ss (args.getD 0 0)].all (wrB (madeC f o ss S).slots W) && [(base : Int) + args.getD 1 0, (base : Int) + args.getD 2 0].all (wrB (madeC f o ss S).lines L)) && (false || inB ((base : Int) + (j : Int)) (madeC f o ss S).lines)) = true
    rw [hd, show gdB (madeC f o ss S).slots W g = true from hg]
    simp only [List.all_cons, List.all_nil, hx0, hx1, hx2]
    rfl
  rw [if_neg h5] at ha
  cases ha
theorem cross_right (hR : RightP f n o ss S) (hn : f.names.length = n) : ∀ k, k ≤ f.cross.length → ∀ (i : Nat) (x : InsP), (crossTo f ss k)[i]? = some x → crB (madeC f o ss S) (wTo (madeC f o ss S).step) (lTo ((crossTo f ss k).take i)) x = true
  | 0, _ => fun i x hx => by simp [crossTo] at hx
  | k + 1, hk => fun i x hx => by
    obtain ⟨c, hc⟩ : ∃ c, f.cross[k]? = some c := ⟨_, List.getElem?_eq_getElem (by omega)⟩
    have he : crossTo f ss (k + 1) = crossTo f ss k ++ crossI ss k (baseTo f k) c := by rw [crossTo, hc]; rfl
    have hbn : baseTo f (k + 1) = baseTo f k + c.ops.length := by rw [baseTo, hc]; rfl
    have hbm : baseTo f (k + 1) ≤ baseTo f f.cross.length := baseTo_mono hk
    have hW := all_written hR hn
    obtain ⟨g1, g2, g3⟩ := cross_fine hR.good hn hc
    have hgd : gdB S (wTo (madeC f o ss S).step) (slotS ss c.guard) = true := gd_all hR hW g1
    rw [he] at hx ⊢
    by_cases hi : i < (crossTo f ss k).length
    · rw [List.getElem?_append_left hi] at hx
      rw [List.take_append_of_le_length (Nat.le_of_lt hi)]
      exact cross_right hR hn k (by omega) i x hx
    · rw [List.getElem?_append_right (by omega)] at hx
      obtain ⟨j, hj⟩ : ∃ j, j = i - (crossTo f ss k).length := ⟨_, rfl⟩
      rw [← hj] at hx
      have hln : ∀ a : Nat, a < c.ops.length → (crossI ss k (baseTo f k) c)[a]? = some (lineI ss (c.ops.getD a ⟨⟨#[]⟩, []⟩) (baseTo f k : Int) ((baseTo f k : Int) + (a : Int)) (slotS ss c.guard)) := fun a ha => by
        unfold crossI
        rw [List.getElem?_append_left (by rw [List.length_mapIdx]; exact ha), List.getElem?_mapIdx, List.getElem?_eq_getElem ha, List.getD_eq_getElem?_getD, List.getElem?_eq_getElem ha]
        rfl
      have hop : ∀ a : Nat, (ha : a < c.ops.length) → askB f a (c.ops.getD a ⟨⟨#[]⟩, []⟩) = true := fun a ha => g3 a _ (by rw [List.getD_eq_getElem?_getD, List.getElem?_eq_getElem ha]; rfl)
      have hlt : ∀ a : Nat, a < c.ops.length → a < j → ((baseTo f k : Int) + (a : Int)) ∈ lTo ((crossTo f ss k ++ crossI ss k (baseTo f k) c).take i) := fun a ha haj => by
        rw [List.take_append, lTo_append]
        refine List.mem_append_right _ ?_
        rw [← hj]
        have hm : ((crossI ss k (baseTo f k) c).take j)[a]? = some _ := (List.getElem?_take_of_lt haj).trans (hln a ha)
        refine lTo_mem hm ?_
        exact (line_right hR hn (W := wTo (madeC f o ss S).step) (L := (List.range a).map fun (b : Nat) => (baseTo f k : Int) + (b : Int)) hW (hop a ha) hgd (fun b hb => List.mem_map.2 ⟨b, List.mem_range.2 hb, rfl⟩) (by omega)).2
      by_cases hjl : j < c.ops.length
      · rw [hln j hjl] at hx
        injection hx with hx
        subst hx
        exact (line_right hR hn hW (hop j hjl) hgd (fun a ha => hlt a (by omega) ha) (by omega)).1
      · have hlen : (crossI ss k (baseTo f k) c).length = c.ops.length + 1 := by unfold crossI; simp
        have hjx := (List.getElem?_eq_some_iff.1 hx).1
        obtain rfl : j = c.ops.length := by omega
        have hxa : x = askI k ((baseTo f k : Int) + (c.ops.length : Int) - 1) (slotS ss c.guard) := by
          unfold crossI at hx
          rw [List.getElem?_append_right (by simp)] at hx
          simpa using hx.symm
        subst hxa
        have hml := hlt (c.ops.length - 1) (by omega) (by omega)
        have hwl : wrB (madeC f o ss S).lines (lTo ((crossTo f ss k ++ crossI ss k (baseTo f k) c).take i)) ((baseTo f k : Int) + (c.ops.length : Int) - 1) = true := by
          have e1 : (baseTo f k : Int) + ((c.ops.length - 1 : Nat) : Int) = (baseTo f k : Int) + (c.ops.length : Int) - 1 := by omega
          rw [e1] at hml
          unfold wrB inB
          rw [decide_eq_true hml, decide_eq_true (show (0 : Int) ≤ (baseTo f k : Int) + (c.ops.length : Int) - 1 by omega), decide_eq_true (show (baseTo f k : Int) + (c.ops.length : Int) - 1 < (madeC f o ss S).lines from (show (baseTo f k : Int) + (c.ops.length : Int) - 1 < ((baseTo f f.cross.length : Nat) : Int) by omega))]
          rfl
        show (decide (([(baseTo f k : Int) + (c.ops.length : Int) - 1] : List Int).length = 0 + 1) && inB (k : Int) (f.cross.length : Int) && (gdB (madeC f o ss S).slots (wTo (madeC f o ss S).step) (slotS ss c.guard) && true) && (([] : List Int).all (wrB (madeC f o ss S).slots (wTo (madeC f o ss S).step)) && [(baseTo f k : Int) + (c.ops.length : Int) - 1].all (wrB (madeC f o ss S).lines (lTo ((crossTo f ss k ++ crossI ss k (baseTo f k) c).take i)))) && (true || inB 0 (madeC f o ss S).lines)) = true
        rw [inB_nat (show k < f.cross.length by omega), show gdB (madeC f o ss S).slots (wTo (madeC f o ss S).step) (slotS ss c.guard) = true from hgd]
        simp only [List.all_cons, List.all_nil, hwl]
        rfl
theorem cnt_nat {m : Nat} (h : m ≤ 65536) : cntB (m : Int) = true := by
  unfold cntB
  rw [decide_eq_true (show (0 : Int) ≤ (m : Int) by omega), decide_eq_true (show (m : Int) ≤ 65536 by omega)]
  rfl
/-- the code that is made of a good small program by a right plan may run -/
theorem made_right (hR : RightP f n o ss S) (hn : f.names.length = n) (hs : SmallF f) (hS : 0 ≤ S ∧ S ≤ 65536) : RightC (madeC f o ss S) := by
  refine ⟨cnt_nat (Nat.le_trans hs.ins (by decide)), cnt_nat (Nat.le_trans hs.outs (by decide)), ?_, cnt_nat (Nat.le_trans hs.cross (by decide)), cnt_nat ?_, step_right hR hn, deriv_right hR hn, cross_right hR hn _ (Nat.le_refl _)⟩
  · show cntB S = true
    unfold cntB
    rw [decide_eq_true hS.1, decide_eq_true hS.2]
    rfl
  · have := baseTo_le hs f.cross.length
    have := hs.cross
    omega
end

end Go.Proofs.Ytpcpbpinhdbjiaa
