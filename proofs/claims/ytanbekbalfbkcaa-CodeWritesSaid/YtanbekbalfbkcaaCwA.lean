/- Plain lists: how often places are told; five rows of the call. No condition. -/
import Derived.Test.YtanbekbalfbkcaaZCdSToCodeBodies
namespace Go.Proofs.Ytanbekbalfbkcaa
set_option linter.unusedVariables false
set_option linter.unusedSimpArgs false
set_option maxRecDepth 100000
open Go.RowKit Gr

/-- a row of counts -/
def tab (n : Nat) (g : Nat → Int) : List Int := (List.range n).map g
theorem tab_len (n : Nat) (g : Nat → Int) : (tab n g).length = n := by unfold tab; simp
theorem tab_get {n : Nat} {g : Nat → Int} {i : Nat} (h : i < n) : (tab n g).getD i 0 = g i := by unfold tab; simp [List.getD_eq_getElem?_getD, h]
theorem tab_ext {n : Nat} {g h : Nat → Int} (e : ∀ j, j < n → g j = h j) : tab n g = tab n h := by
  unfold tab; exact List.map_congr_left fun j hj => e j (List.mem_range.1 hj)
theorem tab_set {n : Nat} {g : Nat → Int} (i : Nat) (x : Int) : (tab n g).set i x = tab n fun j => if j = i then x else g j := by
  apply List.ext_getElem?
  intro j
  unfold tab
  rw [List.getElem?_set]
  by_cases hj : i = j
  · subst hj
    by_cases hi : i < n
    · simp [hi]
    · simp [hi]
  · have : ¬ j = i := fun e => hj e.symm
    by_cases hi : j < n
    · simp [hi, hj, this]
    · simp [hi, hj]
theorem tab_const (n : Nat) (c : Int) : tab n (fun _ => c) = List.replicate n c := by unfold tab; rw [List.map_const', List.length_range]
theorem tab_zero (n : Nat) : tab n (fun _ => 0) = List.replicate n 0 := tab_const n 0
/-- how often a place is told -/
def cnt (l : List Int) (j : Nat) : Int := (l.count (j : Int) : Nat)
theorem cnt_nil (j : Nat) : cnt [] j = 0 := by simp [cnt]
theorem cnt_snoc (l : List Int) (d : Int) (j : Nat) : cnt (l ++ [d]) j = cnt l j + if d = (j : Int) then 1 else 0 := by
  unfold cnt
  rw [List.count_append]
  by_cases h : d = (j : Int)
  · simp [h]
  · simp [h]
theorem cnt_le (l : List Int) (j : Nat) : 0 ≤ cnt l j ∧ cnt l j ≤ (l.length : Int) := by
  unfold cnt
  have := List.count_le_length (a := (j : Int)) (l := l)
  omega
theorem bump {n : Nat} {l : List Int} {d : Nat} (hd : d < n) : (tab n (cnt l)).set d (cnt l d + 1) = tab n (cnt (l ++ [(d : Int)])) := by
  rw [tab_set]
  refine tab_ext fun j _ => ?_
  rw [cnt_snoc]
  by_cases h : j = d
  · subst h; simp
  · have : ¬ (d : Int) = (j : Int) := by omega
    simp [h, this]
/-- one of each place -/
theorem cnt_range (n j : Nat) (hj : j < n) : cnt ((List.range n).map fun (i : Nat) => (i : Int)) j = 1 := by
  unfold cnt
  have hc : ((List.range n).map fun (i : Nat) => (i : Int)).count (j : Int) = (List.range n).count j := by
    rw [List.count_eq_countP, List.countP_map, List.count_eq_countP]
    refine List.countP_congr fun x _ => ?_
    simp only [Function.comp, beq_iff_eq]
    omega
  rw [hc, List.nodup_range.count, if_pos (List.mem_range.2 hj)]
  rfl
theorem ones {n : Nat} {l : List Int} (h : l = (List.range n).map fun (i : Nat) => (i : Int)) : tab n (cnt l) = List.replicate n 1 := by
  rw [h, ← tab_ext (g := fun _ => 1) fun j hj => (cnt_range n j hj).symm]
  exact tab_const n 1
theorem fm_congr {α β : Type} {g h : α → Option β} : ∀ {l : List α}, (∀ x ∈ l, g x = h x) → l.filterMap g = l.filterMap h
  | [], _ => rfl
  | a :: l, e => by
    rw [List.filterMap_cons, List.filterMap_cons, e a List.mem_cons_self, fm_congr fun x hx => e x (List.mem_cons_of_mem _ hx)]
/-- the places that instructions of a name tell -/
def ofOp (op : ByteArray) (xs : List InsM) : List Int := xs.filterMap fun x => if x.op = op then some x.k else none
def isEnd (op : ByteArray) : Bool := decide (op = opKeep) || decide (op = opState) || decide (op = opOut) || decide (op = opAgain)
/-- the slots that the others tell -/
def dsts (xs : List InsM) : List Int := xs.filterMap fun x => if isEnd x.op = true then none else some x.dst
theorem ofOp_yes {op : ByteArray} {xs : List InsM} {x : InsM} (h : x.op = op) : ofOp op (xs ++ [x]) = ofOp op xs ++ [x.k] := by unfold ofOp; simp [List.filterMap_append, h]
theorem ofOp_no {op : ByteArray} {xs : List InsM} {x : InsM} (h : ¬ x.op = op) : ofOp op (xs ++ [x]) = ofOp op xs := by unfold ofOp; simp [List.filterMap_append, h]
theorem dsts_yes {xs : List InsM} {x : InsM} (h : isEnd x.op = true) : dsts (xs ++ [x]) = dsts xs := by unfold dsts; simp [List.filterMap_append, h]
theorem dsts_no {xs : List InsM} {x : InsM} (h : isEnd x.op = false) : dsts (xs ++ [x]) = dsts xs ++ [x.dst] := by unfold dsts; simp [List.filterMap_append, h]
def ofT (op : ByteArray) (t : List (ByteArray × Int)) : List Int := t.filterMap fun p => if p.1 = op then some p.2 else none
theorem ofOp_tags (op : ByteArray) (xs : List InsM) : ofOp op xs = ofT op (tags xs) := by
  unfold ofOp ofT tags
  rw [List.filterMap_map]
  rfl
theorem ofT_tg (op : ByteArray) (n : Nat) : ofT op (tg op n) = (List.range n).map fun (i : Nat) => (i : Int) := by
  unfold ofT tg
  rw [List.filterMap_map, ← List.filterMap_eq_map]
  refine fm_congr fun i _ => ?_
  simp
theorem ofT_other {op op' : ByteArray} (h : ¬ op' = op) (n : Nat) : ofT op (tg op' n) = [] := by
  unfold ofT tg
  rw [List.filterMap_map, List.filterMap_eq_nil_iff]
  intro i _
  simp [h]
theorem ofT_again {op : ByteArray} (h : ¬ opAgain = op) (n : Nat) : ofT op (tgAgain n) = [] := by
  unfold ofT tgAgain
  rw [List.filterMap_eq_nil_iff]
  intro p hp
  have e := List.eq_of_mem_replicate hp
  rw [e]
  exact if_neg h
theorem ofT_app (op : ByteArray) (a b : List (ByteArray × Int)) : ofT op (a ++ b) = ofT op a ++ ofT op b := List.filterMap_append
theorem ofOp_app (op : ByteArray) (a b : List InsM) : ofOp op (a ++ b) = ofOp op a ++ ofOp op b := List.filterMap_append
theorem ofOp_none {op : ByteArray} {xs : List InsM} (h : ∀ x ∈ xs, ¬ x.op = op) : ofOp op xs = [] := by
  unfold ofOp
  rw [List.filterMap_eq_nil_iff]
  intro x hx
  simp [h x hx]
theorem ofT_keep (f : FlatM) : ofT opKeep (endT f) = (List.range f.mems.length).map fun (i : Nat) => (i : Int) := by
  unfold endT
  rw [ofT_app, ofT_app, ofT_app, ofT_again (by decide), ofT_other (op' := ⟨#[115, 116, 97, 116, 101]⟩) (by decide), ofT_other (op' := ⟨#[111, 117, 116]⟩) (by decide), List.append_nil, List.append_nil, List.append_nil]
  exact ofT_tg opKeep _
theorem ofT_state (f : FlatM) : ofT opState (endT f) = (List.range f.conts.length).map fun (i : Nat) => (i : Int) := by
  unfold endT
  rw [ofT_app, ofT_app, ofT_app, ofT_again (by decide), ofT_other (op' := ⟨#[107, 101, 101, 112]⟩) (by decide), ofT_other (op' := ⟨#[111, 117, 116]⟩) (by decide), List.append_nil, List.append_nil, List.nil_append]
  exact ofT_tg opState _
theorem ofT_out (f : FlatM) : ofT opOut (endT f) = (List.range f.outs.length).map fun (i : Nat) => (i : Int) := by
  unfold endT
  rw [ofT_app, ofT_app, ofT_app, ofT_again (by decide), ofT_other (op' := ⟨#[107, 101, 101, 112]⟩) (by decide), ofT_other (op' := ⟨#[115, 116, 97, 116, 101]⟩) (by decide), List.append_nil, List.append_nil, List.nil_append]
  exact ofT_tg opOut _
/-- no equation of a good program is an end -/
theorem eq_noEnd {f : FlatM} (hg : goodB f = true) {sl : List Int} {o : List Int} {xs : List InsM} (hq : ∀ i x, xs[i]? = some x → EqIns f sl (o.getD i 0) x) : ∀ x ∈ xs, isEnd x.op = false := by
  intro x hx
  obtain ⟨i, hi⟩ := List.getElem?_of_mem hx
  obtain ⟨j, q, h1, _, h3, _⟩ := hq i x hi
  have := good_op hg h1
  rw [h3]
  simp [isEnd, this]
theorem end_isEnd {f : FlatM} {ys : List InsM} (ht : tags ys = endT f) : ∀ y ∈ ys, isEnd y.op = true := by
  intro y hy
  rcases end_op ht y hy with h | h | h | h <;> rw [h] <;> decide
theorem isEnd_not {op x : ByteArray} (h : isEnd x = false) (ho : isEnd op = true) : ¬ x = op := fun e => by rw [e, ho] at h; cases h
section
variable {f : FlatM} {sl o : List Int} {xs ys : List InsM}
theorem ofOp_all {op : ByteArray} (hg : goodB f = true) (hq : ∀ i x, xs[i]? = some x → EqIns f sl (o.getD i 0) x) (ht : tags ys = endT f) (ho : isEnd op = true) : ofOp op (xs ++ ys) = ofT op (endT f) := by
  rw [ofOp_app, ofOp_none fun x hx => isEnd_not (eq_noEnd hg hq x hx) ho, List.nil_append, ofOp_tags, ht]
theorem dsts_all (hg : goodB f = true) (hl : xs.length = o.length) (hq : ∀ i x, xs[i]? = some x → EqIns f sl (o.getD i 0) x) (ht : tags ys = endT f) : dsts (xs ++ ys) = o.map (slotS sl) := by
  unfold dsts
  rw [List.filterMap_append]
  have h2 : (ys.filterMap fun x => if isEnd x.op = true then none else some x.dst) = [] := by
    rw [List.filterMap_eq_nil_iff]
    intro y hy
    rw [if_pos (end_isEnd ht y hy)]
  rw [h2, List.append_nil]
  have h1 : (xs.filterMap fun x => if isEnd x.op = true then none else some x.dst) = xs.map (·.dst) := by
    rw [← List.filterMap_eq_map]
    refine fm_congr fun x hx => ?_
    rw [eq_noEnd hg hq x hx]
    simp
  rw [h1]
  apply List.ext_getElem?
  intro i
  rw [List.getElem?_map, List.getElem?_map]
  cases e : xs[i]? with
  | none =>
    have : o[i]? = none := by rw [List.getElem?_eq_none_iff, ← hl]; exact List.getElem?_eq_none_iff.1 e
    rw [this]; rfl
  | some x =>
    obtain ⟨j, q, _, _, _, h4⟩ := hq i x e
    have hi : i < o.length := by rw [← hl]; exact (List.getElem?_eq_some_iff.1 e).1
    have hg' : o.getD i 0 = o[i] := by simp [hi]
    rw [List.getElem?_eq_getElem hi]
    simp only [Option.map_some, h4, hg']
/-- what each instruction of the first body writes is a place -/
theorem step_in {n S : Nat} (hg : goodB f = true) (hl : xs.length = o.length) (hq : ∀ i x, xs[i]? = some x → EqIns f sl (o.getD i 0) x) (ht : tags ys = endT f) (hon : Once o n) (hsl : sl.length = n ∧ ∀ x ∈ sl, 0 ≤ x ∧ x < (S : Int)) {x : InsM} (hx : x ∈ xs ++ ys) :
    (x.op = opKeep → ∃ k : Nat, x.k = (k : Int) ∧ k < f.mems.length) ∧ (x.op = opState → ∃ k : Nat, x.k = (k : Int) ∧ k < f.conts.length) ∧ (x.op = opOut → ∃ k : Nat, x.k = (k : Int) ∧ k < f.outs.length) ∧ (isEnd x.op = false → ∃ k : Nat, x.dst = (k : Int) ∧ k < S) := by
  have key : ∀ op, isEnd op = true → x.op = op → ∀ m : Nat, ofT op (endT f) = ((List.range m).map fun (i : Nat) => (i : Int)) → ∃ k : Nat, x.k = (k : Int) ∧ k < m := by
    intro op ho he m hm
    have h1 : x.k ∈ ofOp op (xs ++ ys) := by
      unfold ofOp
      rw [List.mem_filterMap]
      exact ⟨x, hx, by rw [if_pos he]⟩
    rw [ofOp_all hg hq ht ho, hm, List.mem_map] at h1
    obtain ⟨k, hk, e⟩ := h1
    exact ⟨k, e.symm, List.mem_range.1 hk⟩
  refine ⟨fun h => key opKeep (by decide) h _ (ofT_keep f), fun h => key opState (by decide) h _ (ofT_state f), fun h => key opOut (by decide) h _ (ofT_out f), fun h => ?_⟩
  have h1 : x.dst ∈ dsts (xs ++ ys) := by
    unfold dsts
    rw [List.mem_filterMap]
    exact ⟨x, hx, by rw [h]; simp⟩
  rw [dsts_all hg hl hq ht, List.mem_map] at h1
  obtain ⟨v, hv, e⟩ := h1
  have hp := hon.pl v hv
  have h2 : slotS sl v ∈ sl := by
    unfold slotS
    rw [if_neg (by omega), List.getD_eq_getElem?_getD, List.getElem?_eq_getElem (by omega)]
    exact List.getElem_mem _
  have := hsl.2 _ h2
  exact ⟨x.dst.toNat, by omega, by omega⟩
end
/-- as many instructions as variables -/
theorem once_perm {o : List Int} {n : Nat} (h : Once o n) : o.Perm ((List.range n).map fun (i : Nat) => (i : Int)) := by
  rw [List.perm_iff_count]
  intro a
  have hn : ((List.range n).map fun (i : Nat) => (i : Int)).Nodup := by
    unfold List.Nodup
    rw [List.pairwise_map]
    exact List.nodup_range.imp fun hab e => hab (by omega)
  rw [h.nd.count, hn.count]
  have : a ∈ o ↔ a ∈ (List.range n).map fun (i : Nat) => (i : Int) := by
    constructor
    · intro ha
      have := h.pl a ha
      exact List.mem_map.2 ⟨a.toNat, List.mem_range.2 (by omega), by omega⟩
    · intro ha
      obtain ⟨i, hi, rfl⟩ := List.mem_map.1 ha
      exact h.mem (List.mem_range.1 hi)
  simp only [this]
theorem cnt_slots {o sl : List Int} {n : Nat} (h : Once o n) (hs : sl.length = n) (j : Nat) : cnt (o.map (slotS sl)) j = cnt sl j := by
  have hp := (once_perm h).map (slotS sl)
  unfold cnt
  rw [hp.count_eq]
  congr 2
  rw [List.map_map]
  apply List.ext_getElem?
  intro i
  rw [List.getElem?_map]
  by_cases hi : i < n
  · rw [List.getElem?_range hi, List.getElem?_eq_getElem (by omega)]
    simp [slotS, hs, hi]
    omega
  · rw [List.getElem?_eq_none (by simp; omega), List.getElem?_eq_none (by omega)]
    rfl
/-- the lines that the third body tells -/
def lins (zs : List InsM) : List Int := zs.filterMap Mark
theorem lins_yes {zs : List InsM} {z : InsM} (h : ¬ z.op = askN) : lins (zs ++ [z]) = lins zs ++ [z.dst] := by unfold lins; simp [List.filterMap_append, Mark, h]
theorem lins_no {zs : List InsM} {z : InsM} (h : z.op = askN) : lins (zs ++ [z]) = lins zs := by unfold lins; simp [List.filterMap_append, Mark, h]
theorem fm_lns (F n : Nat) : (lns F n).filterMap id = (List.range n).map fun (j : Nat) => ((F + j : Nat) : Int) := by
  unfold lns
  rw [List.filterMap_map, ← List.filterMap_eq_map]
  rfl
theorem fm_crT (f : FlatM) : ∀ k, (crT f k).filterMap id = (List.range (linesTo f k)).map fun (i : Nat) => (i : Int)
  | 0 => rfl
  | k + 1 => by
    rw [show crT f (k + 1) = crT f k ++ lns (linesTo f k) (opsN f k) ++ [none] from rfl, show linesTo f (k + 1) = linesTo f k + opsN f k from rfl, List.filterMap_append, List.filterMap_append, fm_crT f k, fm_lns, List.range_add, List.map_append, List.map_map]
    exact List.append_nil _
theorem lins_all {f : FlatM} {zs : List InsM} {k : Nat} (h : zs.map Mark = crT f k) : lins zs = (List.range (linesTo f k)).map fun (i : Nat) => (i : Int) := by
  rw [← fm_crT, ← h, List.filterMap_map]
  rfl
theorem lins_in {f : FlatM} {zs : List InsM} {k : Nat} (h : zs.map Mark = crT f k) {z : InsM} (hz : z ∈ zs) (ho : ¬ z.op = askN) : ∃ l : Nat, z.dst = (l : Int) ∧ l < linesTo f k := by
  have h1 : z.dst ∈ lins zs := by
    unfold lins
    rw [List.mem_filterMap]
    exact ⟨z, hz, by unfold Mark; rw [if_neg ho]⟩
  rw [lins_all h, List.mem_map] at h1
  obtain ⟨i, hi, e⟩ := h1
  exact ⟨i, e.symm, List.mem_range.1 hi⟩
/-- what is left of the counts once variables are taken away -/
def left (S : Nat) (sl : List Int) (i v : Nat) : List Int := tab S fun j => if j < i then 0 else if j = i then cnt sl j - cnt (sl.take v) j else cnt sl j
theorem left_len (S : Nat) (sl : List Int) (i v : Nat) : (left S sl i v).length = S := tab_len _ _
theorem left_at {S : Nat} {sl : List Int} {i v : Nat} (hi : i < S) : (left S sl i v).getD i 0 = cnt sl i - cnt (sl.take v) i := by
  unfold left; rw [tab_get hi, if_neg (Nat.lt_irrefl _), if_pos rfl]
theorem cnt_take_succ {sl : List Int} {v : Nat} (hv : v < sl.length) (j : Nat) : cnt (sl.take (v + 1)) j = cnt (sl.take v) j + if sl.getD v 0 = (j : Int) then 1 else 0 := by
  rw [List.take_add_one, List.getElem?_eq_getElem hv]
  simp only [Option.toList_some]
  rw [cnt_snoc]
  simp [hv]
theorem left_yes {S : Nat} {sl : List Int} {i v : Nat} (hv : v < sl.length) (e : sl.getD v 0 = (i : Int)) : (left S sl i v).set i (cnt sl i - cnt (sl.take v) i - 1) = left S sl i (v + 1) := by
  unfold left
  rw [tab_set]
  refine tab_ext fun j _ => ?_
  by_cases hj : j = i
  · subst hj
    rw [if_pos rfl, if_neg (Nat.lt_irrefl _), if_pos rfl, cnt_take_succ hv, if_pos e]
    omega
  · rw [if_neg hj]
    by_cases hj2 : j < i
    · rw [if_pos hj2, if_pos hj2]
    · rw [if_neg hj2, if_neg hj2, if_neg hj, if_neg hj]
theorem left_no {S : Nat} {sl : List Int} {i v : Nat} (hv : v < sl.length) (e : ¬ sl.getD v 0 = (i : Int)) : left S sl i v = left S sl i (v + 1) := by
  unfold left
  refine tab_ext fun j _ => ?_
  by_cases hj : j = i
  · subst hj
    rw [if_neg (Nat.lt_irrefl _), if_pos rfl, if_neg (Nat.lt_irrefl _), if_pos rfl, cnt_take_succ hv, if_neg e]
    omega
  · by_cases hj2 : j < i
    · rw [if_pos hj2, if_pos hj2]
    · rw [if_neg hj2, if_neg hj2, if_neg hj, if_neg hj]
theorem left_next {S : Nat} {sl : List Int} {i : Nat} : left S sl i sl.length = left S sl (i + 1) 0 := by
  unfold left
  refine tab_ext fun j _ => ?_
  rw [List.take_length]
  by_cases hj : j = i
  · subst hj
    rw [if_neg (Nat.lt_irrefl _), if_pos rfl, if_pos (Nat.lt_succ_self _)]
    omega
  · by_cases hj2 : j < i
    · rw [if_pos hj2, if_pos (by omega)]
    · rw [if_neg hj2, if_neg hj, if_neg (by omega)]
      by_cases hj3 : j = i + 1
      · rw [if_pos hj3, List.take_zero, cnt_nil]; omega
      · rw [if_neg hj3]
theorem left_start {S : Nat} {sl : List Int} : left S sl 0 0 = tab S (cnt sl) := by
  unfold left
  refine tab_ext fun j _ => ?_
  rw [if_neg (by omega), List.take_zero, cnt_nil]
  by_cases hj : j = 0
  · rw [if_pos hj]; omega
  · rw [if_neg hj]
theorem left_end {S : Nat} {sl : List Int} : left S sl S 0 = List.replicate S 0 := by
  rw [← tab_zero]
  unfold left
  exact tab_ext fun j hj => by rw [if_pos hj]
theorem left_ge {S : Nat} {sl : List Int} {i v : Nat} : -((sl.take v).length : Int) ≤ cnt sl i - cnt (sl.take v) i ∧ cnt sl i - cnt (sl.take v) i ≤ (sl.length : Int) := by
  have := cnt_le sl i
  have := cnt_le (sl.take v) i
  omega
theorem tab_start (n : Nat) : tab n (cnt []) = List.replicate n 0 := (tab_ext fun j _ => cnt_nil j).trans (tab_zero n)
theorem take_snoc {α : Type} {l : List α} {k : Nat} {x : α} (h : l[k]? = some x) : l.take (k + 1) = l.take k ++ [x] := by rw [List.take_add_one, h]; rfl
theorem dsts_len (xs : List InsM) : (dsts xs).length ≤ xs.length := by unfold dsts; exact List.length_filterMap_le _ _
theorem ofOp_len (op : ByteArray) (xs : List InsM) : (ofOp op xs).length ≤ xs.length := by unfold ofOp; exact List.length_filterMap_le _ _
theorem lins_len (xs : List InsM) : (lins xs).length ≤ xs.length := by unfold lins; exact List.length_filterMap_le _ _
theorem cnt_dsts (xs : List InsM) (k j : Nat) : 0 ≤ cnt (dsts (xs.take k)) j ∧ cnt (dsts (xs.take k)) j ≤ (k : Int) := by
  have h1 := cnt_le (dsts (xs.take k)) j
  have h2 := dsts_len (xs.take k)
  rw [List.length_take] at h2
  omega
theorem cnt_ofOp (op : ByteArray) (xs : List InsM) (k j : Nat) : 0 ≤ cnt (ofOp op (xs.take k)) j ∧ cnt (ofOp op (xs.take k)) j ≤ (k : Int) := by
  have h1 := cnt_le (ofOp op (xs.take k)) j
  have h2 := ofOp_len op (xs.take k)
  rw [List.length_take] at h2
  omega
theorem cnt_lins (xs : List InsM) (k j : Nat) : 0 ≤ cnt (lins (xs.take k)) j ∧ cnt (lins (xs.take k)) j ≤ (k : Int) := by
  have h1 := cnt_le (lins (xs.take k)) j
  have h2 := lins_len (xs.take k)
  rw [List.length_take] at h2
  omega
/-- five rows of the call's own, apart from one another -/
structure R5 (W : World) (a b c d e : Nat) (ra rb rc rd re : List Int) (w : World) : Prop where
  ma : IMem w a ra
  mb : IMem w b rb
  mc : IMem w c rc
  md : IMem w d rd
  me : IMem w e re
  nab : a ≠ b
  nac : a ≠ c
  nad : a ≠ d
  nae : a ≠ e
  nbc : b ≠ c
  nbd : b ≠ d
  nbe : b ≠ e
  ncd : c ≠ d
  nce : c ≠ e
  nde : d ≠ e
  ga : W.heap.size ≤ a
  gb : W.heap.size ≤ b
  gc : W.heap.size ≤ c
  gd : W.heap.size ≤ d
  ge : W.heap.size ≤ e
  old : Below W.heap.size W w
section
variable {W w : World} {a b c d e : Nat} {ra rb rc rd re : List Int}
theorem R5.alloc (h : R5 W a b c d e ra rb rc rd re w) (o : Obj) : R5 W a b c d e ra rb rc rd re (w.alloc o) :=
  { h with ma := h.ma.alloc o, mb := h.mb.alloc o, mc := h.mc.alloc o, md := h.md.alloc o, me := h.me.alloc o, old := h.old.alloc h.old.size o }
theorem R5.putA (h : R5 W a b c d e ra rb rc rd re w) (i : Nat) (x : Int) : R5 W a b c d e (ra.set i x) rb rc rd re (w.setCell ⟨a, i, none⟩ (.int .i64 x)) :=
  { h with ma := h.ma.set i x, mb := h.mb.setOther h.nab.symm _, mc := h.mc.setOther h.nac.symm _, md := h.md.setOther h.nad.symm _, me := h.me.setOther h.nae.symm _, old := h.old.setCell h.ga _ }
theorem R5.putB (h : R5 W a b c d e ra rb rc rd re w) (i : Nat) (x : Int) : R5 W a b c d e ra (rb.set i x) rc rd re (w.setCell ⟨b, i, none⟩ (.int .i64 x)) :=
  { h with mb := h.mb.set i x, ma := h.ma.setOther h.nab _, mc := h.mc.setOther h.nbc.symm _, md := h.md.setOther h.nbd.symm _, me := h.me.setOther h.nbe.symm _, old := h.old.setCell h.gb _ }
theorem R5.putC (h : R5 W a b c d e ra rb rc rd re w) (i : Nat) (x : Int) : R5 W a b c d e ra rb (rc.set i x) rd re (w.setCell ⟨c, i, none⟩ (.int .i64 x)) :=
  { h with mc := h.mc.set i x, ma := h.ma.setOther h.nac _, mb := h.mb.setOther h.nbc _, md := h.md.setOther h.ncd.symm _, me := h.me.setOther h.nce.symm _, old := h.old.setCell h.gc _ }
theorem R5.putD (h : R5 W a b c d e ra rb rc rd re w) (i : Nat) (x : Int) : R5 W a b c d e ra rb rc (rd.set i x) re (w.setCell ⟨d, i, none⟩ (.int .i64 x)) :=
  { h with md := h.md.set i x, ma := h.ma.setOther h.nad _, mb := h.mb.setOther h.nbd _, mc := h.mc.setOther h.ncd _, me := h.me.setOther h.nde.symm _, old := h.old.setCell h.gd _ }
theorem R5.putE (h : R5 W a b c d e ra rb rc rd re w) (i : Nat) (x : Int) : R5 W a b c d e ra rb rc rd (re.set i x) (w.setCell ⟨e, i, none⟩ (.int .i64 x)) :=
  { h with me := h.me.set i x, ma := h.ma.setOther h.nae _, mb := h.mb.setOther h.nbe _, mc := h.mc.setOther h.nce _, md := h.md.setOther h.nde _, old := h.old.setCell h.ge _ }
end
/-- make([]int, n) was made -/
structure Made (w w' : World) (n : Nat) : Prop where
  mem : IMem w' w.heap.size (List.replicate n 0)
  old : Below w.heap.size w w'
theorem stepI {w : World} {ops : Array Oper} {o : Oper} {a : Act} {K : Act → World → Prop} {Q : Exit → Act → World → Prop} {E : Prop} (hgd : o.guard = none) (l : Operand) (hop : o.op = Op.makeSlice 23 l l) (L : Int) (n : Nat) (hl : a.eval l = .int .i64 L) (hL : L = (n : Int)) (hn : n ≤ 1000000000)
    (hK : ∀ w', Made w w' n → K (a.put o.dst (.slice (some ⟨w.heap.size, 0, none⟩) n n)) w') :
    if Region.wanted o (yielded ops a.tmps) = true then Oper.wp Try.prog o a w K Q else E := by
  have hw : Region.wanted o (yielded ops a.tmps) = true := by simp [Region.wanted, hgd]
  rw [if_pos hw]
  obtain ⟨i, hi, hz0, hz1, hz2⟩ := info_parts Try.info3
  have hr := run_make (P := Try.prog) w 23 3 i (.int .i64 0) Try.underlying23 hi hz0 .i64 .i64 n n (by omega) (Int.le_refl _) (by rw [hz2]; omega) (by omega)
  simp only [Int.toNat_natCast] at hr
  subst hL
  unfold Oper.wp
  simp [execOp, hop, hl, hr, Result.andThen]
  refine hK _ ⟨?_, (Below.refl _ _).alloc (Nat.le_refl _) _⟩
  unfold IMem
  rw [heap_alloc_new]
  congr 2
  rw [hz1, Nat.mul_one]
  apply Array.ext'
  show (madeCells #[Value.int .i64 0] n).toList = _
  rw [toList_madeCells_one]
  simp
/-- two rows, made one behind the other -/
def Two (W : World) (a b n m : Nat) (w : World) : Prop := IMem w a (List.replicate n 0) ∧ IMem w b (List.replicate m 0) ∧ W.heap.size ≤ a ∧ W.heap.size ≤ b ∧ a ≠ b ∧ Below W.heap.size W w
theorem Made.two {W w0 w1 w2 : World} {n m : Nat} (h0 : Below W.heap.size W w0) (h1 : Made w0 w1 n) (h2 : Made w1 w2 m) : Two W w0.heap.size w1.heap.size n m w2 :=
  ⟨h1.mem.below h2.old h1.mem.lt, h2.mem, h0.size, Nat.le_trans h0.size h1.old.size, Nat.ne_of_lt h1.mem.lt, (h0.trans (h1.old.mono h0.size)).trans (h2.old.mono (Nat.le_trans h0.size h1.old.size))⟩
theorem Two.swap {W w : World} {a b n m : Nat} (h : Two W a b n m w) : Two W b a m n w := ⟨h.2.1, h.1, h.2.2.2.1, h.2.2.1, h.2.2.2.2.1.symm, h.2.2.2.2.2⟩
/-- three rows -/
def Three (W : World) (a b c n m k : Nat) (w : World) : Prop := IMem w a (List.replicate n 0) ∧ IMem w b (List.replicate m 0) ∧ IMem w c (List.replicate k 0) ∧ W.heap.size ≤ a ∧ W.heap.size ≤ b ∧ W.heap.size ≤ c ∧ a ≠ b ∧ a ≠ c ∧ b ≠ c ∧ Below W.heap.size W w
theorem Made.three {W w0 w1 w2 w3 : World} {n m k : Nat} (h0 : Below W.heap.size W w0) (h1 : Made w0 w1 n) (h2 : Made w1 w2 m) (h3 : Made w2 w3 k) : Three W w0.heap.size w1.heap.size w2.heap.size n m k w3 := by
  have h := Made.two h0 h1 h2
  have l2 := h2.mem.lt
  have s2 := h2.old.size
  have l1 := h1.mem.lt
  exact ⟨h.1.below h3.old (by omega), h.2.1.below h3.old h.2.1.lt, h3.mem, h.2.2.1, h.2.2.2.1, by have := h.2.2.2.2.2.size; omega, h.2.2.2.2.1, by omega, by omega, h.2.2.2.2.2.trans (h3.old.mono h.2.2.2.2.2.size)⟩
section
variable {W w : World} {a b c n m k : Nat}
theorem Three.s12 (h : Three W a b c n m k w) : Three W b a c m n k w := ⟨h.2.1, h.1, h.2.2.1, h.2.2.2.2.1, h.2.2.2.1, h.2.2.2.2.2.1, h.2.2.2.2.2.2.1.symm, h.2.2.2.2.2.2.2.2.1, h.2.2.2.2.2.2.2.1, h.2.2.2.2.2.2.2.2.2⟩
theorem Three.s23 (h : Three W a b c n m k w) : Three W a c b n k m w := ⟨h.1, h.2.2.1, h.2.1, h.2.2.2.1, h.2.2.2.2.2.1, h.2.2.2.2.1, h.2.2.2.2.2.2.2.1, h.2.2.2.2.2.2.1, h.2.2.2.2.2.2.2.2.1.symm, h.2.2.2.2.2.2.2.2.2⟩
end
/-- the row that make([]int, n) lays -/
def zr (n : Nat) : Obj := .cells (List.replicate n (Value.int .i64 0)).toArray 3
theorem zr_made (w : World) (n : Nat) : Made w (w.alloc (zr n)) n := by
  refine ⟨?_, (Below.refl _ _).alloc (Nat.le_refl _) _⟩
  unfold IMem zr
  rw [heap_alloc_new]
  simp
theorem zr_run (n : Nat) (hn : n ≤ 1000000000) (w : World) : (Instr.makeSlice 23 (.int .i64 (n : Int)) (.int .i64 (n : Int))).run Try.prog w = .ok (.slice (some ⟨w.heap.size, 0, none⟩) n n) (w.alloc (zr n)) := by
  obtain ⟨i, hi, hz0, hz1, hz2⟩ := info_parts Try.info3
  have hr := run_make (P := Try.prog) w 23 3 i (.int .i64 0) Try.underlying23 hi hz0 .i64 .i64 n n (by omega) (Int.le_refl _) (by rw [hz2]; omega) (by omega)
  simp only [Int.toNat_natCast] at hr
  rw [hr]
  congr 2
  unfold zr
  congr 1
  rw [hz1, Nat.mul_one]
  apply Array.ext'
  show (madeCells #[Value.int .i64 0] n).toList = _
  rw [toList_madeCells_one]
theorem two_at {W w0 : World} (h0 : Below W.heap.size W w0) (n m : Nat) : Two W w0.heap.size (w0.heap.size + 1) n m ((w0.alloc (zr n)).alloc (zr m)) := by
  have h := Made.two h0 (zr_made w0 n) (zr_made _ m)
  rwa [size_alloc] at h
theorem three_at {W w0 : World} (h0 : Below W.heap.size W w0) (n m k : Nat) : Three W w0.heap.size (w0.heap.size + 1) (w0.heap.size + 1 + 1) n m k (((w0.alloc (zr n)).alloc (zr m)).alloc (zr k)) := by
  have h := Made.three h0 (zr_made w0 n) (zr_made _ m) (zr_made _ k)
  rwa [size_alloc, size_alloc, size_alloc] at h
theorem Two.five {W W6 w : World} {a b c d e n m k l p : Nat} (h : Two W a b n m W6) (h3 : Three W6 c d e k l p w) : R5 W a b c d e (List.replicate n 0) (List.replicate m 0) (List.replicate k 0) (List.replicate l 0) (List.replicate p 0) w := by
  obtain ⟨x1, x2, x3, x4, x5, x6⟩ := h
  obtain ⟨y1, y2, y3, y4, y5, y6, y7, y8, y9, y10⟩ := h3
  have a1 := x1.lt
  have a2 := x2.lt
  have a3 := x6.size
  exact ⟨x1.below y10 a1, x2.below y10 a2, y1, y2, y3, x5, by omega, by omega, by omega, by omega, by omega, by omega, y7, y8, y9, x3, x4, by omega, by omega, by omega, x6.trans (y10.mono a3)⟩
theorem SMem.eleven {w w' : World} {k b : Nat} {x : InsM} {B : Nat} (h : ∀ j u, x.cs[j]? = some u → w.cell? ⟨b, k * 11 + j, none⟩ = some u) (hb : Below B w w') (hB : b < B) :
    w'.cell? ⟨b, k * 11, none⟩ = some (.string x.op) ∧ w'.cell? ⟨b, k * 11 + 1, none⟩ = some (.int .i64 x.dst) ∧ w'.cell? ⟨b, k * 11 + 2, none⟩ = some (.slice x.args.1 x.args.2.1 x.args.2.2) ∧ w'.cell? ⟨b, k * 11 + 3, none⟩ = some (.int .i64 x.k) ∧ w'.cell? ⟨b, k * 11 + 4, none⟩ = some (.int .i64 x.kind) ∧ w'.cell? ⟨b, k * 11 + 5, none⟩ = some (.bool x.neg) ∧ w'.cell? ⟨b, k * 11 + 6, none⟩ = some (.slice x.mag.1 x.mag.2.1 x.mag.2.2) ∧ w'.cell? ⟨b, k * 11 + 7, none⟩ = some (.slice x.den.1 x.den.2.1 x.den.2.2) ∧ w'.cell? ⟨b, k * 11 + 8, none⟩ = some (.string x.name) ∧ w'.cell? ⟨b, k * 11 + 9, none⟩ = some (.int .i64 x.guard) ∧ w'.cell? ⟨b, k * 11 + 10, none⟩ = some (.slice x.resets.1 x.resets.2.1 x.resets.2.2) :=
  have t : ∀ j u, x.cs[j]? = some u → w'.cell? ⟨b, k * 11 + j, none⟩ = some u := fun j u hu => (hb.cell (p := ⟨b, k * 11 + j, none⟩) hB).trans (h j u hu)
  ⟨t 0 _ rfl, t 1 _ rfl, t 2 _ rfl, t 3 _ rfl, t 4 _ rfl, t 5 _ rfl, t 6 _ rfl, t 7 _ rfl, t 8 _ rfl, t 9 _ rfl, t 10 _ rfl⟩
set_option maxHeartbeats 1000000 in
/-- are all numbers of a row one -/
theorem all0_t (n c : Nat) (A : Option Addr) (B : Nat) (w : World) (xs : List Int) (h : IRow w B A n c xs) (hm : ∀ i, i < n → xs.getD i 0 = 0) :
    Calls Try.prog 9 #[.slice A n c, .int .i64 0] w fun e w' => e = .returned (.bool true) ∧ w' = w := by
  have hn : n ≤ maxLen := h.len_le
  unfold maxLen at hn
  have HR := Lib.hid h
  have HM := Lib.hid hm
  clear h hm
  go_enter Try.func9, Try.ntmps9
  go_wp2_with fail
  go_loop [5] (fun t => ∃ k : Nat, k ≤ n ∧ t = .int .i64 k) (fun t => n - (intOf t).toNat)
  case atStart => exact ⟨0, Nat.zero_le _, rfl⟩
  case round =>
    obtain ⟨k, hk, rfl⟩ := hrel
    by_cases hlt : k < n
    · obtain ⟨b, off, rfl, hb, hc⟩ := HR.out.at_ hlt
      rw [HM.out k hlt] at hc
      go_wp2_with fail
      go_round
      case rel => exact ⟨k + 1, by omega, by go_num⟩
      case measure => simp [intOf]; omega
    · obtain rfl : k = n := by omega
      go_wp2
      go_ret
      exact ⟨rfl, rfl⟩
set_option maxHeartbeats 1000000 in
/-- are all numbers of a row one -/
theorem all1_t (n c : Nat) (A : Option Addr) (B : Nat) (w : World) (xs : List Int) (h : IRow w B A n c xs) (hm : ∀ i, i < n → xs.getD i 0 = 1) :
    Calls Try.prog 9 #[.slice A n c, .int .i64 1] w fun e w' => e = .returned (.bool true) ∧ w' = w := by
  have hn : n ≤ maxLen := h.len_le
  unfold maxLen at hn
  have HR := Lib.hid h
  have HM := Lib.hid hm
  clear h hm
  go_enter Try.func9, Try.ntmps9
  go_wp2_with fail
  go_loop [5] (fun t => ∃ k : Nat, k ≤ n ∧ t = .int .i64 k) (fun t => n - (intOf t).toNat)
  case atStart => exact ⟨0, Nat.zero_le _, rfl⟩
  case round =>
    obtain ⟨k, hk, rfl⟩ := hrel
    by_cases hlt : k < n
    · obtain ⟨b, off, rfl, hb, hc⟩ := HR.out.at_ hlt
      rw [HM.out k hlt] at hc
      go_wp2_with fail
      go_round
      case rel => exact ⟨k + 1, by omega, by go_num⟩
      case measure => simp [intOf]; omega
    · obtain rfl : k = n := by omega
      go_wp2
      go_ret
      exact ⟨rfl, rfl⟩

end Go.Proofs.Ytanbekbalfbkcaa
