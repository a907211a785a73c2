/- The variables that are needed behind all, as plain lists. No condition. -/
import Derived.Test.YtioebjjnadgdjaaZPlB
import Derived.Test.YtioebjjnadgdjaaZFlD
namespace Go.Proofs.Ytioebjjnadgdjaa
set_option linter.unusedVariables false
set_option linter.unusedSimpArgs false
set_option maxRecDepth 100000
open Go.RowKit

theorem asksB_mem {f : FlatM} : ∀ (l : List COpM) (i k : Nat) (o : COpM), l[k]? = some o → asksB f i l = true → askB f (i + k) o = true := by
  intro l
  induction l with
  | nil => intro i k o h; simp at h
  | cons a l ih =>
    intro i k o h ha
    unfold asksB at ha
    rw [Bool.and_eq_true] at ha
    cases k with
    | zero => simp at h; subst h; exact ha.1
    | succ k => have := ih (i + 1) k o (by simpa using h) ha.2; rwa [show i + 1 + k = i + (k + 1) by omega] at this
theorem goodB_parts {f : FlatM} (hg : goodB f = true) : (∀ x ∈ f.outs, plB x f.names.length = true) ∧ (∀ x ∈ f.again, plB x f.names.length = true) ∧ (∀ m ∈ f.mems, memB f m = true) ∧ (∀ c ∈ f.conts, contB f c = true) ∧ (∀ c ∈ f.cross, crossB f c = true) := by
  unfold goodB at hg
  rw [Bool.and_eq_true, Bool.and_eq_true, Bool.and_eq_true] at hg
  obtain ⟨⟨⟨h1, h2⟩, h3⟩, h4⟩ := hg
  unfold keptB at h3
  rw [Bool.and_eq_true, Bool.and_eq_true, Bool.and_eq_true] at h3
  obtain ⟨⟨⟨k1, k2⟩, k3⟩, k4⟩ := h3
  exact ⟨List.all_eq_true.1 k1, List.all_eq_true.1 k2, List.all_eq_true.1 k3, List.all_eq_true.1 k4, List.all_eq_true.1 h4⟩
/-- an operation of a crossing of a good program that asks a variable has one -/
theorem good_cop {f : FlatM} (hg : goodB f = true) {i j : Nat} {x : CrossM} {y : COpM} (hx : f.cross[i]? = some x) (hy : x.ops[j]? = some y) (ho : y.op = copVar ∨ y.op = copSel) : 0 < y.args.length ∧ plB (y.args.getD 0 0) f.names.length = true := by
  have h1 := (goodB_parts hg).2.2.2.2 x (List.mem_of_getElem? hx)
  unfold crossB at h1
  rw [Bool.and_eq_true, Bool.and_eq_true] at h1
  have h2 := asksB_mem x.ops 0 j y hy h1.2.2
  unfold askB askL at h2
  have e1 : copVar ≠ copCont := by decide
  rcases ho with h | h
  · rw [if_pos h, Bool.and_eq_true] at h2
    have hl : y.args.length = 1 := by simpa using h2.1
    refine ⟨by omega, ?_⟩
    have := List.all_eq_true.1 h2.2 (y.args.getD 0 0) (by simp [hl])
    exact this
  · rw [h] at h2
    have h2' : (y.args.length == 3 && (wiB (y.args.take 1) f.names.length && wiB (y.args.drop 1) (0 + j))) = true := h2
    rw [Bool.and_eq_true, Bool.and_eq_true] at h2'
    have hl : y.args.length = 3 := by simpa using h2'.1
    refine ⟨by omega, ?_⟩
    refine List.all_eq_true.1 h2'.2.1 (y.args.getD 0 0) ?_
    match hargs : y.args, hl with
    | a :: l, _ => simp
theorem guB_lt {g : Int} {n : Nat} (h : guB g n = true) : g < (n : Int) := by simpa [guB] using h
/-- all that is needed behind all is below the number of variables -/
theorem endL_lt {f : FlatM} (hg : goodB f = true) : ∀ x ∈ endL f, x < (f.names.length : Int) := by
  obtain ⟨p1, p2, p3, p4, p5⟩ := goodB_parts hg
  have wi : ∀ {l : List Int}, wiB l f.names.length = true → ∀ x ∈ l, x < (f.names.length : Int) := fun h x hx => (plB_yes (List.all_eq_true.1 h x hx)).2
  intro x hx
  unfold endL outsE memsE contsE crosE at hx
  rw [List.mem_append, List.mem_append, List.mem_append, List.mem_append] at hx
  rcases hx with (((hx | hx) | hx) | hx) | hx
  · exact (plB_yes (p1 x hx)).2
  · exact (plB_yes (p2 x hx)).2
  · obtain ⟨m, hm, hx⟩ := List.mem_flatMap.1 hx
    have h := p3 m (List.mem_of_mem_take hm)
    unfold memB at h
    rw [Bool.and_eq_true, Bool.and_eq_true] at h
    unfold memE at hx
    rw [List.mem_append] at hx
    rcases hx with hx | hx
    · simp at hx
      rcases hx with rfl | rfl
      · exact (plB_yes h.1.1).2
      · exact guB_lt h.1.2
    · exact wi h.2 x hx
  · obtain ⟨c, hc, hx⟩ := List.mem_flatMap.1 hx
    have h := p4 c (List.mem_of_mem_take hc)
    unfold contB at h
    rw [Bool.and_eq_true, Bool.and_eq_true, Bool.and_eq_true] at h
    unfold contE at hx
    rw [List.mem_append, List.mem_append] at hx
    rcases hx with (hx | hx) | hx
    · simp at hx
      rcases hx with rfl | rfl
      · exact (plB_yes h.1.1.1).2
      · exact guB_lt h.1.1.2
    · exact wi h.1.2 x hx
    · obtain ⟨s, hs, hx⟩ := List.mem_flatMap.1 hx
      have h2 := List.all_eq_true.1 h.2 s hs
      unfold slopeB at h2
      rw [Bool.and_eq_true] at h2
      simp at hx
      rcases hx with rfl | rfl
      · exact guB_lt h2.1
      · exact (plB_yes h2.2).2
  · obtain ⟨c, hc, hx⟩ := List.mem_flatMap.1 hx
    obtain ⟨i, hi⟩ := List.mem_iff_getElem?.1 (List.mem_of_mem_take hc)
    have h := p5 c (List.mem_of_mem_take hc)
    unfold crossB at h
    rw [Bool.and_eq_true] at h
    unfold crossE at hx
    rw [List.mem_append] at hx
    rcases hx with hx | hx
    · simp at hx; subst hx; exact guB_lt h.1
    · obtain ⟨o, ho, hx⟩ := List.mem_flatMap.1 hx
      obtain ⟨j, hj⟩ := List.mem_iff_getElem?.1 ho
      unfold copE at hx
      by_cases hop : o.op = copVar ∨ o.op = copSel
      · rw [if_pos hop] at hx
        simp at hx
        have := (good_cop hg hi hj hop).2
        rw [show x = o.args.getD 0 0 by simpa using hx]
        exact (plB_yes this).2
      · rw [if_neg hop] at hx; simp at hx
/-- the marks of those that are needed behind all -/
def endB (f : FlatM) : List Bool := (List.range f.names.length).map fun (v : Nat) => decide ((v : Int) ∈ endL f)
def EMarks (N : Nat) (l : List Int) (k : Nat) (bs : List Bool) : Prop := bs.length = N ∧ ∀ j, j < N → bs.getD j false = decide ((j : Int) ∈ l.take k)
theorem EMarks.start (N : Nat) (l : List Int) : EMarks N l 0 (List.replicate N false) := ⟨by simp, fun j hj => by simp [hj]⟩
theorem EMarks.step {N : Nat} {l : List Int} {k : Nat} {x : Int} {bs : List Bool} (h : EMarks N l k bs) (hx : l[k]? = some x) (j : Nat) (e : x = (j : Int)) : EMarks N l (k + 1) (bs.set j true) := by
  refine ⟨by rw [List.length_set]; exact h.1, fun i hi => ?_⟩
  rw [List.take_add_one, hx]
  by_cases hij : i = j
  · subst hij
    have : (bs.set i true).getD i false = true := by simp [h.1, hi]
    rw [this, eq_comm, decide_eq_true_eq, e]; simp
  · have : (bs.set j true).getD i false = bs.getD i false := by simp [List.getElem?_set, Ne.symm hij]
    rw [this, h.2 i hi, decide_eq_decide, List.mem_append]
    constructor
    · exact .inl
    · rintro (h | h)
      · exact h
      · simp at h; omega
theorem EMarks.skip {N : Nat} {l : List Int} {k : Nat} {x : Int} {bs : List Bool} (h : EMarks N l k bs) (hx : l[k]? = some x) (e : x < 0) : EMarks N l (k + 1) bs := by
  refine ⟨h.1, fun i hi => ?_⟩
  rw [List.take_add_one, hx, h.2 i hi, decide_eq_decide, List.mem_append]
  constructor
  · exact .inl
  · rintro (h | h)
    · exact h
    · simp at h; omega
theorem EMarks.done {f : FlatM} {n : Nat} {bs : List Bool} (h : EMarks f.names.length (endL f) n bs) (hn : (endL f).length = n) : bs = endB f := by
  apply List.ext_getElem?
  intro i
  unfold endB
  by_cases hi : i < f.names.length
  · have := h.2 i hi
    rw [List.take_of_length_le (by omega)] at this
    have hb : i < bs.length := by rw [h.1]; exact hi
    rw [List.getElem?_eq_getElem hb, List.getElem?_map, List.getElem?_range hi]
    simp [List.getD, List.getElem?_eq_getElem hb] at this
    simp [this]
  · rw [List.getElem?_eq_none (by rw [h.1]; omega), List.getElem?_eq_none (by simp; omega)]
/-- what the answer End tells -/
def EndPost (f : FlatM) (w : World) (e : Ending) (w' : World) : Prop :=
  ∃ g, e = .returned (.slice (some ⟨g, 0, none⟩) f.names.length f.names.length) ∧ BMem w' g (endB f) ∧ w.heap.size ≤ g ∧ Below w.heap.size w w'

end Go.Proofs.Ytioebjjnadgdjaa
