/- What eachOnce tells. No condition but bounds. · A flat program s box, and what small says. No condition. -/
import Derived.Test.YtpcpbpinhdbjiaaZFlFToFlG
namespace Go.Proofs.Ytpcpbpinhdbjiaa
set_option linter.unusedVariables false
set_option linter.unusedSimpArgs false
set_option maxRecDepth 100000
open Go.RowKit

theorem mem_take_nodup {α : Type} : ∀ (l : List α) (k : Nat) (x : α), l[k]? = some x → x ∈ l.take k → ¬ l.Nodup := by
  intro l
  induction l with
  | nil => intro k x h; simp at h
  | cons a l ih =>
    intro k x h hm hn
    cases k with
    | zero => simp at hm
    | succ k =>
      have h2 := List.nodup_cons.1 hn
      simp at h
      rw [List.take_succ_cons, List.mem_cons] at hm
      rcases hm with rfl | hm
      · exact h2.1 (List.mem_of_getElem? h)
      · exact ih k x h hm h2.2
theorem nodup_snoc {α : Type} {l : List α} {x : α} (h : l.Nodup) (hx : x ∉ l) : (l ++ [x]).Nodup := by
  rw [List.nodup_append]
  exact ⟨h, by simp, fun a ha b hb e => by simp at hb; subst hb; exact hx (e ▸ ha)⟩
def vars (f : FlatM) : List Int := f.eqs.map FEqM.var
/-- the first k equations: each is told once -/
def OnceTo (f : FlatM) (k : Nat) : Prop := (∀ x ∈ (vars f).take k, plB x f.names.length = true) ∧ ((vars f).take k).Nodup
theorem OnceTo.start (f : FlatM) : OnceTo f 0 := ⟨fun x h => by simp at h, by simp⟩
theorem vars_at {f : FlatM} {k : Nat} {q : FEqM} (h : f.eqs[k]? = some q) : (vars f)[k]? = some q.var := by unfold vars; simp [h]
theorem vars_succ {f : FlatM} {k : Nat} {q : FEqM} (h : f.eqs[k]? = some q) : (vars f).take (k + 1) = (vars f).take k ++ [q.var] := by
  rw [List.take_add_one, vars_at h]; rfl
theorem OnceTo.step {f : FlatM} {k : Nat} {q : FEqM} (h : OnceTo f k) (hq : f.eqs[k]? = some q) (hp : plB q.var f.names.length = true) (hn : q.var ∉ (vars f).take k) : OnceTo f (k + 1) := by
  unfold OnceTo
  rw [vars_succ hq]
  refine ⟨fun x hx => ?_, nodup_snoc h.2 hn⟩
  rw [List.mem_append] at hx
  rcases hx with hx | hx
  · exact h.1 x hx
  · simp at hx; subst hx; exact hp
theorem once_place {f : FlatM} {k : Nat} {q : FEqM} (hq : f.eqs[k]? = some q) (hp : plB q.var f.names.length = false) : onceB f = false := by
  unfold onceB
  have h1 : (f.eqs.map FEqM.var).all (fun v => plB v f.names.length) = false := all_no (vars_at hq) hp
  rw [h1]; rfl
theorem once_twice {f : FlatM} {k : Nat} {q : FEqM} (hq : f.eqs[k]? = some q) (hm : q.var ∈ (vars f).take k) : onceB f = false := by
  unfold onceB
  have : decide ((f.eqs.map FEqM.var).Nodup) = false := decide_eq_false (mem_take_nodup _ k q.var (vars_at hq) hm)
  rw [this]; simp
theorem once_end {f : FlatM} {n : Nat} (hn : f.eqs.length = n) (h : OnceTo f n) : onceB f = (f.eqs.length == f.names.length) := by
  have e : (vars f).take n = vars f := List.take_of_length_le (by unfold vars; simp; omega)
  unfold OnceTo at h
  rw [e] at h
  unfold onceB
  have h1 : (f.eqs.map FEqM.var).all (fun v => plB v f.names.length) = true := List.all_eq_true.2 h.1
  have h2 : decide ((f.eqs.map FEqM.var).Nodup) = true := decide_eq_true h.2
  rw [h1, h2]; rfl
/-- the marks of those that were told -/
def Marks (f : FlatM) (k : Nat) (bs : List Bool) : Prop := bs.length = f.names.length ∧ ∀ j, j < f.names.length → bs.getD j false = decide ((j : Int) ∈ (vars f).take k)
theorem Marks.start (f : FlatM) : Marks f 0 (List.replicate f.names.length false) := ⟨by simp, fun j hj => by simp [hj]⟩
theorem Marks.step {f : FlatM} {k : Nat} {q : FEqM} {bs : List Bool} (h : Marks f k bs) (hq : f.eqs[k]? = some q) (j : Nat) (hj : j < f.names.length) (e : q.var = (j : Int)) : Marks f (k + 1) (bs.set j true) := by
  refine ⟨by rw [List.length_set]; exact h.1, fun i hi => ?_⟩
  rw [vars_succ hq]
  by_cases hij : i = j
  · subst hij
    have : (bs.set i true).getD i false = true := by simp [h.1, hi]
    rw [this, eq_comm, decide_eq_true_eq, e]; simp
  · have : (bs.set j true).getD i false = bs.getD i false := by simp [List.getElem?_set, Ne.symm hij]
    rw [this, h.2 i hi, decide_eq_decide, List.mem_append]
    constructor
    · exact .inl
    · rintro (h | h)
      · exact h
      · simp at h; omega

theorem size_alloc (w : World) (o : Obj) : (w.alloc o).heap.size = w.heap.size + 1 := by simp

end Go.Proofs.Ytpcpbpinhdbjiaa

namespace Go.Proofs.Ytpcpbpinhdbjiaa
set_option linter.unusedVariables false
set_option linter.unusedSimpArgs false
set_option maxRecDepth 100000
open Go.RowKit

/-- what is known of a flat program's box and of the world it was made in -/
structure Ctx (w : World) (B : Nat) (v : FlatV) (f : FlatM) : Prop where
  is : FlatIs (w.alloc (.cells (fvs v) 29)) B v f
  blk : Blk (w.alloc (.cells (fvs v) 29)) w.heap.size 29 (fvs v)
  old : Below w.heap.size w (w.alloc (.cells (fvs v) 29))
  le : B ≤ w.heap.size
theorem Ctx.mk' {w : World} {B : Nat} {v : FlatV} {f : FlatM} (h : FlatIs w B v f) (hB : B ≤ w.heap.size) : Ctx w B v f :=
  ⟨h.below ((Below.refl B w).alloc hB _), Blk.new _ _ _, (Below.refl _ _).alloc (Nat.le_refl _) _, hB⟩

theorem bcell {W w1 : World} (hb : Below W.heap.size W w1) : (∀ b o, b < W.heap.size → w1.cell? ⟨b, o, none⟩ = W.cell? ⟨b, o, none⟩) ∧ (∀ b o, b < W.heap.size → w1.frozen? ⟨b, o, none⟩ = W.frozen? ⟨b, o, none⟩) :=
  ⟨fun b o h => hb.cell (p := ⟨b, o, none⟩) h, fun b o h => hb.frozen (p := ⟨b, o, none⟩) h⟩

/-- a call that tells something, and leaves what was -/
def SomeB (P : Prop) (w : World) (e : Ending) (w' : World) : Prop := (∃ b, e = .returned (.bool b) ∧ (b = true → P)) ∧ Below w.heap.size w w'
structure SmallF (f : FlatM) : Prop where
  eqs : f.eqs.length ≤ 200
  names : f.names.length ≤ 200
  mems : f.mems.length ≤ 100
  conts : f.conts.length ≤ 20
  cross : f.cross.length ≤ 20
  outs : f.outs.length ≤ 50
  again : f.again.length ≤ 50
  ins : f.ins.length ≤ 20
  args : ∀ (i : Nat) (q : FEqM), f.eqs[i]? = some q → q.args.length ≤ 30
  resets : ∀ (i : Nat) (m : MemM), f.mems[i]? = some m → m.resets.length ≤ 20
  creset : ∀ (i : Nat) (c : ContM), f.conts[i]? = some c → c.resets.length ≤ 20 ∧ c.slopes.length ≤ 20
  ops : ∀ (i : Nat) (c : CrossM), f.cross[i]? = some c → c.ops.length ≤ 30

end Go.Proofs.Ytpcpbpinhdbjiaa
