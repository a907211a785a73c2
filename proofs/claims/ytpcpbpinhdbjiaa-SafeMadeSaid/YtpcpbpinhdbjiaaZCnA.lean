/- What slices.Grow of no row, and slices.Concat, tell. No condition but bounds. -/
import Derived.Test.YtpcpbpinhdbjiaaZNdAToNdC
import Derived.Test.YtpcpbpinhdbjiaaZGrAToGrF
namespace Go.Proofs.Ytpcpbpinhdbjiaa
set_option linter.unusedVariables false
set_option linter.unusedSimpArgs false
set_option maxRecDepth 100000
open Go.RowKit Go.Lib

/-- the rows, one behind the other -/
def catTo (G : List (List Int)) (k : Nat) : List Int := (G.take k).flatten
theorem catTo_succ (G : List (List Int)) (k : Nat) (h : k < G.length) : catTo G (k + 1) = catTo G k ++ G.getD k [] := by
  unfold catTo
  rw [List.take_succ_eq_append_getElem h, List.flatten_append]
  congr 1
  simp [h]
theorem catTo_len (G : List (List Int)) (k : Nat) : (catTo G k).length = Gr.tot (G.take k) := by
  unfold catTo Gr.tot
  rw [List.length_flatten]
theorem catTo_all (G : List (List Int)) : catTo G G.length = G.flatten := by unfold catTo; rw [List.take_length]
theorem tot_take_mono (G : List (List Int)) (k : Nat) : Gr.tot (G.take k) ≤ Gr.tot G := by
  unfold Gr.tot
  induction G generalizing k with
  | nil => simp
  | cons r G ih => cases k with
    | zero => simp
    | succ k => simp only [List.take_succ_cons, List.map_cons, List.sum_cons]; have := ih k; omega
/-- what slices.Grow of no row tells: a new row of nothing -/
def GrowPost (w : World) (e : Ending) (w' : World) : Prop := ∃ v, e = .returned v ∧ Own w' w.heap.size v [] ∧ Below w.heap.size w w'
def CatPost (G : List (List Int)) (w : World) (e : Ending) (w' : World) : Prop := ∃ v, e = .returned v ∧ Own w' w.heap.size v G.flatten ∧ Below w.heap.size w w'
end Go.Proofs.Ytpcpbpinhdbjiaa
