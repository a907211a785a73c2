/- Plain parts of plans: how many live. No condition. -/
import Derived.Test.YtpcpbpinhdbjiaaZChAToFit
import Derived.Test.YtpcpbpinhdbjiaaZFlX
import Derived.Test.YtpcpbpinhdbjiaaZPlE
namespace Go.Proofs.Ytpcpbpinhdbjiaa
set_option linter.unusedVariables false
set_option linter.unusedSimpArgs false
set_option maxRecDepth 100000
open Go.RowKit Gr

/-- how many of the first k places are needed at place i or later -/
def cntL (L : Nat → Nat) (i k : Nat) : Nat := ((List.range k).filter fun k => decide (i ≤ L k)).length
theorem cntL_succ (L : Nat → Nat) (i k : Nat) : cntL L i (k + 1) = cntL L i k + if i ≤ L k then 1 else 0 := by
  unfold cntL
  rw [List.range_succ, List.filter_append, List.length_append]
  by_cases h : i ≤ L k <;> simp [h]
theorem cntL_le (L : Nat → Nat) (i k : Nat) : cntL L i k ≤ k := by
  unfold cntL
  exact Nat.le_trans (List.length_filter_le _ _) (by simp)
/-- the most that live at one of the first i places -/
def mostL (L : Nat → Nat) (i : Nat) : Nat := Pl.top (fun i => cntL L i (i + 1)) i
theorem mostL_succ (L : Nat → Nat) (i : Nat) : mostL L (i + 1) = max (mostL L i) (cntL L i (i + 1)) := rfl
theorem mostL_le (L : Nat → Nat) (i : Nat) : mostL L i ≤ i := Pl.top_le _ _ _ fun k hk => by have := cntL_le L k (k + 1); omega
theorem plan_most {f : FlatM} {n : Nat} {out : List Nat} {xs : List Int} {S : Nat} (h : IsPlan f n out xs S) : S = mostL (Lpl (laF f (ints out)) (ints out)) n := by
  obtain ⟨sls, hs, h1, _⟩ := h.slots
  rw [h1.top, Pl.slots_most h1.greedy (lpl_ge h.once)]
  rfl
/-- where a variable of a plan stands, and its last place -/
theorem plan_last {f : FlatM} {n : Nat} {o : List Int} (h : Once o n) {k : Nat} (hk : k < n) : ∃ u M : Nat, u < n ∧ o.getD k 0 = (u : Int) ∧ (lastsL (gOf f) (endB f) o n).getD u 0 = (M : Int) ∧ Lpl (laF f o) o k = M := by
  obtain ⟨u, hu, hou⟩ := h.get hk
  have hge := lastV_ge (f := f) h hu
  obtain ⟨j, hj, ej, _⟩ := h.plc hu
  refine ⟨u, (lastV (gOf f) (endB f) o u).toNat, hu, hou, ?_, ?_⟩
  · rw [lasts_get _ _ _ hu]; omega
  · unfold Lpl laF; rw [hou, Int.toNat_natCast]


end Go.Proofs.Ytpcpbpinhdbjiaa
