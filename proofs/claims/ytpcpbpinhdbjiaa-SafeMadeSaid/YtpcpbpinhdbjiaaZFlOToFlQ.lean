/- What isAsked tells, in part. No condition. · What isAsked tells, in part. No condition. · What isAsked tells, in part. No condition. -/
import Derived.Test.YtpcpbpinhdbjiaaZFlKToFlL
import Derived.Deep.RegionWith
import Derived.Deep.RegionHeld3
namespace Go.Proofs.Ytpcpbpinhdbjiaa
set_option linter.unusedVariables false
set_option linter.unusedSimpArgs false
set_option maxRecDepth 100000
open Go.RowKit

theorem IRow.take {w : World} {B : Nat} {a : Option Addr} {n c : Nat} {xs : List Int} (h : IRow w B a n c xs) (m : Nat) (hm : m ≤ n) : IRow w B a m c (xs.take m) := by
  obtain ⟨h1, h2, h3, hn, b, off, h6, h7⟩ := h
  refine ⟨by rw [List.length_take]; omega, by omega, h3, hn, b, off, ?_, fun i hi => ?_⟩
  · rcases h6 with h | h
    · exact .inl h
    · exact .inr (by omega)
  · obtain ⟨q1, q2⟩ := h7 i (by omega)
    refine ⟨q1, ?_⟩
    rw [q2]; congr 2
    simp [List.getD, List.getElem?_take, hi]
theorem IRow.drop {w : World} {B : Nat} {b off n c : Nat} {xs : List Int} (h : IRow w B (some ⟨b, off, none⟩) n c xs) (m : Nat) (hm : m < n) : IRow w B (some ⟨b, off + m, none⟩) (n - m) (c - m) (xs.drop m) := by
  obtain ⟨h1, h2, h3, hn, b', off', h6, h7⟩ := h
  have e : b = b' ∧ off = off' := by
    rcases h6 with h | h
    · injection h with h; injection h with h4 h5 _; exact ⟨h4, h5⟩
    · omega
  obtain ⟨rfl, rfl⟩ := e
  refine ⟨by rw [List.length_drop]; omega, by omega, by omega, (fun h => by cases h), b, off + m, .inl rfl, fun i hi => ?_⟩
  obtain ⟨q1, q2⟩ := h7 (m + i) (by omega)
  refine ⟨q1, ?_⟩
  rw [Nat.add_assoc, q2]; congr 2
  simp [List.getD, List.getElem?_drop]
theorem ask_0 (args : List Int) (i N C : Nat) : askL (bs [118, 97, 114]) args i N C = (args.length == 1 && wiB args N) := rfl
theorem ask_1 (args : List Int) (i N C : Nat) : askL (bs [99, 111, 110, 116]) args i N C = (args.length == 1 && wiB args C) := rfl
theorem ask_2 (args : List Int) (i N C : Nat) : askL (bs [110, 101, 103]) args i N C = (args.length == 1 && wiB args i) := rfl
theorem ask_3 (args : List Int) (i N C : Nat) : askL (bs [43]) args i N C = (args.length == 2 && wiB args i) := rfl
theorem ask_4 (args : List Int) (i N C : Nat) : askL (bs [45]) args i N C = (args.length == 2 && wiB args i) := rfl
theorem ask_5 (args : List Int) (i N C : Nat) : askL (bs [47]) args i N C = (args.length == 2 && wiB args i) := rfl
theorem ask_6 (args : List Int) (i N C : Nat) : askL (bs [42]) args i N C = (args.length == 3 && (wiB (args.take 2) i && wiB (args.drop 2) 2)) := rfl
theorem ask_7 (args : List Int) (i N C : Nat) : askL (bs [115, 101, 108]) args i N C = (args.length == 3 && (wiB (args.take 1) N && wiB (args.drop 1) i)) := rfl
theorem ask_no (op : ByteArray) (args : List Int) (i N C : Nat) (h0 : ¬ op = bs [118, 97, 114]) (h1 : ¬ op = bs [99, 111, 110, 116]) (h2 : ¬ op = bs [110, 101, 103]) (h3 : ¬ op = bs [43]) (h4 : ¬ op = bs [45]) (h5 : ¬ op = bs [47]) (h6 : ¬ op = bs [42]) (h7 : ¬ op = bs [115, 101, 108]) : askL op args i N C = false := by
  unfold askL copVar copCont copNeg copsTwo copMul copSel
  rw [if_neg h0, if_neg h1, if_neg h2, if_neg (by simp [h3, h4, h5]), if_neg h6, if_neg h7]

end Go.Proofs.Ytpcpbpinhdbjiaa

namespace Go.Proofs.Ytpcpbpinhdbjiaa
set_option linter.unusedVariables false
set_option linter.unusedSimpArgs false
set_option maxRecDepth 100000
open Go.RowKit

theorem below_drewN {B n : Nat} {a w : World} (h : Below B a w) : Below B a (w.drewN n) := ⟨h.os, h.tape, h.output, h.size, h.block⟩
theorem one_int {xs : List Int} (h : xs.length = 1) : ∃ x, xs = [x] := by
  match xs, h with
  | [x], _ => exact ⟨x, rfl⟩
theorem three_int {xs : List Int} (h : xs.length = 3) : ∃ x y z, xs = [x, y, z] := by
  match xs, h with
  | [x, y, z], _ => exact ⟨x, y, z, rfl⟩
theorem wiB_one (x : Int) (n : Nat) : wiB [x] n = plB x n := by simp [wiB]

end Go.Proofs.Ytpcpbpinhdbjiaa

namespace Go.Proofs.Ytpcpbpinhdbjiaa
set_option linter.unusedVariables false
set_option linter.unusedSimpArgs false
set_option maxRecDepth 100000
open Go.RowKit

theorem sel_keep {w' : World} {b off g : Nat} {x : Int} {v : FlatV} (h : w'.cell? ⟨b, off, none⟩ = some (.int .i64 x)) (k : Blk w' g 29 (fvs v)) : w'.cell? ⟨b, off, none⟩ = some (.int .i64 x) ∧
    w'.cell? ⟨g, 0, none⟩ = some (.slice v.ins.1 v.ins.2.1 v.ins.2.2) ∧ w'.cell? ⟨g, 1, none⟩ = some (.slice v.names.1 v.names.2.1 v.names.2.2) ∧ w'.cell? ⟨g, 2, none⟩ = some (.slice v.outs.1 v.outs.2.1 v.outs.2.2) ∧ w'.cell? ⟨g, 3, none⟩ = some (.slice v.eqs.1 v.eqs.2.1 v.eqs.2.2) ∧
    w'.cell? ⟨g, 4, none⟩ = some (.slice v.mems.1 v.mems.2.1 v.mems.2.2) ∧ w'.cell? ⟨g, 5, none⟩ = some (.slice v.conts.1 v.conts.2.1 v.conts.2.2) ∧ w'.cell? ⟨g, 6, none⟩ = some (.slice v.cross.1 v.cross.2.1 v.cross.2.2) ∧ w'.cell? ⟨g, 7, none⟩ = some (.slice v.again.1 v.again.2.1 v.again.2.2) := ⟨h, k.flat⟩
end Go.Proofs.Ytpcpbpinhdbjiaa
