/- What slices.Backward's function value does: it hands each number of a row to the loop's body, the last one first. No condition but bounds. -/
import Derived.Test.YtdcmdbhkaohkgaaSpread
import Derived.RangeFuncBox
import Derived.RangeFuncNested
import Derived.RangeFuncBound
import Derived.RangeFuncCalls
import Derived.RangeFuncLeaves
import Derived.RangeFuncWrites
import Derived.Shelf.Abstract
import Derived.Shelf.RegionOpen
import Derived.OwnWalkIn
import Derived.TacticsInMore
import Derived.LoopNIn
import Derived.LoopIn
import Derived.IntWalk
namespace Go.Proofs.Ytdcmdbhkaohkgaa
open Go.RowKit Gr
attribute [local go_sem] Oper.semAt_some

def upto {α : Type} (f : Nat → α) (k : Nat) : List α := (List.range k).map f
theorem upto_succ {α : Type} (f : Nat → α) (k : Nat) : upto f (k + 1) = upto f k ++ [f k] := by simp [upto, List.range_succ]
theorem upto_length {α : Type} (f : Nat → α) (k : Nat) : (upto f k).length = k := by simp [upto]

/-- a place below N -/
abbrev Pl (N : Nat) := { x : Nat // N = 0 ∨ x < N }

/-- what the body is handed in round k: the place and what lies there -/
def encB {N : Nat} (x : Nat × Pl N) : Array Value := #[.int .i64 (x.1 : Int), .int .i64 (x.2.1 : Int)]

/-- below block B all is as it was, but for the blocks that S names -/
structure OnlyB (B : Nat) (S : List (Option Nat)) (w w' : World) : Prop where
  os : w'.os = w.os
  tape : w'.tape = w.tape
  output : w'.output = w.output
  size : w.heap.size ≤ w'.heap.size
  block : ∀ k, k < B → some k ∉ S → w'.heap[k]? = w.heap[k]?
theorem OnlyB.refl (B : Nat) (S : List (Option Nat)) (w : World) : OnlyB B S w w := ⟨rfl, rfl, rfl, Nat.le_refl _, fun _ _ _ => rfl⟩
theorem OnlyB.trans {B : Nat} {S : List (Option Nat)} {a b c : World} (h : OnlyB B S a b) (k : OnlyB B S b c) : OnlyB B S a c :=
  ⟨k.os.trans h.os, k.tape.trans h.tape, k.output.trans h.output, Nat.le_trans h.size k.size, fun i hi hne => (k.block i hi hne).trans (h.block i hi hne)⟩
theorem OnlyB.of_only {B : Nat} {S : List (Option Nat)} {a b : World} (h : Only S a b) (hB : B ≤ a.heap.size) : OnlyB B S a b := ⟨h.os, h.tape, h.output, h.size, fun i hi hne => h.block i (by omega) hne⟩
theorem OnlyB.cell {B : Nat} {S : List (Option Nat)} {a b : World} (h : OnlyB B S a b) {p : Addr} (hp : p.block < B) (hS : some p.block ∉ S) : b.cell? p = a.cell? p := World.cell?_of_block (w := a) (h.block p.block hp hS)
theorem OnlyB.put {B : Nat} (S : List (Option Nat)) (W : World) (l : Nat) (o o' : Obj) (hl : B ≤ l) (h : W.heap[l]? = some o) : OnlyB B S W (W.putObj l o') := by
  have hb := belowK_b (n₀ := B) (w := W) (Nat.le_trans hl (Nat.le_of_lt (Array.getElem?_eq_some_iff.1 h).1)) W
  have hg := grownBy_putObj' W l o'
  exact ⟨hg.os, hg.tape, hg.output, hg.size, fun k hk _ => hg.block k (by have := (Array.getElem?_eq_some_iff.1 h).1; omega) (fun e => by injection e; omega)⟩

set_option maxRecDepth 100000 in
set_option maxHeartbeats 2000000 in
theorem back_in (F : Fence) (n : Nat) (h28 : F.fn 28) (hro : F.round = none) (hn : 1 ≤ n) (N : Nat) (l Bs n₀ b off len cap : Nat) (S : List (Option Nat)) (A : Option Addr) (o : Nat → Pl N) (hlen : len ≤ 1000000) (hb : b < n₀) (hbS : some b ∉ S) (hBS : some Bs ∉ S) (hA : 0 < len → A = some ⟨b, off, none⟩) (J Jx : List (Nat × Pl N) → World → Prop)
    (hY : ∀ pre x W, J pre W → pre.length < len → YieldAt F (n - 1) Try.prog l (encB x) W fun e W' =>
      (e = .returned (.bool true) ∧ J (pre ++ [x]) W' ∧ OnlyB n₀ S W W') ∨ (e = .returned (.bool false) ∧ Jx (pre ++ [x]) W'))
    (W : World) (hBs : W.cell? ⟨Bs, 0, none⟩ = some (.slice A len cap)) (hBl : Bs < n₀) (hc : ∀ j, j < len → W.cell? ⟨b, off + j, none⟩ = some (.int .i64 ((o j).1 : Int))) (h0 : J [] W) :
    CallsIn F n Try.prog 28 #[.func (.yield l) #[] #[], .pointer (some ⟨Bs, 0, none⟩)] W fun e W' => (∃ v, e = .returned v) ∧
      ((∃ ys, ys = upto (fun k => (len - 1 - k, o (len - 1 - k))) len ∧ J ys W') ∨ (∃ pre, (∃ k, k ≤ len ∧ pre = upto (fun k => (len - 1 - k, o (len - 1 - k))) k) ∧ Jx pre W')) := by
  have HA := Lib.hid hA; clear hA
  refine callsIn_of_wp Try.func28 rfl h28 ?_ hro
  simp only [Try.ntmps28, List.size_toArray, List.length_cons, List.length_nil, Nat.reduceAdd, Nat.reduceSub, Array.replicate_succ, Array.replicate_zero, List.push_toArray, List.append_toArray, List.nil_append, List.cons_append]
  gi_wp2
  gi_loopw [3] (fun i wr => ∃ k : Nat, k ≤ len ∧ i = .int .i64 ((len : Int) - 1 - (k : Int)) ∧ J (upto (fun k => (len - 1 - k, o (len - 1 - k))) k) wr ∧ OnlyB n₀ S W wr)
    (fun i _ => (intOf i + 1).toNat)
  case atStart => exact ⟨0, Nat.zero_le _, by simp, h0, OnlyB.refl _ _ _⟩
  case round =>
    obtain ⟨k, hk, rfl, hJs, hnx⟩ := hrel
    have hbx := (hnx.cell (p := ⟨Bs, 0, none⟩) hBl hBS).trans hBs
    by_cases hlt : k < len
    · obtain rfl := HA.out (by omega)
      obtain ⟨j, hj⟩ : ∃ j, j = len - 1 - k := ⟨_, rfl⟩
      have hjl : j < len := by omega
      have hcx := (hnx.cell (p := ⟨b, off + j, none⟩) hb hbS).trans (hc j hjl)
      obtain ⟨fn, tmps, assign, body, hy, hR⟩ := hY _ (j, o j) wr hJs (by rw [upto_length]; exact hlt)
      have hji : (len : Int) - 1 - (k : Int) = (j : Int) := by omega
      have hus := upto_succ (fun k => (len - 1 - k, o (len - 1 - k))) k
      rw [← hj] at hus
      have HU := Lib.hid hus; clear hus
      have HJ := Lib.hid hj; clear hj
      rw [hji]
      have HJI := Lib.hid hji; clear hji
      dsimp only [encB] at hy
      gi_wp2
      refine hR.mono ?_
      rintro e W3 (⟨rfl, hJ3, hk3⟩ | ⟨rfl, hJx3⟩)
      · have HJ3 := Lib.hid hJ3; clear hJ3
        gi_wp2
        go_roundw
        case rel => exact ⟨k + 1, by omega, by have := HJI.out; congr 1; omega, by rw [HU.out]; exact HJ3.out, hnx.trans hk3⟩
        case measure => first | (simp [intOf]; done) | (simp [intOf]; omega)
      · have HJ3 := Lib.hid hJx3; clear hJx3
        gi_wp2
        refine bodyPost_ret (results_none rfl _ _ _) rfl ?_
        exact ⟨⟨_, rfl⟩, .inr ⟨_, ⟨k + 1, by omega, HU.out.symm⟩, HJ3.out⟩⟩
    · obtain rfl : k = len := by omega
      have hz : (k : Int) - 1 - (k : Int) = -1 := by omega
      rw [hz]
      gi_wp2
      go_end0
      exact ⟨⟨_, rfl⟩, .inl ⟨_, rfl, hJs⟩⟩

set_option maxHeartbeats 1000000 in
theorem backward_in (F : Fence) (n : Nat) (h26 : F.fn 26) (hro : F.round = none) (a : Option Addr) (len cap : Nat) (w : World) :
    CallsIn F n Try.prog 26 #[.slice a len cap] w fun e w' => e = .returned (.func (.func 28) #[] #[.pointer (some ⟨w.heap.size, 0, none⟩)]) ∧ w' = w.alloc (.cells #[.slice a len cap] 24) := by
  refine callsIn_of_wp Try.func26 rfl h26 ?_ hro
  simp only [Try.ntmps26, List.size_toArray, List.length_cons, List.length_nil, Nat.reduceAdd, Nat.reduceSub, Array.replicate_succ, Array.replicate_zero, List.push_toArray, List.append_toArray, List.nil_append, List.cons_append]
  gi_wp2
  go_ret
  exact ⟨rfl, rfl⟩

/-- .. in the words of the loop over it -/
theorem back_stops (F : Fence) (n : Nat) (h28 : F.fn 28) (hro : F.round = none) (hn : 1 ≤ n) (N Bs n₀ b off len cap : Nat) (S : List (Option Nat)) (A : Option Addr) (o : Nat → Pl N) (hlen : len ≤ 1000000) (hb : b < n₀) (hbS : some b ∉ S) (hBS : some Bs ∉ S) (hA : 0 < len → A = some ⟨b, off, none⟩) (w : World)
    (hBs : w.cell? ⟨Bs, 0, none⟩ = some (.slice A len cap)) (hBl : Bs < n₀) (hn₀ : n₀ ≤ w.heap.size) (hc : ∀ j, j < len → w.cell? ⟨b, off + j, none⟩ = some (.int .i64 ((o j).1 : Int))) :
    SeqStopsK F n Try.prog 28 #[.pointer (some ⟨Bs, 0, none⟩)] (encB (N := N)) (OnlyB n₀ S) (fun ys => ys = upto (fun k => (len - 1 - k, o (len - 1 - k))) len) (fun pre => ∃ k, k ≤ len ∧ pre = upto (fun k => (len - 1 - k, o (len - 1 - k))) k) len w := fun l J Jx W hW _ _ hY h0 =>
  back_in F n h28 hro hn N l Bs n₀ b off len cap S A o hlen hb hbS hBS hA J Jx hY W ((hW.cell (p := ⟨Bs, 0, none⟩) (by show Bs < _; omega)).trans hBs) hBl (fun j hj => (hW.cell (p := ⟨b, off + j, none⟩) (by show b < _; omega)).trans (hc j hj)) h0
end Go.Proofs.Ytdcmdbhkaohkgaa
