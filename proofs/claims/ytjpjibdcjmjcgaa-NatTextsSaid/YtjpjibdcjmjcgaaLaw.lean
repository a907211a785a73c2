/- What all laws of this seat share: a slice that came in reads as a row; few, where it says yes and where no. -/
import Derived.Test.YtjpjibdcjmjcgaaAwake
import Derived.ProofKit
import Derived.OpenShut
import Derived.ShutString
import Derived.ChangeOld
namespace Go.Proofs.Ytjpjibdcjmjcgaa
open Go.ChangeShapes Go.WideShapes Go.ChangeAt Go.RowKit Nums
open Go.ChangeMaps (open_string shut_string)

theorem Try.ownKnob : ownKnob Try.prog.godebug = none := by kernel_rfl
theorem Try.laidOut : laidOutB Try.prog = true := by kernel_rfl

/-- What is told of a slice of integers that came in: it is nil; or it leads to 'cap' cells, the numbers 'zs' (the first 'len' are its elements). -/
def IsRow (k : IntKind) (w : World) (a : Option Addr) (len cap : Nat) (zs : List Int) : Prop :=
  (a = none ∧ len = 0 ∧ cap = 0 ∧ zs = []) ∨
  ∃ x, a = some x ∧ len ≤ cap ∧ cap ≤ maxLen ∧ zs.length = cap ∧ (∀ i, i < zs.length → w.cell? (x.add i) = some (.int k (zs.getD i 0))) ∧ ∀ n ∈ zs, (Lit.int k n).wf = true

theorem row_of_isrow {w : World} {a : Option Addr} {n c : Nat} {zs : List Int} (h : IsRow .u32 w a n c zs) : ∃ xs, Row w a n c xs := by
  rcases h with ⟨rfl, rfl, rfl, rfl⟩ | ⟨x, rfl, hl, hm, hz, hcell, hwz⟩
  · exact ⟨[], row_nil w⟩
  · refine ⟨(zs.take n).map Int.toNat, by simp; omega, hl, hm, by simp, ?_, ?_⟩
    · intro y hy
      obtain ⟨z, hz1, rfl⟩ := List.mem_map.1 hy
      have := bounds_u32 (hwz z (List.mem_of_mem_take hz1))
      omega
    · by_cases hn : 0 < n
      · obtain ⟨b, off, rfl, hc⟩ := ints_at hcell (by omega)
        refine ⟨b, off, Or.inl rfl, fun i hi => ⟨?_, ?_⟩⟩
        · exact World.block_lt_of_cell? w ⟨b, off + i, none⟩ (hc i (by omega))
        · rw [hc i (by omega)]
          have hiz : i < zs.length := by omega
          have hb := bounds_u32 (hwz zs[i] (List.getElem_mem hiz))
          have e1 : zs.getD i 0 = zs[i] := by simp [hiz]
          have e2 : ((zs.take n).map Int.toNat).getD i 0 = zs[i].toNat := by simp [hi, hiz, List.getElem?_take]
          rw [e1, e2]
          congr 2
          omega
      · exact ⟨0, 0, Or.inr (by omega), fun i hi => by omega⟩

theorem few_yes (a0 a1 : Option Addr) (n0 c0 n1 c1 : Nat) (w : World) (h0 : n0 ≤ 12) (h1 : n1 ≤ 12) :
    Calls Try.prog 10 #[.slice a0 n0 c0, .slice a1 n1 c1] w fun e w' => e = .returned (.bool true) ∧ w = w' :=
  (few_any a0 a1 n0 c0 n1 c1 w (by unfold maxLen; omega) (by unfold maxLen; omega)).mono fun e w' ⟨h, h'⟩ => ⟨by rw [h]; simp [h0, h1], h'⟩

theorem few_no (a0 a1 : Option Addr) (n0 c0 n1 c1 : Nat) (w : World) (h0 : n0 ≤ maxLen) (h1 : n1 ≤ maxLen) (h : ¬ (n0 ≤ 12 ∧ n1 ≤ 12)) :
    Calls Try.prog 10 #[.slice a0 n0 c0, .slice a1 n1 c1] w fun e w' => e = .returned (.bool false) ∧ w = w' :=
  (few_any a0 a1 n0 c0 n1 c1 w h0 h1).mono fun e w' ⟨h2, h'⟩ => ⟨by rw [h2]; rw [decide_eq_false h], h'⟩

theorem Row.len_le {w : World} {a : Option Addr} {n c : Nat} {xs : List Nat} (h : Row w a n c xs) : n ≤ maxLen := Nat.le_trans h.2.1 h.2.2.1

/-- a number of at most k limbs -/
theorem val_pow {w : World} {a : Option Addr} {n c k : Nat} {xs : List Nat} (h : Row w a n c xs) (hn : n ≤ k) : val xs < 4294967296 ^ k := by
  have h1 := val_lt xs h.2.2.2.2.1
  rw [h.1] at h1
  exact Nat.lt_of_lt_of_le h1 (Nat.pow_le_pow_right (by omega) hn)

end Go.Proofs.Ytjpjibdcjmjcgaa
