/- What hasEnough tells. No condition. -/
import Derived.Test.YtpcpbpinhdbjiaaZFlD
namespace Go.Proofs.Ytpcpbpinhdbjiaa
set_option linter.unusedVariables false
set_option linter.unusedSimpArgs false
set_option maxRecDepth 100000
open Go.RowKit

/-- an equation's value -/
def feqV (q : FEqM) (a m d : Option Addr × Nat × Nat) : Value := .agg #[.int .i64 q.var, .string q.op, sl3 a, .int .i64 q.k, .int .i64 q.lit.kind, .bool q.lit.neg, sl3 m, sl3 d, .string q.lit.name, .int .i64 q.guard]
theorem str_no {op : ByteArray} {l : List UInt8} (h : ¬ op = bs l) : (op.toList == l) = false := by
  rw [beq_eq_false_iff_ne]
  intro e
  refine h ?_
  rw [Lib.toList_data] at e
  unfold bs
  rw [← e]
theorem nat_beq (n k : Nat) : (n == k) = ((n : Int) == (k : Int)) := by
  by_cases h : n = k
  · subst h; simp
  · have h' : ¬ (n : Int) = (k : Int) := by omega
    rw [beq_eq_false_iff_ne.2 h, beq_eq_false_iff_ne.2 h']
theorem enB_0 (n : Nat) : enB (bs [108, 105, 116]) n = ((n : Int) == 0) := (show enB (bs [108, 105, 116]) n = (n == 0) from rfl).trans (nat_beq n 0)
theorem enB_1 (n : Nat) : enB (bs [105, 110]) n = ((n : Int) == 0) := (show enB (bs [105, 110]) n = (n == 0) from rfl).trans (nat_beq n 0)
theorem enB_2 (n : Nat) : enB (bs [109, 101, 109]) n = ((n : Int) == 0) := (show enB (bs [109, 101, 109]) n = (n == 0) from rfl).trans (nat_beq n 0)
theorem enB_3 (n : Nat) : enB (bs [99, 111, 110, 116]) n = ((n : Int) == 0) := (show enB (bs [99, 111, 110, 116]) n = (n == 0) from rfl).trans (nat_beq n 0)
theorem enB_4 (n : Nat) : enB (bs [102, 108, 97, 103]) n = ((n : Int) == 0) := (show enB (bs [102, 108, 97, 103]) n = (n == 0) from rfl).trans (nat_beq n 0)
theorem enB_5 (n : Nat) : enB (bs [99, 111, 112, 121]) n = ((n : Int) == 1) := (show enB (bs [99, 111, 112, 121]) n = (n == 1) from rfl).trans (nat_beq n 1)
theorem enB_6 (n : Nat) : enB (bs [110, 101, 103]) n = ((n : Int) == 1) := (show enB (bs [110, 101, 103]) n = (n == 1) from rfl).trans (nat_beq n 1)
theorem enB_7 (n : Nat) : enB (bs [110, 111, 116]) n = ((n : Int) == 1) := (show enB (bs [110, 111, 116]) n = (n == 1) from rfl).trans (nat_beq n 1)
theorem enB_8 (n : Nat) : enB (bs [102, 108, 111, 111, 114]) n = ((n : Int) == 1) := (show enB (bs [102, 108, 111, 111, 114]) n = (n == 1) from rfl).trans (nat_beq n 1)
theorem enB_9 (n : Nat) : enB (bs [114, 97, 116]) n = ((n : Int) == 1) := (show enB (bs [114, 97, 116]) n = (n == 1) from rfl).trans (nat_beq n 1)
theorem enB_10 (n : Nat) : enB (bs [103, 97, 110, 100]) n = decide ((1 : Int) ≤ (n : Int)) := (show enB (bs [103, 97, 110, 100]) n = decide (1 ≤ n) from rfl).trans (decide_eq_decide.2 (by omega))
theorem enB_11 (n : Nat) : enB (bs [109, 114, 103]) n = decide ((1 : Int) ≤ (n : Int)) := (show enB (bs [109, 114, 103]) n = decide (1 ≤ n) from rfl).trans (decide_eq_decide.2 (by omega))
theorem enB_12 (n : Nat) : enB (bs [43]) n = ((n : Int) == 2) := (show enB (bs [43]) n = (n == 2) from rfl).trans (nat_beq n 2)
theorem enB_13 (n : Nat) : enB (bs [45]) n = ((n : Int) == 2) := (show enB (bs [45]) n = (n == 2) from rfl).trans (nat_beq n 2)
theorem enB_14 (n : Nat) : enB (bs [42]) n = ((n : Int) == 2) := (show enB (bs [42]) n = (n == 2) from rfl).trans (nat_beq n 2)
theorem enB_15 (n : Nat) : enB (bs [47]) n = ((n : Int) == 2) := (show enB (bs [47]) n = (n == 2) from rfl).trans (nat_beq n 2)
theorem enB_16 (n : Nat) : enB (bs [100, 105, 118]) n = ((n : Int) == 2) := (show enB (bs [100, 105, 118]) n = (n == 2) from rfl).trans (nat_beq n 2)
theorem enB_17 (n : Nat) : enB (bs [109, 111, 100]) n = ((n : Int) == 2) := (show enB (bs [109, 111, 100]) n = (n == 2) from rfl).trans (nat_beq n 2)
theorem enB_18 (n : Nat) : enB (bs [60]) n = ((n : Int) == 2) := (show enB (bs [60]) n = (n == 2) from rfl).trans (nat_beq n 2)
theorem enB_19 (n : Nat) : enB (bs [60, 61]) n = ((n : Int) == 2) := (show enB (bs [60, 61]) n = (n == 2) from rfl).trans (nat_beq n 2)
theorem enB_20 (n : Nat) : enB (bs [62]) n = ((n : Int) == 2) := (show enB (bs [62]) n = (n == 2) from rfl).trans (nat_beq n 2)
theorem enB_21 (n : Nat) : enB (bs [62, 61]) n = ((n : Int) == 2) := (show enB (bs [62, 61]) n = (n == 2) from rfl).trans (nat_beq n 2)
theorem enB_22 (n : Nat) : enB (bs [61, 61]) n = ((n : Int) == 2) := (show enB (bs [61, 61]) n = (n == 2) from rfl).trans (nat_beq n 2)
theorem enB_23 (n : Nat) : enB (bs [33, 61]) n = ((n : Int) == 2) := (show enB (bs [33, 61]) n = (n == 2) from rfl).trans (nat_beq n 2)
theorem enB_24 (n : Nat) : enB (bs [97, 110, 100]) n = ((n : Int) == 2) := (show enB (bs [97, 110, 100]) n = (n == 2) from rfl).trans (nat_beq n 2)
theorem enB_25 (n : Nat) : enB (bs [111, 114]) n = ((n : Int) == 2) := (show enB (bs [111, 114]) n = (n == 2) from rfl).trans (nat_beq n 2)
theorem enB_26 (n : Nat) : enB (bs [115, 101, 108]) n = ((n : Int) == 3) := (show enB (bs [115, 101, 108]) n = (n == 3) from rfl).trans (nat_beq n 3)
theorem enB_no (op : ByteArray) (n : Nat) (h0 : ¬ op = bs [108, 105, 116]) (h1 : ¬ op = bs [105, 110]) (h2 : ¬ op = bs [109, 101, 109]) (h3 : ¬ op = bs [99, 111, 110, 116]) (h4 : ¬ op = bs [102, 108, 97, 103]) (h5 : ¬ op = bs [99, 111, 112, 121]) (h6 : ¬ op = bs [110, 101, 103]) (h7 : ¬ op = bs [110, 111, 116]) (h8 : ¬ op = bs [102, 108, 111, 111, 114]) (h9 : ¬ op = bs [114, 97, 116]) (h10 : ¬ op = bs [103, 97, 110, 100]) (h11 : ¬ op = bs [109, 114, 103]) (h12 : ¬ op = bs [43]) (h13 : ¬ op = bs [45]) (h14 : ¬ op = bs [42]) (h15 : ¬ op = bs [47]) (h16 : ¬ op = bs [100, 105, 118]) (h17 : ¬ op = bs [109, 111, 100]) (h18 : ¬ op = bs [60]) (h19 : ¬ op = bs [60, 61]) (h20 : ¬ op = bs [62]) (h21 : ¬ op = bs [62, 61]) (h22 : ¬ op = bs [61, 61]) (h23 : ¬ op = bs [33, 61]) (h24 : ¬ op = bs [97, 110, 100]) (h25 : ¬ op = bs [111, 114]) (h26 : ¬ op = bs [115, 101, 108]) : enB op n = false := by
  unfold enB opLit opIn opMem opCont opFlag opsOne opsSome opsTwo opSel
  rw [if_neg (by simp [h0, h1, h2, h3, h4]), if_neg (by simp [h5, h6, h7, h8, h9]), if_neg (by simp [h10, h11]), if_neg (by simp [h12, h13, h14, h15, h16, h17, h18, h19, h20, h21, h22, h23, h24, h25]), if_neg h26]

end Go.Proofs.Ytpcpbpinhdbjiaa
