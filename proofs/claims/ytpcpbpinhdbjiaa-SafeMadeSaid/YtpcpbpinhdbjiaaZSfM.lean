/- 16.1 on plain lists. No condition. -/
import Derived.Test.YtpcpbpinhdbjiaaZFlAToFlC
namespace Go.Proofs.Ytpcpbpinhdbjiaa
set_option linter.unusedVariables false
set_option linter.unusedSimpArgs false
set_option maxRecDepth 100000
open Go.RowKit

/-- an instruction -/
structure InsP where
  op : ByteArray
  dst : Int
  args : List Int
  k : Int
  lit : ValM
  guard : Int
  resets : List Int
/-- object code -/
structure CodeM where
  ins : Int
  outs : Int
  slots : Int
  crosses : Int
  lines : Int
  mems : List ValM
  conts : List ValM
  step : List InsP
  deriv : List InsP
  cross : List InsP

def opsNone : List ByteArray := [bs [108, 105, 116], bs [105, 110], bs [109, 101, 109], bs [99, 111, 110, 116], bs [102, 108, 97, 103]]
def opsEnd : List ByteArray := [bs [107, 101, 101, 112], bs [115, 116, 97, 116, 101], bs [111, 117, 116], bs [97, 103, 97, 105, 110]]
def hasOp (l : List ByteArray) (op : ByteArray) : Bool := l.any fun x => decide (op = x)
/-- is it none of an equation? -/
def isEnd (op : ByteArray) : Bool := hasOp opsEnd op
/-- is it an equation's? -/
def isEq (op : ByteArray) : Bool := hasOp opsNone op || hasOp opsOne op || hasOp opsSome op || hasOp opsTwo op || decide (op = opSel)
/-- as many Args as an instruction of Step needs -/
def enS (op : ByteArray) (n : Nat) : Bool :=
  if hasOp opsNone op then n == 0
  else if hasOp opsOne op || hasOp opsEnd op then n == 1
  else if hasOp opsSome op then decide (1 ≤ n)
  else if hasOp opsTwo op then n == 2
  else if op = opSel then n == 3
  else false
/-- a place of so many -/
def inB (i n : Int) : Bool := decide (0 ≤ i) && decide (i < n)
def opOut : ByteArray := bs [111, 117, 116]
def opsMem : List ByteArray := [bs [109, 101, 109], bs [107, 101, 101, 112]]
def opsCont : List ByteArray := [bs [99, 111, 110, 116], bs [115, 116, 97, 116, 101], bs [115, 108, 111, 112, 101], bs [108, 99, 111, 110, 116]]
def opsFlag : List ByteArray := [bs [102, 108, 97, 103], bs [97, 115, 107]]
def opLmul : ByteArray := bs [108, 42]
/-- is K a place, if it needs to be one? ni no inputs, outputs; nm nc memories, states; nx crossings -/
def plK (op : ByteArray) (k ni no nm nc nx : Int) : Bool :=
  if op = opIn then inB k ni
  else if op = opOut then inB k no
  else if hasOp opsMem op then inB k nm
  else if hasOp opsCont op then inB k nc
  else if hasOp opsFlag op then inB k nx
  else if op = opLmul then inB k 2
  else true
def opsBegin : List ByteArray := [bs [109, 101, 109], bs [99, 111, 110, 116], bs [107, 101, 101, 112], bs [115, 116, 97, 116, 101]]
def mayB (op : ByteArray) : Bool := hasOp opsBegin op
/-- of so many places, is one written? W: those that were told -/
def wrB (S : Int) (W : List Int) (j : Int) : Bool := inB j S && decide (j ∈ W)
def gdB (S : Int) (W : List Int) (j : Int) : Bool := decide (j < 0) || wrB S W j
/-- what is written behind some instructions of Step -/
def wTo (l : List InsP) : List Int := l.filterMap fun x => if isEnd x.op = true then none else some x.dst
def opAsk : ByteArray := bs [97, 115, 107]
def lTo (l : List InsP) : List Int := l.filterMap fun x => if x.op = opAsk then none else some x.dst
/-- an instruction of Step, where W is written -/
def stB (c : CodeM) (W : List Int) (x : InsP) : Bool :=
  enS x.op x.args.length && plK x.op x.k c.ins c.outs c.mems.length c.conts.length c.crosses && (decide (x.resets.length = 0) || mayB x.op) &&
  (gdB c.slots W x.guard && x.args.all (wrB c.slots W) && x.resets.all (wrB c.slots W)) && (isEnd x.op || inB x.dst c.slots)
def opSlope : ByteArray := bs [115, 108, 111, 112, 101]
/-- guards and slots by two -/
def twoB (S : Int) (W : List Int) : List Int → Bool
  | a :: b :: l => gdB S W a && wrB S W b && twoB S W l
  | [] => true
  | _ => false
def drB (c : CodeM) (W : List Int) (x : InsP) : Bool :=
  decide (x.op = opSlope) && inB x.k c.conts.length && (gdB c.slots W x.guard && decide (x.resets.length = 0)) && twoB c.slots W x.args
def opsL0 : List ByteArray := [bs [108, 99, 111, 110, 116]]
def opsL1 : List ByteArray := [bs [108, 118, 97, 114]]
def opsL01 : List ByteArray := [bs [108, 110, 101, 103], bs [97, 115, 107]]
def opsL02 : List ByteArray := [bs [108, 43], bs [108, 45], bs [108, 42], bs [108, 47]]
def opsL12 : List ByteArray := [bs [108, 115, 101, 108]]
/-- slots, lines that an instruction of Cross needs -/
def nLn (op : ByteArray) : Option (Nat × Nat) :=
  if hasOp opsL0 op then some (0, 0)
  else if hasOp opsL1 op then some (1, 0)
  else if hasOp opsL01 op then some (0, 1)
  else if hasOp opsL02 op then some (0, 2)
  else if hasOp opsL12 op then some (1, 2)
  else none
def crB (c : CodeM) (W L : List Int) (x : InsP) : Bool :=
  match nLn x.op with
  | none => false
  | some (s, l) => decide (x.args.length = s + l) && plK x.op x.k c.ins c.outs c.mems.length c.conts.length c.crosses && (gdB c.slots W x.guard && decide (x.resets.length = 0)) && ((x.args.take s).all (wrB c.slots W) && (x.args.drop s).all (wrB c.lines L)) && (decide (x.op = opAsk) || inB x.dst c.lines)
def cntB (n : Int) : Bool := decide (0 ≤ n) && decide (n ≤ 65536)
/-- 16.1 -/
structure RightC (c : CodeM) : Prop where
  ins : cntB c.ins = true
  outs : cntB c.outs = true
  slots : cntB c.slots = true
  crosses : cntB c.crosses = true
  lines : cntB c.lines = true
  step : ∀ (i : Nat) (x : InsP), c.step[i]? = some x → stB c (wTo (c.step.take i)) x = true
  deriv : ∀ (i : Nat) (x : InsP), c.deriv[i]? = some x → drB c (wTo c.step) x = true
  cross : ∀ (i : Nat) (x : InsP), c.cross[i]? = some x → crB c (wTo c.step) (lTo (c.cross.take i)) x = true
theorem take_snoc {α : Type} {l : List α} {k : Nat} {x : α} (h : l[k]? = some x) : l.take (k + 1) = l.take k ++ [x] := by rw [List.take_add_one, h]; rfl
theorem wTo_end {l : List InsP} {x : InsP} (h : isEnd x.op = true) : wTo (l ++ [x]) = wTo l := by unfold wTo; simp [List.filterMap_append, h]
theorem wTo_eq {l : List InsP} {x : InsP} (h : isEnd x.op = false) : wTo (l ++ [x]) = wTo l ++ [x.dst] := by unfold wTo; simp [List.filterMap_append, h]
theorem lTo_ask {l : List InsP} {x : InsP} (h : x.op = opAsk) : lTo (l ++ [x]) = lTo l := by unfold lTo; simp [List.filterMap_append, h]
theorem lTo_line {l : List InsP} {x : InsP} (h : ¬ x.op = opAsk) : lTo (l ++ [x]) = lTo l ++ [x.dst] := by unfold lTo; simp [List.filterMap_append, h]
/-- the marks of what is written -/
def mkB (n : Nat) (W : List Int) : List Bool := (List.range n).map fun (j : Nat) => decide ((j : Int) ∈ W)
theorem mkB_len (n : Nat) (W : List Int) : (mkB n W).length = n := by unfold mkB; simp
theorem mkB_get {n : Nat} {W : List Int} {j : Nat} (h : j < n) : (mkB n W).getD j false = decide ((j : Int) ∈ W) := by unfold mkB; simp [List.getD_eq_getElem?_getD, h]
theorem mkB_nil (n : Nat) : mkB n [] = List.replicate n false := by
  apply List.ext_getElem?
  intro i
  unfold mkB
  by_cases hi : i < n
  · simp [hi]
  · simp [hi]
theorem mkB_set {n : Nat} {W : List Int} {j : Nat} : (mkB n W).set j true = mkB n (W ++ [(j : Int)]) := by
  apply List.ext_getElem?
  intro i
  rw [List.getElem?_set]
  unfold mkB
  by_cases hi : i < n
  · by_cases hj : j = i
    · subst hj; simp [hi]
    · have : ¬ (i : Int) = (j : Int) := by omega
      simp [hi, hj, this]
  · by_cases hj : j = i
    · subst hj; simp [hi]
    · simp [hi, hj]
theorem wrB_no {S : Int} {W : List Int} {j : Int} (h : inB j S = false) : wrB S W j = false := by unfold wrB; rw [h]; rfl
theorem wrB_at {S : Int} {W : List Int} {j : Nat} (h : (j : Int) < S) : wrB S W (j : Int) = decide ((j : Int) ∈ W) := by
  unfold wrB inB
  have h0 : (0 : Int) ≤ (j : Int) := by omega
  simp [h0, h]
theorem inB_yes {i n : Int} (h : inB i n = true) : ∃ j : Nat, i = (j : Int) ∧ i < n := by
  unfold inB at h
  rw [Bool.and_eq_true, decide_eq_true_eq, decide_eq_true_eq] at h
  exact ⟨i.toNat, by omega, h.2⟩
/-- of a short body the same as of all of it -/
theorem all_take {l : List Int} {p : Int → Bool} {k : Nat} (h : (l.take k).all p = true) {x : Int} (hx : l[k]? = some x) : (l.take (k + 1)).all p = p x := by
  rw [take_snoc hx, List.all_append, h]; simp
theorem all_bad {l : List Int} {p : Int → Bool} {k : Nat} {x : Int} (hx : l[k]? = some x) (h : p x = false) : l.all p = false := by
  rw [List.all_eq_false]
  exact ⟨x, List.mem_of_getElem? hx, by rw [h]; simp⟩

end Go.Proofs.Ytpcpbpinhdbjiaa
