/-
  No cell of these rows narrows 'for every input' (looked for: loops, veiled, ifaces, maps, wideKeys, modest, calm, conditions, laid).
  DERIVED. THE GIVEN ROWS OF THIS SEAT. 4 by the template 'for every input the law returns true; each argument reads behind the call as it read before'; 0 by the template 'total and deterministic' (their statements: YtpnlbjnbgemocaaGreatTotals.lean).
  GIVEN WITH THE SEED: the statements are not yours to turn. If you find one false, say at which input.
  Laid BY PROGRAM, IN A SANDBOX (cutbox-rows.mjs): the forced cells as the released guide's own fill.sh prints them over the translation 3b64c4e433ea4bbe… (all of the seat's roots in one cut). By AI agents, Wed Nov 11 2026. No macro, syntax, notation, axiom, sorry.
-/
import Derived.Test.YtpnlbjnbgemocaaGreatChecked
import GoSem.Claim
import GoSem.ClaimJoined
import GoSem.ClaimMapViews
import Derived.JoinedTies
import Derived.KernelRfl
namespace Go.Proofs.YtpnlbjnbgemocaaGreat
/- THE CELL 'sum', in the pinned program and in every row, IS THE sha256 OF THE DUMP (.gsa) THAT YtpnlbjnbgemocaaGreatProg.lean LOADS. Nothing in Lean hashes anything: it is a label: what it is worth is what the hold of that sum in a sandbox is worth. -/
noncomputable def Tryz.pinned : Pinned := { name := "ytpnlbjnbgemocaagreat", sum := "3b64c4e433ea4bbe2a009e274c4fcee49b03d5adf80c68dfb148fb534b403d70", checked := Tryz.checked }
namespace Rows
def none {H : Type} : Left H := { results := [], args := [] }

/-- 'foliotlaw17.ExecStill': WHATEVER THE INPUT: true; the input reads as it did. -/
def execStillSpec : ChangeSpec := { name := "execStill", fn := fun _ => fun
  | [d1, d2, d3] => { results := [.lit (.bool true)], args := [d1, d2, d3] }
  | _ => none }
def execStillRow : OpenClaim := { program := "ytpnlbjnbgemocaagreat", sum := "3b64c4e433ea4bbe2a009e274c4fcee49b03d5adf80c68dfb148fb534b403d70", func := "foliot/foliotlaw17.ExecStill", spec := "execStill", unfollowed := true, recurses := true, apart := false }
def ExecStillSaid : Prop := execStillRow.holds Tryz.pinned (OpenSpec.ofChange execStillSpec)

/-- ITS FALSE NEIGHBOUR: 'it returns false'. Refute it at one input. -/
def execStillWrong : ChangeSpec := { name := "execStill", fn := fun _ => fun
  | [d1, d2, d3] => { results := [.lit (.bool false)], args := [d1, d2, d3] }
  | _ => none }
def ExecStillWrongFalsely : Prop := execStillRow.holds Tryz.pinned (OpenSpec.ofChange execStillWrong)

/-- 'foliotlaw17.ExecMoves': WHATEVER THE INPUT: true; the input reads as it did. -/
def execMovesSpec : ChangeSpec := { name := "execMoves", fn := fun _ => fun
  | [d1, d2, d3] => { results := [.lit (.bool true)], args := [d1, d2, d3] }
  | _ => none }
def execMovesRow : OpenClaim := { program := "ytpnlbjnbgemocaagreat", sum := "3b64c4e433ea4bbe2a009e274c4fcee49b03d5adf80c68dfb148fb534b403d70", func := "foliot/foliotlaw17.ExecMoves", spec := "execMoves", unfollowed := true, recurses := true, apart := false }
def ExecMovesSaid : Prop := execMovesRow.holds Tryz.pinned (OpenSpec.ofChange execMovesSpec)

/-- ITS FALSE NEIGHBOUR: 'it returns false'. Refute it at one input. -/
def execMovesWrong : ChangeSpec := { name := "execMoves", fn := fun _ => fun
  | [d1, d2, d3] => { results := [.lit (.bool false)], args := [d1, d2, d3] }
  | _ => none }
def ExecMovesWrongFalsely : Prop := execMovesRow.holds Tryz.pinned (OpenSpec.ofChange execMovesWrong)

/-- 'foliotlaw17.ExecAgain': WHATEVER THE INPUT: true; the input reads as it did. -/
def execAgainSpec : ChangeSpec := { name := "execAgain", fn := fun _ => fun
  | [d1, d2] => { results := [.lit (.bool true)], args := [d1, d2] }
  | _ => none }
def execAgainRow : OpenClaim := { program := "ytpnlbjnbgemocaagreat", sum := "3b64c4e433ea4bbe2a009e274c4fcee49b03d5adf80c68dfb148fb534b403d70", func := "foliot/foliotlaw17.ExecAgain", spec := "execAgain", unfollowed := true, recurses := true, apart := false }
def ExecAgainSaid : Prop := execAgainRow.holds Tryz.pinned (OpenSpec.ofChange execAgainSpec)

/-- ITS FALSE NEIGHBOUR: 'it returns false'. Refute it at one input. -/
def execAgainWrong : ChangeSpec := { name := "execAgain", fn := fun _ => fun
  | [d1, d2] => { results := [.lit (.bool false)], args := [d1, d2] }
  | _ => none }
def ExecAgainWrongFalsely : Prop := execAgainRow.holds Tryz.pinned (OpenSpec.ofChange execAgainWrong)

/-- 'foliotlaw17.ExecNone': WHATEVER THE INPUT: true; the input reads as it did. -/
def execNoneSpec : ChangeSpec := { name := "execNone", fn := fun _ => fun
  | [d] => { results := [.lit (.bool true)], args := [d] }
  | _ => none }
def execNoneRow : OpenClaim := { program := "ytpnlbjnbgemocaagreat", sum := "3b64c4e433ea4bbe2a009e274c4fcee49b03d5adf80c68dfb148fb534b403d70", func := "foliot/foliotlaw17.ExecNone", spec := "execNone", unfollowed := true, recurses := true, apart := false }
def ExecNoneSaid : Prop := execNoneRow.holds Tryz.pinned (OpenSpec.ofChange execNoneSpec)

/-- ITS FALSE NEIGHBOUR: 'it returns false'. Refute it at one input. -/
def execNoneWrong : ChangeSpec := { name := "execNone", fn := fun _ => fun
  | [d] => { results := [.lit (.bool false)], args := [d] }
  | _ => none }
def ExecNoneWrongFalsely : Prop := execNoneRow.holds Tryz.pinned (OpenSpec.ofChange execNoneWrong)

/- THE SECOND FORM. 'bulk': how many values and letters a reading holds, each counted each time it is reached (what is shared counts as often as it is met; a slice's spare places count too). A statement '..UptoSaid' is the law's where the arguments, and the package variables that the reading takes, are together of bulk at most 1048576: NARROWER than '..Said'. Prove '..Said' where nothing that the law and all that it calls make is longer than what came in: it says more and counts as full. Else prove '..UptoSaid'. A law counts once. -/
mutual
def uptoBulk {H : Type} : DataW H → Nat
  | .lit (.string bytes) => bytes.length + 1
  | .lit _ => 1
  | .nil => 1
  | .ptr d => uptoBulk d + 1
  | .slice elems spare => uptoBulkAll elems + uptoBulkAll spare + 1
  | .agg parts => uptoBulkAll parts + 1
  | .iface _ d => uptoBulk d + 1
  | .map entries => uptoBulkEntries entries + 1
  | .held _ => 1
def uptoBulkAll {H : Type} : List (DataW H) → Nat
  | [] => 0
  | d :: r => uptoBulk d + uptoBulkAll r
def uptoBulkEntries {H : Type} : List (Lit × DataW H) → Nat
  | [] => 0
  | x :: r => uptoBulkEntry x + uptoBulkEntries r
def uptoBulkEntry {H : Type} : Lit × DataW H → Nat
  | (.string bytes, d) => bytes.length + uptoBulk d + 1
  | (_, d) => uptoBulk d + 1
 end
def uptoSmall : (H : Type) → List (DataW H) → Bool := fun _ ds => decide (uptoBulkAll ds ≤ 1048576)
def OpenSpec.upto (s : _root_.Go.ChangeSpec) : _root_.Go.OpenSpec := { _root_.Go.OpenSpec.ofChange s with cond := some uptoSmall }

/-- 'foliotlaw17.ExecStill', WHERE WHAT IT READS IS OF BULK AT MOST 1048576: true; the input reads as it did. -/
def execStillUptoRow : OpenClaim := { program := "ytpnlbjnbgemocaagreat", sum := "3b64c4e433ea4bbe2a009e274c4fcee49b03d5adf80c68dfb148fb534b403d70", func := "foliot/foliotlaw17.ExecStill", spec := "execStill", unfollowed := true, recurses := true, apart := false, narrowed := true }
def ExecStillUptoSaid : Prop := execStillUptoRow.holds Tryz.pinned (OpenSpec.upto execStillSpec)

/-- 'foliotlaw17.ExecMoves', WHERE WHAT IT READS IS OF BULK AT MOST 1048576: true; the input reads as it did. -/
def execMovesUptoRow : OpenClaim := { program := "ytpnlbjnbgemocaagreat", sum := "3b64c4e433ea4bbe2a009e274c4fcee49b03d5adf80c68dfb148fb534b403d70", func := "foliot/foliotlaw17.ExecMoves", spec := "execMoves", unfollowed := true, recurses := true, apart := false, narrowed := true }
def ExecMovesUptoSaid : Prop := execMovesUptoRow.holds Tryz.pinned (OpenSpec.upto execMovesSpec)

/-- 'foliotlaw17.ExecAgain', WHERE WHAT IT READS IS OF BULK AT MOST 1048576: true; the input reads as it did. -/
def execAgainUptoRow : OpenClaim := { program := "ytpnlbjnbgemocaagreat", sum := "3b64c4e433ea4bbe2a009e274c4fcee49b03d5adf80c68dfb148fb534b403d70", func := "foliot/foliotlaw17.ExecAgain", spec := "execAgain", unfollowed := true, recurses := true, apart := false, narrowed := true }
def ExecAgainUptoSaid : Prop := execAgainUptoRow.holds Tryz.pinned (OpenSpec.upto execAgainSpec)

/-- 'foliotlaw17.ExecNone', WHERE WHAT IT READS IS OF BULK AT MOST 1048576: true; the input reads as it did. -/
def execNoneUptoRow : OpenClaim := { program := "ytpnlbjnbgemocaagreat", sum := "3b64c4e433ea4bbe2a009e274c4fcee49b03d5adf80c68dfb148fb534b403d70", func := "foliot/foliotlaw17.ExecNone", spec := "execNone", unfollowed := true, recurses := true, apart := false, narrowed := true }
def ExecNoneUptoSaid : Prop := execNoneUptoRow.holds Tryz.pinned (OpenSpec.upto execNoneSpec)

end Rows
end Go.Proofs.YtpnlbjnbgemocaaGreat
