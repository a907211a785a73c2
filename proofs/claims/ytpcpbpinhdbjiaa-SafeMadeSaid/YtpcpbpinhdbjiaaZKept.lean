/- What kept tells: the variables that are needed behind all. No condition but bounds. -/
import Derived.Test.YtpcpbpinhdbjiaaZPlC
namespace Go.Proofs.Ytpcpbpinhdbjiaa
set_option linter.unusedVariables false
set_option linter.unusedSimpArgs false
set_option maxRecDepth 100000
open Go.RowKit

/-- what kept tells -/
def KeptPost (f : FlatM) (w : World) (e : Ending) (w' : World) : Prop := ∃ v, e = .returned v ∧ Own w' w.heap.size v (endL f) ∧ Below w.heap.size w w'

end Go.Proofs.Ytpcpbpinhdbjiaa
