import Derived.Test.YtpnlbjnbgemocaaGreatZQH
import Derived.Test.YtpnlbjnbgemocaaGreatZQD
import Derived.Deep.RegionHeld3
namespace Go.Proofs.YtpnlbjnbgemocaaGreat
set_option linter.unusedVariables false
set_option linter.unusedSimpArgs false
set_option maxRecDepth 100000
open Go.RowKit Nums
end Go.Proofs.YtpnlbjnbgemocaaGreat
