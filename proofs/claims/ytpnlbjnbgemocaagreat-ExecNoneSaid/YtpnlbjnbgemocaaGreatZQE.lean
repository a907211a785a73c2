import Derived.Test.YtpnlbjnbgemocaaGreatZQC
import Derived.Deep.DeepCutAuto
import Derived.Deep.RegionHeld3
import Derived.RegionTactic
import Derived.ChangeAlike
import Derived.Test.YtpnlbjnbgemocaaGreatZIFToEyBN4
namespace Go.Proofs.YtpnlbjnbgemocaaGreat
set_option linter.unusedVariables false
set_option linter.unusedSimpArgs false
set_option maxRecDepth 100000
open Go.RowKit Nums
end Go.Proofs.YtpnlbjnbgemocaaGreat
/- What Floor, Whole and Print tell. -/
namespace Go.Proofs.YtpnlbjnbgemocaaGreat
set_option linter.unusedVariables false
set_option linter.unusedSimpArgs false
set_option maxRecDepth 100000
open Go.RowKit Nums
theorem dec_len {N k:Nat}(h:(limbs N).length≤12)(hk:116≤k):(decStr N).size≤k:=by
  refine size_dec_le N k (by omega) (Nat.lt_of_lt_of_le (Nat.lt_of_lt_of_le (lt_pow_len N) (Nat.pow_le_pow_right (by omega) h)) ?_)
  exact Nat.le_trans (by decide) (Nat.pow_le_pow_right (by omega) hk)
theorem decI_len {Z:Int}(h:(limbs Z.natAbs).length≤12):(decI Z).size≤117:=by
  have:=dec_len (k:=116) h (by omega)
  unfold decI;split
  · rw [ByteArray.size_append];show 1+_≤_;omega
  · omega
def ratStr (q:Rat):ByteArray:=if q.den=1 then decI q.num else decI q.num++(⟨#[47]⟩++decStr q.den)
end Go.Proofs.YtpnlbjnbgemocaaGreat
/- What parseParts tells. -/
namespace Go.Proofs.YtpnlbjnbgemocaaGreat
set_option linter.unusedVariables false
set_option linter.unusedSimpArgs false
set_option maxRecDepth 100000
open Go.RowKit Nums
end Go.Proofs.YtpnlbjnbgemocaaGreat
/- What strings.Cut tells of a text and one byte; powers of ten. -/
namespace Go.Proofs.YtpnlbjnbgemocaaGreat
set_option linter.unusedVariables false
set_option linter.unusedSimpArgs false
set_option maxRecDepth 100000
open Go.RowKit Nums
end Go.Proofs.YtpnlbjnbgemocaaGreat
/- What the closure of Parse cuts; Parse of a text with / or a point, out of what its parts tell. -/
namespace Go.Proofs.YtpnlbjnbgemocaaGreat
set_option linter.unusedVariables false
set_option linter.unusedSimpArgs false
set_option maxRecDepth 100000
open Go.RowKit Nums
theorem Tri.farS {w:World}{g g' o:Nat}{u v x:Value}(h:Tri w g u v x)(hg:g'≠g)(p:Value):Tri (w.setCell ⟨g',o,none⟩ p) g u v x:=by
  obtain⟨h0,h1,h2,h3,h4,h5,h6⟩:=h
  exact⟨by rw [cell_other (by simp [hg.symm])];exact h0,by rw [cell_other (by simp [hg.symm])];exact h1,by rw [cell_other (by simp [hg.symm])];exact h2,by simpa using h3,by simpa using h4,by simpa using h5,by simpa using h6⟩
theorem Box.set1 {w:World}{g:Nat}{u v:Value}(h:Box w g u v)(p:Value):Box (w.setCell ⟨g,1,none⟩ p) g u p:=by
  obtain⟨h0,h1,h2,h3,h4⟩:=h
  exact⟨by rw [cell_other (by simp)];exact h0,cell_here h1,by simpa using h2,by simpa using h3,by simpa using h4⟩
end Go.Proofs.YtpnlbjnbgemocaaGreat
