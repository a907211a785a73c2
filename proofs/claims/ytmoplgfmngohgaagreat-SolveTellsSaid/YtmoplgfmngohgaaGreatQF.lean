/- Parse of an integer text; the errors of parts. -/
import Derived.Test.YtmoplgfmngohgaaGreatQE
import Derived.Deep.DeepCutAuto
import Derived.Deep.RegionHeld3
namespace Go.Proofs.YtmoplgfmngohgaaGreat
set_option linter.unusedVariables false
set_option linter.unusedSimpArgs false
set_option maxRecDepth 100000
open Go.RowKit Nums

theorem ratRes_sink {E : Int} {P : Shape} {w : World} {e : Ending} {w' : World} {s : Bool} {a b : Option Addr} {n c m d : Nat} {xs ys : List Nat} (he : e = .returned (.tuple #[.agg #[.bool s, .slice a n c, .slice b m d], .int .i64 E])) (hp : P s n m xs ys) (h1 : Row w' a n c xs) (h2 : Row w' b m d ys) (hb : Below w.heap.size w w') : RatRes E P w e w' := ⟨s, a, n, c, b, m, d, xs, ys, he, hp, h1, h2, hb⟩

end Go.Proofs.YtmoplgfmngohgaaGreat
/- What parseQuotient tells. -/
namespace Go.Proofs.YtmoplgfmngohgaaGreat
set_option linter.unusedVariables false
set_option linter.unusedSimpArgs false
set_option maxRecDepth 100000
open Go.RowKit Nums

end Go.Proofs.YtmoplgfmngohgaaGreat
/- What parseDecimal tells. -/
namespace Go.Proofs.YtmoplgfmngohgaaGreat
set_option linter.unusedVariables false
set_option linter.unusedSimpArgs false
set_option maxRecDepth 100000
open Go.RowKit Nums

theorem signed_prefix {s t : ByteArray} {neg : Bool} (h : Signed s neg t) : Lib.hasPrefix s.data.toList [45] = neg := by
  rcases h with ⟨rfl, h⟩ | ⟨rfl, rfl, h⟩
  · rw [h]; simp [Lib.hasPrefix]
  · cases hl : s.data.toList with
    | nil => rfl
    | cons c l =>
      rw [hl] at h
      have hc : c ≠ 45 := by simpa using h
      simp [Lib.hasPrefix, List.isPrefixOf]
      exact fun e => hc e.symm

end Go.Proofs.YtmoplgfmngohgaaGreat
