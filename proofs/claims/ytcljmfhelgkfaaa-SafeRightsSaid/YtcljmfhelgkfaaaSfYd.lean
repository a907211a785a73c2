/- What cross of the answer tells. No condition but bounds. -/
import Derived.Test.YtcljmfhelgkfaaaSfYa
import Derived.Test.YtcljmfhelgkfaaaSfYb
import Derived.Test.YtcljmfhelgkfaaaSfYc
import Derived.Deep.RegionWith
import Derived.Deep.RegionHeld3
import Derived.Deep.DeepCutAuto
namespace Go.Proofs.Ytcljmfhelgkfaaa
set_option linter.unusedVariables false
set_option linter.unusedSimpArgs false
set_option maxRecDepth 100000
open Go.RowKit

theorem cross6_t (B : Nat) (c : CodeM) (v : CodeV) (w : World) (h : CodeIs w B c v) (hB : B ≤ w.heap.size) (hok : OkS c v.step.2.1) (k : Nat) (hup : k ≤ v.cross.2.1) (x : InsP) (hx : c.cross[k]? = some x) (hsz : x.args.length ≤ 20 ∧ x.resets.length ≤ 20) : Calls Try.prog 26 #[.agg #[.int .i64 c.ins, .int .i64 c.outs, .int .i64 c.slots, .int .i64 c.crosses, .int .i64 c.lines, .slice v.mems.1 v.mems.2.1 v.mems.2.2, .slice v.conts.1 v.conts.2.1 v.conts.2.2, .slice v.step.1 v.step.2.1 v.step.2.2, .slice v.deriv.1 v.deriv.2.1 v.deriv.2.2, .slice v.cross.1 v.cross.2.1 v.cross.2.2], .int .i64 (k : Nat)] w fun e w' => e = .returned (.bool (crB c (wTo c.step) (lTo (c.cross.take k)) x)) ∧ Below w.heap.size w w' := by
  by_cases h0 : x.resets.length = 0
  · cases hg : gdB c.slots (wTo c.step) x.guard with
    | false => exact x6_2 B c v w h hB hok k hup x hx hsz h0 hg
    | true =>
    by_cases q3 : x.op = bs [97, 115, 107]
    · exact x6_ask B c v w h hB hok k hup x hx hsz h0 hg q3
    cases hin : inB x.dst c.lines with
    | false => exact x6_3 B c v w h hB hok k hup x hx hsz h0 hg q3 hin
    | true =>
    by_cases q0 : x.op = bs [108, 99, 111, 110, 116]
    · exact x6_lcont B c v w h hB hok k hup x hx hsz h0 hg hin q0
    by_cases q1 : x.op = bs [108, 118, 97, 114]
    · exact x6_lvar B c v w h hB hok k hup x hx hsz h0 hg hin q1
    by_cases q2 : x.op = bs [108, 110, 101, 103]
    · exact x6_lneg B c v w h hB hok k hup x hx hsz h0 hg hin q2
    by_cases q4 : x.op = bs [108, 43]
    · exact x6_add B c v w h hB hok k hup x hx hsz h0 hg hin q4
    by_cases q5 : x.op = bs [108, 45]
    · exact x6_sub B c v w h hB hok k hup x hx hsz h0 hg hin q5
    by_cases q6 : x.op = bs [108, 42]
    · exact x6_mul B c v w h hB hok k hup x hx hsz h0 hg hin q6
    by_cases q7 : x.op = bs [108, 47]
    · exact x6_div B c v w h hB hok k hup x hx hsz h0 hg hin q7
    by_cases q8 : x.op = bs [108, 115, 101, 108]
    · exact x6_lsel B c v w h hB hok k hup x hx hsz h0 hg hin q8
    exact x6_n B c v w h hB hok k hup x hx hsz h0 hg hin q0 q1 q2 q3 q4 q5 q6 q7 q8
  · exact x6_1 B c v w h hB hok k hup x hx hsz h0

end Go.Proofs.Ytcljmfhelgkfaaa
