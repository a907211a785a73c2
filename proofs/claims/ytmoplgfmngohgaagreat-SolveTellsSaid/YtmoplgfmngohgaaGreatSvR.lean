/- A loop over a function value, by one contract of that function. -/
import Derived.Test.YtmoplgfmngohgaaGreatProg
import Derived.RangeFuncBox
import Derived.RangeFuncNested
import Derived.RangeFuncBound
import Derived.RangeFuncCalls
import Derived.RangeFuncLeaves
import Derived.RangeFuncWrites
namespace Go.Proofs.YtmoplgfmngohgaaGreat
open Go.RowKit
variable {F : Fence} {n : Nat} {P : Program}

/-- the record of a loop over a function, as its rounds find it -/
def loopRec (fn : FuncId) (tmps : Array Value) (ps : Array Tmp) (assign body : Code) (D : Nat) (st : LoopState) : Loop :=
  { state := st, pending := none, fn := fn, tmps := tmps, params := ps, assign := assign, body := body, defers := D }

/-- a loop over a function value whose rounds all go on: by one contract of that function, told where the record lies -/
theorem range_calls {g : Operand} {ps : Array Tmp} {assign body : Code} {Q : Exit → Act → World → Prop} {a : Act} {w : World} (hro : F.round = none) (h1 : 1 ≤ n) {gf : Nat} {lb : Array Value}
    (hg : a.eval g = .func (.func gf) #[] lb) (hF : F.fn gf) (eg : ∀ args w, (callFunc gf args).run P w = .ok (.enter gf args) w)
    (hcall : ∀ fn, F.fn fn → ∀ R, R = loopRec fn a.tmps ps assign body w.heap.size → CallsIn F (n - 1) P gf (#[.func (.yield (w.heap.size + 1)) #[] #[]] ++ lb) ((w.alloc (.deferred (some []))).alloc (.loop (R .ready)))
      fun e W => (∃ v, e = .returned v) ∧ W.heap[w.heap.size + 1]? = some (.loop (R .ready)) ∧
        Q .normal { a with defers := { target := .collected w.heap.size, args := #[] } :: a.defers } (W.putObj (w.heap.size + 1) (.loop (R .exhausted)))) :
    (Code.rangeFunc g ps assign body).wpIn F n P Q a w := by
  apply wpIn_rangeFunc
  intro fn hfn
  have hc := hcall fn hfn _ rfl
  have he : (Instr.enterLoop fn a.tmps ps assign body F.round).run P w = .ok (w.heap.size + 1, [{ target := .collected w.heap.size, args := #[] }]) ((w.alloc (.deferred (some []))).alloc (.loop (loopRec fn a.tmps ps assign body w.heap.size .ready))) := by rw [hro]; exact run_enterLoop_outer _ _ _ _ _
  generalize (w.alloc (.deferred (some []))).alloc (.loop (loopRec fn a.tmps ps assign body w.heap.size .ready)) = W1 at he hc
  refine ⟨_, _, W1, { target := .fn (.func gf) lb, args := #[.func (.yield (w.heap.size + 1)) #[] #[]] }, W1, gf, #[.func (.yield (w.heap.size + 1)) #[] #[]] ++ lb, W1, he, ?_, ?_, ?_, fun _ => h1, ?_⟩
  · simp only [resolve, hg]; simp [go_sem]
  · intro f h; simp [Target.leads] at h; exact h ▸ hF
  · simp [invoke, go_sem, eg]
  · refine hc.mono ?_
    rintro e W ⟨⟨v, rfl⟩, hl, hq⟩
    exact ⟨none, _, run_endLoop hl (by simp [loopRec]), hq⟩

/-- one round that goes on -/
theorem round_on {m l : Nat} {fn : FuncId} (hfn : F.fn fn) {tmps0 : Array Value} {ps : Array Tmp} {assign body : Code} {D : Nat} {args : Array Value} {R : LoopState → Loop} (hR : R = loopRec fn tmps0 ps assign body D) (hs : args.size = ps.size) {W : World} {T : Ending → World → Prop}
    (hl : W.heap[l]? = some (.loop (R .ready)))
    (h : assign.wpIn (F.inRound l) m P (Exit.then (fun a1 W1 => W1.heap[l]? = some (.loop (R .ready)) ∧
        body.wpIn (F.inRound l) m P (Exit.then (fun _ W2 => W2.heap[l]? = some (.loop (R .busy)) ∧ T (.returned (.bool true)) (W2.putObj l (.loop (R .ready)))) (fun _ _ _ => False)) a1
          (W1.putObj l (.loop (R .busy)))) (fun _ _ _ => False))
      { tmps := (ps.zip args).foldl (fun t (p, v) => t.setIfInBounds p v) tmps0, defers := [] } W) :
    YieldAt F m P l args W T := by
  subst hR
  refine ⟨fn, _, assign, body, run_yield hl hs, roundIn_of_wpIn hfn (wpIn_mono h ?_)⟩
  intro e a1 W1 hp
  cases e with
  | normal =>
    obtain ⟨hl1, hb⟩ := hp
    refine ⟨_, run_beginRound hl1 rfl, wpIn_mono hb ?_⟩
    intro e2 a2 W2 hp2
    cases e2 with
    | normal => exact ⟨_, _, run_endRound none hp2.1, hp2.2⟩
    | ret => exact hp2.elim
    | exit id => exact hp2.elim
    | goto t => exact hp2.elim
    | panic ch => exact hp2.elim
    | outgrown => exact hp2.elim
  | ret => exact hp.elim
  | exit id => exact hp.elim
  | goto t => exact hp.elim
  | panic ch => exact hp.elim
  | outgrown => exact hp.elim
end Go.Proofs.YtmoplgfmngohgaaGreat
