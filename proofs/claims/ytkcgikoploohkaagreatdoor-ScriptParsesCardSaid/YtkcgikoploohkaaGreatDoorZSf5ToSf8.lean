import Derived.Test.YtkcgikoploohkaaGreatDoorZSf4
import Derived.Lib.ItoaLen
import Derived.Deep.DeepCutAuto
import Derived.Laws.EntriesVeiled
import Derived.ProofKit
import Derived.OpenShut
import Derived.ShutString
import Derived.ChangeOld
import Derived.Deep.Slices
import Derived.Deep.Fields
import Derived.Deep.Matrix
import Derived.Lib.SmallJoins
import Derived.SizedLaws
import Derived.Shelf.Vars
import Derived.Stop.LaidErr
import Derived.Lib.LaidTab
import Derived.Lib.LaidU8
import Derived.MakeChecks
import Derived.HandedShaped
import Derived.Lay
namespace Go.Proofs.YtkcgikoploohkaaGreatDoor
set_option linter.unusedVariables false
set_option linter.unusedSimpArgs false
set_option maxRecDepth 100000
open Go.RowKit Go.Shelf Nums
theorem cutL_app {c : UInt8} : ∀ (l rest : List UInt8),(∀ b∈l,b≠c)→cutL c (l ++ c :: rest) = some (l,rest)
  | [],rest,_ => cutL_hit rest rfl
  | b :: l,rest,h => by
    rw [List.cons_append,cutL_miss _ (h b (List.mem_cons_self ..)),cutL_app l rest (fun x hx => h x (List.mem_cons_of_mem _ hx))]
    rfl
theorem cutL_free {c : UInt8} : ∀ (l : List UInt8),(∀ b∈l,b≠c)→cutL c l = none
  | [],_ => rfl
  | b :: l,h => by
    rw [cutL_miss _ (h b (List.mem_cons_self ..)),cutL_free l (fun x hx => h x (List.mem_cons_of_mem _ hx))]
    rfl
end Go.Proofs.YtkcgikoploohkaaGreatDoor
namespace Go.Proofs.YtkcgikoploohkaaGreatDoor
set_option linter.unusedVariables false
set_option linter.unusedSimpArgs false
set_option maxRecDepth 100000
open Go.RowKit Go.Shelf Nums
end Go.Proofs.YtkcgikoploohkaaGreatDoor
namespace Go.Proofs.YtkcgikoploohkaaGreatDoor
set_option linter.unusedVariables false
set_option linter.unusedSimpArgs false
set_option maxRecDepth 100000
open Go.ChangeShapes Go.WideShapes Go.ChangeAt Go.RowKit Nums Go.Joins
def Tr (w : World) (t : TypeId) (cs : List Value) : Prop :=
  ∃ (H : Type) (enc : TypeId × Value→H) (base : Nat) (spare : Nat→Bool) (held : Bool) (fuel : Nat) (x : DataW H × List MemPlace),DataW.trod enc Tryz.prog w base spare held fuel t cs = some x∧∀ n∈x.1.weights Tryz.prog t,n≤reachBytes
theorem weights_all {H : Type} {P : Program} {e : TypeId} : ∀ {l : List (DataW H)} {d : DataW H},d∈l→∀ n∈d.weights P e,n∈DataW.weightsAll P e l
  | x :: l,d,h,n,hn => by
    simp only [DataW.weightsAll,List.mem_append]
    rcases List.mem_cons.1 h with rfl | h
    · exact Or.inl hn
    · exact Or.inr (weights_all h n hn)
theorem Tr.int {w : World} {t : TypeId} {k : IntKind} {cs : List Value} (ht : Tryz.prog.underlying t = some (.int k)) (h : Tr w t cs) : ∃ n,cs = [.int k n]∧(Lit.int k n).wf = true := by
  obtain ⟨H,enc,base,spare,held,fuel,x,h,_⟩ := h
  obtain ⟨n,h1,_,h2⟩ := DataW.trod_int ht h
  exact ⟨n,h1,h2⟩
theorem Tr.i64 {w : World} {t : TypeId} {cs : List Value} (ht : Tryz.prog.underlying t = some (.int .i64)) (h : Tr w t cs) : ∃ n : Int,cs = [.int .i64 n]∧-9223372036854775808≤n∧n≤9223372036854775807 := by
  obtain ⟨n,h1,w1⟩ := h.int ht
  refine ⟨n,h1, ?_⟩
  simp only [Lit.wf,IntKind.min,IntKind.max,IntKind.signed,IntKind.bits,Bool.and_eq_true,decide_eq_true_eq,if_true] at w1
  omega
theorem Tr.u32 {w : World} {t : TypeId} {cs : List Value} (ht : Tryz.prog.underlying t = some (.int .u32)) (h : Tr w t cs) : ∃ n : Nat,cs = [.int .u32 (n : Int)]∧n < 4294967296 := by
  obtain ⟨n,h1,w1⟩ := h.int ht
  simp [Lit.wf,IntKind.min,IntKind.max,IntKind.signed,IntKind.bits,Bool.and_eq_true,decide_eq_true_eq] at w1
  exact ⟨n.toNat,by rw [h1,Int.toNat_of_nonneg w1.1],by omega⟩
theorem Tr.bool {w : World} {t : TypeId} {cs : List Value} (ht : Tryz.prog.underlying t = some .bool) (h : Tr w t cs) : ∃ b,cs = [.bool b] := by
  obtain ⟨H,enc,base,spare,held,fuel,x,h,_⟩ := h
  obtain ⟨b,h1,_⟩ := DataW.trod_bool ht h
  exact ⟨b,h1⟩
theorem pick {α : Type} (n : Nat) (Q : Nat→α→Prop) (h : ∀ i,i < n→∃ x,Q i x) : ∃ xs : List α,xs.length = n∧∀ i x,xs[i]? = some x→Q i x := by
  induction n with
  | zero => exact ⟨[],rfl,fun i x h => by simp at h⟩
  | succ n ih =>
    obtain ⟨xs,h1,h2⟩ := ih fun i hi => h i (by omega)
    obtain ⟨x,hx⟩ := h n (by omega)
    refine ⟨xs ++ [x],by simp [h1],fun i y hy => ?_⟩
    rcases Nat.lt_or_ge i n with q | q
    · rw [List.getElem?_append_left (by omega)] at hy;exact h2 i y hy
    · rw [List.getElem?_append_right (by omega),h1] at hy
      have : i = n := by
        rcases Nat.lt_or_ge n i with r | r
        · rw [List.getElem?_eq_none (by simp;omega)] at hy;cases hy
        · omega
      subst this
      simp at hy;subst hy;exact hx
theorem Tr.slice {w : World} {t e : TypeId} {cs : List Value} (sz : Nat) (ht : Tryz.prog.underlying t = some (.slice e)) (hsz : Tryz.prog.cellsOf e = sz) (h0 : 0 < sz) (h : Tr w t cs) :
    ∃ (a : Option Addr) (n c : Nat),cs = [.slice a n c]∧n≤c∧c≤maxLen∧(a = none→c = 0)∧n * Tryz.prog.bytesOf e≤reachBytes∧∃ b off,(a = some ⟨b,off,none⟩∨n≤0)∧∀ i,i < n→b < w.heap.size∧∃ ds,(∀ j,j < sz→w.cell? ⟨b,off + i * sz + j,none⟩ = ds[j]?)∧ds.length = sz∧Tr w e ds := by
  obtain ⟨H,enc,base,spare,held,fuel,x,h,hz⟩ := h
  subst hsz
  rcases Go.Deep.open_slice ht h with ⟨h1,_⟩ | ⟨a,len,cap,m,k,D,Pl,hcs,hb,hl,hm,hmm,hx,hi⟩
  · exact ⟨none,0,0,h1,Nat.le_refl _,Nat.zero_le _,fun _ => rfl,by simp,0,0,.inr (Nat.le_refl _),fun i hi => by omega⟩
  · subst hx
    simp only [DataW.weights,ht,List.mem_cons,List.mem_append,forall_eq_or_imp] at hz
    obtain ⟨hz0,hz1⟩ := hz
    have hzb : len * Tryz.prog.bytesOf e≤reachBytes := Nat.le_trans (Nat.mul_le_mul_right _ (by simp)) hz0
    refine ⟨some a,len,cap,hcs,hl,hm,(fun h => by cases h),hzb, ?_⟩
    have hlm : len≤m := by rw [hmm];split <;> omega
    by_cases h0' : 0 < len
    · obtain ⟨b,off,spot⟩ := a
      have hspot : spot = none := by
        obtain ⟨ds,h1,h2⟩ := hi 0 (by omega)
        obtain ⟨_,hl1,hc⟩ := World.cells?_some h1
        have := hc 0 h0
        have hd : ds[0]? = some (ds[0]'(by omega)) := List.getElem?_eq_getElem (by omega)
        rw [hd] at this
        simpa [Addr.add] using World.cell?_spot this
      subst hspot
      refine ⟨b,off,.inl rfl,fun i hil => ?_⟩
      obtain ⟨ds,h1,h2⟩ := hi i (by omega)
      obtain ⟨_,hl1,hc⟩ := World.cells?_some h1
      have hc' : ∀ j,j < Tryz.prog.cellsOf e→w.cell? ⟨b,off + i * Tryz.prog.cellsOf e + j,none⟩ = ds[j]? := fun j hj => by
        have := hc j hj
        rw [Go.Deep.add_add,Go.WideShapes.add_plain,←Nat.add_assoc] at this
        exact this
      refine ⟨?_,ds,hc',hl1,H,enc,base,spare,held,k,_,h2,fun q hq => hz1 q (Or.inl (weights_all (List.mem_map.2 ⟨i,List.mem_range.2 hil,rfl⟩) q hq))⟩
      have := hc' 0 h0
      rw [List.getElem?_eq_getElem (by omega : 0 < ds.length)] at this
      exact World.block_lt_of_cell? w ⟨b,_,none⟩ this
    · exact ⟨0,0,.inr (by omega),fun i hi => by omega⟩
end Go.Proofs.YtkcgikoploohkaaGreatDoor
namespace Go.Proofs.YtkcgikoploohkaaGreatDoor
set_option linter.unusedVariables false
set_option linter.unusedSimpArgs false
set_option maxRecDepth 100000
open Go.ChangeShapes Go.WideShapes Go.ChangeAt Go.RowKit Nums Go.Joins
theorem star : "*" ++ "errors.errorString" = "*errors.errorString" := by decide
theorem esName (u : TypeId) (h : Tryz.prog.typeName? 3 u = some "*errors.errorString") : u = 209 :=
  typeName_ptr_named (nm := "errors.errorString") (by rw [star]; kernel_rfl) (by kernel_rfl) (by decide) u (by rw [star]; exact h)
theorem block_of_var {P : Program} {w : World} {n : String} {g : Nat} {cs : Array Value} (hg : P.globalNamed n = some g) (h : w.var? P n = some cs) : g < w.heap.size := by
  unfold World.var? at h
  simp only [hg,Option.bind_some] at h
  rcases Nat.lt_or_ge g w.heap.size with h' | h'
  · exact h'
  · simp [Array.getElem?_eq_none h'] at h
theorem gl_of {w : World} (hs : w.ShapedOpen Tryz.prog) (hL : laidMet Tryz.prog Rows.scriptBackRow.laid w) : Gl w := by
  have h3 := hL.tail.tail
  have h6 := hL.tail.tail.tail.tail.tail
  have i0 : ((begin Tryz.prog (fun _ _ => 0) default).world.heap[1]?).bind Obj.row? = some (#[.int .i64 0],3) := by kernel_rfl
  have i1 : Tryz.prog.cellTypes Tryz.prog.depth 3 = some [3] := by kernel_rfl
  have i2 : Tryz.prog.buildable 3 = true := by kernel_rfl
  have i3 : 1 < Tryz.prog.globals.size := of_decide_eq_true (by kernel_rfl)
  refine ⟨?_, ?_, ?_, ?_⟩
  · exact cell_of_shapedOpen_int (g := 1) (t := 3) (zero := #[.int .i64 0]) (k := .i64) hs i3 i0 rfl i2 i1 Tryz.underlying3
  · obtain ⟨a0,s0,hv0,-,-,-⟩ := laid_sentinel (ti := 71) (tp := 209) (te := 211) (ts := 9) h6 (g := 2) (by kernel_rfl) (by kernel_rfl) Tryz.underlying71 esName Tryz.underlying209 Tryz.underlying211 rfl rfl Tryz.underlying9 (by kernel_rfl) (by kernel_rfl)
    have hg : Tryz.prog.globalNamed "strconv.ErrSyntax" = some 2 := by kernel_rfl
    exact ⟨_,_,by simpa using World.var?_cell hg hv0 0⟩
  · exact Lib.tabIs_of_head (g := 4) (t := 199) (e := 87) (n := 20) (k := .u64) (zs := Lib.pow10Tab) (by kernel_rfl) (by kernel_rfl) (by kernel_rfl) (by kernel_rfl) (by kernel_rfl) (by kernel_rfl) h3
  · obtain ⟨g, t, cs, fuel, p, hg, -, hv, -⟩ := Lib.laidMet.reads hL (n := "math/bits.deBruijn64tab") (d := Rows.laid_math_bits_deBruijn64tab) (by simp [Rows.scriptBackRow])
    have hg' : Tryz.prog.globalNamed "math/bits.deBruijn64tab" = some 8 := by kernel_rfl
    exact block_of_var hg' hv
theorem handed_laid {H : Type} {enc : TypeId × Value→H} {a : Assume} {C : Checked} {os : Os} {f : FuncId} {fn : Func} {s : ChangeSpec} {conds : List PathCond} {apart fresh handsOn again : Bool} {X : World→Array Value→Prop}
    (hX : ∀ (w w' : World) (args : Array Value),w.heap = w'.heap→X w args→X w' args)
    (own : ownKnob C.prog.godebug = none) (started : os.Started) (noInit : C.prog.inits.idxOf? f = none) (hfn : C.prog.funcs[f]? = some fn)
    (witness : ∃ (w : World) (tape : Tape) (i : Input),w.os = os∧(w.forCall tape i).Shaped C.prog∧i.vars = []∧Input.okWide C.prog (w.forCall tape i) .any w.heap.size f i ∧
      ((s.pre enc C.prog fn conds apart (w.forCall tape i).memory i.args∧X (w.forCall tape i).memory i.args)∧sizedMet enc C.prog fn (OpenSpec.ofChange s) apart (w.forCall tape i).memory i.args)∧a.holds C.prog (lone (Frame.enter C.prog f i.args .normal) [] (w.forCall tape i)))
    (contract : ∀ (W : World) (base : Nat) (args : Array Value) (ds gs : List (DataW H)) (before : List MemPlace),
      (∀ (j : Nat) t v,fn.params[j]? = some t→args[j]? = some v→Value.okWide C.prog W .any base t v) →
      DataW.Whole enc C.prog fn.params.toList s.vars apart W args.toList ds gs before →
      (DataW.weightsEach C.prog (fn.params.toList ++ s.plain.varTypes C.prog) (ds ++ gs)).all (·≤reachBytes) = true→W.ShapedOpen C.prog→X W args →
      Calls C.prog f args W fun e W' => ∃ v,e = .returned v∧s.post enc C.prog fn apart fresh handsOn again W args v W') :
    ReturnsInHanded a C os f .any (fun w args => (s.pre enc C.prog fn conds apart w args∧X w args)∧sizedMet enc C.prog fn (OpenSpec.ofChange s) apart w args) (s.post enc C.prog fn apart fresh handsOn again) := by
  refine returnsInHanded_of_calls own started noInit witness ?_
  intro w tape i _ hsh _ hok hpre hholds
  obtain ⟨_,_,_,fn',hfn',_,_,_,_,hval⟩ := hok
  have e : fn' = fn := Option.some.inj (hfn'.symm.trans hfn)
  subst e
  obtain ⟨⟨⟨ds,gs,before,hw,hc⟩,hx⟩,hz⟩ := hpre
  have hw' := DataW.Whole.of_heap (w' := w.forCall tape i) (by rfl) hw
  refine (contract (w.forCall tape i) w.heap.size i.args ds gs before hval hw' (hz.weights hw) hsh (hX _ _ _ (by rfl) hx)).mono fun e W' ⟨v,he,hp⟩ => ?_
  subst he
  exact ChangeSpec.post_blind hp
end Go.Proofs.YtkcgikoploohkaaGreatDoor
