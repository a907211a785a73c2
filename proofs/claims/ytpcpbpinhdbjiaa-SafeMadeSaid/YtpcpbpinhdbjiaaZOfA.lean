/- Plain parts of plans: last places, slots by variable, what a right plan is. No condition. -/
import Derived.Test.YtpcpbpinhdbjiaaZLoMToPlanM
import Derived.Test.YtpcpbpinhdbjiaaZLivMToLstM
import Derived.Test.YtpcpbpinhdbjiaaZKept
import Derived.Test.YtpcpbpinhdbjiaaZHpMToHpK
import Derived.BigRegion
import Derived.Test.YtpcpbpinhdbjiaaZCnA
import Derived.Test.YtpcpbpinhdbjiaaZCdAToCdE
import Derived.Deep.RegionHeld3
import Derived.Laws.ResultCell
import Derived.Laws.Rows
import Derived.Deep.DeepCutAuto
namespace Go.Proofs.Ytpcpbpinhdbjiaa
set_option linter.unusedVariables false
set_option linter.unusedSimpArgs false
set_option maxRecDepth 100000
open Go.RowKit Gr

def LaIs (la : Nat → Nat) (n : Nat) (lv : List Int) : Prop := lv.length = n * 2 ∧ ∀ v, v < n → lv.getD (v * 2 + 1) 0 = (la v : Int)
def OutI (o : List Int) (n i : Nat) (sls : List Nat) (xs : List Int) : Prop := xs.length = n ∧ ∀ k, k < i → ∀ v : Nat, o.getD k 0 = (v : Int) → xs.getD v 0 = (sls.getD k 0 : Nat)
theorem OutI.add {o : List Int} {n i v s : Nat} {sls : List Nat} {xs : List Int} (h : OutI o n i sls xs) (ho : Once o n) (hi : i < n) (hl : sls.length = i) (hv : o.getD i 0 = (v : Int)) (hvn : v < n) : OutI o n (i + 1) (sls ++ [s]) (xs.set v (s : Int)) := by
  refine ⟨by rw [List.length_set]; exact h.1, fun k hk u hu => ?_⟩
  rw [getD_set _ _ _ _ (by rw [h.1]; exact hvn), getD_snoc]
  by_cases e : k = i
  · subst e
    have : u = v := by rw [hv] at hu; omega
    rw [if_pos this, if_neg (by omega), if_pos hl.symm]
  · have : u ≠ v := fun q => e (nd_inj ho.nd (by rw [ho.len]; omega) (by rw [ho.len]; omega) (by rw [hu, hv, q]))
    rw [if_neg this, if_pos (by omega)]
    exact h.2 k (by omega) u hu
def Lpl (la : Nat → Nat) (o : List Int) (i : Nat) : Nat := la (o.getD i 0).toNat
theorem lst_once {G : List (List Int)} {out : List Nat} {n : Nat} (h : IsLst G out) (hl : out.length = n) (hG : G.length = n) : Once (ints out) n where
  len := by rw [ints_len]; exact hl
  pl := fun x hx => by
    obtain ⟨y, hy, rfl⟩ := List.mem_map.1 hx
    have := h.lt y hy
    omega
  nd := intsN_nd _ h.nd
/-- the last places as plain numbers -/
def laF (f : FlatM) (o : List Int) (v : Nat) : Nat := (lastV (gOf f) (endB f) o v).toNat
theorem lastTo_ge (G : List (List Int)) (o : List Int) (x : Nat) : ∀ k, plc o (x : Int) ≤ lastTo G o x k
  | 0 => Int.le_refl _
  | k + 1 => by
    have := lastTo_ge G o x k
    unfold lastTo
    split <;> omega
theorem lastV_ge {f : FlatM} {o : List Int} {n v : Nat} (ho : Once o n) (hv : v < n) : plc o (v : Int) ≤ lastV (gOf f) (endB f) o v := by
  obtain ⟨i, hi, e1, e2⟩ := ho.plc hv
  unfold lastV
  split
  · rw [e1, ho.len]; omega
  · exact lastTo_ge _ _ _ _
theorem laF_eq {f : FlatM} {o : List Int} {n v : Nat} (ho : Once o n) (hv : v < n) : (laF f o v : Int) = lastV (gOf f) (endB f) o v := by
  obtain ⟨i, hi, e1, e2⟩ := ho.plc hv
  have := lastV_ge (f := f) ho hv
  unfold laF
  omega
theorem Lives.la {f : FlatM} {o : List Int} {n : Nat} {xs : List Int} (h : Lives f o n xs) (ho : Once o n) : LaIs (laF f o) n xs :=
  ⟨h.len, fun v hv => by rw [h.lst v hv, laF_eq ho hv]⟩
theorem lpl_ge {f : FlatM} {o : List Int} {n : Nat} (ho : Once o n) : ∀ i, i < n → i ≤ Lpl (laF f o) o i := by
  intro i hi
  obtain ⟨u, hu, e⟩ := ho.get hi
  have h1 := ho.plc_get hi
  rw [e] at h1
  have h2 := lastV_ge (f := f) ho hu
  have h3 := laF_eq (f := f) ho hu
  unfold Lpl
  rw [e]
  simp only [Int.toNat_natCast]
  omega

/-- a plan in memory -/
def planV (A : Option Addr) (n c : Nat) (A2 : Option Addr) (n2 c2 : Nat) (S : Int) : Value := .agg #[.slice A n c, .slice A2 n2 c2, .int .i64 S]
/-- a plan as 14.1 says -/
structure IsPlan (f : FlatM) (n : Nat) (out : List Nat) (xs : List Int) (S : Nat) : Prop where
  lst : IsLst (gOf f) out
  len : out.length = n
  once : Once (ints out) n
  slots : ∃ sls hs, Lo (Lpl (laF f (ints out)) (ints out)) n S sls hs ∧ OutI (ints out) n n sls xs
theorem own_row {w : World} {B : Nat} {A : Option Addr} {n c : Nat} {xs : List Int} (h : Own w B (.slice A n c) xs) : IRow w w.heap.size A n c xs := by
  obtain ⟨a, c', e, hr⟩ := h.irow
  injection e with e1 e2 e3
  subst e1 e2 e3
  exact hr
theorem Try.info32 : (Try.prog.info? 32).map (·.size) = some 3 := by kernel_rfl
/-- a function whose first result lies in a plan's cell returns -/
theorem ret_plan {fn : Func} {p u : Tmp} (h : fn.results = #[.cell p 32, .tmp u]) {a : Act} {w : World} {R : Ending → World → Prop} (g : Nat) (x y z : Value) (hg : Blk w g 32 #[x, y, z]) (hp : a.tmps.getD p undef = .pointer (some ⟨g, 0, none⟩)) (hd : a.defers = [])
    (hR : R (.returned (.tuple #[.agg #[x, y, z], a.tmps.getD u undef])) w) : bodyPost Try.prog fn R .ret a w := by
  refine bodyPost_ret_by (v := .tuple #[.agg #[x, y, z], a.tmps.getD u undef]) ?_ hd hR
  rw [results_cell_tmp h, hp]
  have := run_loadVar_row (P := Try.prog) w g 32 32 #[x, y, z] (0, 0) _ hg Try.underlying32 rfl Try.info32
  simp [asAddr, Result.andThen, this]
theorem Blk.put3 {w : World} {g T : Nat} {a b c : Value} (h : Blk w g T #[a, b, c]) (x y z : Value) : Blk (((w.setCell ⟨g, 0, none⟩ x).setCell ⟨g, 1, none⟩ y).setCell ⟨g, 2, none⟩ z) g T #[x, y, z] := by
  have h1 : Blk w g T [a, b, c].toArray := h
  exact ((h1.put 0 x).put 1 y).put 2 z

end Go.Proofs.Ytpcpbpinhdbjiaa
