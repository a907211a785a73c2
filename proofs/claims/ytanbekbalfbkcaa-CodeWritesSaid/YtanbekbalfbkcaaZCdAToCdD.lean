/- Rows of instructions; the maker of code and where its variables lie. No condition but bounds. · What Clone of numbers of 32 bits tells. No condition but bounds. · What copied tells. No condition but bounds. · What turned tells, by variables and by lines. No condition but bounds. -/
import Derived.Test.YtanbekbalfbkcaaZNdAToNdC
import Derived.Test.YtanbekbalfbkcaaZFlKToFlL
import Derived.Laws.AppendOwnNone
import Derived.Lib.SliceRun
import Derived.Deep.RegionLaw
import Derived.Deep.DeepCutAuto
import Derived.Laws.Rows
namespace Go.Proofs.Ytanbekbalfbkcaa
set_option linter.unusedVariables false
set_option linter.unusedSimpArgs false
set_option maxRecDepth 100000
open Go.RowKit

/-- an instruction: its cells -/
structure InsM where
  op : ByteArray
  dst : Int
  args : Option Addr × Nat × Nat
  k : Int
  kind : Int
  neg : Bool
  mag : Option Addr × Nat × Nat
  den : Option Addr × Nat × Nat
  name : ByteArray
  guard : Int
  resets : Option Addr × Nat × Nat
def InsM.cs (x : InsM) : List Value := [.string x.op, .int .i64 x.dst, sl3 x.args, .int .i64 x.k, .int .i64 x.kind, .bool x.neg, sl3 x.mag, sl3 x.den, .string x.name, .int .i64 x.guard, sl3 x.resets]
def insV (x : InsM) : Value := .agg x.cs.toArray
theorem InsM.cs_len (x : InsM) : x.cs.length = 11 := rfl
theorem InsM.cs_one (x : InsM) : ∀ u ∈ x.cs, u.oneCell' = true := by
  intro u hu
  simp only [InsM.cs, List.mem_cons, List.not_mem_nil, or_false] at hu
  rcases hu with rfl | rfl | rfl | rfl | rfl | rfl | rfl | rfl | rfl | rfl | rfl <;> rfl
def flatC (xs : List InsM) : List Value := xs.flatMap InsM.cs
theorem flatC_len (xs : List InsM) : (flatC xs).length = xs.length * 11 := by
  induction xs with
  | nil => rfl
  | cons x xs ih => unfold flatC at ih ⊢; simp only [List.flatMap_cons, List.length_append, InsM.cs_len, List.length_cons, ih]; omega
theorem flatC_append (xs ys : List InsM) : flatC (xs ++ ys) = flatC xs ++ flatC ys := List.flatMap_append
theorem flatC_get : ∀ (xs : List InsM) (i : Nat) (x : InsM), xs[i]? = some x → ∀ j, j < 11 → (flatC xs)[i * 11 + j]? = x.cs[j]?
  | [], i, x, h => by simp at h
  | y :: ys, 0, x, h => by
    intro j hj
    simp at h; subst h
    unfold flatC
    rw [List.flatMap_cons, List.getElem?_append_left (by rw [InsM.cs_len]; omega)]
    simp
  | y :: ys, i + 1, x, h => by
    intro j hj
    have := flatC_get ys i x (by simpa using h) j hj
    unfold flatC at this ⊢
    rw [List.flatMap_cons, List.getElem?_append_right (by rw [InsM.cs_len]; omega), InsM.cs_len, show (i + 1) * 11 + j - 11 = i * 11 + j by omega]
    exact this
/-- a row of instructions that the call owns -/
def OwnS (w : World) (B : Nat) (v : Value) (xs : List InsM) : Prop := w.ownsRow B 54 11 v xs.length (flatC xs)
section
variable {w w' : World} {B B' : Nat} {v : Value} {xs : List InsM}
theorem OwnS.len (h : OwnS w B v xs) : ∃ a c, v = .slice a xs.length c := by
  rcases h.2 with ⟨rfl, h0⟩ | ⟨g, cap, cur, rfl, _⟩
  · exact ⟨none, 0, by rw [h0]⟩
  · exact ⟨_, cap, rfl⟩
theorem OwnS.keep (h : OwnS w B v xs) (hk : ∀ k, v.ownBlock = some k → w'.heap[k]? = w.heap[k]?) : OwnS w' B v xs := by
  refine ⟨h.1, ?_⟩
  rcases h.2 with h0 | ⟨g, cap, cur, rfl, hb, hg, hr⟩
  · exact Or.inl h0
  · exact Or.inr ⟨g, cap, cur, rfl, hb, (hk g rfl).trans hg, hr⟩
theorem OwnS.lt (h : OwnS w B v xs) {k : Nat} (hk : v.ownBlock = some k) : B ≤ k ∧ k < w.heap.size := World.ownsRow.lt h k hk
theorem OwnS.only {S : List (Option Nat)} (h : OwnS w B v xs) (hb : Only S w w') (hv : ∀ k, v.ownBlock = some k → some k ∉ S) : OwnS w' B v xs :=
  h.keep fun k hk => hb.block k (h.lt hk).2 (hv k hk)
theorem OwnS.below (h : OwnS w B v xs) (hb : Below B' w w') (hB : w.heap.size ≤ B') : OwnS w' B v xs :=
  h.keep fun k hk => hb.block k (Nat.lt_of_lt_of_le (h.lt hk).2 hB)
theorem OwnS.later (h : OwnS w B v xs) (hb : Below w.heap.size w w') : OwnS w' B v xs := h.below hb (Nat.le_refl _)
theorem OwnS.more (h : OwnS w B v xs) (hB : B' ≤ B) : OwnS w B' v xs := by
  refine ⟨h.1, ?_⟩
  rcases h.2 with h0 | ⟨g, cap, cur, rfl, hb, hr⟩
  · exact Or.inl h0
  · exact Or.inr ⟨g, cap, cur, rfl, Nat.le_trans hB hb, hr⟩
theorem OwnS.nil (w : World) (B : Nat) : OwnS w B (.slice none 0 0) [] := World.ownsRow_nil w B 54 11
end
/-- rows of instructions, all of them below a block -/
def SMem (w : World) (B : Nat) (a : Option Addr) (n c : Nat) (xs : List InsM) : Prop :=
  xs.length = n ∧ n ≤ c ∧ c ≤ maxLen ∧ ∃ b, (a = some ⟨b, 0, none⟩ ∨ n ≤ 0) ∧ ∀ i x, xs[i]? = some x → b < B ∧ ∀ j u, x.cs[j]? = some u → w.cell? ⟨b, i * 11 + j, none⟩ = some u
theorem SMem.keep {w w' : World} {B : Nat} {a : Option Addr} {n c : Nat} {xs : List InsM} (h : SMem w B a n c xs) (hb : Below B w w') : SMem w' B a n c xs := by
  obtain ⟨h1, h2, h3, b, h4, h5⟩ := h
  exact ⟨h1, h2, h3, b, h4, fun i x hx => ⟨(h5 i x hx).1, fun j u hu => (hb.cell (p := ⟨b, i * 11 + j, none⟩) (h5 i x hx).1).trans ((h5 i x hx).2 j u hu)⟩⟩
theorem SMem.at_ {w : World} {B : Nat} {a : Option Addr} {n c : Nat} {xs : List InsM} (h : SMem w B a n c xs) {i : Nat} {x : InsM} (hx : xs[i]? = some x) : ∃ b, a = some ⟨b, 0, none⟩ ∧ b < B ∧ ∀ j u, x.cs[j]? = some u → w.cell? ⟨b, i * 11 + j, none⟩ = some u := by
  obtain ⟨h1, h2, h3, b, h4, h5⟩ := h
  have hi : i < xs.length := (List.getElem?_eq_some_iff.1 hx).1
  exact ⟨b, h4.resolve_right (by omega), h5 i x hx⟩
theorem OwnS.mem {w : World} {B : Nat} {v : Value} {xs : List InsM} (h : OwnS w B v xs) : ∃ a c, v = .slice a xs.length c ∧ SMem w w.heap.size a xs.length c xs := by
  rcases h.2 with ⟨rfl, h0⟩ | ⟨g, cap, cur, rfl, _, hg, hnc, hcm, _⟩
  · refine ⟨none, 0, by rw [h0], rfl, by omega, Nat.zero_le _, 0, Or.inr (by omega), fun i x hx => ?_⟩
    have := (List.getElem?_eq_some_iff.1 hx).1
    omega
  · refine ⟨_, cap, rfl, rfl, hnc, hcm, g, Or.inl rfl, fun i x hx => ⟨(Array.getElem?_eq_some_iff.1 hg).1, fun j u hu => ?_⟩⟩
    have hj : j < 11 := by rw [← InsM.cs_len x]; exact (List.getElem?_eq_some_iff.1 hu).1
    have := h.cells (g := g) rfl (i * 11 + j) u (by rw [flatC_get xs i x hx j hj]; exact hu)
    have e : (⟨g, 0, none⟩ : Addr).add (i * 11 + j) = ⟨g, i * 11 + j, none⟩ := by unfold Addr.add; split <;> simp_all
    rw [e] at this
    exact this
theorem Try.infoIns : (Try.prog.info? 54).map (fun i => (i.zero, i.size, i.bytes)) = some (some (insV ⟨⟨#[]⟩, 0, (none, 0, 0), 0, 0, false, (none, 0, 0), (none, 0, 0), ⟨#[]⟩, 0, (none, 0, 0)⟩), 11, 168) := by kernel_rfl
/-- what the model's append of instructions tells -/
theorem runS (w : World) (ty : TypeId) (B : Nat) (v : Value) (xs : List InsM) (hown : OwnS w B v xs) (ad : Addr) (n c : Nat) (ys : List InsM) (hys : ys.length = n) (hn : ∀ j u, (flatC ys)[j]? = some u → w.cell? (ad.add j) = some u) (hB : B ≤ w.heap.size) (hl : xs.length ≤ 100000000) (hy : n ≤ 1000000) :
    ∃ v' w', (Builtin.append_ #[37, 37] ty #[v, .slice (some ad) n c]).run Try.prog w = .ok v' w' ∧ OwnS w' B v' (xs ++ ys) ∧ Only [v.ownBlock] w w' ∧ (v'.ownBlock = v.ownBlock ∨ ∃ k, v'.ownBlock = some k ∧ w.heap.size ≤ k) := by
  obtain ⟨i0, hi, hz0, hz1, hz2⟩ := info_parts Try.infoIns
  obtain ⟨v', w', h1, h2, h3, h4, h5⟩ := run_append_own_at (P := Try.prog) w B 37 ty 54 i0 _ 11 168 Try.underlying37 hi hz0 hz1 hz2 rfl (by decide) v xs.length (flatC xs) hown ad n c (flatC ys) (by rw [flatC_len, hys]) hn (fun u hu => by
    unfold flatC at hu
    rw [List.mem_flatMap] at hu
    obtain ⟨y, _, hu⟩ := hu
    exact y.cs_one u hu) (by unfold maxLen; omega) (by omega) hB
  refine ⟨v', w', h1, ?_, Only.of_grown h3 (Or.inl (by simp)), ?_⟩
  · unfold OwnS; rw [flatC_append, List.length_append, hys]; exact h2
  · rcases h5 with h | h
    · exact Or.inl h
    · exact Or.inr ⟨_, h, Nat.le_refl _⟩
theorem runS_none (w : World) (ty : TypeId) (B : Nat) (v : Value) (xs : List InsM) (hown : OwnS w B v xs) :
    (Builtin.append_ #[37, 37] ty #[v, .slice none 0 0]).run Try.prog w = .ok v w := by
  obtain ⟨i0, hi, hz0, hz1, hz2⟩ := info_parts Try.infoIns
  have h := run_append_owned_none (P := Try.prog) (w := w) B 37 ty 54 i0 11 Try.underlying37 hi v xs.length (flatC xs) hown
  exact h
theorem cell_ins_new (w : World) (x : InsM) (T : TypeId) {H : Nat} (hH : w.heap.size = H) : ∀ j u, (flatC [x])[j]? = some u → (w.alloc (.cells x.cs.toArray T)).cell? ((⟨H, 0, none⟩ : Addr).add j) = some u := by
  intro j u hu
  subst hH
  have e : (⟨w.heap.size, 0, none⟩ : Addr).add j = ⟨w.heap.size, j, none⟩ := by unfold Addr.add; split <;> simp_all
  rw [e, cell_of_row _ w.heap.size j _ T (0, 0) (heap_alloc_new w _)]
  simpa [flatC] using hu
/-- append(row, x), the row the call's own, x laid in a block of its own ahead -/
theorem appendX {w : World} {ops : Array Oper} {rest : List Oper} {o : Oper} {a : Act} {Q : Exit → Act → World → Prop} (hgd : o.guard = none) (s x : Operand)
    (hop : o.op = .call { callee := .builtin .append, args := #[s, x], argTypes := #[37, 37] })
    (B : Nat) (v : Value) (xs : List InsM) (X : InsM) (T : TypeId) (H : Nat) (hs : a.eval s = v) (hx : a.eval x = .slice (some ⟨H, 0, none⟩) 1 1) (hH : w.heap.size = H) (hown : OwnS w B v xs) (hB : B ≤ H) (hl : xs.length ≤ 100000000)
    (hK : ∀ v' w', OwnS w' B v' (xs ++ [X]) → Only [v.ownBlock] w w' → (v'.ownBlock = v.ownBlock ∨ ∃ k, v'.ownBlock = some k ∧ H ≤ k) → wpList Try.prog ops Q rest (a.put o.dst v') w') :
    wpList Try.prog ops Q (o :: rest) a (w.alloc (.cells X.cs.toArray T)) := by
  subst hH
  obtain ⟨i0, hi, hz0, hz1, hz2⟩ := info_parts Try.infoIns
  refine wpList_append_own_at _ hgd s x 37 hop B 54 i0 _ 11 168 Try.underlying37 hi hz0 hz1 hz2 rfl (by decide) v xs.length (flatC xs) hs (World.ownsRow.alloc hown _) ⟨w.heap.size, 0, none⟩ 1 1 X.cs hx rfl (fun j u hu => cell_ins_new w X T rfl j u (by simpa [flatC] using hu)) X.cs_one (by unfold maxLen; omega) (by omega) (by simp; omega) ?_
  intro v' w' hown' hgrow _ hat
  refine hK v' w' ?_ ((Only.refl _ w |>.alloc _).trans (Only.of_grown hgrow (Or.inl (by simp)))) ?_
  · unfold OwnS; rw [flatC_append]; simpa [flatC] using hown'
  · rcases hat with h | h
    · exact Or.inl h
    · exact Or.inr ⟨_, h, by simp⟩
/-- the same as a step of a region that draws -/
theorem stepX {w : World} {ops : Array Oper} {o : Oper} {a : Act} {K : Act → World → Prop} {Q : Exit → Act → World → Prop} {E : Prop} (hgd : o.guard = none) (s x : Operand)
    (hop : o.op = .call { callee := .builtin .append, args := #[s, x], argTypes := #[37, 37] })
    (B : Nat) (v : Value) (xs : List InsM) (X : InsM) (T : TypeId) (H : Nat) (hs : a.eval s = v) (hx : a.eval x = .slice (some ⟨H, 0, none⟩) 1 1) (hH : w.heap.size = H) (hown : OwnS w B v xs) (hB : B ≤ H) (hl : xs.length ≤ 100000000)
    (hK : ∀ v' w', OwnS w' B v' (xs ++ [X]) → Only [v.ownBlock] w w' → (v'.ownBlock = v.ownBlock ∨ ∃ k, v'.ownBlock = some k ∧ H ≤ k) → K (a.put o.dst v') w') :
    if Region.wanted o (yielded ops a.tmps) = true then Oper.wp Try.prog o a (w.alloc (.cells X.cs.toArray T)) K Q else E := by
  subst hH
  have hw : Region.wanted o (yielded ops a.tmps) = true := by simp [Region.wanted, hgd]
  rw [if_pos hw]
  obtain ⟨v', w', hr', h2, h3, h4⟩ := runS (w.alloc (.cells X.cs.toArray T)) o.type B v xs (hown.later ((Below.refl _ _).alloc (Nat.le_refl _) _)) ⟨w.heap.size, 0, none⟩ 1 1 [X] rfl (cell_ins_new w X T rfl) (by simp; omega) hl (by omega)
  unfold Oper.wp execOp
  simp only [hop, resolve, invoke, builtin, Sem.run_bind, Sem.run_pure, Result.andThen_ok, List.map_toArray, List.map_cons, List.map_nil, hs, hx, hr']
  refine hK v' w' h2 ((Only.refl _ w |>.alloc _).trans h3) ?_
  rcases h4 with h | ⟨k, h, hk⟩
  · exact Or.inl h
  · exact Or.inr ⟨k, h, by simp at hk; omega⟩
/-- append(row, rows..) -/
theorem appendXs {w : World} {ops : Array Oper} {rest : List Oper} {o : Oper} {a : Act} {Q : Exit → Act → World → Prop} (hgd : o.guard = none) (s x : Operand)
    (hop : o.op = .call { callee := .builtin .append, args := #[s, x], argTypes := #[37, 37] })
    (B B' : Nat) (v : Value) (xs : List InsM) (A : Option Addr) (n c : Nat) (ys : List InsM) (hs : a.eval s = v) (hx : a.eval x = .slice A n c) (hc : A = none → c = 0) (hown : OwnS w B v xs) (hr : SMem w B' A n c ys) (hB : B ≤ w.heap.size) (hl : xs.length ≤ 100000000) (hn : n ≤ 1000000)
    (hK : ∀ v' w', OwnS w' B v' (xs ++ ys) → Only [v.ownBlock] w w' → (v'.ownBlock = v.ownBlock ∨ ∃ k, v'.ownBlock = some k ∧ w.heap.size ≤ k) → wpList Try.prog ops Q rest (a.put o.dst v') w') :
    wpList Try.prog ops Q (o :: rest) a w := by
  obtain ⟨i0, hi, hz0, hz1, hz2⟩ := info_parts Try.infoIns
  cases A with
  | none =>
    have hc := hc rfl
    have hn0 : n = 0 := by have := hr.2.1; omega
    subst hc hn0
    have hy : ys = [] := List.length_eq_zero_iff.1 hr.1
    subst hy
    refine wpList_append_own_none hgd s x 37 hop B 54 i0 11 Try.underlying37 hi v xs.length (flatC xs) hs hown hx ?_
    exact hK v w (by rw [List.append_nil]; exact hown) (Only.refl _ _) (.inl rfl)
  | some ad =>
    refine wpList_append_own_at _ hgd s x 37 hop B 54 i0 _ 11 168 Try.underlying37 hi hz0 hz1 hz2 rfl (by decide) v xs.length (flatC xs) hs hown ad n c (flatC ys) hx (by rw [flatC_len, hr.1]) (fun j u hu => ?_) (fun u hu => ?_) (by unfold maxLen; omega) (by omega) hB ?_
    · have hj : j < n * 11 := by rw [← hr.1, ← flatC_len]; exact (List.getElem?_eq_some_iff.1 hu).1
      have hi' : j / 11 < ys.length := by rw [hr.1]; omega
      obtain ⟨b, e, _, hcl⟩ := hr.at_ (List.getElem?_eq_getElem hi')
      injection e with e
      subst e
      have e1 : j / 11 * 11 + j % 11 = j := by omega
      have hg := flatC_get ys (j / 11) _ (List.getElem?_eq_getElem hi') (j % 11) (by omega)
      rw [e1, hu] at hg
      have := hcl (j % 11) u hg.symm
      rw [e1] at this
      have e2 : (⟨b, 0, none⟩ : Addr).add j = ⟨b, j, none⟩ := by unfold Addr.add; split <;> simp_all
      rw [e2]; exact this
    · unfold flatC at hu
      rw [List.mem_flatMap] at hu
      obtain ⟨y, _, hu⟩ := hu
      exact y.cs_one u hu
    · intro v' w' hown' hgrow _ hat
      refine hK v' w' ?_ (Only.of_grown hgrow (Or.inl (by simp))) ?_
      · unfold OwnS; rw [flatC_append, List.length_append, hr.1]; exact hown'
      · rcases hat with h | h
        · exact Or.inl h
        · exact Or.inr ⟨_, h, Nat.le_refl _⟩
theorem Only.ownS {B : Nat} {v : Value} {xs : List InsM} {a b : World} (h : Only [v.ownBlock] a b) (ho : OwnS a B v xs) (hB : B ≤ a.heap.size) : Below B a b :=
  h.below hB fun j hj => by
    simp at hj
    exact (ho.lt hj.symm).1

/-- where a variable lies; -1 of none -/
def slotS (xs : List Int) (x : Int) : Int := if x < 0 then -1 else xs.getD x.toNat 0
/-- the maker: a flat program and its slots, in a block of its own -/
structure Mk (w : World) (B g : Nat) (v : FlatV) (f : FlatM) (A : Option Addr) (n c : Nat) (xs : List Int) : Prop where
  blk : Blk w g 64 (fvs v ++ #[.slice A n c])
  is : FlatIs w B v f
  row : IRow w B A n c xs
  hB : B ≤ w.heap.size
theorem Mk.below {w w' : World} {B g : Nat} {v : FlatV} {f : FlatM} {A : Option Addr} {n c : Nat} {xs : List Int} (h : Mk w B g v f A n c xs) {C : Nat} (hb : Below C w w') (hg : g < C) (hC : B ≤ C) : Mk w' B g v f A n c xs :=
  ⟨h.blk.below hb hg, h.is.below (hb.mono hC), h.row.below (hb.mono hC), Nat.le_trans h.hB hb.size⟩
theorem Mk.later {w w' : World} {B g : Nat} {v : FlatV} {f : FlatM} {A : Option Addr} {n c : Nat} {xs : List Int} (h : Mk w B g v f A n c xs) (hb : Below w.heap.size w w') : Mk w' B g v f A n c xs := h.below hb h.blk.lt h.hB
theorem Mk.alloc {w : World} {B g : Nat} {v : FlatV} {f : FlatM} {A : Option Addr} {n c : Nat} {xs : List Int} (h : Mk w B g v f A n c xs) (o : Obj) : Mk (w.alloc o) B g v f A n c xs := h.later ((Below.refl _ _).alloc (Nat.le_refl _) _)
theorem Mk.cells {w : World} {B g : Nat} {v : FlatV} {f : FlatM} {A : Option Addr} {n c : Nat} {xs : List Int} (h : Mk w B g v f A n c xs) :
    w.cell? ⟨g, 0, none⟩ = some (.slice v.ins.1 v.ins.2.1 v.ins.2.2) ∧ w.cell? ⟨g, 1, none⟩ = some (.slice v.names.1 v.names.2.1 v.names.2.2) ∧ w.cell? ⟨g, 2, none⟩ = some (.slice v.outs.1 v.outs.2.1 v.outs.2.2) ∧ w.cell? ⟨g, 3, none⟩ = some (.slice v.eqs.1 v.eqs.2.1 v.eqs.2.2) ∧ w.cell? ⟨g, 4, none⟩ = some (.slice v.mems.1 v.mems.2.1 v.mems.2.2) ∧
    w.cell? ⟨g, 5, none⟩ = some (.slice v.conts.1 v.conts.2.1 v.conts.2.2) ∧ w.cell? ⟨g, 6, none⟩ = some (.slice v.cross.1 v.cross.2.1 v.cross.2.2) ∧ w.cell? ⟨g, 7, none⟩ = some (.slice v.again.1 v.again.2.1 v.again.2.2) ∧ w.cell? ⟨g, 8, none⟩ = some (.slice A n c) :=
  ⟨h.blk.cell 0 rfl, h.blk.cell 1 rfl, h.blk.cell 2 rfl, h.blk.cell 3 rfl, h.blk.cell 4 rfl, h.blk.cell 5 rfl, h.blk.cell 6 rfl, h.blk.cell 7 rfl, h.blk.cell 8 rfl⟩

set_option maxHeartbeats 1000000 in
theorem slot_t (g n c : Nat) (B : Nat) (A : Option Addr) (xs : List Int) (x : Int) (w : World) (hc : w.cell? ⟨g, 8, none⟩ = some (.slice A n c)) (hr : IRow w B A n c xs) (hx : x < (n : Int)) :
    Calls Try.prog 39 #[.pointer (some ⟨g, 0, none⟩), .int .i64 x] w fun e w' => e = .returned (.int .i64 (slotS xs x)) ∧ w' = w := by
  have HR := Lib.hid hr
  clear hr
  by_cases h0 : x < 0
  · have HS : Hid (slotS xs x = -1) := Lib.hid (by unfold slotS; rw [if_pos h0])
    go_enter Try.func39, Try.ntmps39
    go_wp2
    go_ret
    exact ⟨by rw [HS.out]; rfl, rfl⟩
  · obtain ⟨i, rfl⟩ : ∃ i : Nat, x = (i : Int) := ⟨x.toNat, by omega⟩
    have hi : i < n := by omega
    obtain ⟨b, off, rfl, hlb, hcell⟩ := HR.out.at_ hi
    have hS : slotS xs (i : Int) = xs.getD i 0 := by unfold slotS; rw [if_neg h0, Int.toNat_natCast]
    have HS := Lib.hid hS
    clear hS
    have hm : n ≤ maxLen := HR.out.len_le
    unfold maxLen at hm
    go_enter Try.func39, Try.ntmps39
    go_wp2
    go_ret
    exact ⟨by rw [HS.out]; rfl, rfl⟩

end Go.Proofs.Ytanbekbalfbkcaa

namespace Go.Proofs.Ytanbekbalfbkcaa
set_option linter.unusedVariables false
set_option linter.unusedSimpArgs false
set_option maxRecDepth 100000
open Go.RowKit

theorem Try.infoU32 : (Try.prog.info? 96).map (fun i => (i.zero, i.size, i.bytes)) = some (some (.int .u32 0), 1, 4) := by kernel_rfl
theorem owns_slice {w : World} {B e sz : Nat} {v : Value} {n : Nat} {xs : List Value} (h : w.ownsRow B e sz v n xs) : ∃ a c, v = .slice a n c := by
  rcases h.2 with ⟨rfl, h0⟩ | ⟨g, cap, cur, rfl, _⟩
  · exact ⟨none, 0, by rw [h0]⟩
  · exact ⟨_, cap, rfl⟩
/-- what Clone tells: some slice; older cells are unchanged -/
def ClonePost (w : World) (e : Ending) (w' : World) : Prop := (∃ s : Option Addr × Nat × Nat, e = .returned (.slice s.1 s.2.1 s.2.2)) ∧ Below w.heap.size w w'
/-- append(s[:0:0], s..) of numbers of 32 bits -/
theorem appendU {w : World} {ops : Array Oper} {rest : List Oper} {o : Oper} {a : Act} {Q : Exit → Act → World → Prop} (hgd : o.guard = none) (s x : Operand)
    (hop : o.op = .call { callee := .builtin .append, args := #[s, x], argTypes := #[46, 46] })
    (B : Nat) (ad : Addr) (n c : Nat) (ys : List Nat) (hs : a.eval s = .slice (some ⟨w.heap.size, 0, none⟩) 0 0) (hx : a.eval x = .slice (some ad) n c) (hr : URow w B (some ad) n c ys) (hB : B ≤ w.heap.size) 
    (hK : ∀ s' w', Below w.heap.size w w' → wpList Try.prog ops Q rest (a.put o.dst (sl3 s')) w') :
    wpList Try.prog ops Q (o :: rest) a (w.alloc (.cells #[] 96)) := by
  obtain ⟨i0, hi, hz0, hz1, hz2⟩ := info_parts Try.infoU32
  have hown : (w.alloc (.cells #[] 96)).ownsRow w.heap.size 96 1 (.slice (some ⟨w.heap.size, 0, none⟩) 0 0) 0 [] :=
    ⟨rfl, .inr ⟨w.heap.size, 0, #[], rfl, Nat.le_refl _, heap_alloc_new w _, Nat.le_refl _, Nat.zero_le _, rfl, rfl⟩⟩
  obtain ⟨h1, h2, h3, h4, h5, h8, b, off, h6, h7⟩ := hr
  refine wpList_append_own_at _ hgd s x 46 hop w.heap.size 96 i0 (.int .u32 0) 1 4 Try.underlying46 hi hz0 hz1 hz2 rfl (by decide) _ 0 [] hs hown ad n c (ys.map fun (y : Nat) => Value.int .u32 (y : Int)) hx (by rw [List.length_map, h1, Nat.mul_one]) (fun j u hu => ?_) (fun u hu => ?_) (by unfold maxLen; omega) (by omega) (by simp) ?_
  · rw [List.getElem?_map] at hu
    obtain ⟨y, hy, rfl⟩ := Option.map_eq_some_iff.1 hu
    have hj : j < n := by rw [← h1]; exact (List.getElem?_eq_some_iff.1 hy).1
    obtain ⟨hb, hc⟩ := h7 j hj
    have e := h6.resolve_right (by omega)
    injection e with e
    subst e
    rw [Go.WideShapes.add_plain, ((Below.refl w.heap.size w).alloc (Nat.le_refl _) _).cell (p := ⟨b, off + j, none⟩) (Nat.lt_of_lt_of_le hb hB), hc]
    congr 2
    simp [List.getD, hy]
  · rw [List.mem_map] at hu
    obtain ⟨y, _, rfl⟩ := hu
    rfl
  · intro v' w' hown' hgrow _ hat
    obtain ⟨a', c', rfl⟩ := owns_slice hown'
    refine hK (a', _, c') w' ?_
    have h9 : Only [some w.heap.size] (w.alloc (.cells #[] 96)) w' := Only.of_grown hgrow (Or.inl (by simp [Value.ownBlock]))
    exact ((Below.refl _ _).alloc (Nat.le_refl _) _).trans (h9.below (by simp) fun j hj => by simp at hj; omega)
set_option maxHeartbeats 1000000 in
theorem clone_t (s : Option Addr × Nat × Nat) (B : Nat) (ys : List Nat) (w : World) (hr : URow w B s.1 s.2.1 s.2.2 ys) (hB : B ≤ w.heap.size) :
    Calls Try.prog 36 #[.slice s.1 s.2.1 s.2.2] w (ClonePost w) := by
  obtain ⟨A, n, c⟩ := s
  have HR := Lib.hid (show URow w B A n c ys from hr)
  have HB := Lib.hid hB
  clear hr hB
  have q22 : ∀ w : World, (binOp .eql 46 (.slice A n c) (.slice none 0 0)).run Try.prog w = .ok (.bool A.isNone) w := fun w => Lib.run_eql_slice_nil w _ _ A n c 0 0 Try.underlying46
  show Calls Try.prog 36 #[.slice A n c] w (ClonePost w)
  cases A with
  | none =>
    have hc : c = 0 := HR.out.2.2.2.1 rfl
    have hn : n = 0 := by have := HR.out.2.1; omega
    subst hc hn
    go_enter Try.func36, Try.ntmps36
    go_wp2
    go_ret
    exact ⟨⟨(none, 0, 0), rfl⟩, Below.refl _ _⟩
  | some ad =>
    go_enter Try.func36, Try.ntmps36
    go_wp2_with (at_builtin; refine appendU rfl _ _ rfl B ad n c ys rfl rfl HR.out HB.out ?_; intro s' w' hb)
    go_ret
    exact ⟨⟨s', rfl⟩, hb⟩
/-- a value as it stands in a box: two numbers rows in it -/
def valV (kind : Int) (neg : Bool) (m d : Option Addr × Nat × Nat) (name : ByteArray) : Value := .agg #[.int .i64 kind, .bool neg, .slice m.1 m.2.1 m.2.2, .slice d.1 d.2.1 d.2.2, .string name]
def CopyPost (kind : Int) (neg : Bool) (name : ByteArray) (w : World) (e : Ending) (w' : World) : Prop := (∃ m d : Option Addr × Nat × Nat, e = .returned (valV kind neg m d name)) ∧ Below w.heap.size w w'

end Go.Proofs.Ytanbekbalfbkcaa

namespace Go.Proofs.Ytanbekbalfbkcaa
set_option linter.unusedVariables false
set_option linter.unusedSimpArgs false
set_option maxRecDepth 100000
open Go.RowKit

theorem Blk.put {w : World} {g T : Nat} {vs : List Value} (h : Blk w g T vs.toArray) (j : Nat) (u : Value) : Blk (w.setCell ⟨g, j, none⟩ u) g T (vs.set j u).toArray := by
  have := heap_setCell_same w g j _ T u h
  unfold Blk
  rw [this]
  congr 2
  simp
theorem Blk.setOther {w : World} {g T : Nat} {vs : Array Value} (h : Blk w g T vs) {p : Addr} (hp : g ≠ p.block) (u : Value) : Blk (w.setCell p u) g T vs := (Below.heap_setCell w p u g hp).trans h
theorem Blk.five {w : World} {g T : Nat} {a b c d e : Value} (h : Blk w g T #[a, b, c, d, e]) : w.cell? ⟨g, 0, none⟩ = some a ∧ w.cell? ⟨g, 1, none⟩ = some b ∧ w.cell? ⟨g, 2, none⟩ = some c ∧ w.cell? ⟨g, 3, none⟩ = some d ∧ w.cell? ⟨g, 4, none⟩ = some e :=
  ⟨h.cell 0 rfl, h.cell 1 rfl, h.cell 2 rfl, h.cell 3 rfl, h.cell 4 rfl⟩
theorem Blk.put5 {w : World} {g T : Nat} {a b c d e : Value} (h : Blk w g T #[a, b, c, d, e]) (x0 x1 x2 x3 x4 : Value) : Blk (((((w.setCell ⟨g, 0, none⟩ x0).setCell ⟨g, 1, none⟩ x1).setCell ⟨g, 2, none⟩ x2).setCell ⟨g, 3, none⟩ x3).setCell ⟨g, 4, none⟩ x4) g T #[x0, x1, x2, x3, x4] := by
  have h1 : Blk w g T [a, b, c, d, e].toArray := h
  exact ((((h1.put 0 x0).put 1 x1).put 2 x2).put 3 x3).put 4 x4
theorem Try.infoVal : (Try.prog.info? 52).map (·.size) = some 5 := by kernel_rfl
/-- a function whose result lies in a block's cells returns -/
theorem ret_row {fn : Func} {p : Tmp} {ty : TypeId} {fs : Array Field} (h : fn.results = #[.cell p ty]) {a : Act} {w : World} {R : Ending → World → Prop} (g : Nat) (cs : Array Value) (hg : Blk w g ty cs) (hp : a.tmps.getD p undef = .pointer (some ⟨g, 0, none⟩)) (hd : a.defers = [])
    (hu : Try.prog.underlying ty = some (.struct fs)) (hi : (Try.prog.info? ty).map (·.size) = some cs.size) (hR : R (.returned (.agg cs)) w) : bodyPost Try.prog fn R .ret a w :=
  bodyPost_ret_by (results_cell_row h _ w g ty cs (0, 0) (.struct fs) hp hg hu rfl hi) hd hR
set_option maxHeartbeats 2000000 in
theorem copied_t (kind : Int) (neg : Bool) (m d : Option Addr × Nat × Nat) (name : ByteArray) (B : Nat) (ym yd : List Nat) (w : World) (hm : URow w B m.1 m.2.1 m.2.2 ym) (hd : URow w B d.1 d.2.1 d.2.2 yd) (hB : B ≤ w.heap.size) :
    Calls Try.prog 16 #[valV kind neg m d name] w (CopyPost kind neg name w) := by
  obtain ⟨W1, hW1⟩ : ∃ W1, W1 = (w.alloc (.cells #[.int .i64 kind, .bool neg, .slice m.1 m.2.1 m.2.2, .slice d.1 d.2.1 d.2.2, .string name] 52)).alloc (.cells #[.int .i64 0, .bool false, .slice none 0 0, .slice none 0 0, .string ⟨#[]⟩] 52) := ⟨_, rfl⟩
  have hb1 : Below w.heap.size w W1 := by rw [hW1]; exact ((Below.refl _ _).alloc (Nat.le_refl _) _).alloc (by simp) _
  have hs1 : W1.heap.size = w.heap.size + 2 := by rw [hW1]; simp
  have HK := Lib.hid (show Blk W1 w.heap.size 52 #[.int .i64 kind, .bool neg, .slice m.1 m.2.1 m.2.2, .slice d.1 d.2.1 d.2.2, .string name] from by rw [hW1]; exact (Blk.new _ _ _).alloc _)
  have HZ := Lib.hid (show Blk W1 (w.heap.size + 1) 52 #[.int .i64 0, .bool false, .slice none 0 0, .slice none 0 0, .string ⟨#[]⟩] from by rw [hW1]; have := Blk.new (w.alloc (.cells #[.int .i64 kind, .bool neg, .slice m.1 m.2.1 m.2.2, .slice d.1 d.2.1 d.2.2, .string name] 52)) 52 #[.int .i64 0, .bool false, .slice none 0 0, .slice none 0 0, .string ⟨#[]⟩]; rw [size_alloc] at this; exact this)
  have HM : Hid (∀ W, Below w.heap.size w W → URow W B m.1 m.2.1 m.2.2 ym) := Lib.hid fun W hb => hm.keep fun p hp => hb.cell (Nat.lt_of_lt_of_le hp hB)
  have HD : Hid (∀ W, Below w.heap.size w W → URow W B d.1 d.2.1 d.2.2 yd) := Lib.hid fun W hb => hd.keep fun p hp => hb.cell (Nat.lt_of_lt_of_le hp hB)
  have HBB := Lib.hid hB
  have HB1 := Lib.hid hb1
  have HS1 := Lib.hid hs1
  clear hm hd hB hb1 hs1
  unfold valV
  go_enter Try.func16, Try.ntmps16
  go_upto_region 1 with fail
  rw [← hW1]
  clear hW1
  have HB := Lib.hid (Below.refl W1.heap.size W1).drew
  obtain ⟨e0, e1, e2, e3, e4⟩ := HK.out.five
  have z2 := HK.out.free 2
  have z3 := HK.out.free 3
  go_region_law (go_simp; go_at_call 36; first
    | ((with_reducible refine (clone_t m B ym _ (HM.out _ (HB1.out.trans (HB.out.mono HB1.out.size))) (Nat.le_trans HBB.out (Nat.le_trans HB1.out.size HB.out.size))).mono ?_); rintro e w1 ⟨⟨s1, rfl⟩, hb⟩; replace HB := Lib.hid (HB.out.trans (hb.mono HB.out.size)); clear hb e0 e1 e2 e3 e4 z2 z3; (obtain ⟨e0, e1, e2, e3, e4⟩ := (HK.out.later HB.out).five; have z2 := (HK.out.later HB.out).free 2; have z3 := (HK.out.later HB.out).free 3))
    | ((with_reducible refine (clone_t d B yd _ (HD.out _ (HB1.out.trans (HB.out.mono HB1.out.size))) (Nat.le_trans HBB.out (Nat.le_trans HB1.out.size HB.out.size))).mono ?_); rintro e w2 ⟨⟨s2, rfl⟩, hb⟩; replace HB := Lib.hid (HB.out.trans (hb.mono HB.out.size)); clear hb e0 e1 e2 e3 e4 z2 z3; (obtain ⟨e0, e1, e2, e3, e4⟩ := (HK.out.later HB.out).five; have z2 := (HK.out.later HB.out).free 2; have z3 := (HK.out.later HB.out).free 3)))
  all_goals
    obtain ⟨w3, hw3⟩ : ∃ w3, w3 = (w2.setCell ⟨w.heap.size, 2, none⟩ (.slice s1.1 s1.2.1 s1.2.2)).setCell ⟨w.heap.size, 3, none⟩ (.slice s2.1 s2.2.1 s2.2.2) := ⟨_, rfl⟩
    rw [← hw3]
    have HK3 : Hid (Blk w3 w.heap.size 52 #[.int .i64 kind, .bool neg, .slice s1.1 s1.2.1 s1.2.2, .slice s2.1 s2.2.1 s2.2.2, .string name]) := Lib.hid (by
      have h : Blk w2 w.heap.size 52 [.int .i64 kind, .bool neg, .slice m.1 m.2.1 m.2.2, .slice d.1 d.2.1 d.2.2, .string name].toArray := HK.out.later HB.out
      rw [hw3]
      exact (h.put 2 _).put 3 _)
    have HZ3 : Hid (Blk w3 (w.heap.size + 1) 52 #[.int .i64 0, .bool false, .slice none 0 0, .slice none 0 0, .string ⟨#[]⟩]) := Lib.hid (by
      rw [hw3]
      exact ((HZ.out.later HB.out).setOther (by simp) _).setOther (by simp) _)
    have HO3 : Hid (Below w.heap.size w w3) := Lib.hid (by
      rw [hw3]
      exact ((HB1.out.trans (HB.out.mono HB1.out.size)).setCell (p := ⟨w.heap.size, 2, none⟩) (Nat.le_refl _) _).setCell (p := ⟨w.heap.size, 3, none⟩) (Nat.le_refl _) _)
    clear e0 e1 e2 e3 e4 z2 z3 hw3
    obtain ⟨e0, e1, e2, e3, e4⟩ := HK3.out.five
    obtain ⟨y0, y1, y2, y3, y4⟩ := HZ3.out.five
    have z0 := HZ3.out.free 0
    have z1 := HZ3.out.free 1
    have z2 := HZ3.out.free 2
    have z3 := HZ3.out.free 3
    have z4 := HZ3.out.free 4
    have HR := Lib.hid (HZ3.out.put5 (.int .i64 kind) (.bool neg) (.slice s1.1 s1.2.1 s1.2.2) (.slice s2.1 s2.2.1 s2.2.2) (.string name))
    have HOL := Lib.hid (((((HO3.out.setCell (p := ⟨w.heap.size + 1, 0, none⟩) (Nat.le_succ _) (.int .i64 kind)).setCell (p := ⟨w.heap.size + 1, 1, none⟩) (Nat.le_succ _) (.bool neg)).setCell (p := ⟨w.heap.size + 1, 2, none⟩) (Nat.le_succ _) (.slice s1.1 s1.2.1 s1.2.2)).setCell (p := ⟨w.heap.size + 1, 3, none⟩) (Nat.le_succ _) (.slice s2.1 s2.2.1 s2.2.2)).setCell (p := ⟨w.heap.size + 1, 4, none⟩) (Nat.le_succ _) (.string name))
    go_wp2
    refine ret_row rfl (w.heap.size + 1) _ HR.out rfl rfl Try.underlying52 Try.infoVal ?_
    exact ⟨⟨s1, s2, rfl⟩, HOL.out⟩

end Go.Proofs.Ytanbekbalfbkcaa

namespace Go.Proofs.Ytanbekbalfbkcaa
set_option linter.unusedVariables false
set_option linter.unusedSimpArgs false
set_option maxRecDepth 100000
open Go.RowKit

/-- what turned tells: a row of one's own, as long -/
def TurnPost (n : Nat) (w : World) (e : Ending) (w' : World) : Prop := ∃ v' l, e = .returned v' ∧ Own w' w.heap.size v' l ∧ l.length = n ∧ Below w.heap.size w w'
theorem own_slice {w : World} {B : Nat} {v : Value} {xs : List Int} (h : Own w B v xs) : ∃ a n c, v = .slice a n c := by
  obtain ⟨a, c, e⟩ := h.len; exact ⟨a, _, c, e⟩
set_option maxHeartbeats 1000000 in
theorem line_t (g : Nat) (F x : Int) (w : World) (hc : w.cell? ⟨g, 0, none⟩ = some (.int .i64 F)) :
    Calls Try.prog 40 #[.int .i64 x, .pointer (some ⟨g, 0, none⟩)] w fun e w' => (∃ y : Int, e = .returned (.int .i64 y) ∧ (0 ≤ F ∧ F ≤ 1000000 → 0 ≤ x ∧ x ≤ 1000000 → y = F + x)) ∧ w' = w := by
  go_enter Try.func40, Try.ntmps40
  go_wp2
  go_ret
  exact ⟨⟨_, rfl, fun h1 h2 => by unfold wrap64; omega⟩, rfl⟩
set_option maxHeartbeats 1000000 in
/-- turned by a maker, from variables to their slots -/
theorem turnM_t (g B : Nat) (v : FlatV) (f : FlatM) (A2 : Option Addr) (n2 c2 : Nat) (ss : List Int) {B1 : Nat} (A : Option Addr) (n c : Nat) (xs : List Int) (w : World) (hk : Mk w B g v f A2 n2 c2 ss) (hr : IRow w B1 A n c xs) (hB : B1 ≤ w.heap.size) (hn : n ≤ 1000000) (hx : ∀ x ∈ xs, x < (n2 : Int)) :
    Calls Try.prog 49 #[.func (.func 39) #[.pointer (some ⟨g, 0, none⟩)] #[], .slice A n c] w (TurnPost n w) := by
  have HR := Lib.hid hr
  have HBB := Lib.hid hB
  have HK := Lib.hid hk
  have HX := Lib.hid hx
  clear hk hx
  have hmx := hr.len_le
  unfold maxLen at hmx
  clear hr hB
  go_enter Try.func49, Try.ntmps49
  go_wp2_with fail
  go_loopw [5, 10] (fun u t wr => ∃ (k : Nat) (l : List Int) (a3 : Option Addr) (n3 c3 : Nat), k ≤ n ∧ u = .slice a3 n3 c3 ∧ t = .int .i64 k ∧ l.length = k ∧ Hid (Own wr w.heap.size (.slice a3 n3 c3) l) ∧ Hid (Below w.heap.size w wr)) (fun _ t _ => n - (intOf t).toNat)
  case atStart => exact ⟨0, [], none, 0, 0, Nat.zero_le _, rfl, rfl, rfl, Lib.hid (Own.nil _ _), Lib.hid (Below.refl _ _)⟩
  case round =>
    obtain ⟨k, l, a3, n3, c3, hk, rfl, rfl, hl, HO, HB⟩ := hrel
    by_cases hlt : k < n
    · obtain ⟨b, off, rfl, hlb, hcell⟩ := (HR.out.below (HB.out.mono HBB.out)).at_ hlt
      obtain ⟨X, hX⟩ : ∃ X, X = xs.getD k 0 := ⟨_, rfl⟩
      rw [← hX] at hcell
      have HK1 := Lib.hid (HK.out.later HB.out)
      have hxk : X < (n2 : Int) := HX.out _ (by rw [hX]; have := HR.out.1; rw [List.getD_eq_getElem?_getD, List.getElem?_eq_getElem (by omega)]; exact List.getElem_mem _)
      clear hX
      have h8 := HK1.out.cells.2.2.2.2.2.2.2.2
      go_wp2_with (first
        | (go_at_call 39; (with_reducible refine (slot_t g n2 c2 B A2 ss _ _ h8 HK1.out.row hxk).mono ?_); rintro e w1 ⟨rfl, rfl⟩)
        | (at_builtin; refine appendH rfl _ _ 23 Try.underlying23 rfl w.heap.size (.slice a3 n3 c3) l _ _ _ rfl rfl rfl HO.out HB.out.size (by omega) ?_; intro v' w' hown' honly hat; obtain ⟨a4, n4, c4, hv4⟩ := own_slice hown'; subst hv4; have HO' := Lib.hid hown'; have HB' := Lib.hid (HB.out.trans (honly.own HO.out HB.out.size)); clear hown' honly hat))
      go_roundw
      case rel => exact ⟨k + 1, l ++ [_], a4, n4, c4, by omega, rfl, by go_num, by simp [hl], HO', HB'⟩
      case measure => simp [intOf]; omega
    · obtain rfl : k = n := by omega
      go_wp2
      go_ret
      exact ⟨_, l, rfl, HO.out, hl, HB.out⟩
set_option maxHeartbeats 1000000 in
/-- turned by a line of a crossing -/
theorem turnL_t (g B : Nat) (F : Int) {B1 : Nat} (A : Option Addr) (n c : Nat) (xs : List Int) (w : World) (hk : w.cell? ⟨g, 0, none⟩ = some (.int .i64 F)) (hg : g < w.heap.size) (hr : IRow w B1 A n c xs) (hB : B1 ≤ w.heap.size) (hn : n ≤ 1000000)  :
    Calls Try.prog 49 #[.func (.func 40) #[] #[.pointer (some ⟨g, 0, none⟩)], .slice A n c] w (TurnPost n w) := by
  have HR := Lib.hid hr
  have HBB := Lib.hid hB
  have HK := Lib.hid hk
  have HG := Lib.hid hg
  clear hk hg
  have hmx := hr.len_le
  unfold maxLen at hmx
  clear hr hB
  go_enter Try.func49, Try.ntmps49
  go_wp2_with fail
  go_loopw [5, 10] (fun u t wr => ∃ (k : Nat) (l : List Int) (a3 : Option Addr) (n3 c3 : Nat), k ≤ n ∧ u = .slice a3 n3 c3 ∧ t = .int .i64 k ∧ l.length = k ∧ Hid (Own wr w.heap.size (.slice a3 n3 c3) l) ∧ Hid (Below w.heap.size w wr)) (fun _ t _ => n - (intOf t).toNat)
  case atStart => exact ⟨0, [], none, 0, 0, Nat.zero_le _, rfl, rfl, rfl, Lib.hid (Own.nil _ _), Lib.hid (Below.refl _ _)⟩
  case round =>
    obtain ⟨k, l, a3, n3, c3, hk, rfl, rfl, hl, HO, HB⟩ := hrel
    by_cases hlt : k < n
    · obtain ⟨b, off, rfl, hlb, hcell⟩ := (HR.out.below (HB.out.mono HBB.out)).at_ hlt
      obtain ⟨X, hX⟩ : ∃ X, X = xs.getD k 0 := ⟨_, rfl⟩
      rw [← hX] at hcell
      have h0 : wr.cell? ⟨g, 0, none⟩ = some (.int .i64 F) := (HB.out.cell (p := ⟨g, 0, none⟩) HG.out).trans HK.out
      go_wp2_with (first
        | (go_at_call 40; (with_reducible refine (line_t g F _ _ h0).mono ?_); rintro e w1 ⟨⟨y, rfl, hy⟩, rfl⟩)
        | (at_builtin; refine appendH rfl _ _ 23 Try.underlying23 rfl w.heap.size (.slice a3 n3 c3) l _ _ _ rfl rfl rfl HO.out HB.out.size (by omega) ?_; intro v' w' hown' honly hat; obtain ⟨a4, n4, c4, hv4⟩ := own_slice hown'; subst hv4; have HO' := Lib.hid hown'; have HB' := Lib.hid (HB.out.trans (honly.own HO.out HB.out.size)); clear hown' honly hat))
      go_roundw
      case rel => exact ⟨k + 1, l ++ [_], a4, n4, c4, by omega, rfl, by go_num, by simp [hl], HO', HB'⟩
      case measure => simp [intOf]; omega
    · obtain rfl : k = n := by omega
      go_wp2
      go_ret
      exact ⟨_, l, rfl, HO.out, hl, HB.out⟩

end Go.Proofs.Ytanbekbalfbkcaa
