/- Rows of instructions; the maker of code and where its variables lie. No condition but bounds. · What Clone of numbers of 32 bits tells. No condition but bounds. · What copied tells. No condition but bounds. · What equation tells, of an equation that reads nothing. No condition but bounds. -/
import Derived.Test.YtpcpbpinhdbjiaaZNdAToNdC
import Derived.Test.YtpcpbpinhdbjiaaZFlKToFlL
import Derived.Laws.AppendOwnNone
import Derived.Lib.SliceRun
import Derived.Deep.RegionLaw
import Derived.Deep.DeepCutAuto
import Derived.Laws.Rows
import Derived.Test.YtpcpbpinhdbjiaaZSfJToSfL
import Derived.Deep.RegionHeld3
namespace Go.Proofs.Ytpcpbpinhdbjiaa
set_option linter.unusedVariables false
set_option linter.unusedSimpArgs false
set_option maxRecDepth 100000
open Go.RowKit

/-- an instruction: its cells -/
structure InsM where
  op : ByteArray
  dst : Int
  args : Option Addr × Nat × Nat
  k : Int
  kind : Int
  neg : Bool
  mag : Option Addr × Nat × Nat
  den : Option Addr × Nat × Nat
  name : ByteArray
  guard : Int
  resets : Option Addr × Nat × Nat
def InsM.cs (x : InsM) : List Value := [.string x.op, .int .i64 x.dst, sl3 x.args, .int .i64 x.k, .int .i64 x.kind, .bool x.neg, sl3 x.mag, sl3 x.den, .string x.name, .int .i64 x.guard, sl3 x.resets]
def insV (x : InsM) : Value := .agg x.cs.toArray
theorem InsM.cs_len (x : InsM) : x.cs.length = 11 := rfl
theorem InsM.cs_one (x : InsM) : ∀ u ∈ x.cs, u.oneCell' = true := by
  intro u hu
  simp only [InsM.cs, List.mem_cons, List.not_mem_nil, or_false] at hu
  rcases hu with rfl | rfl | rfl | rfl | rfl | rfl | rfl | rfl | rfl | rfl | rfl <;> rfl
def flatC (xs : List InsM) : List Value := xs.flatMap InsM.cs
theorem flatC_len (xs : List InsM) : (flatC xs).length = xs.length * 11 := by
  induction xs with
  | nil => rfl
  | cons x xs ih => unfold flatC at ih ⊢; simp only [List.flatMap_cons, List.length_append, InsM.cs_len, List.length_cons, ih]; omega
theorem flatC_append (xs ys : List InsM) : flatC (xs ++ ys) = flatC xs ++ flatC ys := List.flatMap_append
theorem flatC_get : ∀ (xs : List InsM) (i : Nat) (x : InsM), xs[i]? = some x → ∀ j, j < 11 → (flatC xs)[i * 11 + j]? = x.cs[j]?
  | [], i, x, h => by simp at h
  | y :: ys, 0, x, h => by
    intro j hj
    simp at h; subst h
    unfold flatC
    rw [List.flatMap_cons, List.getElem?_append_left (by rw [InsM.cs_len]; omega)]
    simp
  | y :: ys, i + 1, x, h => by
    intro j hj
    have := flatC_get ys i x (by simpa using h) j hj
    unfold flatC at this ⊢
    rw [List.flatMap_cons, List.getElem?_append_right (by rw [InsM.cs_len]; omega), InsM.cs_len, show (i + 1) * 11 + j - 11 = i * 11 + j by omega]
    exact this
/-- a row of instructions that the call owns -/
def OwnS (w : World) (B : Nat) (v : Value) (xs : List InsM) : Prop := w.ownsRow B 70 11 v xs.length (flatC xs)
section
variable {w w' : World} {B B' : Nat} {v : Value} {xs : List InsM}
theorem OwnS.len (h : OwnS w B v xs) : ∃ a c, v = .slice a xs.length c := by
  rcases h.2 with ⟨rfl, h0⟩ | ⟨g, cap, cur, rfl, _⟩
  · exact ⟨none, 0, by rw [h0]⟩
  · exact ⟨_, cap, rfl⟩
theorem OwnS.keep (h : OwnS w B v xs) (hk : ∀ k, v.ownBlock = some k → w'.heap[k]? = w.heap[k]?) : OwnS w' B v xs := by
  refine ⟨h.1, ?_⟩
  rcases h.2 with h0 | ⟨g, cap, cur, rfl, hb, hg, hr⟩
  · exact Or.inl h0
  · exact Or.inr ⟨g, cap, cur, rfl, hb, (hk g rfl).trans hg, hr⟩
theorem OwnS.lt (h : OwnS w B v xs) {k : Nat} (hk : v.ownBlock = some k) : B ≤ k ∧ k < w.heap.size := World.ownsRow.lt h k hk
theorem OwnS.only {S : List (Option Nat)} (h : OwnS w B v xs) (hb : Only S w w') (hv : ∀ k, v.ownBlock = some k → some k ∉ S) : OwnS w' B v xs :=
  h.keep fun k hk => hb.block k (h.lt hk).2 (hv k hk)
theorem OwnS.below (h : OwnS w B v xs) (hb : Below B' w w') (hB : w.heap.size ≤ B') : OwnS w' B v xs :=
  h.keep fun k hk => hb.block k (Nat.lt_of_lt_of_le (h.lt hk).2 hB)
theorem OwnS.later (h : OwnS w B v xs) (hb : Below w.heap.size w w') : OwnS w' B v xs := h.below hb (Nat.le_refl _)
theorem OwnS.more (h : OwnS w B v xs) (hB : B' ≤ B) : OwnS w B' v xs := by
  refine ⟨h.1, ?_⟩
  rcases h.2 with h0 | ⟨g, cap, cur, rfl, hb, hr⟩
  · exact Or.inl h0
  · exact Or.inr ⟨g, cap, cur, rfl, Nat.le_trans hB hb, hr⟩
theorem OwnS.nil (w : World) (B : Nat) : OwnS w B (.slice none 0 0) [] := World.ownsRow_nil w B 70 11
end
/-- rows of instructions, all of them below a block -/
def SMem (w : World) (B : Nat) (a : Option Addr) (n c : Nat) (xs : List InsM) : Prop :=
  xs.length = n ∧ n ≤ c ∧ c ≤ maxLen ∧ ∃ b, (a = some ⟨b, 0, none⟩ ∨ n ≤ 0) ∧ ∀ i x, xs[i]? = some x → b < B ∧ ∀ j u, x.cs[j]? = some u → w.cell? ⟨b, i * 11 + j, none⟩ = some u
theorem SMem.keep {w w' : World} {B : Nat} {a : Option Addr} {n c : Nat} {xs : List InsM} (h : SMem w B a n c xs) (hb : Below B w w') : SMem w' B a n c xs := by
  obtain ⟨h1, h2, h3, b, h4, h5⟩ := h
  exact ⟨h1, h2, h3, b, h4, fun i x hx => ⟨(h5 i x hx).1, fun j u hu => (hb.cell (p := ⟨b, i * 11 + j, none⟩) (h5 i x hx).1).trans ((h5 i x hx).2 j u hu)⟩⟩
theorem SMem.at_ {w : World} {B : Nat} {a : Option Addr} {n c : Nat} {xs : List InsM} (h : SMem w B a n c xs) {i : Nat} {x : InsM} (hx : xs[i]? = some x) : ∃ b, a = some ⟨b, 0, none⟩ ∧ b < B ∧ ∀ j u, x.cs[j]? = some u → w.cell? ⟨b, i * 11 + j, none⟩ = some u := by
  obtain ⟨h1, h2, h3, b, h4, h5⟩ := h
  have hi : i < xs.length := (List.getElem?_eq_some_iff.1 hx).1
  exact ⟨b, h4.resolve_right (by omega), h5 i x hx⟩
theorem OwnS.mem {w : World} {B : Nat} {v : Value} {xs : List InsM} (h : OwnS w B v xs) : ∃ a c, v = .slice a xs.length c ∧ SMem w w.heap.size a xs.length c xs := by
  rcases h.2 with ⟨rfl, h0⟩ | ⟨g, cap, cur, rfl, _, hg, hnc, hcm, _⟩
  · refine ⟨none, 0, by rw [h0], rfl, by omega, Nat.zero_le _, 0, Or.inr (by omega), fun i x hx => ?_⟩
    have := (List.getElem?_eq_some_iff.1 hx).1
    omega
  · refine ⟨_, cap, rfl, rfl, hnc, hcm, g, Or.inl rfl, fun i x hx => ⟨(Array.getElem?_eq_some_iff.1 hg).1, fun j u hu => ?_⟩⟩
    have hj : j < 11 := by rw [← InsM.cs_len x]; exact (List.getElem?_eq_some_iff.1 hu).1
    have := h.cells (g := g) rfl (i * 11 + j) u (by rw [flatC_get xs i x hx j hj]; exact hu)
    have e : (⟨g, 0, none⟩ : Addr).add (i * 11 + j) = ⟨g, i * 11 + j, none⟩ := by unfold Addr.add; split <;> simp_all
    rw [e] at this
    exact this
theorem Try.infoIns : (Try.prog.info? 70).map (fun i => (i.zero, i.size, i.bytes)) = some (some (insV ⟨⟨#[]⟩, 0, (none, 0, 0), 0, 0, false, (none, 0, 0), (none, 0, 0), ⟨#[]⟩, 0, (none, 0, 0)⟩), 11, 168) := by kernel_rfl
/-- what the model's append of instructions tells -/
theorem runS (w : World) (ty : TypeId) (B : Nat) (v : Value) (xs : List InsM) (hown : OwnS w B v xs) (ad : Addr) (n c : Nat) (ys : List InsM) (hys : ys.length = n) (hn : ∀ j u, (flatC ys)[j]? = some u → w.cell? (ad.add j) = some u) (hB : B ≤ w.heap.size) (hl : xs.length ≤ 100000000) (hy : n ≤ 1000000) :
    ∃ v' w', (Builtin.append_ #[38, 38] ty #[v, .slice (some ad) n c]).run Try.prog w = .ok v' w' ∧ OwnS w' B v' (xs ++ ys) ∧ Only [v.ownBlock] w w' ∧ (v'.ownBlock = v.ownBlock ∨ ∃ k, v'.ownBlock = some k ∧ w.heap.size ≤ k) := by
  obtain ⟨i0, hi, hz0, hz1, hz2⟩ := info_parts Try.infoIns
  obtain ⟨v', w', h1, h2, h3, h4, h5⟩ := run_append_own_at (P := Try.prog) w B 38 ty 70 i0 _ 11 168 Try.underlying38 hi hz0 hz1 hz2 rfl (by decide) v xs.length (flatC xs) hown ad n c (flatC ys) (by rw [flatC_len, hys]) hn (fun u hu => by
    unfold flatC at hu
    rw [List.mem_flatMap] at hu
    obtain ⟨y, _, hu⟩ := hu
    exact y.cs_one u hu) (by unfold maxLen; omega) (by omega) hB
  refine ⟨v', w', h1, ?_, Only.of_grown h3 (Or.inl (by simp)), ?_⟩
  · unfold OwnS; rw [flatC_append, List.length_append, hys]; exact h2
  · rcases h5 with h | h
    · exact Or.inl h
    · exact Or.inr ⟨_, h, Nat.le_refl _⟩
theorem runS_none (w : World) (ty : TypeId) (B : Nat) (v : Value) (xs : List InsM) (hown : OwnS w B v xs) :
    (Builtin.append_ #[38, 38] ty #[v, .slice none 0 0]).run Try.prog w = .ok v w := by
  obtain ⟨i0, hi, hz0, hz1, hz2⟩ := info_parts Try.infoIns
  have h := run_append_owned_none (P := Try.prog) (w := w) B 38 ty 70 i0 11 Try.underlying38 hi v xs.length (flatC xs) hown
  exact h
theorem cell_ins_new (w : World) (x : InsM) (T : TypeId) {H : Nat} (hH : w.heap.size = H) : ∀ j u, (flatC [x])[j]? = some u → (w.alloc (.cells x.cs.toArray T)).cell? ((⟨H, 0, none⟩ : Addr).add j) = some u := by
  intro j u hu
  subst hH
  have e : (⟨w.heap.size, 0, none⟩ : Addr).add j = ⟨w.heap.size, j, none⟩ := by unfold Addr.add; split <;> simp_all
  rw [e, cell_of_row _ w.heap.size j _ T (0, 0) (heap_alloc_new w _)]
  simpa [flatC] using hu
/-- append(row, x), the row the call's own, x laid in a block of its own ahead -/
theorem appendX {w : World} {ops : Array Oper} {rest : List Oper} {o : Oper} {a : Act} {Q : Exit → Act → World → Prop} (hgd : o.guard = none) (s x : Operand)
    (hop : o.op = .call { callee := .builtin .append, args := #[s, x], argTypes := #[38, 38] })
    (B : Nat) (v : Value) (xs : List InsM) (X : InsM) (T : TypeId) (H : Nat) (hs : a.eval s = v) (hx : a.eval x = .slice (some ⟨H, 0, none⟩) 1 1) (hH : w.heap.size = H) (hown : OwnS w B v xs) (hB : B ≤ H) (hl : xs.length ≤ 100000000)
    (hK : ∀ v' w', OwnS w' B v' (xs ++ [X]) → Only [v.ownBlock] w w' → (v'.ownBlock = v.ownBlock ∨ ∃ k, v'.ownBlock = some k ∧ H ≤ k) → wpList Try.prog ops Q rest (a.put o.dst v') w') :
    wpList Try.prog ops Q (o :: rest) a (w.alloc (.cells X.cs.toArray T)) := by
  subst hH
  obtain ⟨i0, hi, hz0, hz1, hz2⟩ := info_parts Try.infoIns
  refine wpList_append_own_at _ hgd s x 38 hop B 70 i0 _ 11 168 Try.underlying38 hi hz0 hz1 hz2 rfl (by decide) v xs.length (flatC xs) hs (World.ownsRow.alloc hown _) ⟨w.heap.size, 0, none⟩ 1 1 X.cs hx rfl (fun j u hu => cell_ins_new w X T rfl j u (by simpa [flatC] using hu)) X.cs_one (by unfold maxLen; omega) (by omega) (by simp; omega) ?_
  intro v' w' hown' hgrow _ hat
  refine hK v' w' ?_ ((Only.refl _ w |>.alloc _).trans (Only.of_grown hgrow (Or.inl (by simp)))) ?_
  · unfold OwnS; rw [flatC_append]; simpa [flatC] using hown'
  · rcases hat with h | h
    · exact Or.inl h
    · exact Or.inr ⟨_, h, by simp⟩
/-- the same as a step of a region that draws -/
theorem stepX {w : World} {ops : Array Oper} {o : Oper} {a : Act} {K : Act → World → Prop} {Q : Exit → Act → World → Prop} {E : Prop} (hgd : o.guard = none) (s x : Operand)
    (hop : o.op = .call { callee := .builtin .append, args := #[s, x], argTypes := #[38, 38] })
    (B : Nat) (v : Value) (xs : List InsM) (X : InsM) (T : TypeId) (H : Nat) (hs : a.eval s = v) (hx : a.eval x = .slice (some ⟨H, 0, none⟩) 1 1) (hH : w.heap.size = H) (hown : OwnS w B v xs) (hB : B ≤ H) (hl : xs.length ≤ 100000000)
    (hK : ∀ v' w', OwnS w' B v' (xs ++ [X]) → Only [v.ownBlock] w w' → (v'.ownBlock = v.ownBlock ∨ ∃ k, v'.ownBlock = some k ∧ H ≤ k) → K (a.put o.dst v') w') :
    if Region.wanted o (yielded ops a.tmps) = true then Oper.wp Try.prog o a (w.alloc (.cells X.cs.toArray T)) K Q else E := by
  subst hH
  have hw : Region.wanted o (yielded ops a.tmps) = true := by simp [Region.wanted, hgd]
  rw [if_pos hw]
  obtain ⟨v', w', hr', h2, h3, h4⟩ := runS (w.alloc (.cells X.cs.toArray T)) o.type B v xs (hown.later ((Below.refl _ _).alloc (Nat.le_refl _) _)) ⟨w.heap.size, 0, none⟩ 1 1 [X] rfl (cell_ins_new w X T rfl) (by simp; omega) hl (by omega)
  unfold Oper.wp execOp
  simp only [hop, resolve, invoke, builtin, Sem.run_bind, Sem.run_pure, Result.andThen_ok, List.map_toArray, List.map_cons, List.map_nil, hs, hx, hr']
  refine hK v' w' h2 ((Only.refl _ w |>.alloc _).trans h3) ?_
  rcases h4 with h | ⟨k, h, hk⟩
  · exact Or.inl h
  · exact Or.inr ⟨k, h, by simp at hk; omega⟩
/-- append(row, rows..) -/
theorem appendXs {w : World} {ops : Array Oper} {rest : List Oper} {o : Oper} {a : Act} {Q : Exit → Act → World → Prop} (hgd : o.guard = none) (s x : Operand)
    (hop : o.op = .call { callee := .builtin .append, args := #[s, x], argTypes := #[38, 38] })
    (B B' : Nat) (v : Value) (xs : List InsM) (A : Option Addr) (n c : Nat) (ys : List InsM) (hs : a.eval s = v) (hx : a.eval x = .slice A n c) (hc : A = none → c = 0) (hown : OwnS w B v xs) (hr : SMem w B' A n c ys) (hB : B ≤ w.heap.size) (hl : xs.length ≤ 100000000) (hn : n ≤ 1000000)
    (hK : ∀ v' w', OwnS w' B v' (xs ++ ys) → Only [v.ownBlock] w w' → (v'.ownBlock = v.ownBlock ∨ ∃ k, v'.ownBlock = some k ∧ w.heap.size ≤ k) → wpList Try.prog ops Q rest (a.put o.dst v') w') :
    wpList Try.prog ops Q (o :: rest) a w := by
  obtain ⟨i0, hi, hz0, hz1, hz2⟩ := info_parts Try.infoIns
  cases A with
  | none =>
    have hc := hc rfl
    have hn0 : n = 0 := by have := hr.2.1; omega
    subst hc hn0
    have hy : ys = [] := List.length_eq_zero_iff.1 hr.1
    subst hy
    refine wpList_append_own_none hgd s x 38 hop B 70 i0 11 Try.underlying38 hi v xs.length (flatC xs) hs hown hx ?_
    exact hK v w (by rw [List.append_nil]; exact hown) (Only.refl _ _) (.inl rfl)
  | some ad =>
    refine wpList_append_own_at _ hgd s x 38 hop B 70 i0 _ 11 168 Try.underlying38 hi hz0 hz1 hz2 rfl (by decide) v xs.length (flatC xs) hs hown ad n c (flatC ys) hx (by rw [flatC_len, hr.1]) (fun j u hu => ?_) (fun u hu => ?_) (by unfold maxLen; omega) (by omega) hB ?_
    · have hj : j < n * 11 := by rw [← hr.1, ← flatC_len]; exact (List.getElem?_eq_some_iff.1 hu).1
      have hi' : j / 11 < ys.length := by rw [hr.1]; omega
      obtain ⟨b, e, _, hcl⟩ := hr.at_ (List.getElem?_eq_getElem hi')
      injection e with e
      subst e
      have e1 : j / 11 * 11 + j % 11 = j := by omega
      have hg := flatC_get ys (j / 11) _ (List.getElem?_eq_getElem hi') (j % 11) (by omega)
      rw [e1, hu] at hg
      have := hcl (j % 11) u hg.symm
      rw [e1] at this
      have e2 : (⟨b, 0, none⟩ : Addr).add j = ⟨b, j, none⟩ := by unfold Addr.add; split <;> simp_all
      rw [e2]; exact this
    · unfold flatC at hu
      rw [List.mem_flatMap] at hu
      obtain ⟨y, _, hu⟩ := hu
      exact y.cs_one u hu
    · intro v' w' hown' hgrow _ hat
      refine hK v' w' ?_ (Only.of_grown hgrow (Or.inl (by simp))) ?_
      · unfold OwnS; rw [flatC_append, List.length_append, hr.1]; exact hown'
      · rcases hat with h | h
        · exact Or.inl h
        · exact Or.inr ⟨_, h, Nat.le_refl _⟩
theorem Only.ownS {B : Nat} {v : Value} {xs : List InsM} {a b : World} (h : Only [v.ownBlock] a b) (ho : OwnS a B v xs) (hB : B ≤ a.heap.size) : Below B a b :=
  h.below hB fun j hj => by
    simp at hj
    exact (ho.lt hj.symm).1

/-- where a variable lies; -1 of none -/
def slotS (xs : List Int) (x : Int) : Int := if x < 0 then -1 else xs.getD x.toNat 0
end Go.Proofs.Ytpcpbpinhdbjiaa

namespace Go.Proofs.Ytpcpbpinhdbjiaa
set_option linter.unusedVariables false
set_option linter.unusedSimpArgs false
set_option maxRecDepth 100000
open Go.RowKit

theorem Try.infoU32 : (Try.prog.info? 106).map (fun i => (i.zero, i.size, i.bytes)) = some (some (.int .u32 0), 1, 4) := by kernel_rfl
theorem owns_slice {w : World} {B e sz : Nat} {v : Value} {n : Nat} {xs : List Value} (h : w.ownsRow B e sz v n xs) : ∃ a c, v = .slice a n c := by
  rcases h.2 with ⟨rfl, h0⟩ | ⟨g, cap, cur, rfl, _⟩
  · exact ⟨none, 0, by rw [h0]⟩
  · exact ⟨_, cap, rfl⟩
/-- what Clone tells: some slice; older cells are unchanged -/
def ClonePost (w : World) (e : Ending) (w' : World) : Prop := (∃ s : Option Addr × Nat × Nat, e = .returned (.slice s.1 s.2.1 s.2.2)) ∧ Below w.heap.size w w'
/-- append(s[:0:0], s..) of numbers of 32 bits -/
theorem appendU {w : World} {ops : Array Oper} {rest : List Oper} {o : Oper} {a : Act} {Q : Exit → Act → World → Prop} (hgd : o.guard = none) (s x : Operand)
    (hop : o.op = .call { callee := .builtin .append, args := #[s, x], argTypes := #[44, 44] })
    (B : Nat) (ad : Addr) (n c : Nat) (ys : List Nat) (hs : a.eval s = .slice (some ⟨w.heap.size, 0, none⟩) 0 0) (hx : a.eval x = .slice (some ad) n c) (hr : URow w B (some ad) n c ys) (hB : B ≤ w.heap.size) 
    (hK : ∀ s' w', Below w.heap.size w w' → wpList Try.prog ops Q rest (a.put o.dst (sl3 s')) w') :
    wpList Try.prog ops Q (o :: rest) a (w.alloc (.cells #[] 106)) := by
  obtain ⟨i0, hi, hz0, hz1, hz2⟩ := info_parts Try.infoU32
  have hown : (w.alloc (.cells #[] 106)).ownsRow w.heap.size 106 1 (.slice (some ⟨w.heap.size, 0, none⟩) 0 0) 0 [] :=
    ⟨rfl, .inr ⟨w.heap.size, 0, #[], rfl, Nat.le_refl _, heap_alloc_new w _, Nat.le_refl _, Nat.zero_le _, rfl, rfl⟩⟩
  obtain ⟨h1, h2, h3, h4, h5, h8, b, off, h6, h7⟩ := hr
  refine wpList_append_own_at _ hgd s x 44 hop w.heap.size 106 i0 (.int .u32 0) 1 4 Try.underlying44 hi hz0 hz1 hz2 rfl (by decide) _ 0 [] hs hown ad n c (ys.map fun (y : Nat) => Value.int .u32 (y : Int)) hx (by rw [List.length_map, h1, Nat.mul_one]) (fun j u hu => ?_) (fun u hu => ?_) (by unfold maxLen; omega) (by omega) (by simp) ?_
  · rw [List.getElem?_map] at hu
    obtain ⟨y, hy, rfl⟩ := Option.map_eq_some_iff.1 hu
    have hj : j < n := by rw [← h1]; exact (List.getElem?_eq_some_iff.1 hy).1
    obtain ⟨hb, hc⟩ := h7 j hj
    have e := h6.resolve_right (by omega)
    injection e with e
    subst e
    rw [Go.WideShapes.add_plain, ((Below.refl w.heap.size w).alloc (Nat.le_refl _) _).cell (p := ⟨b, off + j, none⟩) (Nat.lt_of_lt_of_le hb hB), hc]
    congr 2
    simp [List.getD, hy]
  · rw [List.mem_map] at hu
    obtain ⟨y, _, rfl⟩ := hu
    rfl
  · intro v' w' hown' hgrow _ hat
    obtain ⟨a', c', rfl⟩ := owns_slice hown'
    refine hK (a', _, c') w' ?_
    have h9 : Only [some w.heap.size] (w.alloc (.cells #[] 106)) w' := Only.of_grown hgrow (Or.inl (by simp [Value.ownBlock]))
    exact ((Below.refl _ _).alloc (Nat.le_refl _) _).trans (h9.below (by simp) fun j hj => by simp at hj; omega)
/-- a value as it stands in a box: two numbers rows in it -/
def valV (kind : Int) (neg : Bool) (m d : Option Addr × Nat × Nat) (name : ByteArray) : Value := .agg #[.int .i64 kind, .bool neg, .slice m.1 m.2.1 m.2.2, .slice d.1 d.2.1 d.2.2, .string name]
def CopyPost (kind : Int) (neg : Bool) (name : ByteArray) (w : World) (e : Ending) (w' : World) : Prop := (∃ m d : Option Addr × Nat × Nat, e = .returned (valV kind neg m d name)) ∧ Below w.heap.size w w'

end Go.Proofs.Ytpcpbpinhdbjiaa

namespace Go.Proofs.Ytpcpbpinhdbjiaa
set_option linter.unusedVariables false
set_option linter.unusedSimpArgs false
set_option maxRecDepth 100000
open Go.RowKit

theorem Blk.put {w : World} {g T : Nat} {vs : List Value} (h : Blk w g T vs.toArray) (j : Nat) (u : Value) : Blk (w.setCell ⟨g, j, none⟩ u) g T (vs.set j u).toArray := by
  have := heap_setCell_same w g j _ T u h
  unfold Blk
  rw [this]
  congr 2
  simp
theorem Blk.setOther {w : World} {g T : Nat} {vs : Array Value} (h : Blk w g T vs) {p : Addr} (hp : g ≠ p.block) (u : Value) : Blk (w.setCell p u) g T vs := (Below.heap_setCell w p u g hp).trans h
theorem Blk.five {w : World} {g T : Nat} {a b c d e : Value} (h : Blk w g T #[a, b, c, d, e]) : w.cell? ⟨g, 0, none⟩ = some a ∧ w.cell? ⟨g, 1, none⟩ = some b ∧ w.cell? ⟨g, 2, none⟩ = some c ∧ w.cell? ⟨g, 3, none⟩ = some d ∧ w.cell? ⟨g, 4, none⟩ = some e :=
  ⟨h.cell 0 rfl, h.cell 1 rfl, h.cell 2 rfl, h.cell 3 rfl, h.cell 4 rfl⟩
theorem Blk.put5 {w : World} {g T : Nat} {a b c d e : Value} (h : Blk w g T #[a, b, c, d, e]) (x0 x1 x2 x3 x4 : Value) : Blk (((((w.setCell ⟨g, 0, none⟩ x0).setCell ⟨g, 1, none⟩ x1).setCell ⟨g, 2, none⟩ x2).setCell ⟨g, 3, none⟩ x3).setCell ⟨g, 4, none⟩ x4) g T #[x0, x1, x2, x3, x4] := by
  have h1 : Blk w g T [a, b, c, d, e].toArray := h
  exact ((((h1.put 0 x0).put 1 x1).put 2 x2).put 3 x3).put 4 x4
theorem Try.infoVal : (Try.prog.info? 50).map (·.size) = some 5 := by kernel_rfl
/-- a function whose result lies in a block's cells returns -/
theorem ret_row {fn : Func} {p : Tmp} {ty : TypeId} {fs : Array Field} (h : fn.results = #[.cell p ty]) {a : Act} {w : World} {R : Ending → World → Prop} (g : Nat) (cs : Array Value) (hg : Blk w g ty cs) (hp : a.tmps.getD p undef = .pointer (some ⟨g, 0, none⟩)) (hd : a.defers = [])
    (hu : Try.prog.underlying ty = some (.struct fs)) (hi : (Try.prog.info? ty).map (·.size) = some cs.size) (hR : R (.returned (.agg cs)) w) : bodyPost Try.prog fn R .ret a w :=
  bodyPost_ret_by (results_cell_row h _ w g ty cs (0, 0) (.struct fs) hp hg hu rfl hi) hd hR
end Go.Proofs.Ytpcpbpinhdbjiaa

namespace Go.Proofs.Ytpcpbpinhdbjiaa
set_option linter.unusedVariables false
set_option linter.unusedSimpArgs false
set_option maxRecDepth 100000
open Go.RowKit

def insA (x : InsM) : Array Value := #[.string x.op, .int .i64 x.dst, .slice x.args.1 x.args.2.1 x.args.2.2, .int .i64 x.k, .int .i64 x.kind, .bool x.neg, .slice x.mag.1 x.mag.2.1 x.mag.2.2, .slice x.den.1 x.den.2.1 x.den.2.2, .string x.name, .int .i64 x.guard, .slice x.resets.1 x.resets.2.1 x.resets.2.2]
theorem insA_cs (x : InsM) : x.cs.toArray = insA x := rfl
theorem insV_A (x : InsM) : insV x = .agg (insA x) := rfl
theorem Blk.elevQ {w : World} {g T : Nat} {x0 x1 x2 x3 x4 x5 x6 x7 x8 x9 x10 : Value} (h : Blk w g T #[x0, x1, x2, x3, x4, x5, x6, x7, x8, x9, x10]) : w.cell? ⟨g, 0, none⟩ = some x0 ∧ w.cell? ⟨g, 1, none⟩ = some x1 ∧ w.cell? ⟨g, 2, none⟩ = some x2 ∧ w.cell? ⟨g, 3, none⟩ = some x3 ∧ w.cell? ⟨g, 4, none⟩ = some x4 ∧ w.cell? ⟨g, 5, none⟩ = some x5 ∧ w.cell? ⟨g, 6, none⟩ = some x6 ∧ w.cell? ⟨g, 7, none⟩ = some x7 ∧ w.cell? ⟨g, 8, none⟩ = some x8 ∧ w.cell? ⟨g, 9, none⟩ = some x9 ∧ w.cell? ⟨g, 10, none⟩ = some x10 :=
  ⟨h.cell 0 rfl, h.cell 1 rfl, h.cell 2 rfl, h.cell 3 rfl, h.cell 4 rfl, h.cell 5 rfl, h.cell 6 rfl, h.cell 7 rfl, h.cell 8 rfl, h.cell 9 rfl, h.cell 10 rfl⟩
theorem Blk.elevQF {w : World} {g T : Nat} {vs : Array Value} (h : Blk w g T vs) : w.frozen? ⟨g, 0, none⟩ = false ∧ w.frozen? ⟨g, 1, none⟩ = false ∧ w.frozen? ⟨g, 2, none⟩ = false ∧ w.frozen? ⟨g, 3, none⟩ = false ∧ w.frozen? ⟨g, 4, none⟩ = false ∧ w.frozen? ⟨g, 5, none⟩ = false ∧ w.frozen? ⟨g, 6, none⟩ = false ∧ w.frozen? ⟨g, 7, none⟩ = false ∧ w.frozen? ⟨g, 8, none⟩ = false ∧ w.frozen? ⟨g, 9, none⟩ = false ∧ w.frozen? ⟨g, 10, none⟩ = false :=
  ⟨h.free 0, h.free 1, h.free 2, h.free 3, h.free 4, h.free 5, h.free 6, h.free 7, h.free 8, h.free 9, h.free 10⟩
theorem Blk.put11 {w : World} {g T : Nat} {x0 x1 x2 x3 x4 x5 x6 x7 x8 x9 x10 : Value} (h : Blk w g T #[x0, x1, x2, x3, x4, x5, x6, x7, x8, x9, x10]) (y0 y1 y2 y3 y4 y5 y6 y7 y8 y9 y10 : Value) : Blk (((((((((((w.setCell ⟨g, 0, none⟩ y0).setCell ⟨g, 1, none⟩ y1).setCell ⟨g, 2, none⟩ y2).setCell ⟨g, 3, none⟩ y3).setCell ⟨g, 4, none⟩ y4).setCell ⟨g, 5, none⟩ y5).setCell ⟨g, 6, none⟩ y6).setCell ⟨g, 7, none⟩ y7).setCell ⟨g, 8, none⟩ y8).setCell ⟨g, 9, none⟩ y9).setCell ⟨g, 10, none⟩ y10) g T #[y0, y1, y2, y3, y4, y5, y6, y7, y8, y9, y10] := by
  have h1 : Blk w g T [x0, x1, x2, x3, x4, x5, x6, x7, x8, x9, x10].toArray := h
  exact ((((((((((h1.put 0 y0).put 1 y1).put 2 y2).put 3 y3).put 4 y4).put 5 y5).put 6 y6).put 7 y7).put 8 y8).put 9 y9).put 10 y10
theorem Blk.putA {w : World} {g T : Nat} {vs : Array Value} (h : Blk w g T vs) (j : Nat) (u : Value) : Blk (w.setCell ⟨g, j, none⟩ u) g T (vs.setIfInBounds j u) := by
  have := heap_setCell_same w g j _ T u h
  unfold Blk
  rw [this]
theorem bs_toList (l : List UInt8) : (bs l).toList = l := by rw [Lib.toList_data]; rfl
theorem keepS3 {W w' : World} {C : Nat} {p0 p1 p2 : Addr} {x0 x1 x2 : Value} (h : W.cell? p0 = some x0 ∧ W.cell? p1 = some x1 ∧ W.cell? p2 = some x2) (hb : Below C W w') (h0 : p0.block < C) (h1 : p1.block < C) (h2 : p2.block < C) :
    w'.cell? p0 = some x0 ∧ w'.cell? p1 = some x1 ∧ w'.cell? p2 = some x2 :=
  ⟨(hb.cell h0).trans h.1, (hb.cell h1).trans h.2.1, (hb.cell h2).trans h.2.2⟩
theorem belowP11 {B : Nat} {a w : World} (h : Below B a w) {g : Nat} (hg : B ≤ g) (y0 y1 y2 y3 y4 y5 y6 y7 y8 y9 y10 : Value) : Below B a (((((((((((w.setCell ⟨g, 0, none⟩ y0).setCell ⟨g, 1, none⟩ y1).setCell ⟨g, 2, none⟩ y2).setCell ⟨g, 3, none⟩ y3).setCell ⟨g, 4, none⟩ y4).setCell ⟨g, 5, none⟩ y5).setCell ⟨g, 6, none⟩ y6).setCell ⟨g, 7, none⟩ y7).setCell ⟨g, 8, none⟩ y8).setCell ⟨g, 9, none⟩ y9).setCell ⟨g, 10, none⟩ y10) :=
  ((((((((((h.setCell (p := ⟨g, 0, none⟩) hg y0).setCell (p := ⟨g, 1, none⟩) hg y1).setCell (p := ⟨g, 2, none⟩) hg y2).setCell (p := ⟨g, 3, none⟩) hg y3).setCell (p := ⟨g, 4, none⟩) hg y4).setCell (p := ⟨g, 5, none⟩) hg y5).setCell (p := ⟨g, 6, none⟩) hg y6).setCell (p := ⟨g, 7, none⟩) hg y7).setCell (p := ⟨g, 8, none⟩) hg y8).setCell (p := ⟨g, 9, none⟩) hg y9).setCell (p := ⟨g, 10, none⟩) hg y10
theorem Try.infoInsS : (Try.prog.info? 70).map (·.size) = some 11 := by kernel_rfl
theorem keepS4 {W w' : World} {C : Nat} {p0 p1 p2 p3 : Addr} {x0 x1 x2 x3 : Value} (h : W.cell? p0 = some x0 ∧ W.cell? p1 = some x1 ∧ W.cell? p2 = some x2 ∧ W.cell? p3 = some x3) (hb : Below C W w') (h0 : p0.block < C) (h1 : p1.block < C) (h2 : p2.block < C) (h3 : p3.block < C) :
    w'.cell? p0 = some x0 ∧ w'.cell? p1 = some x1 ∧ w'.cell? p2 = some x2 ∧ w'.cell? p3 = some x3 :=
  ⟨(hb.cell h0).trans h.1, (hb.cell h1).trans h.2.1, (hb.cell h2).trans h.2.2.1, (hb.cell h3).trans h.2.2.2⟩
theorem keepP4 {W : World} {C e : Nat} {o0 o1 o2 o3 : Nat} {x0 x1 x2 x3 : Value} (h : W.cell? ⟨e, o0, none⟩ = some x0 ∧ W.cell? ⟨e, o1, none⟩ = some x1 ∧ W.cell? ⟨e, o2, none⟩ = some x2 ∧ W.cell? ⟨e, o3, none⟩ = some x3) (he : e < C) (y0 y1 y2 y3 y4 y5 y6 y7 y8 y9 y10 : Value) :
    (((((((((((W.setCell ⟨C, 0, none⟩ y0).setCell ⟨C, 1, none⟩ y1).setCell ⟨C, 2, none⟩ y2).setCell ⟨C, 3, none⟩ y3).setCell ⟨C, 4, none⟩ y4).setCell ⟨C, 5, none⟩ y5).setCell ⟨C, 6, none⟩ y6).setCell ⟨C, 7, none⟩ y7).setCell ⟨C, 8, none⟩ y8).setCell ⟨C, 9, none⟩ y9).setCell ⟨C, 10, none⟩ y10).cell? ⟨e, o0, none⟩ = some x0 ∧ (((((((((((W.setCell ⟨C, 0, none⟩ y0).setCell ⟨C, 1, none⟩ y1).setCell ⟨C, 2, none⟩ y2).setCell ⟨C, 3, none⟩ y3).setCell ⟨C, 4, none⟩ y4).setCell ⟨C, 5, none⟩ y5).setCell ⟨C, 6, none⟩ y6).setCell ⟨C, 7, none⟩ y7).setCell ⟨C, 8, none⟩ y8).setCell ⟨C, 9, none⟩ y9).setCell ⟨C, 10, none⟩ y10).cell? ⟨e, o1, none⟩ = some x1 ∧ (((((((((((W.setCell ⟨C, 0, none⟩ y0).setCell ⟨C, 1, none⟩ y1).setCell ⟨C, 2, none⟩ y2).setCell ⟨C, 3, none⟩ y3).setCell ⟨C, 4, none⟩ y4).setCell ⟨C, 5, none⟩ y5).setCell ⟨C, 6, none⟩ y6).setCell ⟨C, 7, none⟩ y7).setCell ⟨C, 8, none⟩ y8).setCell ⟨C, 9, none⟩ y9).setCell ⟨C, 10, none⟩ y10).cell? ⟨e, o2, none⟩ = some x2 ∧ (((((((((((W.setCell ⟨C, 0, none⟩ y0).setCell ⟨C, 1, none⟩ y1).setCell ⟨C, 2, none⟩ y2).setCell ⟨C, 3, none⟩ y3).setCell ⟨C, 4, none⟩ y4).setCell ⟨C, 5, none⟩ y5).setCell ⟨C, 6, none⟩ y6).setCell ⟨C, 7, none⟩ y7).setCell ⟨C, 8, none⟩ y8).setCell ⟨C, 9, none⟩ y9).setCell ⟨C, 10, none⟩ y10).cell? ⟨e, o3, none⟩ = some x3 := by
  have hb : Below C W (((((((((((W.setCell ⟨C, 0, none⟩ y0).setCell ⟨C, 1, none⟩ y1).setCell ⟨C, 2, none⟩ y2).setCell ⟨C, 3, none⟩ y3).setCell ⟨C, 4, none⟩ y4).setCell ⟨C, 5, none⟩ y5).setCell ⟨C, 6, none⟩ y6).setCell ⟨C, 7, none⟩ y7).setCell ⟨C, 8, none⟩ y8).setCell ⟨C, 9, none⟩ y9).setCell ⟨C, 10, none⟩ y10) := belowP11 (Below.refl C W) (Nat.le_refl C) y0 y1 y2 y3 y4 y5 y6 y7 y8 y9 y10
  exact keepS4 h hb he he he he
theorem keepA4 {W : World} {C e : Nat} {o0 o1 o2 o3 : Nat} {x0 x1 x2 x3 : Value} (h : W.cell? ⟨e, o0, none⟩ = some x0 ∧ W.cell? ⟨e, o1, none⟩ = some x1 ∧ W.cell? ⟨e, o2, none⟩ = some x2 ∧ W.cell? ⟨e, o3, none⟩ = some x3) (he : e < C) (hC : C ≤ W.heap.size) (o : Obj) :
    (W.alloc o).cell? ⟨e, o0, none⟩ = some x0 ∧ (W.alloc o).cell? ⟨e, o1, none⟩ = some x1 ∧ (W.alloc o).cell? ⟨e, o2, none⟩ = some x2 ∧ (W.alloc o).cell? ⟨e, o3, none⟩ = some x3 :=
  keepS4 h ((Below.refl C W).alloc hC o) he he he he
/-- what equation tells: an instruction of the equation's name, to the slot of its variable -/
def EqPost (ss : List Int) (q : FEqM) (w : World) (e : Ending) (w' : World) : Prop := (∃ x : InsM, e = .returned (insV x) ∧ x.op = q.op ∧ x.dst = slotS ss q.var) ∧ Below w.heap.size w w'
end Go.Proofs.Ytpcpbpinhdbjiaa
