/- What isEachOnce and areSlots tell. No condition but bounds. · What areBehind and areApart tell. No condition but bounds. · What Right of package plan tells where it tells no at once. No condition but bounds. -/
import Derived.Test.YtpcpbpinhdbjiaaZOfA
import Derived.Test.YtpcpbpinhdbjiaaZPlBToPlD
import Derived.Deep.DeepCutAuto
import Derived.Maps.OwnSet
import Derived.Maps.Views
import Derived.BigRegion
namespace Go.Proofs.Ytpcpbpinhdbjiaa
set_option linter.unusedVariables false
set_option linter.unusedSimpArgs false
set_option maxRecDepth 100000
open Go.RowKit

/-- a call that tells whether P holds, and leaves what was -/
def TellsIf (P : Prop) (w : World) (e : Ending) (w' : World) : Prop := (∃ b, e = .returned (.bool b) ∧ (b = true ↔ P)) ∧ Below w.heap.size w w'
theorem TellsIf.no {P : Prop} {w w' : World} (h : ¬ P) (hb : Below w.heap.size w w') : TellsIf P w (.returned (.bool false)) w' := ⟨⟨false, rfl, by simp [h]⟩, hb⟩
theorem TellsIf.yes {P : Prop} {w w' : World} (h : P) (hb : Below w.heap.size w w') : TellsIf P w (.returned (.bool true)) w' := ⟨⟨true, rfl, by simp [h]⟩, hb⟩
theorem TellsIf.dec {P Q : Prop} [Decidable Q] {w w' : World} (h : Q ↔ P) (hb : Below w.heap.size w w') : TellsIf P w (.returned (.bool (decide Q))) w' := ⟨⟨_, rfl, by rw [decide_eq_true_eq]; exact h⟩, hb⟩
theorem get_of_lt {l : List Int} {k : Nat} (h : k < l.length) : l[k]? = some (l.getD k 0) := by simp [h]
theorem nd_snoc {l : List Int} {x : Int} (h : l.Nodup) (hx : x ∉ l) : (l ++ [x]).Nodup :=
  List.nodup_append.2 ⟨h, by simp, fun a ha b hb e => by simp at hb; subst hb; subst e; exact hx ha⟩

end Go.Proofs.Ytpcpbpinhdbjiaa

namespace Go.Proofs.Ytpcpbpinhdbjiaa
set_option linter.unusedVariables false
set_option linter.unusedSimpArgs false
set_option maxRecDepth 100000
open Go.RowKit

open Maps
theorem intK : Keyed Try.prog 3 := int_keyed Try.underlying3
/-- who lies in each slot, of the first i places: the one that came last -/
structure LiesI (o sl : List Int) (i : Nat) (D : DataW Unit) : Prop where
  map : IsMap D
  has : ∀ s : Int, Maps.has D (.int .i64 s) = true ↔ ∃ k, k < i ∧ sl.getD (o.getD k 0).toNat 0 = s
  at_ : ∀ s : Int, ∀ k, k < i → sl.getD (o.getD k 0).toNat 0 = s → (∀ k', k < k' → k' < i → sl.getD (o.getD k' 0).toNat 0 ≠ s) → D.atKey (.int .i64 s) (.lit (.int .i64 0)) = .lit (.int .i64 (o.getD k 0))
theorem LiesI.start (o sl : List Int) : LiesI o sl 0 (.map []) := ⟨isMap_empty, fun s => by simp [Maps.has], fun s k hk => by omega⟩
theorem isKeyInt (s : Int) : WideAt.IsKeyLit (.int .i64 s) := by simp [WideAt.IsKeyLit]
theorem keyInt_ne {a b : Int} (h : a ≠ b) : (Lit.int .i64 a) ≠ (Lit.int .i64 b) := fun e => by injection e with _ e; exact h e
theorem LiesI.put {o sl : List Int} {i : Nat} {D : DataW Unit} (h : LiesI o sl i D) : LiesI o sl (i + 1) (D.put (.int .i64 (sl.getD (o.getD i 0).toNat 0)) (.lit (.int .i64 (o.getD i 0)))) := by
  refine ⟨h.map.put _ _, fun s => ?_, fun s k hk he hl => ?_⟩
  · by_cases e : s = sl.getD (o.getD i 0).toNat 0
    · subst e
      rw [has_put_same h.map (isKeyInt _)]
      exact ⟨fun _ => ⟨i, by omega, rfl⟩, fun _ => rfl⟩
    · rw [has_put_other (keyInt_ne e), h.has s]
      constructor
      · rintro ⟨k, h1, h2⟩; exact ⟨k, by omega, h2⟩
      · rintro ⟨k, h1, h2⟩
        by_cases ek : k = i
        · subst ek; exact (e h2.symm).elim
        · exact ⟨k, by omega, h2⟩
  · by_cases e : s = sl.getD (o.getD i 0).toNat 0
    · have : k = i := Classical.byContradiction fun q => hl i (by omega) (by omega) e.symm
      subst this
      rw [e, atKey_put_same h.map (isKeyInt _)]
    · rw [atKey_put_other (keyInt_ne e)]
      have hk' : k ≠ i := fun q => by subst q; exact e he.symm
      exact h.at_ s k (by omega) he fun k' h1 h2 => hl k' h1 (by omega)
/-- the last one of some places of which P holds -/
theorem last_of {P : Nat → Prop} : ∀ i, (∃ k, k < i ∧ P k) → ∃ k, k < i ∧ P k ∧ ∀ k', k < k' → k' < i → ¬ P k' := by
  intro i
  induction i with
  | zero => rintro ⟨k, hk, _⟩; omega
  | succ i ih =>
    rintro ⟨k, hk, hp⟩
    by_cases h : P i
    · exact ⟨i, by omega, h, fun k' h1 h2 => by omega⟩
    · have : k ≠ i := fun e => h (e ▸ hp)
      obtain ⟨k0, h1, h2, h3⟩ := ih ⟨k, by omega, hp⟩
      refine ⟨k0, by omega, h2, fun k' h4 h5 => ?_⟩
      by_cases e : k' = i
      · subst e; exact h
      · exact h3 k' h4 (by omega)
/-- no two of the first i places that lie in one slot live at one time -/
def ApartTo (la : Nat → Nat) (o sl : List Int) (i : Nat) : Prop := ∀ a, a < i → ∀ k, k < a → sl.getD (o.getD k 0).toNat 0 = sl.getD (o.getD a 0).toNat 0 → Lpl la o k < a
theorem ApartTo.more {la : Nat → Nat} {o sl : List Int} {i k0 : Nat} (h : ApartTo la o sl i) (h1 : k0 < i) (hs : sl.getD (o.getD k0 0).toNat 0 = sl.getD (o.getD i 0).toNat 0) (hl : ∀ k', k0 < k' → k' < i → sl.getD (o.getD k' 0).toNat 0 ≠ sl.getD (o.getD i 0).toNat 0) (hla : Lpl la o k0 < i) (hge : k0 ≤ Lpl la o k0) : ApartTo la o sl (i + 1) := by
  intro a ha k hk e
  by_cases ea : a = i
  · subst ea
    rcases Nat.lt_trichotomy k k0 with q | q | q
    · have := h k0 h1 k q (e.trans hs.symm)
      omega
    · subst q; exact hla
    · exact (hl k q hk e).elim
  · exact h a (by omega) k hk e
theorem ApartTo.new {la : Nat → Nat} {o sl : List Int} {i : Nat} (h : ApartTo la o sl i) (hn : ∀ k, k < i → sl.getD (o.getD k 0).toNat 0 ≠ sl.getD (o.getD i 0).toNat 0) : ApartTo la o sl (i + 1) := by
  intro a ha k hk e
  by_cases ea : a = i
  · subst ea; exact (hn k hk e).elim
  · exact h a (by omega) k hk e

end Go.Proofs.Ytpcpbpinhdbjiaa

namespace Go.Proofs.Ytpcpbpinhdbjiaa
set_option linter.unusedVariables false
set_option linter.unusedSimpArgs false
set_option maxRecDepth 100000
open Go.RowKit Gr

theorem TellsIf.tt {P : Prop} {w w' : World} {e : Ending} (h : TellsIf P w e w') (hp : P) : e = .returned (.bool true) ∧ Below w.heap.size w w' := by
  obtain ⟨⟨b, rfl, hb⟩, h2⟩ := h
  exact ⟨by rw [hb.2 hp], h2⟩
theorem TellsIf.ff {P : Prop} {w w' : World} {e : Ending} (h : TellsIf P w e w') (hp : ¬ P) : e = .returned (.bool false) ∧ Below w.heap.size w w' := by
  obtain ⟨⟨b, rfl, hb⟩, h2⟩ := h
  cases b with
  | false => exact ⟨rfl, h2⟩
  | true => exact (hp (hb.1 rfl)).elim
/-- each variable stands behind what it needs -/
def BehindP (G : List (List Int)) (o : List Int) (n : Nat) : Prop := ∀ v : Nat, v < n → ∀ u : Nat, u < n → ndB G (v : Int) (u : Int) = true → plc o (u : Int) < plc o (v : Int)
/-- 14.2, but that the program is good -/
structure RightP (f : FlatM) (n : Nat) (o sl : List Int) (S : Int) : Prop where
  good : goodB f = true
  once : Once o n
  slots : sl.length = n ∧ ∀ x ∈ sl, 0 ≤ x ∧ x < S
  behind : BehindP (gOf f) o n
  apart : ApartTo (laF f o) o sl n
theorem behind_iff {f : FlatM} {H : List (List Int)} {o lv : List Int} {n : Nat} (hsg : SameG (gOf f) H n) (hlv : Lives f o n lv) (hpl : ∀ i, i < n → ∀ x ∈ H.getD i [], 0 ≤ x ∧ x < (n : Int)) :
    (∀ i, i < n → ∀ x ∈ H.getD i [], lv.getD (x.toNat * 2) 0 < lv.getD (i * 2) 0) ↔ BehindP (gOf f) o n := by
  constructor
  · intro q v hv u hu hnd
    unfold ndB at hnd
    rw [hsg.l1] at hnd
    simp only [Bool.and_eq_true, decide_eq_true_eq] at hnd
    have hm := (hsg.same v hv (u : Int)).1 (by simpa using hnd.2)
    have := q v hv _ hm
    rw [Int.toNat_natCast, hlv.fst u hu, hlv.fst v hv] at this
    exact this
  · intro q i hi x hx
    obtain ⟨x0, x1⟩ := hpl i hi x hx
    obtain ⟨u, rfl⟩ : ∃ u : Nat, x = (u : Int) := ⟨x.toNat, by omega⟩
    rw [Int.toNat_natCast, hlv.fst u (by omega), hlv.fst i hi]
    refine q i hi u (by omega) ?_
    unfold ndB
    rw [hsg.l1]
    have := (hsg.same i hi (u : Int)).2 hx
    simp only [Bool.and_eq_true, decide_eq_true_eq]
    exact ⟨⟨⟨⟨by omega, by omega⟩, by omega⟩, x1⟩, by simpa using this⟩

end Go.Proofs.Ytpcpbpinhdbjiaa
