/- A heap of numbers behind its box: what its own functions tell. No condition but bounds. · A heap of numbers: what up, down, Push and Pop of container/heap tell. No condition but bounds. -/
import Derived.Test.YtioebjjnadgdjaaZHpMToHpK
import Derived.Deep.RegionLaw
import Derived.Deep.AppendLies
import Derived.IntWalk
namespace Go.Proofs.Ytioebjjnadgdjaa
set_option linter.unusedVariables false
set_option linter.unusedSimpArgs false
set_option maxRecDepth 100000
open Go.RowKit

namespace HR
open Hp

theorem meth_push (a : Addr) (w : World) : (method 263 101 (.pointer (some a)) "Push").run Try.prog w = .ok (115, .pointer (some a)) w := by kernel_rfl
theorem meth_pop (a : Addr) (w : World) : (method 263 101 (.pointer (some a)) "Pop").run Try.prog w = .ok (114, .pointer (some a)) w := by kernel_rfl
theorem nilchk (P : Program) (a : Addr) (s t : ByteArray) (w : World) : (Builtin.ssaWrapNilChk_ #[101] 101 #[.pointer (some a), .string s, .string t]).run P w = .ok (.pointer (some a)) w := by rfl
theorem meth_len (g : Nat) (v : Value) (w : World) (hc : w.cell? ⟨g, 0, none⟩ = some v) (hv : ∃ A n c, v = .slice A n c) : (method 263 101 (.pointer (some ⟨g, 0, none⟩)) "Len").run Try.prog w = .ok (51, v) w := by
  obtain ⟨A, n, c, rfl⟩ := hv
  unfold method
  simp [hc, go_sem, follow, receiverAt, Place.get, Try.t101, nilchk, strVal]
theorem meth_less (g : Nat) (v : Value) (w : World) (hc : w.cell? ⟨g, 0, none⟩ = some v) (hv : ∃ A n c, v = .slice A n c) : (method 263 101 (.pointer (some ⟨g, 0, none⟩)) "Less").run Try.prog w = .ok (112, v) w := by
  obtain ⟨A, n, c, rfl⟩ := hv
  unfold method
  simp [hc, go_sem, follow, receiverAt, Place.get, Try.t101, nilchk, strVal]
theorem meth_swap (g : Nat) (v : Value) (w : World) (hc : w.cell? ⟨g, 0, none⟩ = some v) (hv : ∃ A n c, v = .slice A n c) : (method 263 101 (.pointer (some ⟨g, 0, none⟩)) "Swap").run Try.prog w = .ok (113, v) w := by
  obtain ⟨A, n, c, rfl⟩ := hv
  unfold method
  simp [hc, go_sem, follow, receiverAt, Place.get, Try.t101, nilchk, strVal]

/-- block gh is a box of the heap v, which holds hs in a row of the call's own -/
def HB (w : World) (B gh : Nat) (v : Value) (hs : List Int) : Prop := w.heap[gh]? = some (.cells #[v] 100 (0, 0)) ∧ Own w B v hs

theorem HB.cell {w : World} {B gh : Nat} {v : Value} {hs : List Int} (h : HB w B gh v hs) : w.cell? ⟨gh, 0, none⟩ = some v := by
  rw [cell_of_row w gh 0 _ 100 (0, 0) h.1]; rfl
theorem HB.free {w : World} {B gh : Nat} {v : Value} {hs : List Int} (h : HB w B gh v hs) : w.frozen? ⟨gh, 0, none⟩ = false := frozen_of_row w gh 0 _ 100 h.1
theorem HB.lt {w : World} {B gh : Nat} {v : Value} {hs : List Int} (h : HB w B gh v hs) : gh < w.heap.size := (Array.getElem?_eq_some_iff.1 h.1).1
theorem HB.isSlice {w : World} {B gh : Nat} {v : Value} {hs : List Int} (h : HB w B gh v hs) : ∃ A n c, v = .slice A n c := by
  obtain ⟨a, c, e⟩ := h.2.len; exact ⟨a, _, c, e⟩
theorem HB.ne {w : World} {B gh : Nat} {v : Value} {hs : List Int} (h : HB w B gh v hs) : v.ownBlock ≠ some gh := by
  rcases h.2.2 with ⟨rfl, _⟩ | ⟨g, cap, cur, rfl, _, hg, _⟩
  · simp [Value.ownBlock]
  · intro e
    have e' : g = gh := by simpa [Value.ownBlock] using e
    subst e'
    rw [h.1] at hg
    injection hg with hg
    injection hg with _ ht
    cases ht
/-- the heap lies as it lay -/
theorem HB.keep {w w' : World} {B gh : Nat} {v : Value} {hs : List Int} (h : HB w B gh v hs) {S : List (Option Nat)} (hb : Only S w w') (h1 : some gh ∉ S) (h2 : ∀ k, v.ownBlock = some k → some k ∉ S) : HB w' B gh v hs :=
  ⟨(hb.block gh h.lt h1).trans h.1, h.2.only hb h2⟩
theorem HB.fresh (w : World) (B : Nat) : HB (w.alloc (.cells #[.slice none 0 0] 100)) B w.heap.size (.slice none 0 0) [] := ⟨heap_alloc_new w _, Own.nil _ _⟩

def LessPost (v : Value) (hs : List Int) (i j : Nat) (w : World) (e : Ending) (w' : World) : Prop := (∃ b, e = .returned (.bool b) ∧ Hid (b = decide (hs.getD i 0 < hs.getD j 0))) ∧ Only [] w w'

set_option maxHeartbeats 400000 in
theorem less_any (B : Nat) (v : Value) (hs : List Int) (i j : Nat) (w : World) (ho : Own w B v hs) (hi : i < hs.length) (hj : j < hs.length) (hl : hs.length ≤ 1000000000) :
    Calls Try.prog 112 #[v, .int .i64 (i : Int), .int .i64 (j : Int)] w (LessPost v hs i j w) := by
  obtain ⟨g, c, rfl, hB, hc0, hf0, hnc, hcm⟩ := ho.cellAt hi
  obtain ⟨g', c', hv, hB', hc1, hf1, hnc', hcm'⟩ := ho.cellAt hj
  injection hv with hv _ hcc
  injection hv with hv
  injection hv with hv _ _
  subst hv
  subst hcc
  obtain ⟨n, hn⟩ : ∃ n, n = hs.length := ⟨_, rfl⟩
  rw [← hn] at hi hj hl hnc ⊢
  clear hn
  obtain ⟨X, hX⟩ : ∃ X, X = hs.getD i 0 := ⟨_, rfl⟩
  obtain ⟨Y, hY⟩ : ∃ Y, Y = hs.getD j 0 := ⟨_, rfl⟩
  rw [← hX] at hc0
  rw [← hY] at hc1
  have HE : Hid (decide (X < Y) = decide (hs.getD i 0 < hs.getD j 0)) := Lib.hid (by rw [hX, hY])
  clear hX hY ho
  have hiI : (i : Int) < (n : Int) := by omega
  have hjI : (j : Int) < (n : Int) := by omega
  go_enter Try.func112, Try.ntmps112
  go_wp2
  go_region
  go_wp2
  go_ret
  exact ⟨⟨_, rfl, Lib.hid HE.out⟩, (Only.refl _ _).drew⟩

def SwapPost (B : Nat) (v : Value) (hs : List Int) (i j : Nat) (w : World) (e : Ending) (w' : World) : Prop := e = .returned (.tuple #[]) ∧ Own w' B v (sw hs i j) ∧ Only [v.ownBlock] w w'

set_option maxHeartbeats 1000000 in
theorem swap_any (B : Nat) (v : Value) (hs : List Int) (i j : Nat) (w : World) (ho : Own w B v hs) (hi : i < hs.length) (hj : j < hs.length) (hl : hs.length ≤ 1000000000) :
    Calls Try.prog 113 #[v, .int .i64 (i : Int), .int .i64 (j : Int)] w (SwapPost B v hs i j w) := by
  obtain ⟨g, c, rfl, hB, hc0, hf0, hnc, hcm⟩ := ho.cellAt hi
  obtain ⟨g', c', hv, hB', hc1, hf1, hnc', hcm'⟩ := ho.cellAt hj
  injection hv with hv _ hcc
  injection hv with hv
  injection hv with hv _ _
  subst hv
  subst hcc
  have HP : Hid (sw hs i j = (hs.set i (hs.getD j 0)).set j (hs.getD i 0)) := Lib.hid rfl
  obtain ⟨n, hn⟩ : ∃ n, n = hs.length := ⟨_, rfl⟩
  have HO := Lib.hid ho; clear ho
  rw [← hn] at hi hj hl hnc HO ⊢
  have HN := Lib.hid hn; clear hn
  obtain ⟨X, hX⟩ : ∃ X, X = hs.getD i 0 := ⟨_, rfl⟩
  obtain ⟨Y, hY⟩ : ∃ Y, Y = hs.getD j 0 := ⟨_, rfl⟩
  rw [← hX] at hc0
  rw [← hY] at hc1
  rw [← hX, ← hY] at HP
  clear hX hY
  have hiI : (i : Int) < (n : Int) := by omega
  have hjI : (j : Int) < (n : Int) := by omega
  by_cases hij : i = j
  · subst hij
    have hXY : X = Y := by rw [hc0] at hc1; injection hc1 with h; injection h
    subst hXY
    go_enter Try.func113, Try.ntmps113
    go_wp2
    go_region
    go_wp2
    go_end0
    refine ⟨rfl, ?_, ?_⟩
    · rw [HP.out]; exact (HO.out.set i X).set i X
    · exact ((Only.set (by simp [Value.ownBlock]) _ _ _).trans (Only.set (by simp [Value.ownBlock]) _ _ _)).drew
  · go_enter Try.func113, Try.ntmps113
    go_wp2
    go_region
    go_wp2
    go_end0
    refine ⟨rfl, ?_, ?_⟩
    · rw [HP.out]; exact (HO.out.set i Y).set j X
    · exact ((Only.set (by simp [Value.ownBlock]) _ _ _).trans (Only.set (by simp [Value.ownBlock]) _ _ _)).drew

theorem len_any (A : Option Addr) (n c : Nat) (w : World) : Calls Try.prog 51 #[.slice A n c] w fun e w' => e = .returned (.int .i64 (n : Int)) ∧ w = w' := by
  go_enter Try.func51, Try.ntmps51
  go_wp2
  go_ret
  exact ⟨rfl, rfl⟩

theorem HB.put {w w1 : World} {B gh : Nat} {v v1 : Value} {hs hs1 : List Int} (h : HB w B gh v hs) (hb : Only [v.ownBlock] w w1) (ho : Own w1 B v1 hs1)
    (hv : v1.ownBlock = v.ownBlock ∨ ∃ k, v1.ownBlock = some k ∧ w.heap.size ≤ k) : HB (w1.setCell ⟨gh, 0, none⟩ v1) B gh v1 hs1 ∧ HStep gh v v1 w (w1.setCell ⟨gh, 0, none⟩ v1) := by
  have h1 : w1.heap[gh]? = some (.cells #[v] 100 (0, 0)) := (hb.block gh h.lt (by simp; exact h.ne.symm)).trans h.1
  have hne : v1.ownBlock ≠ some gh := by
    rcases hv with e | ⟨k, e, hk⟩
    · rw [e]; exact h.ne
    · rw [e]; have := h.lt; intro e2; injection e2; omega
  refine ⟨⟨?_, ?_⟩, ?_, ?_⟩
  · have := heap_setCell_same w1 gh 0 _ 100 v1 h1
    rw [this]; rfl
  · exact ho.keep fun k hk => Below.heap_setCell w1 _ v1 k (by rintro rfl; exact hne hk)
  · refine (hb.weak (S' := [some gh, v.ownBlock]) (by intro j hj; simp at hj ⊢; exact Or.inr hj)).trans (Only.set (by simp) _ _ _)
  · intro k hk
    rcases hv with e | ⟨k', e, hk'⟩
    · left; rw [← e]; exact hk
    · right; rw [e] at hk; injection hk with hk; omega

def PushPost (B gh : Nat) (v : Value) (hs : List Int) (X : Int) (w : World) (e : Ending) (w' : World) : Prop :=
  e = .returned (.tuple #[]) ∧ ∃ v', HB w' B gh v' (hs ++ [X]) ∧ HStep gh v v' w w'

theorem HB.alloc {w : World} {B gh : Nat} {v : Value} {hs : List Int} (h : HB w B gh v hs) (o : Obj) : HB (w.alloc o) B gh v hs :=
  h.keep (S := []) ((Only.refl _ _).alloc o) (by simp) (by simp)

/-- what a push leaves ahead of the store -/
def Pushed (B : Nat) (v : Value) (hs : List Int) (X : Int) (w : World) (v' : Value) (w' : World) : Prop :=
  Own w' B v' (hs ++ [X]) ∧ Only [v.ownBlock] w w' ∧ (v'.ownBlock = v.ownBlock ∨ ∃ k, v'.ownBlock = some k ∧ w.heap.size ≤ k)

theorem stepPush {w : World} {ops : Array Oper} {o : Oper} {a : Act} {K : Act → World → Prop} {Q : Exit → Act → World → Prop} {E : Prop} (hgd : o.guard = none) (s x : Operand)
    (ho : o.op = .call { callee := .builtin .append, args := #[s, x], argTypes := #[100, 100] })
    (B gh : Nat) (v : Value) (hs : List Int) (X : Int) (T : TypeId) (hsv : a.eval s = v) (h : HB w B gh v hs) (hx : a.eval x = .slice (some ⟨w.heap.size, 0, none⟩) 1 1) (hl : hs.length ≤ 1000000) (hB : B ≤ w.heap.size)
    (hK : ∀ g cap w', w'.cell? ⟨gh, 0, none⟩ = some v → w'.frozen? ⟨gh, 0, none⟩ = false → Hid (Pushed B v hs X w (.slice (some ⟨g, 0, none⟩) (hs.length + 1) cap) w') → K (a.put o.dst (.slice (some ⟨g, 0, none⟩) (hs.length + 1) cap)) w') :
    if Region.wanted o (yielded ops a.tmps) = true then Oper.wp Try.prog o a (w.alloc (.cells #[.int .i64 X] T)).drew K Q else E := by
  obtain ⟨i0, hi, hz0, hz1, hz2⟩ := info_parts Try.info3
  refine step_append_lies _ hgd s x 100 ho B 3 i0 (.int .i64 0) 1 8 Try.underlying100 hi hz0 hz1 hz2 rfl (by decide) v hs.length (hs.map (Value.int .i64)) hsv (World.ownsRow.alloc h.2 _) ⟨w.heap.size, 0, none⟩ 1 1 [.int .i64 X] hx rfl (cell_one_new w _ _) (by intro u hu; simp at hu; subst hu; rfl) (by decide) (by unfold maxLen; omega) (by omega)
    (Nat.le_trans hB ((Below.refl 0 w).alloc (Nat.zero_le _) _).size) _ rfl ?_
  intro g cap w1 hown hgrow hat hlt
  have hsz : (w.alloc (.cells #[.int .i64 X] T)).drew.heap.size = w.heap.size + 1 := by simp
  have hO : Only [v.ownBlock] w w1 := (((Only.refl _ w).alloc _).drew).trans (Only.of_grown hgrow (Or.inl (by simp)))
  have hng : some gh ∉ [v.ownBlock] := by simp; exact fun e => h.ne e.symm
  refine hK g cap w1 ((hO.cell (p := ⟨gh, 0, none⟩) h.lt hng).trans h.cell) ((hO.frozen (p := ⟨gh, 0, none⟩) h.lt hng).trans h.free) ⟨?_, hO, ?_⟩
  · unfold Own; simpa using hown
  · rcases hat with e | e
    · exact Or.inl e.symm
    · exact Or.inr ⟨g, rfl, by omega⟩

set_option maxHeartbeats 2000000 in
theorem push_any (B gh : Nat) (v : Value) (hs : List Int) (X : Int) (w : World) (h : HB w B gh v hs) (hB : B ≤ w.heap.size) (hl : hs.length ≤ 1000000) :
    Calls Try.prog 115 #[.pointer (some ⟨gh, 0, none⟩), .iface 3 (.int .i64 X)] w (PushPost B gh v hs X w) := by
  have hc := h.cell
  have hf := h.free
  have hta := assert_int X
  have hc2 : (w.alloc (.cells #[.int .i64 X] 3)).cell? ⟨gh, 0, none⟩ = some v := (h.alloc _).cell
  have HH := Lib.hid h; clear h
  go_enter Try.func115, Try.ntmps115
  go_wp2
  go_region_law ((refine stepPush rfl _ _ rfl B gh v hs X _ rfl HH.out rfl hl hB ?_; intro g cap w1 hc1 hf1 HP))
  all_goals
    go_end0
    obtain ⟨h1, h2, h3⟩ := HP.out
    obtain ⟨h4, h5⟩ := HH.out.put h2 h1 h3
    exact ⟨rfl, _, h4, h5⟩

/-- the last one comes out -/
def TopPost (B gh : Nat) (v : Value) (hs : List Int) (m : Nat) (X : Int) (w : World) (e : Ending) (w' : World) : Prop :=
  ∃ v', e = .returned (.iface 3 (.int .i64 X)) ∧ HB w' B gh v' (hs.take m) ∧ HStep gh v v' w w'

set_option maxHeartbeats 1000000 in
theorem top_any (B gh : Nat) (v : Value) (hs : List Int) (w : World) (h : HB w B gh v hs) (m : Nat) (hm : hs.length = m + 1) (hl : hs.length ≤ 1000000) (X : Int) (hX : X = hs.getD m 0) :
    Calls Try.prog 114 #[.pointer (some ⟨gh, 0, none⟩)] w (TopPost B gh v hs m X w) := by
  obtain ⟨g, c, rfl, hB, hc0, hf0, hnc, hcm⟩ := h.2.cellAt (i := m) (by omega)
  have hc := h.cell
  have hf := h.free
  rw [hm] at hc hnc h hl ⊢
  have hcut := Own.cut (m := m) h.2 (by omega)
  have hput : HB (w.setCell ⟨gh, 0, none⟩ (.slice (some ⟨g, 0, none⟩) m c)) B gh (.slice (some ⟨g, 0, none⟩) m c) (hs.take m) ∧ HStep gh (.slice (some ⟨g, 0, none⟩) (m + 1) c) (.slice (some ⟨g, 0, none⟩) m c) w (w.setCell ⟨gh, 0, none⟩ (.slice (some ⟨g, 0, none⟩) m c)) := h.put (Only.refl _ _) hcut (Or.inl rfl)
  rw [← hX] at hc0
  have HPUT := Lib.hid hput; clear hput
  have e1 : ((m + 1 : Nat) : Int) - 1 = (m : Int) := by omega
  clear hX hcut h hm
  unfold maxLen at hcm
  go_enter Try.func114, Try.ntmps114
  go_wp2
  go_ret
  exact ⟨_, rfl, HPUT.out⟩

end HR

end Go.Proofs.Ytioebjjnadgdjaa

namespace Go.Proofs.Ytioebjjnadgdjaa
set_option linter.unusedVariables false
set_option linter.unusedSimpArgs false
set_option maxRecDepth 100000
open Go.RowKit

namespace HR
open Hp
theorem HB.swapped {w w' : World} {B gh : Nat} {v : Value} {hs hs' : List Int} (h : HB w B gh v hs) (ho : Own w' B v hs') (hb : Only [v.ownBlock] w w') : HB w' B gh v hs' ∧ HStep gh v v w w' :=
  ⟨⟨(hb.block gh h.lt (by simp; exact fun e => h.ne e.symm)).trans h.1, ho⟩, hb.weak (by intro j hj; simp at hj ⊢; exact Or.inr hj), fun k hk => Or.inl hk⟩
theorem HB.only0 {w w' : World} {B gh : Nat} {v : Value} {hs : List Int} (h : HB w B gh v hs) (hb : Only [] w w') : HB w' B gh v hs ∧ HStep gh v v w w' :=
  ⟨h.keep hb (by simp) (by simp), hb.weak (by simp), fun k hk => Or.inl hk⟩

theorem less_at (B gh : Nat) (v : Value) (hs : List Int) (I J : Int) (i j : Nat) (w : World) (h : HB w B gh v hs) (hI : I = (i : Int)) (hJ : J = (j : Int)) (hi : i < hs.length) (hj : j < hs.length) (hl : hs.length ≤ 1000000000) :
    Calls Try.prog 112 #[v, .int .i64 I, .int .i64 J] w fun e w' => (∃ b, e = .returned (.bool b) ∧ Hid (b = decide (hs.getD i 0 < hs.getD j 0))) ∧ HB w' B gh v hs ∧ HStep gh v v w w' := by
  subst hI hJ
  exact (less_any B v hs i j w h.2 hi hj hl).mono fun e w' ⟨h1, h2⟩ => ⟨h1, h.only0 h2⟩
theorem swap_at (B gh : Nat) (v : Value) (hs : List Int) (I J : Int) (i j : Nat) (w : World) (h : HB w B gh v hs) (hI : I = (i : Int)) (hJ : J = (j : Int)) (hi : i < hs.length) (hj : j < hs.length) (hl : hs.length ≤ 1000000000) :
    Calls Try.prog 113 #[v, .int .i64 I, .int .i64 J] w fun e w' => e = .returned (.tuple #[]) ∧ HB w' B gh v (sw hs i j) ∧ HStep gh v v w w' := by
  subst hI hJ
  refine (swap_any B v hs i j w h.2 hi hj hl).mono fun e w' ⟨h1, ho, hb⟩ => ?_
  exact ⟨h1, h.swapped ho hb⟩

/-- the heap's numbers have changed their places: it is a heap -/
def UpPost (B gh : Nat) (v : Value) (hs : List Int) (w : World) (e : Ending) (w' : World) : Prop :=
  (∃ u, e = .returned u) ∧ (∃ hs', hs'.Perm hs ∧ IsHp hs' hs.length ∧ HB w' B gh v hs') ∧ HStep gh v v w w'
def DnPost (B gh : Nat) (v : Value) (hs : List Int) (m : Nat) (w : World) (e : Ending) (w' : World) : Prop :=
  (∃ u, e = .returned u) ∧ (∃ hs', hs'.Perm hs ∧ IsHp hs' m ∧ (∀ k, m ≤ k → hs'.getD k 0 = hs.getD k 0) ∧ HB w' B gh v hs') ∧ HStep gh v v w w'
/-- what holds on the way up, on the way down -/
def UpSt (B gh : Nat) (v : Value) (hs : List Int) (n : Nat) (w wr : World) (k : Nat) (hs1 : List Int) : Prop := hs1.Perm hs ∧ UpI hs1 k n ∧ HB wr B gh v hs1 ∧ HStep gh v v w wr
def DnSt (B gh : Nat) (v : Value) (hs : List Int) (m : Nat) (w wr : World) (k : Nat) (hs1 : List Int) : Prop := hs1.Perm hs ∧ DownI hs1 k m ∧ (∀ k, m ≤ k → hs1.getD k 0 = hs.getD k 0) ∧ HB wr B gh v hs1 ∧ HStep gh v v w wr

set_option maxHeartbeats 2000000 in
theorem up_any (B gh : Nat) (v : Value) (hs : List Int) (j : Nat) (w : World) (h : HB w B gh v hs) (hj : j < hs.length) (hl : hs.length ≤ 1000000) (hu : UpI hs j hs.length) :
    Calls Try.prog 53 #[.iface 101 (.pointer (some ⟨gh, 0, none⟩)), .int .i64 (j : Int)] w (UpPost B gh v hs w) := by
  unfold UpPost
  obtain ⟨n, hn⟩ : ∃ n, n = hs.length := ⟨_, rfl⟩
  rw [← hn] at hj hl hu ⊢
  have HN := Lib.hid hn; clear hn
  have HH := Lib.hid (show UpSt B gh v hs n w w j hs from ⟨List.Perm.refl _, hu, h, HStep.refl _ _ _⟩); clear h hu
  go_enter Try.func53, Try.ntmps53
  go_wp2
  go_loopw [1] (fun t wr => ∃ k : Nat, k < n ∧ t = .int .i64 (k : Int) ∧ Hid (∃ hs1, UpSt B gh v hs n w wr k hs1)) (fun t _ => (intOf t).toNat)
  case atStart => exact ⟨j, hj, rfl, Lib.hid ⟨hs, HH.out⟩⟩
  case round =>
    obtain ⟨k, hk, rfl, HZ⟩ := hrel
    obtain ⟨hs1, hp1, hu1, hb1, hst1⟩ := HZ.out
    clear HZ
    have HN1 : Hid (hs1.length = n) := Lib.hid (by rw [hp1.length_eq, HN.out])
    have HP1 := Lib.hid hp1; clear hp1
    have HU1 := Lib.hid hu1; clear hu1
    have HB1 := Lib.hid hb1; clear hb1
    have HS1 := Lib.hid hst1; clear hst1
    rcases Nat.eq_zero_or_pos k with rfl | hk0
    · go_wp2
      go_end0
      exact ⟨⟨_, rfl⟩, ⟨hs1, HP1.out, HU1.out.top, HB1.out⟩, HS1.out⟩
    · obtain ⟨p, rfl⟩ : ∃ p, k = p + 1 := ⟨k - 1, by omega⟩
      have e1 : ((p + 1 : Nat) : Int) - 1 = (p : Int) := by omega
      have e2 : (p : Int) / 2 = ((p / 2 : Nat) : Int) := by omega
      obtain ⟨i, hi⟩ : ∃ i, i = p / 2 := ⟨_, rfl⟩
      rw [← hi] at e2
      have hip : i ≤ p := by omega
      have hne : (((i : Nat) : Int) == ((p + 1 : Nat) : Int)) = false := by rw [beq_eq_false_iff_ne]; omega
      have HI := Lib.hid hi; clear hi
      have hm1 := meth_less gh v wr HB1.out.cell HB1.out.isSlice
      go_wp2_with fail
      refine (less_at B gh v hs1 _ _ (p + 1) i wr HB1.out (by omega) rfl (by have := HN1.out; omega) (by have := HN1.out; omega) (by have := HN1.out; omega)).mono ?_
      rintro e w1 ⟨⟨b, rfl, HBV⟩, hb2, hst2⟩
      have HB2 := Lib.hid hb2; clear hb2
      have HS2 := Lib.hid hst2; clear hst2
      clear hm1
      cases b with
      | false =>
        go_wp2
        go_end0
        refine ⟨⟨_, rfl⟩, ⟨hs1, HP1.out, HU1.out.done ?_, HB2.out⟩, HS1.out.trans HS2.out⟩
        have := of_decide_eq_false HBV.out.symm
        rw [show (p + 1 - 1) / 2 = i by have := HI.out; omega]
        omega
      | true =>
        have hm2 := meth_swap gh v w1 HB2.out.cell HB2.out.isSlice
        go_wp2_with fail
        refine (swap_at B gh v hs1 _ _ i (p + 1) w1 HB2.out rfl (by omega) (by have := HN1.out; omega) (by have := HN1.out; omega) (by have := HN1.out; omega)).mono ?_
        rintro e w2 ⟨rfl, hb3, hst3⟩
        have HB3 := Lib.hid hb3; clear hb3
        have HS3 := Lib.hid hst3; clear hst3
        clear hm2
        go_wp2
        go_roundw
        case rel => exact ⟨i, by omega, rfl, Lib.hid ⟨_, (sw_perm hs1 i (p + 1) (by have := HN1.out; omega) (by have := HN1.out; omega)).trans HP1.out, HU1.out.step (by have := HI.out; omega) (by omega) hk (by have := HN1.out; omega) (of_decide_eq_true HBV.out.symm), HB3.out, (HS1.out.trans HS2.out).trans HS3.out⟩⟩
        case measure => simp [intOf]; omega

set_option maxHeartbeats 4000000 in
/-- down, from place 0, over the first m of them -/
theorem down_any (B gh : Nat) (v : Value) (hs : List Int) (m : Nat) (w : World) (h : HB w B gh v hs) (hm : m < hs.length) (hl : hs.length ≤ 1000000) (hd : DownI hs 0 m) :
    Calls Try.prog 52 #[.iface 101 (.pointer (some ⟨gh, 0, none⟩)), .int .i64 0, .int .i64 (m : Int)] w (DnPost B gh v hs m w) := by
  obtain ⟨n, hn⟩ : ∃ n, n = hs.length := ⟨_, rfl⟩
  rw [← hn] at hm hl
  have HN := Lib.hid hn; clear hn
  have HH := Lib.hid (show DnSt B gh v hs m w w 0 hs from ⟨List.Perm.refl _, hd, fun _ _ => rfl, h, HStep.refl _ _ _⟩); clear h hd
  go_enter Try.func52, Try.ntmps52
  go_wp2
  go_loopw [7] (fun t wr => ∃ k : Nat, k < n ∧ t = .int .i64 (k : Int) ∧ Hid (∃ hs1, DnSt B gh v hs m w wr k hs1)) (fun t _ => n - (intOf t).toNat)
  case atStart => exact ⟨0, by omega, rfl, Lib.hid ⟨hs, HH.out⟩⟩
  case round =>
    obtain ⟨k, hk, rfl, HZ⟩ := hrel
    obtain ⟨hs1, hp1, hd1, hq1, hb1, hst1⟩ := HZ.out
    clear HZ
    have HN1 : Hid (hs1.length = n) := Lib.hid (by rw [hp1.length_eq, HN.out])
    have HP1 := Lib.hid hp1; clear hp1
    have HD1 := Lib.hid hd1; clear hd1
    have HQ1 := Lib.hid hq1; clear hq1
    have HB1 := Lib.hid hb1; clear hb1
    have HS1 := Lib.hid hst1; clear hst1
    have HSW : Hid (∀ (j : Nat) (w' : World), (j - 1) / 2 = k → 0 < j → j < m → hs1.getD j 0 < hs1.getD k 0 → (∀ c, 0 < c → c < m → (c - 1) / 2 = k → hs1.getD j 0 ≤ hs1.getD c 0) → HB w' B gh v (sw hs1 k j) → HStep gh v v w w' → ∃ hs2, DnSt B gh v hs m w w' j hs2) := Lib.hid fun j w' g1 g2 g3 g4 g5 g6 g7 =>
      ⟨_, (sw_perm hs1 k j (by have := HN1.out; omega) (by have := HN1.out; omega)).trans HP1.out, HD1.out.step g1 g2 g3 (by have := HN1.out; omega) g4 g5, fun c hc => by
        rw [sw_get hs1 k j c (by have := HN1.out; omega) (by have := HN1.out; omega), if_neg (by omega), if_neg (by omega)]; exact HQ1.out c hc, g6, g7⟩
    by_cases hend : m ≤ 2 * k + 1
    · go_wp2
      go_ret
      exact ⟨⟨_, rfl⟩, ⟨hs1, HP1.out, HD1.out.low hend, HQ1.out, HB1.out⟩, HS1.out⟩
    · by_cases hj2 : 2 * k + 1 + 1 < m
      · have hm1 := meth_less gh v wr HB1.out.cell HB1.out.isSlice
        go_wp2_with fail
        refine (less_at B gh v hs1 _ _ (2 * k + 1 + 1) (2 * k + 1) wr HB1.out (by omega) (by omega) (by have := HN1.out; omega) (by have := HN1.out; omega) (by have := HN1.out; omega)).mono ?_
        rintro e w1 ⟨⟨b, rfl, HV1⟩, hb2, hst2⟩
        have HB2 := Lib.hid hb2; clear hb2
        have HS2 := Lib.hid hst2; clear hst2
        clear hm1
        have hm2 := meth_less gh v w1 HB2.out.cell HB2.out.isSlice
        cases b with
        | false =>
          have HC1 : Hid (∀ c, 0 < c → c < m → (c - 1) / 2 = k → hs1.getD (2 * k + 1) 0 ≤ hs1.getD c 0) := Lib.hid (two _ (fun _ => Int.le_refl _) (fun _ => by have := of_decide_eq_false HV1.out.symm; rw [show 2 * k + 2 = 2 * k + 1 + 1 by omega]; omega))
          go_wp2_with fail
          refine (less_at B gh v hs1 _ _ (2 * k + 1) k w1 HB2.out (by omega) rfl (by have := HN1.out; omega) (by have := HN1.out; omega) (by have := HN1.out; omega)).mono ?_
          rintro e w2 ⟨⟨b, rfl, HV2⟩, hb3, hst3⟩
          have HB3 := Lib.hid hb3; clear hb3
          have HS3 := Lib.hid hst3; clear hst3
          clear hm2
          cases b with
          | false =>
            go_wp2
            go_ret
            exact ⟨⟨_, rfl⟩, ⟨hs1, HP1.out, HD1.out.done (fun c h1 h2 h3 => by have := HC1.out c h1 h2 h3; have := of_decide_eq_false HV2.out.symm; omega), HQ1.out, HB3.out⟩, (HS1.out.trans HS2.out).trans HS3.out⟩
          | true =>
            have hm3 := meth_swap gh v w2 HB3.out.cell HB3.out.isSlice
            go_wp2_with fail
            refine (swap_at B gh v hs1 _ _ k (2 * k + 1) w2 HB3.out rfl (by omega) (by have := HN1.out; omega) (by have := HN1.out; omega) (by have := HN1.out; omega)).mono ?_
            rintro e w3 ⟨rfl, hb4, hst4⟩
            have HB4 := Lib.hid hb4; clear hb4
            have HS4 := Lib.hid hst4; clear hst4
            clear hm3
            go_wp2
            go_roundw
            case rel => exact ⟨2 * k + 1, by omega, by go_num, Lib.hid (HSW.out (2 * k + 1) _ (by omega) (by omega) (by omega) (of_decide_eq_true HV2.out.symm) HC1.out HB4.out (((HS1.out.trans HS2.out).trans HS3.out).trans HS4.out))⟩
            case measure => simp [intOf]; omega
        | true =>
          have HC1 : Hid (∀ c, 0 < c → c < m → (c - 1) / 2 = k → hs1.getD (2 * k + 1 + 1) 0 ≤ hs1.getD c 0) := Lib.hid (two _ (fun _ => by have := of_decide_eq_true HV1.out.symm; omega) (fun _ => Int.le_refl _))
          go_wp2_with fail
          refine (less_at B gh v hs1 _ _ (2 * k + 1 + 1) k w1 HB2.out (by omega) rfl (by have := HN1.out; omega) (by have := HN1.out; omega) (by have := HN1.out; omega)).mono ?_
          rintro e w2 ⟨⟨b, rfl, HV2⟩, hb3, hst3⟩
          have HB3 := Lib.hid hb3; clear hb3
          have HS3 := Lib.hid hst3; clear hst3
          clear hm2
          cases b with
          | false =>
            go_wp2
            go_ret
            exact ⟨⟨_, rfl⟩, ⟨hs1, HP1.out, HD1.out.done (fun c h1 h2 h3 => by have := HC1.out c h1 h2 h3; have := of_decide_eq_false HV2.out.symm; omega), HQ1.out, HB3.out⟩, (HS1.out.trans HS2.out).trans HS3.out⟩
          | true =>
            have hm3 := meth_swap gh v w2 HB3.out.cell HB3.out.isSlice
            go_wp2_with fail
            refine (swap_at B gh v hs1 _ _ k (2 * k + 1 + 1) w2 HB3.out rfl (by omega) (by have := HN1.out; omega) (by have := HN1.out; omega) (by have := HN1.out; omega)).mono ?_
            rintro e w3 ⟨rfl, hb4, hst4⟩
            have HB4 := Lib.hid hb4; clear hb4
            have HS4 := Lib.hid hst4; clear hst4
            clear hm3
            go_wp2
            go_roundw
            case rel => exact ⟨2 * k + 1 + 1, by omega, by go_num, Lib.hid (HSW.out (2 * k + 1 + 1) _ (by omega) (by omega) (by omega) (of_decide_eq_true HV2.out.symm) HC1.out HB4.out (((HS1.out.trans HS2.out).trans HS3.out).trans HS4.out))⟩
            case measure => simp [intOf]; omega
      · have hm2 := meth_less gh v wr HB1.out.cell HB1.out.isSlice
        have HC1 : Hid (∀ c, 0 < c → c < m → (c - 1) / 2 = k → hs1.getD (2 * k + 1) 0 ≤ hs1.getD c 0) := Lib.hid (two _ (fun _ => Int.le_refl _) (fun q => by omega))
        go_wp2_with fail
        refine (less_at B gh v hs1 _ _ (2 * k + 1) k wr HB1.out (by omega) rfl (by have := HN1.out; omega) (by have := HN1.out; omega) (by have := HN1.out; omega)).mono ?_
        rintro e w2 ⟨⟨b, rfl, HV2⟩, hb3, hst3⟩
        have HB3 := Lib.hid hb3; clear hb3
        have HS3 := Lib.hid hst3; clear hst3
        clear hm2
        cases b with
        | false =>
          go_wp2
          go_ret
          exact ⟨⟨_, rfl⟩, ⟨hs1, HP1.out, HD1.out.done (fun c h1 h2 h3 => by have := HC1.out c h1 h2 h3; have := of_decide_eq_false HV2.out.symm; omega), HQ1.out, HB3.out⟩, HS1.out.trans HS3.out⟩
        | true =>
          have hm3 := meth_swap gh v w2 HB3.out.cell HB3.out.isSlice
          go_wp2_with fail
          refine (swap_at B gh v hs1 _ _ k (2 * k + 1) w2 HB3.out rfl (by omega) (by have := HN1.out; omega) (by have := HN1.out; omega) (by have := HN1.out; omega)).mono ?_
          rintro e w3 ⟨rfl, hb4, hst4⟩
          have HB4 := Lib.hid hb4; clear hb4
          have HS4 := Lib.hid hst4; clear hst4
          clear hm3
          go_wp2
          go_roundw
          case rel => exact ⟨2 * k + 1, by omega, by go_num, Lib.hid (HSW.out (2 * k + 1) _ (by omega) (by omega) (by omega) (of_decide_eq_true HV2.out.symm) HC1.out HB4.out ((HS1.out.trans HS3.out).trans HS4.out))⟩
          case measure => simp [intOf]; omega

/-- heap.Push: the heap has one more -/
def PushedPost (B gh : Nat) (v : Value) (hs : List Int) (X : Int) (w : World) (e : Ending) (w' : World) : Prop :=
  e = .returned (.tuple #[]) ∧ ∃ v' hs', hs'.Perm (X :: hs) ∧ IsHp hs' hs'.length ∧ HB w' B gh v' hs' ∧ HStep gh v v' w w'

set_option maxHeartbeats 1000000 in
theorem hpush_any (B gh : Nat) (v : Value) (hs : List Int) (X : Int) (w : World) (h : HB w B gh v hs) (hB : B ≤ w.heap.size) (hl : hs.length ≤ 900000) (hp : IsHp hs hs.length) :
    Calls Try.prog 39 #[.iface 101 (.pointer (some ⟨gh, 0, none⟩)), .iface 3 (.int .i64 X)] w (PushedPost B gh v hs X w) := by
  have hm := meth_push ⟨gh, 0, none⟩ w
  have HU := Lib.hid (UpI.push hp X); clear hp
  go_enter Try.func39, Try.ntmps39
  go_wp2_with fail
  refine (push_any B gh v hs X w h hB (by omega)).mono ?_
  rintro e w1 ⟨rfl, v1, h1, hst1⟩
  have hs1 := h1.isSlice
  obtain ⟨a1, c1, hv1⟩ := h1.2.len
  have hm2 := meth_len gh v1 w1 h1.cell hs1
  have hL : (hs ++ [X]).length = hs.length + 1 := by simp
  rw [hL] at hv1
  have HL := Lib.hid hL; clear hL
  have HV := Lib.hid hv1; clear hv1
  have H1 := Lib.hid h1; clear h1
  have HS1 := Lib.hid hst1; clear hst1
  clear hm hs1
  go_wp2_with fail
  rw [HV.out]
  refine (len_any a1 (hs.length + 1) c1 w1).mono ?_
  rintro e w' ⟨rfl, rfl⟩
  clear hm2
  go_wp2_with fail
  have hU := up_any B gh v1 (hs ++ [X]) hs.length w1 H1.out (by rw [HL.out]; omega) (by rw [HL.out]; omega) (by rw [HL.out]; exact HU.out)
  refine (show Calls Try.prog 53 #[.iface 101 (.pointer (some ⟨gh, 0, none⟩)), .int .i64 _] w1 _ from hU).mono ?_
  rintro e w2 ⟨⟨u, rfl⟩, ⟨hs2, hp2, hq2, h2⟩, hst2⟩
  have HP2 : Hid (hs2.Perm (X :: hs)) := Lib.hid (hp2.trans List.perm_append_comm)
  have HQ2 : Hid (IsHp hs2 hs2.length) := Lib.hid (by rw [hp2.length_eq]; exact hq2)
  have H2 := Lib.hid h2; clear h2
  have HS2 := Lib.hid hst2; clear hst2
  clear hp2 hq2
  go_wp2
  go_end0
  exact ⟨rfl, v1, hs2, HP2.out, HQ2.out, H2.out, HS1.out.trans HS2.out⟩

/-- heap.Pop: the least one comes out -/
def PopPost (B gh : Nat) (v : Value) (hs : List Int) (w : World) (e : Ending) (w' : World) : Prop :=
  ∃ v' X hs', e = .returned (.iface 3 (.int .i64 X)) ∧ (X :: hs').Perm hs ∧ IsHp hs' hs'.length ∧ (∀ y ∈ hs, X ≤ y) ∧ HB w' B gh v' hs' ∧ HStep gh v v' w w'

set_option maxHeartbeats 1000000 in
theorem hpop_any (B gh : Nat) (v : Value) (hs : List Int) (w : World) (h : HB w B gh v hs) (h0 : 0 < hs.length) (hl : hs.length ≤ 900000) (hp : IsHp hs hs.length) :
    Calls Try.prog 38 #[.iface 101 (.pointer (some ⟨gh, 0, none⟩))] w (PopPost B gh v hs w) := by
  obtain ⟨m, hm⟩ : ∃ m, hs.length = m + 1 := ⟨hs.length - 1, by omega⟩
  obtain ⟨a1, c1, rfl⟩ := h.2.len
  rw [hm] at h hp ⊢
  have hml : m ≤ 900000 := by omega
  have HLE : Hid (∀ y ∈ hs, hs.getD 0 0 ≤ y) := Lib.hid fun y hy => by
    obtain ⟨c, hc, e⟩ := List.mem_iff_getElem.1 hy
    have := hp.least c (by omega)
    simpa [hc, e] using this
  have HD := Lib.hid (DownI.pop hp hm)
  clear hp
  have HM := Lib.hid hm; clear hm h0 hl
  have hm2 := meth_len gh _ w h.cell h.isSlice
  have hm3 := meth_swap gh _ w h.cell h.isSlice
  have HH := Lib.hid h; clear h
  have e1 : ((m + 1 : Nat) : Int) - 1 = (m : Int) := by omega
  go_enter Try.func38, Try.ntmps38
  go_wp2_with fail
  refine (len_any a1 (m + 1) c1 w).mono ?_
  rintro e w' ⟨rfl, rfl⟩
  clear hm2
  go_wp2_with fail
  refine (swap_at B gh _ hs _ _ 0 m w HH.out rfl rfl (by rw [HM.out]; omega) (by rw [HM.out]; omega) (by rw [HM.out]; omega)).mono ?_
  rintro e w1 ⟨rfl, hb1, hst1⟩
  have HM1 : Hid ((sw hs 0 m).length = m + 1) := Lib.hid ((sw_len _ _ _).trans HM.out)
  have HB1 := Lib.hid hb1; clear hb1
  have HS1 := Lib.hid hst1; clear hst1
  clear hm3
  go_wp2_with fail
  refine (down_any B gh _ (sw hs 0 m) m w1 HB1.out (by rw [HM1.out]; omega) (by rw [HM1.out]; omega) HD.out).mono ?_
  rintro e w2 ⟨⟨u, rfl⟩, ⟨hs2, hp2, hh2, hq2, hb2⟩, hst2⟩
  have HM2 : Hid (hs2.length = m + 1) := Lib.hid (hp2.length_eq.trans HM1.out)
  have HX : Hid (hs2.getD m 0 = hs.getD 0 0) := Lib.hid (by
    rw [hq2 m (Nat.le_refl _), sw_get hs 0 m m (by rw [HM.out]; omega) (by rw [HM.out]; omega), if_pos rfl])
  have HP2 : Hid ((hs2.getD m 0 :: hs2.take m).Perm hs) := Lib.hid (by
    refine List.Perm.trans ?_ (hp2.trans (sw_perm hs 0 m (by rw [HM.out]; omega) (by rw [HM.out]; omega)))
    have e := take_last hs2 m HM2.out
    refine (List.perm_append_comm (l₁ := [hs2.getD m 0]) (l₂ := hs2.take m)).trans ?_
    rw [← e])
  have HH2 := Lib.hid hh2; clear hh2
  have HB2 := Lib.hid hb2; clear hb2
  have HS2 := Lib.hid hst2; clear hst2
  clear hp2 hq2
  have hm4 := meth_pop ⟨gh, 0, none⟩ w2
  obtain ⟨X, hXX⟩ : ∃ X, X = hs2.getD m 0 := ⟨_, rfl⟩
  rw [← hXX] at HX HP2
  have HXX := Lib.hid hXX; clear hXX
  go_wp2_with fail
  refine (top_any B gh _ hs2 w2 HB2.out m HM2.out (by rw [HM2.out]; omega) X HXX.out).mono ?_
  rintro e w3 ⟨v3, rfl, hb3, hst3⟩
  have HB3 := Lib.hid hb3; clear hb3
  have HS3 := Lib.hid hst3; clear hst3
  clear hm4
  go_wp2
  go_ret
  exact ⟨v3, _, _, rfl, HP2.out, by rw [show (hs2.take m).length = m by rw [List.length_take, HM2.out]; omega]; exact HH2.out.take, fun y hy => by rw [HX.out]; exact HLE.out y hy, HB3.out, (HS1.out.trans HS2.out).trans HS3.out⟩
end HR

end Go.Proofs.Ytioebjjnadgdjaa
