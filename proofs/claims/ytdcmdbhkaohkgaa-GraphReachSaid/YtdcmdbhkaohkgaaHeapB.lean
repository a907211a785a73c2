/- What ready's Push and Pop tell, and heap's up and down. No condition but bounds. -/
import Derived.Test.YtdcmdbhkaohkgaaHeapA
import Derived.Deep.RegionLaw
import Derived.Deep.AppendLies
namespace Go.Proofs.Ytdcmdbhkaohkgaa
open Go.RowKit

/-- the box has a new heap, hs' -/
def HPost (B gh : Nat) (v : Value) (hs : List Int) (w : World) (e : Ending) (w' : World) : Prop :=
  e = .returned (.tuple #[]) ∧ ∃ v' hs', hs'.Perm hs ∧ HB w' B gh v' hs' ∧ HStep gh v v' w w'

theorem HB.put {w w1 : World} {B gh : Nat} {v v1 : Value} {hs hs1 : List Int} (h : HB w B gh v hs) (hb : Only [v.ownBlock] w w1) (ho : Own w1 B v1 hs1)
    (hv : v1.ownBlock = v.ownBlock ∨ ∃ k, v1.ownBlock = some k ∧ w.heap.size ≤ k) : HB (w1.setCell ⟨gh, 0, none⟩ v1) B gh v1 hs1 ∧ HStep gh v v1 w (w1.setCell ⟨gh, 0, none⟩ v1) := by
  have h1 : w1.heap[gh]? = some (.cells #[v] 34 (0, 0)) := (hb.block gh h.lt (by simp; exact h.ne.symm)).trans h.1
  have hne : v1.ownBlock ≠ some gh := by
    rcases hv with e | ⟨k, e, hk⟩
    · rw [e]; exact h.ne
    · rw [e]; have := h.lt; intro e2; injection e2; omega
  refine ⟨⟨?_, ?_⟩, ?_, ?_⟩
  · have := heap_setCell_same w1 gh 0 _ 34 v1 h1
    rw [this]; rfl
  · exact ho.keep fun k hk => Below.heap_setCell w1 _ v1 k (by rintro rfl; exact hne hk)
  · refine (hb.weak (S' := [some gh, v.ownBlock]) (by intro j hj; simp at hj ⊢; exact Or.inr hj)).trans (Only.set (by simp) _ _ _)
  · intro k hk
    rcases hv with e | ⟨k', e, hk'⟩
    · left; rw [← e]; exact hk
    · right; rw [e] at hk; injection hk with hk; omega

theorem assert_int (X : Int) (w : World) : (Instr.typeAssert (.iface 3 (.int .i64 X)) 20 3 false).run Try.prog w = .ok (.int .i64 X) w := by kernel_rfl

def PushPost (B gh : Nat) (v : Value) (hs : List Int) (X : Int) (w : World) (e : Ending) (w' : World) : Prop :=
  e = .returned (.tuple #[]) ∧ ∃ v', HB w' B gh v' (hs ++ [X]) ∧ HStep gh v v' w w'

theorem HB.alloc {w : World} {B gh : Nat} {v : Value} {hs : List Int} (h : HB w B gh v hs) (o : Obj) : HB (w.alloc o) B gh v hs :=
  h.keep (S := []) ((Only.refl _ _).alloc o) (by simp) (by simp)

/-- what a push leaves ahead of the store -/
def Pushed (B : Nat) (v : Value) (hs : List Int) (X : Int) (w : World) (v' : Value) (w' : World) : Prop :=
  Own w' B v' (hs ++ [X]) ∧ Only [v.ownBlock] w w' ∧ (v'.ownBlock = v.ownBlock ∨ ∃ k, v'.ownBlock = some k ∧ w.heap.size ≤ k)

theorem stepPush {w : World} {ops : Array Oper} {o : Oper} {a : Act} {K : Act → World → Prop} {Q : Exit → Act → World → Prop} {E : Prop} (hgd : o.guard = none) (s x : Operand)
    (ho : o.op = .call { callee := .builtin .append, args := #[s, x], argTypes := #[34, 34] })
    (B gh : Nat) (v : Value) (hs : List Int) (X : Int) (T : TypeId) (hsv : a.eval s = v) (h : HB w B gh v hs) (hx : a.eval x = .slice (some ⟨w.heap.size, 0, none⟩) 1 1) (hl : hs.length ≤ 1000000) (hB : B ≤ w.heap.size)
    (hK : ∀ g cap w', w'.cell? ⟨gh, 0, none⟩ = some v → w'.frozen? ⟨gh, 0, none⟩ = false → Hid (Pushed B v hs X w (.slice (some ⟨g, 0, none⟩) (hs.length + 1) cap) w') → K (a.put o.dst (.slice (some ⟨g, 0, none⟩) (hs.length + 1) cap)) w') :
    if Region.wanted o (yielded ops a.tmps) = true then Oper.wp Try.prog o a (w.alloc (.cells #[.int .i64 X] T)).drew K Q else E := by
  obtain ⟨i0, hi, hz0, hz1, hz2⟩ := info_parts Try.info3
  refine step_append_lies _ hgd s x 34 ho B 3 i0 (.int .i64 0) 1 8 Try.underlying34 hi hz0 hz1 hz2 rfl (by decide) v hs.length (hs.map (Value.int .i64)) hsv (World.ownsRow.alloc h.2 _) ⟨w.heap.size, 0, none⟩ 1 1 [.int .i64 X] hx rfl (cell_one_new w _ _) (by intro u hu; simp at hu; subst hu; rfl) (by decide) (by unfold maxLen; omega) (by omega)
    (Nat.le_trans hB ((Below.refl 0 w).alloc (Nat.zero_le _) _).size) _ rfl ?_
  intro g cap w1 hown hgrow hat hlt
  have hsz : (w.alloc (.cells #[.int .i64 X] T)).drew.heap.size = w.heap.size + 1 := by simp
  have hO : Only [v.ownBlock] w w1 := (((Only.refl _ w).alloc _).drew).trans (Only.of_grown hgrow (Or.inl (by simp)))
  have hng : some gh ∉ [v.ownBlock] := by simp; exact fun e => h.ne e.symm
  refine hK g cap w1 ((hO.cell (p := ⟨gh, 0, none⟩) h.lt hng).trans h.cell) ((hO.frozen (p := ⟨gh, 0, none⟩) h.lt hng).trans h.free) ⟨?_, hO, ?_⟩
  · unfold Own; simpa using hown
  · rcases hat with e | e
    · exact Or.inl e.symm
    · exact Or.inr ⟨g, rfl, by omega⟩

set_option maxHeartbeats 2000000 in
theorem push_any (B gh : Nat) (v : Value) (hs : List Int) (X : Int) (w : World) (h : HB w B gh v hs) (hB : B ≤ w.heap.size) (hl : hs.length ≤ 1000000) :
    Calls Try.prog 49 #[.pointer (some ⟨gh, 0, none⟩), .iface 3 (.int .i64 X)] w (PushPost B gh v hs X w) := by
  have hc := h.cell
  have hf := h.free
  have hta := assert_int X
  have hc2 : (w.alloc (.cells #[.int .i64 X] 3)).cell? ⟨gh, 0, none⟩ = some v := (h.alloc _).cell
  have HH := Lib.hid h; clear h
  go_enter Try.func49, Try.ntmps49
  go_wp2
  go_region_law ((refine stepPush rfl _ _ rfl B gh v hs X _ rfl HH.out rfl hl hB ?_; intro g cap w1 hc1 hf1 HP))
  all_goals
    go_end0
    obtain ⟨h1, h2, h3⟩ := HP.out
    obtain ⟨h4, h5⟩ := HH.out.put h2 h1 h3
    exact ⟨rfl, _, h4, h5⟩

theorem Own.cut {w : World} {B g n c : Nat} {xs : List Int} (h : Own w B (.slice (some ⟨g, 0, none⟩) n c) xs) (m : Nat) (hm : m ≤ n) : Own w B (.slice (some ⟨g, 0, none⟩) m c) (xs.take m) := by
  rcases h.2 with ⟨h0, _⟩ | ⟨g', cap, cur, h0, hb, hg, hnc, hcm, hsz, htk⟩
  · cases h0
  · injection h0 with h1 h2 h3
    injection h1 with h1
    injection h1 with h1
    subst h1 h2 h3
    have hl : (xs.take m).length = m := by simp; omega
    refine ⟨by simp, Or.inr ⟨g, c, cur, by rw [hl], hb, hg, by rw [hl]; omega, hcm, hsz, ?_⟩⟩
    rw [hl, Nat.mul_one, List.map_take, ← htk, Nat.mul_one, List.take_take]
    congr 1
    omega

/-- the last one comes out -/
def TopPost (B gh : Nat) (v : Value) (hs : List Int) (w : World) (e : Ending) (w' : World) : Prop :=
  ∃ v' X hs', e = .returned (.iface 3 (.int .i64 X)) ∧ (X :: hs').Perm hs ∧ HB w' B gh v' hs' ∧ HStep gh v v' w w'

theorem take_last (hs : List Int) (m : Nat) (hm : hs.length = m + 1) : hs = hs.take m ++ [hs.getD m 0] := by
  have h : m < hs.length := by omega
  apply List.ext_getElem (by simp; omega)
  intro i h1 h2
  by_cases hi : i < m
  · simp [List.getElem_append, hi, Nat.min_eq_left (Nat.le_of_lt h)]
  · have : i = m := by omega
    subst this
    simp [h]

set_option maxHeartbeats 1000000 in
theorem top_any (B gh : Nat) (v : Value) (hs : List Int) (w : World) (h : HB w B gh v hs) (m : Nat) (hm : hs.length = m + 1) (hl : hs.length ≤ 1000000) :
    Calls Try.prog 48 #[.pointer (some ⟨gh, 0, none⟩)] w (TopPost B gh v hs w) := by
  obtain ⟨g, c, rfl, hB, hc0, hf0, hnc, hcm⟩ := h.2.cellAt (i := m) (by omega)
  have hc := h.cell
  have hf := h.free
  rw [hm] at hc hnc h hl ⊢
  have hcut := Own.cut (m := m) h.2 (by omega)
  have hput : HB (w.setCell ⟨gh, 0, none⟩ (.slice (some ⟨g, 0, none⟩) m c)) B gh (.slice (some ⟨g, 0, none⟩) m c) (hs.take m) ∧ HStep gh (.slice (some ⟨g, 0, none⟩) (m + 1) c) (.slice (some ⟨g, 0, none⟩) m c) w (w.setCell ⟨gh, 0, none⟩ (.slice (some ⟨g, 0, none⟩) m c)) := h.put (Only.refl _ _) hcut (Or.inl rfl)
  obtain ⟨X, hX⟩ : ∃ X, X = hs.getD m 0 := ⟨_, rfl⟩
  have HP : Hid ((X :: hs.take m).Perm hs) := by
    have e := take_last hs m hm
    rw [← hX] at e
    refine (List.perm_append_comm (l₁ := [X]) (l₂ := hs.take m)).trans ?_
    rw [← e]
  rw [← hX] at hc0
  have HPUT := Lib.hid hput; clear hput
  have e1 : ((m + 1 : Nat) : Int) - 1 = (m : Int) := by omega
  clear hX hcut h hm
  unfold maxLen at hcm
  go_enter Try.func48, Try.ntmps48
  go_wp2
  go_ret
  exact ⟨_, X, _, rfl, HP.out, HPUT.out⟩
end Go.Proofs.Ytdcmdbhkaohkgaa
