/- awake tells true. No condition. -/
import Derived.Test.YtdcmdbhkaohkgaaOrdB
import Derived.Test.YtdcmdbhkaohkgaaCyc
namespace Go.Proofs.Ytdcmdbhkaohkgaa
open Go.RowKit Gr

def G1 : List (List Int) := [[1], [2], []]
def G2 : List (List Int) := [[1], [0]]
def G3 : List (List Int) := [[], [1]]

theorem e1a : E G1 0 1 := by unfold E G1; decide
theorem e1b : E G1 1 2 := by unfold E G1; decide
theorem e2a : E G2 0 1 := by unfold E G2; decide
theorem e2b : E G2 1 0 := by unfold E G2; decide
theorem e2c : ¬ E G2 0 0 := by unfold E G2; decide
theorem e3a : E G3 1 1 := by unfold E G3; decide

theorem ord1 (out : List Nat) (h : IsOrd G1 out) : out = [2, 1, 0] := by
  obtain ⟨hl, hnd, hlt, hord⟩ := h
  match out, hl, hnd, hlt, hord with
  | [a, b, c], _, hnd, hlt, hord =>
    have ha : a < 3 := hlt a (by simp)
    have hb : b < 3 := hlt b (by simp)
    have hc : c < 3 := hlt c (by simp)
    have h1 := hord [] [b, c] a rfl
    have h2 := hord [a] [c] b rfl
    simp at hnd
    have a0 : a ≠ 0 := fun e => by have := h1 1 (by rw [e]; exact e1a); simp at this
    have a1 : a ≠ 1 := fun e => by have := h1 2 (by rw [e]; exact e1b); simp at this
    have hb0 : b ≠ 0 := fun e => by have := h2 1 (by rw [e]; exact e1a); simp at this; omega
    have ea : a = 2 := by omega
    have eb : b = 1 := by omega
    have ec : c = 0 := by omega
    rw [ea, eb, ec]
  | [], hl, _, _, _ => simp [G1] at hl
  | [_], hl, _, _, _ => simp [G1] at hl
  | [_, _], hl, _, _, _ => simp [G1] at hl
  | _ :: _ :: _ :: _ :: _, hl, _, _, _ => simp [G1] at hl

theorem isord1 : IsOrd G1 [2, 1, 0] := by
  refine ⟨rfl, by decide, by decide, ?_⟩
  intro a b x e k hE
  have hx : x < 3 := hE.1
  have hk : k < 3 := hE.2.1
  match a, e with
  | [], e =>
    injection e with e _
    subst e
    have : ¬ E G1 2 k := by
      have h : ∀ k, k < 3 → ¬ E G1 2 k := by unfold E G1; decide
      exact h k hk
    exact (this hE).elim
  | [y], e =>
    injection e with e e2
    injection e2 with e2 _
    subst e e2
    have h : ∀ k, k < 3 → E G1 1 k → k ∈ [2] := by unfold E G1; decide
    exact h k hk hE
  | [y, z], e =>
    injection e with e e2
    injection e2 with e2 e3
    injection e3 with e3 _
    subst e e2 e3
    have h : ∀ k, k < 3 → E G1 0 k → k ∈ [2, 1] := by unfold E G1; decide
    exact h k hk hE
  | y :: z :: u :: v, e => simp at e

theorem way2 : Gr.Way G2 0 0 := ⟨1, 1, ⟨0, rfl, e2a⟩, e2b⟩
theorem way3 : Gr.Way G3 1 1 := Gr.Way.one e3a

theorem cyc2 (c : List Nat) (h : Cyc G2 c) : c = [0, 1] := by
  rcases h with ⟨_, h⟩ | ⟨h1, h2, h3, h4, h5, _⟩
  · exact (h 0 way2).elim
  · have h0 : c.getD 0 0 = 0 := by have := h5 0 way2; omega
    match c, h1, h2, h3, h4, h0 with
    | [a], _, _, _, h4, h0 =>
      have := h4 0 (by simp)
      simp at h0 this
      rw [h0] at this
      exact (e2c this).elim
    | [a, b], _, h2, h3, _, h0 =>
      have ha : a = 0 := by simpa using h0
      have hb : b < 2 := h2 b (by simp)
      simp at h3
      have : b = 1 := by omega
      rw [ha, this]
    | a :: b :: d :: l, _, h2, h3, _, _ =>
      have := nodup_len 2 (a :: b :: d :: l) h3 h2
      simp at this

theorem cyc3 (c : List Nat) (h : Cyc G3 c) : c = [1] := by
  rcases h with ⟨_, h⟩ | ⟨h1, h2, h3, h4, h5, _⟩
  · exact (h 1 way3).elim
  · have key : ∀ x, x < 2 → ∀ y, y < 2 → E G3 x y → x = 1 ∧ y = 1 := by unfold E G3; decide
    match c, h1, h2, h3, h4 with
    | [a], _, h2, _, h4 =>
      have := h4 0 (by simp)
      simp at this
      have ha : a < 2 := h2 a (by simp)
      rw [(key a ha a ha this).1]
    | a :: b :: l, _, h2, h3, h4 =>
      have := h4 0 (by simp)
      have hm : (0 + 1) % (a :: b :: l).length = 1 := Nat.mod_eq_of_lt (by simp)
      rw [hm] at this
      simp at this
      have hab := key a (h2 a (by simp)) b (h2 b (by simp)) this
      simp at h3
      omega

/-- a literal of rows -/
theorem lit_grow {w : World} {B g : Nat} {vs : List Value} {G : List (List Int)} (h : w.heap[g]? = some (.cells vs.toArray 24 (0, 0))) (hB : g < B) (hl : vs.length = G.length) (hn : G.length ≤ 1000)
    (hr : ∀ i, i < G.length → ∃ A L C, vs[i]? = some (.slice A L C) ∧ IRow w B A L C (G.getD i [])) : GRow w B (some ⟨g, 0, none⟩) G.length G.length G := by
  refine ⟨rfl, Nat.le_refl _, by unfold maxLen; omega, g, 0, Or.inl rfl, fun i hi => ⟨hB, ?_⟩⟩
  obtain ⟨A, L, C, e, hrow⟩ := hr i hi
  refine ⟨A, L, C, ?_, hrow⟩
  rw [Nat.zero_add, cell_of_row w g i _ 24 (0, 0) h]
  simpa using e

theorem lit_irow {w : World} {B g : Nat} {X : Int} (h : w.heap[g]? = some (.cells #[.int .i64 X] 3 (0, 0))) (hB : g < B) : IRow w B (some ⟨g, 0, none⟩) 1 1 [X] :=
  IMem.irow (xs := [X]) h hB (Nat.le_refl _) (by unfold maxLen; decide)

theorem old1 (w : World) (o1 o2 : Obj) : ((w.alloc o1).alloc o2).heap[w.heap.size]? = some o1 := (Below.heap_alloc _ _ _ (by simp)).trans (heap_alloc_new w o1)
theorem new2 (w : World) (o1 o2 : Obj) : ((w.alloc o1).alloc o2).heap[w.heap.size + 1]? = some o2 := by
  have := heap_alloc_new (w.alloc o1) o2
  rwa [World.size_alloc] at this

theorem grow_one (w : World) : GRow (((w.alloc (.cells #[.int .i64 1] 3)).alloc (.cells #[.int .i64 2] 3)).alloc (.cells #[.slice (some ⟨w.heap.size, 0, none⟩) 1 1, .slice (some ⟨w.heap.size + 1, 0, none⟩) 1 1, .slice none 0 0] 24)) (w.heap.size + 3) (some ⟨w.heap.size + 2, 0, none⟩) 3 3 G1 := by
  have hA := (Below.heap_alloc _ (.cells #[.slice (some ⟨w.heap.size, 0, none⟩) 1 1, .slice (some ⟨w.heap.size + 1, 0, none⟩) 1 1, .slice none 0 0] 24) _ (by simp; omega)).trans (old1 w (.cells #[.int .i64 1] 3) (.cells #[.int .i64 2] 3))
  have hB := (Below.heap_alloc _ (.cells #[.slice (some ⟨w.heap.size, 0, none⟩) 1 1, .slice (some ⟨w.heap.size + 1, 0, none⟩) 1 1, .slice none 0 0] 24) _ (by simp)).trans (new2 w (.cells #[.int .i64 1] 3) (.cells #[.int .i64 2] 3))
  have hC := heap_alloc_new ((w.alloc (.cells #[.int .i64 1] 3)).alloc (.cells #[.int .i64 2] 3)) (.cells #[.slice (some ⟨w.heap.size, 0, none⟩) 1 1, .slice (some ⟨w.heap.size + 1, 0, none⟩) 1 1, .slice none 0 0] 24)
  rw [World.size_alloc, World.size_alloc] at hC
  refine lit_grow (vs := [.slice (some ⟨w.heap.size, 0, none⟩) 1 1, .slice (some ⟨w.heap.size + 1, 0, none⟩) 1 1, .slice none 0 0]) (G := G1) hC (by omega) rfl (by decide) ?_
  intro i hi
  match i, hi with
  | 0, _ => exact ⟨_, _, _, rfl, lit_irow hA (by omega)⟩
  | 1, _ => exact ⟨_, _, _, rfl, lit_irow hB (by omega)⟩
  | 2, _ => exact ⟨_, _, _, rfl, IRow.nil _ _⟩
  | n + 3, h => exfalso; have h' : n + 3 < 3 := h; omega

theorem grow_two (w : World) : GRow (((w.alloc (.cells #[.int .i64 1] 3)).alloc (.cells #[.int .i64 0] 3)).alloc (.cells #[.slice (some ⟨w.heap.size, 0, none⟩) 1 1, .slice (some ⟨w.heap.size + 1, 0, none⟩) 1 1] 24)) (w.heap.size + 3) (some ⟨w.heap.size + 2, 0, none⟩) 2 2 G2 := by
  have hA := (Below.heap_alloc _ (.cells #[.slice (some ⟨w.heap.size, 0, none⟩) 1 1, .slice (some ⟨w.heap.size + 1, 0, none⟩) 1 1] 24) _ (by simp; omega)).trans (old1 w (.cells #[.int .i64 1] 3) (.cells #[.int .i64 0] 3))
  have hB := (Below.heap_alloc _ (.cells #[.slice (some ⟨w.heap.size, 0, none⟩) 1 1, .slice (some ⟨w.heap.size + 1, 0, none⟩) 1 1] 24) _ (by simp)).trans (new2 w (.cells #[.int .i64 1] 3) (.cells #[.int .i64 0] 3))
  have hC := heap_alloc_new ((w.alloc (.cells #[.int .i64 1] 3)).alloc (.cells #[.int .i64 0] 3)) (.cells #[.slice (some ⟨w.heap.size, 0, none⟩) 1 1, .slice (some ⟨w.heap.size + 1, 0, none⟩) 1 1] 24)
  rw [World.size_alloc, World.size_alloc] at hC
  refine lit_grow (vs := [.slice (some ⟨w.heap.size, 0, none⟩) 1 1, .slice (some ⟨w.heap.size + 1, 0, none⟩) 1 1]) (G := G2) hC (by omega) rfl (by decide) ?_
  intro i hi
  match i, hi with
  | 0, _ => exact ⟨_, _, _, rfl, lit_irow hA (by omega)⟩
  | 1, _ => exact ⟨_, _, _, rfl, lit_irow hB (by omega)⟩
  | n + 2, h => exfalso; have h' : n + 2 < 2 := h; omega

theorem grow_three (w : World) : GRow ((w.alloc (.cells #[.int .i64 1] 3)).alloc (.cells #[.slice none 0 0, .slice (some ⟨w.heap.size, 0, none⟩) 1 1] 24)) (w.heap.size + 2) (some ⟨w.heap.size + 1, 0, none⟩) 2 2 G3 := by
  have hA := old1 w (.cells #[.int .i64 1] 3) (.cells #[.slice none 0 0, .slice (some ⟨w.heap.size, 0, none⟩) 1 1] 24)
  have hC := new2 w (.cells #[.int .i64 1] 3) (.cells #[.slice none 0 0, .slice (some ⟨w.heap.size, 0, none⟩) 1 1] 24)
  refine lit_grow (vs := [.slice none 0 0, .slice (some ⟨w.heap.size, 0, none⟩) 1 1]) (G := G3) hC (by omega) rfl (by decide) ?_
  intro i hi
  match i, hi with
  | 0, _ => exact ⟨_, _, _, rfl, IRow.nil _ _⟩
  | 1, _ => exact ⟨_, _, _, rfl, lit_irow hA (by omega)⟩
  | n + 2, h => exfalso; have h' : n + 2 < 2 := h; omega

def lit3 (w : World) : World := ((w.alloc (.cells #[.int .i64 1] 3)).alloc (.cells #[.int .i64 2] 3)).alloc (.cells #[.slice (some ⟨w.heap.size, 0, none⟩) 1 1, .slice (some ⟨w.heap.size + 1, 0, none⟩) 1 1, .slice none 0 0] 24)
def lit2 (w : World) : World := ((w.alloc (.cells #[.int .i64 1] 3)).alloc (.cells #[.int .i64 0] 3)).alloc (.cells #[.slice (some ⟨w.heap.size, 0, none⟩) 1 1, .slice (some ⟨w.heap.size + 1, 0, none⟩) 1 1] 24)
def lit1 (w : World) : World := (w.alloc (.cells #[.int .i64 1] 3)).alloc (.cells #[.slice none 0 0, .slice (some ⟨w.heap.size, 0, none⟩) 1 1] 24)
theorem lit3_below (w : World) : Below w.heap.size w (lit3 w) := (((Below.refl _ w).alloc (Nat.le_refl _) _).alloc (by simp) _).alloc (by simp; omega) _
theorem lit2_below (w : World) : Below w.heap.size w (lit2 w) := (((Below.refl _ w).alloc (Nat.le_refl _) _).alloc (by simp) _).alloc (by simp; omega) _
theorem lit1_below (w : World) : Below w.heap.size w (lit1 w) := ((Below.refl _ w).alloc (Nat.le_refl _) _).alloc (by simp) _

theorem order1 (w : World) : Calls Try.prog 8 #[.slice (some ⟨w.heap.size + 2, 0, none⟩) 3 3] (lit3 w) fun e w' => ∃ a c, e = .returned (.tuple #[.slice a 3 c, .bool true]) ∧ IRow w' w'.heap.size a 3 c [2, 1, 0] ∧ Below w.heap.size w w' := by
  refine (order_any _ 3 3 (w.heap.size + 3) G1 (lit3 w) (grow_one w) (by simp [lit3]) (by omega) (by decide)).mono ?_
  rintro e w' ⟨h, hb⟩
  have hb' := (lit3_below w).trans (hb.mono (lit3_below w).size)
  rcases h with ⟨a, c, out, rfl, hr, ho⟩ | ⟨_, hs⟩
  · have e1 := ord1 out ho
    subst e1
    exact ⟨a, c, rfl, hr, hb'⟩
  · obtain ⟨j, hj⟩ := hs.way
    exact (isord1.noWay j hj).elim

theorem order2 (w : World) : Calls Try.prog 8 #[.slice (some ⟨w.heap.size + 2, 0, none⟩) 2 2] (lit2 w) fun e w' => e = .returned (.tuple #[.slice none 0 0, .bool false]) ∧ Below w.heap.size w w' := by
  refine (order_any _ 2 2 (w.heap.size + 3) G2 (lit2 w) (grow_two w) (by simp [lit2]) (by omega) (by decide)).mono ?_
  rintro e w' ⟨h, hb⟩
  have hb' := (lit2_below w).trans (hb.mono (lit2_below w).size)
  rcases h with ⟨a, c, out, rfl, hr, ho⟩ | ⟨e, hs⟩
  · exact (ho.noWay 0 way2).elim
  · exact ⟨e, hb'⟩

theorem cycle2 (w : World) : Calls Try.prog 11 #[.slice (some ⟨w.heap.size + 2, 0, none⟩) 2 2] (lit2 w) fun e w' => ∃ a c, e = .returned (.slice a 2 c) ∧ IRow w' w'.heap.size a 2 c [0, 1] ∧ Below w.heap.size w w' := by
  refine (cycle_any _ 2 2 (w.heap.size + 3) G2 (lit2 w) (grow_two w) (by simp [lit2]) (by omega) (by decide)).mono ?_
  rintro e w' ⟨a, c', c, rfl, hr, hc, hb⟩
  have e1 := cyc2 c hc
  subst e1
  exact ⟨a, c', rfl, hr, (lit2_below w).trans (hb.mono (lit2_below w).size)⟩

theorem cycle3 (w : World) : Calls Try.prog 11 #[.slice (some ⟨w.heap.size + 1, 0, none⟩) 2 2] (lit1 w) fun e w' => ∃ a c, e = .returned (.slice a 1 c) ∧ IRow w' w'.heap.size a 1 c [1] ∧ Below w.heap.size w w' := by
  refine (cycle_any _ 2 2 (w.heap.size + 2) G3 (lit1 w) (grow_three w) (by simp [lit1]) (by omega) (by decide)).mono ?_
  rintro e w' ⟨a, c', c, rfl, hr, hc, hb⟩
  have e1 := cyc3 c hc
  subst e1
  exact ⟨a, c', rfl, hr, (lit1_below w).trans (hb.mono (lit1_below w).size)⟩

/-- same, against a literal -/
theorem same_lit (a : Option Addr) (n c : Nat) (xs : List Int) (w : World) (h : IRow w w.heap.size a n c xs) (hn : xs.length = n) (hn2 : n ≤ 1000) :
    Calls Try.prog 18 #[.slice a n c, .slice (some ⟨w.heap.size, 0, none⟩) n n] (w.alloc (.cells (xs.map (Value.int .i64)).toArray 3)) fun e w' => e = .returned (.bool true) ∧ Below w.heap.size w w' := by
  have hb : Below w.heap.size w (w.alloc (.cells (xs.map (Value.int .i64)).toArray 3)) := (Below.refl _ w).alloc (Nat.le_refl _) _
  have hm : IMem (w.alloc (.cells (xs.map (Value.int .i64)).toArray 3)) w.heap.size xs := heap_alloc_new w _
  have hr := hm.irow (B := w.heap.size + 1) (c := n) (by omega) (by omega) (by unfold maxLen; omega)
  rw [hn] at hr
  refine (same_any a n c xs _ n n xs (w.heap.size + 1) _ ((h.below hb).more (by omega)) hr).mono ?_
  rintro e w' ⟨rfl, hb2⟩
  exact ⟨by simp, hb.trans (hb2.mono hb.size)⟩

set_option maxHeartbeats 2000000 in
theorem awake_any (w : World) : Calls Try.prog 9 #[] w fun e w' => e = .returned (.bool true) ∧ Below w.heap.size w w' := by
  go_enter Try.func9, Try.ntmps9
  go_wp2_with fail
  refine (show Calls Try.prog 8 #[.slice (some ⟨w.heap.size + 2, 0, none⟩) 3 3] _ _ from order1 w).mono ?_
  rintro e w1 ⟨a1, c1, rfl, hr1, hb1⟩
  have HR1 := Lib.hid hr1; clear hr1
  have HB1 := Lib.hid hb1; clear hb1
  go_wp2_with fail
  refine (show Calls Try.prog 8 #[.slice (some ⟨w1.heap.size + 2, 0, none⟩) 2 2] _ _ from order2 w1).mono ?_
  rintro e w2 ⟨rfl, hb2⟩
  have HR2 : Hid (IRow w2 w2.heap.size a1 3 c1 [2, 1, 0]) := (HR1.out.below hb2).more hb2.size
  have HB2 : Hid (Below w.heap.size w w2) := HB1.out.trans (hb2.mono HB1.out.size)
  clear hb2 HR1 HB1
  go_wp2_with fail
  refine (show Calls Try.prog 18 #[.slice a1 3 c1, .slice (some ⟨w2.heap.size, 0, none⟩) 3 3] _ _ from same_lit a1 3 c1 [2, 1, 0] w2 HR2.out rfl (by omega)).mono ?_
  rintro e w3 ⟨rfl, hb3⟩
  have HB3 : Hid (Below w.heap.size w w3) := HB2.out.trans (hb3.mono HB2.out.size)
  clear hb3 HR2 HB2
  go_wp2_with fail
  refine (show Calls Try.prog 11 #[.slice (some ⟨w3.heap.size + 2, 0, none⟩) 2 2] _ _ from cycle2 w3).mono ?_
  rintro e w4 ⟨a4, c4, rfl, hr4, hb4⟩
  have HR4 := Lib.hid hr4; clear hr4
  have HB4 : Hid (Below w.heap.size w w4) := HB3.out.trans (hb4.mono HB3.out.size)
  clear hb4 HB3
  go_wp2_with fail
  refine (show Calls Try.prog 18 #[.slice a4 2 c4, .slice (some ⟨w4.heap.size, 0, none⟩) 2 2] _ _ from same_lit a4 2 c4 [0, 1] w4 HR4.out rfl (by omega)).mono ?_
  rintro e w5 ⟨rfl, hb5⟩
  have HB5 : Hid (Below w.heap.size w w5) := HB4.out.trans (hb5.mono HB4.out.size)
  clear hb5 HR4 HB4
  go_wp2_with fail
  refine (show Calls Try.prog 11 #[.slice (some ⟨w5.heap.size + 1, 0, none⟩) 2 2] _ _ from cycle3 w5).mono ?_
  rintro e w6 ⟨a6, c6, rfl, hr6, hb6⟩
  have HR6 := Lib.hid hr6; clear hr6
  have HB6 : Hid (Below w.heap.size w w6) := HB5.out.trans (hb6.mono HB5.out.size)
  clear hb6 HB5
  go_wp2_with fail
  refine (show Calls Try.prog 18 #[.slice a6 1 c6, .slice (some ⟨w6.heap.size, 0, none⟩) 1 1] _ _ from same_lit a6 1 c6 [1] w6 HR6.out rfl (by omega)).mono ?_
  rintro e w7 ⟨rfl, hb7⟩
  have HB7 : Hid (Below w.heap.size w w7) := HB6.out.trans (hb7.mono HB6.out.size)
  clear hb7 HR6 HB6
  go_wp2
  go_ret
  exact ⟨rfl, HB7.out⟩
end Go.Proofs.Ytdcmdbhkaohkgaa
