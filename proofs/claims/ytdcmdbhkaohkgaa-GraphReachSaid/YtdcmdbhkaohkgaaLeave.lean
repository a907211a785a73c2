/- What byLeaving tells. No condition but bounds. -/
import Derived.Test.YtdcmdbhkaohkgaaHeapB
import Derived.Test.YtdcmdbhkaohkgaaGrC
import Derived.StillTailTactics
import Derived.Deep.LoopGhost
namespace Go.Proofs.Ytdcmdbhkaohkgaa
open Go.RowKit Gr

/-- block g is a box of the slice v, of type T -/
def Box (w : World) (g : Nat) (T : TypeId) (v : Value) : Prop := w.heap[g]? = some (.cells #[v] T (0, 0))
theorem Box.lt {w : World} {g : Nat} {T : TypeId} {v : Value} (h : Box w g T v) : g < w.heap.size := (Array.getElem?_eq_some_iff.1 h).1
theorem Box.cell {w : World} {g : Nat} {T : TypeId} {v : Value} (h : Box w g T v) : w.cell? ⟨g, 0, none⟩ = some v := by rw [cell_of_row w g 0 _ T (0, 0) h]; rfl
theorem Box.free {w : World} {g : Nat} {T : TypeId} {v : Value} (h : Box w g T v) : w.frozen? ⟨g, 0, none⟩ = false := frozen_of_row w g 0 _ T h
theorem Box.only {w w' : World} {g : Nat} {T : TypeId} {v : Value} {S : List (Option Nat)} (h : Box w g T v) (hb : Only S w w') (hg : some g ∉ S) : Box w' g T v := (hb.block g h.lt hg).trans h
theorem Box.below {w w' : World} {g : Nat} {T : TypeId} {v : Value} (h : Box w g T v) (hb : Below w.heap.size w w') : Box w' g T v := (hb.block g h.lt).trans h
theorem Box.set {w : World} {g : Nat} {T : TypeId} {v : Value} (h : Box w g T v) (u : Value) : Box (w.setCell ⟨g, 0, none⟩ u) g T u := by
  have := heap_setCell_same w g 0 _ T u h
  unfold Box
  rw [this]; rfl
theorem Box.setOther {w : World} {g : Nat} {T : TypeId} {v : Value} (h : Box w g T v) {p : Addr} (hp : g ≠ p.block) (u : Value) : Box (w.setCell p u) g T v := (Below.heap_setCell w p u g hp).trans h

/-- what enter's variables hold -/
def Ent (w : World) (B n ge gb gw : Nat) (bs : List Bool) (vw : Value) (way : List Nat) : Prop :=
  Box w ge 28 (.slice (some ⟨gb, 0, none⟩) n n) ∧ BMem w gb bs ∧ Box w gw 24 vw ∧ Own w B vw (ints way)

def EntPost (B n ge gb gw : Nat) (bs : List Bool) (vw : Value) (way : List Nat) (x : Nat) (w : World) (e : Ending) (w' : World) : Prop :=
  e = .returned (.tuple #[]) ∧ ∃ vw', Ent w' B n ge gb gw (bs.set x true) vw' (way ++ [x]) ∧ Only [some gb, some gw, vw.ownBlock] w w' ∧ (vw'.ownBlock = vw.ownBlock ∨ ∃ k, vw'.ownBlock = some k ∧ w.heap.size ≤ k)

theorem enter_yes (B n ge gb gw : Nat) (bs : List Bool) (vw : Value) (way : List Nat) (x : Nat) (w : World) (h : Ent w B n ge gb gw bs vw way) (hl : bs.length = n) (hx : x < n) (hb : bs.getD x false = true) :
    Calls Try.prog 29 #[.int .i64 (x : Int), .pointer (some ⟨ge, 0, none⟩), .pointer (some ⟨gw, 0, none⟩)] w fun e w' => e = .returned (.tuple #[]) ∧ w = w' := by
  have h1 := h.1.cell
  have h2 := h.2.1.cell x (by omega)
  rw [hb] at h2
  clear h hb hl
  have hxI : (x : Int) < (n : Int) := by omega
  go_enter Try.func29, Try.ntmps29
  go_wp2
  go_end0
  exact ⟨rfl, rfl⟩

set_option maxHeartbeats 1000000 in
theorem enter_no (B n ge gb gw : Nat) (bs : List Bool) (vw : Value) (way : List Nat) (x : Nat) (w : World) (h : Ent w B n ge gb gw bs vw way) (hl : bs.length = n) (hx : x < n) (hb : bs.getD x false = false) (hB : B ≤ w.heap.size) (hwl : way.length ≤ 1000000)
    (hd1 : ge < B) (hd2 : gb < B) (hd3 : gw < B) (hd4 : ge ≠ gb) (hd5 : ge ≠ gw) (hd6 : gb ≠ gw) :
    Calls Try.prog 29 #[.int .i64 (x : Int), .pointer (some ⟨ge, 0, none⟩), .pointer (some ⟨gw, 0, none⟩)] w (EntPost B n ge gb gw bs vw way x w) := by
  have h1 := h.1.cell
  have h2 := h.2.1.cell x (by omega)
  have h2f := h.2.1.free x
  rw [hb] at h2
  have hxI : (x : Int) < (n : Int) := by omega
  obtain ⟨w2, hw2⟩ : ∃ w2, w2 = w.setCell ⟨gb, x, none⟩ (.bool true) := ⟨_, rfl⟩
  have hE : Box w2 ge 28 (.slice (some ⟨gb, 0, none⟩) n n) ∧ BMem w2 gb (bs.set x true) ∧ Box w2 gw 24 vw ∧ Own w2 B vw (ints way) := by
    rw [hw2]
    exact ⟨h.1.setOther hd4 _, h.2.1.set x true, h.2.2.1.setOther (Ne.symm hd6) _, h.2.2.2.keep fun k hk => Below.heap_setCell w _ _ k (by have := h.2.2.2.lt hk; simp; omega)⟩
  have ho2 : Only [some gb, some gw, vw.ownBlock] w w2 := by rw [hw2]; exact Only.set (by simp) _ _ _
  have hs2 : w2.heap.size = w.heap.size := by rw [hw2]; simp
  have h3 : (w.setCell ⟨gb, x, none⟩ (.bool true)).cell? ⟨gw, 0, none⟩ = some vw := (h.2.2.1.setOther (p := ⟨gb, x, none⟩) (Ne.symm hd6) _).cell
  have HE := Lib.hid hE; clear hE
  have HO2 := Lib.hid ho2; clear ho2
  have HS2 := Lib.hid hs2; clear hs2
  have HW2 := Lib.hid hw2; clear hw2
  have HWL : Hid ((ints way).length ≤ 1000000000) := by show _ ≤ _; rw [ints_len]; omega
  clear h hb hl
  go_enter Try.func29, Try.ntmps29
  go_wp2_with (at_builtin; refine appendH rfl _ _ 24 Try.underlying24 rfl B vw (ints way) (x : Int) _ w.heap.size rfl rfl (by simp) (by have := HE.out.2.2.2; rw [HW2.out] at this; exact this) hB HWL.out ?_)
  intro v' w3 hown' honly hfr
  rw [← HW2.out] at honly
  obtain ⟨a4, n4, c4, rfl⟩ : ∃ a n c, v' = .slice a n c := by obtain ⟨a4, c4, e⟩ := hown'.len; exact ⟨a4, _, c4, e⟩
  have hvb : ∀ k, vw.ownBlock = some k → B ≤ k := fun k hk => (HE.out.2.2.2.lt hk).1
  have hge3 : Box w3 ge 28 (.slice (some ⟨gb, 0, none⟩) n n) := HE.out.1.only honly (by simp; intro e; have := hvb _ e.symm; omega)
  have hgb3 : BMem w3 gb (bs.set x true) := HE.out.2.1.only honly (by simp; intro e; have := hvb _ e.symm; omega)
  have hgw3 : Box w3 gw 24 vw := HE.out.2.2.1.only honly (by simp; intro e; have := hvb _ e.symm; omega)
  have ho3 : Only [some gb, some gw, vw.ownBlock] w w3 := HO2.out.trans (honly.weak (by intro j hj; simp at hj ⊢; exact Or.inr (Or.inr hj)))
  have hc4 := hgw3.cell
  have hf4 := hgw3.free
  have H3 := Lib.hid (And.intro hge3 (And.intro hgb3 (And.intro hgw3 (And.intro ho3 hown')))); clear hge3 hgb3 hgw3 ho3 hown' honly hvb
  have HFR := Lib.hid hfr; clear hfr
  go_wp2
  go_end0
  have hno : ∀ k, (Value.slice a4 n4 c4).ownBlock = some k → B ≤ k := fun k hk => (H3.out.2.2.2.2.lt hk).1
  refine ⟨rfl, _, ⟨H3.out.1.setOther (p := ⟨gw, 0, none⟩) hd5 _, H3.out.2.1.setOther (p := ⟨gw, 0, none⟩) hd6 _, H3.out.2.2.1.set _, ?_⟩, H3.out.2.2.2.1.trans (Only.set (by simp) _ _ _), HFR.out⟩
  rw [ints_append]
  exact H3.out.2.2.2.2.keep fun k hk => Below.heap_setCell w3 _ _ k (by have := hno k hk; simp; omega)

/-- what entering changes, whether x was entered ahead or not -/
def Entd (bs : List Bool) (way : List Nat) (x : Nat) (bs' : List Bool) (way' : List Nat) : Prop :=
  (bs.getD x false = true ∧ bs' = bs ∧ way' = way) ∨ (bs.getD x false = false ∧ bs' = bs.set x true ∧ way' = way ++ [x])

def EntAny (B n ge gb gw : Nat) (bs : List Bool) (vw : Value) (way : List Nat) (x : Nat) (w : World) (e : Ending) (w' : World) : Prop :=
  e = .returned (.tuple #[]) ∧ ∃ vw' bs' way', Ent w' B n ge gb gw bs' vw' way' ∧ Only [some gb, some gw, vw.ownBlock] w w' ∧ (∀ k, vw'.ownBlock = some k → vw.ownBlock = some k ∨ w.heap.size ≤ k) ∧ Entd bs way x bs' way'

theorem enter_any (B n ge gb gw : Nat) (bs : List Bool) (vw : Value) (way : List Nat) (X : Int) (x : Nat) (w : World) (hX : X = (x : Int)) (h : Ent w B n ge gb gw bs vw way) (hl : bs.length = n) (hx : x < n) (hB : B ≤ w.heap.size) (hwl : way.length ≤ 1000000)
    (hd1 : ge < B) (hd2 : gb < B) (hd3 : gw < B) (hd4 : ge ≠ gb) (hd5 : ge ≠ gw) (hd6 : gb ≠ gw) :
    Calls Try.prog 29 #[.int .i64 X, .pointer (some ⟨ge, 0, none⟩), .pointer (some ⟨gw, 0, none⟩)] w (EntAny B n ge gb gw bs vw way x w) := by
  subst hX
  cases hb : bs.getD x false with
  | true =>
    refine (enter_yes B n ge gb gw bs vw way x w h hl hx hb).mono ?_
    rintro e w' ⟨rfl, rfl⟩
    exact ⟨rfl, vw, bs, way, h, Only.refl _ _, fun k hk => Or.inl hk, Or.inl ⟨hb, rfl, rfl⟩⟩
  | false =>
    refine (enter_no B n ge gb gw bs vw way x w h hl hx hb hB hwl hd1 hd2 hd3 hd4 hd5 hd6).mono ?_
    rintro e w' ⟨rfl, vw', h1, h2, h3⟩
    refine ⟨rfl, vw', _, _, h1, h2, fun k hk => ?_, Or.inr ⟨hb, rfl, rfl⟩⟩
    rcases h3 with e | ⟨k', e, hk'⟩
    · left; rw [← e]; exact hk
    · right; rw [e] at hk; injection hk with hk; omega

theorem dfs_enter {G : List (List Int)} {out way asked : List Nat} {bs bs' : List Bool} {way' : List Nat} {x : Nat} (h : Dfs G out way asked bs) (hx : x < G.length) (hw : ∀ a y, way = a ++ [y] → E G y x) (he : Entd bs way x bs' way') :
    Dfs G out way' asked bs' ∧ (x ∈ out ∨ x ∈ way') ∧ ∀ k ∈ way, k ∈ way' := by
  rcases he with ⟨h1, rfl, rfl⟩ | ⟨h1, rfl, rfl⟩
  · exact ⟨h, (h.ent_ x hx).1 h1, fun _ q => q⟩
  · exact ⟨h.enter x hx h1 hw, Or.inr (by simp), fun k q => List.mem_append_left _ q⟩

/-- what byLeaving's variables hold -/
def LvMem (w0 : World) (B n ga gb ge gw : Nat) (vo vw : Value) (out way asked : List Nat) (ent : List Bool) (w : World) : Prop :=
  IMem w ga (ints asked) ∧ Ent w B n ge gb gw ent vw way ∧ Own w B vo (ints out) ∧ (∀ k, vo.ownBlock = some k → vw.ownBlock ≠ some k) ∧ Below w0.heap.size w0 w ∧ B ≤ w.heap.size

/-- .. between two steps -/
def LvSt (w0 : World) (B n ga gb ge gw : Nat) (G : List (List Int)) (vo vw : Value) (out way asked : List Nat) (ent : List Bool) (w : World) : Prop :=
  Dfs G out way asked ent ∧ LvMem w0 B n ga gb ge gw vo vw out way asked ent w

theorem LvMem.enter {w0 : World} {B n ga gb ge gw : Nat} {vo vw : Value} {out way asked : List Nat} {ent : List Bool} {w w' : World} (h : LvMem w0 B n ga gb ge gw vo vw out way asked ent w)
    {vw' : Value} {ent' : List Bool} {way' : List Nat} (hE : Ent w' B n ge gb gw ent' vw' way') (ho : Only [some gb, some gw, vw.ownBlock] w w') (hv : ∀ k, vw'.ownBlock = some k → vw.ownBlock = some k ∨ w.heap.size ≤ k)
    (h1 : ga < B) (h2 : ga ≠ gb) (h3 : ga ≠ gw) (h4 : gb < B) (h5 : gw < B) (h6 : w0.heap.size ≤ gb) (h7 : w0.heap.size ≤ gw) (h8 : w0.heap.size ≤ B) : LvMem w0 B n ga gb ge gw vo vw' out way' asked ent' w' := by
  obtain ⟨a2, a3, a4, a5, a6, a7⟩ := h
  have hvw : ∀ k, vw.ownBlock = some k → B ≤ k := fun k hk => (a3.2.2.2.lt hk).1
  have hvo : ∀ k, vo.ownBlock = some k → B ≤ k ∧ k < w.heap.size := fun k hk => a4.lt hk
  refine ⟨a2.only ho ?_, hE, a4.only ho ?_, ?_, a6.trans (ho.below a6.size ?_), Nat.le_trans a7 ho.size⟩
  · simp only [List.mem_cons, List.not_mem_nil, or_false, not_or, Option.some.injEq]
    exact ⟨h2, h3, fun e => by have := hvw _ e.symm; omega⟩
  · intro k hk
    simp only [List.mem_cons, List.not_mem_nil, or_false, not_or, Option.some.injEq]
    have := hvo k hk
    exact ⟨by omega, by omega, fun e => a5 k hk e.symm⟩
  · intro k hk e
    rcases hv k e with q | q
    · exact a5 k hk q
    · have := hvo k hk; omega
  · intro j hj
    simp only [List.mem_cons, List.not_mem_nil, or_false, Option.some.injEq] at hj
    rcases hj with q | q | q
    · omega
    · omega
    · have := hvw _ q.symm; omega

theorem ints_set (l : List Nat) (i x : Nat) : ints (l.set i x) = (ints l).set i (x : Int) := by simp [ints, List.map_set]

/-- one need more is asked for -/
theorem LvMem.ask {w0 : World} {B n ga gb ge gw : Nat} {vo vw : Value} {out way asked : List Nat} {ent : List Bool} {w : World} (h : LvMem w0 B n ga gb ge gw vo vw out way asked ent w) (t q : Nat) (Q : Int) (hQ : Q = (q : Int))
    (h1 : ga < B) (h2 : ga ≠ gb) (h3 : ga ≠ gw) (h4 : ga ≠ ge) (h5 : w0.heap.size ≤ ga) : LvMem w0 B n ga gb ge gw vo vw out way (asked.set t q) ent (w.setCell ⟨ga, t, none⟩ (.int .i64 Q)) := by
  subst hQ
  obtain ⟨a2, a3, a4, a5, a6, a7⟩ := h
  refine ⟨by rw [ints_set]; exact a2.set t _, ⟨a3.1.setOther (Ne.symm h4) _, a3.2.1.setOther (Ne.symm h2) _, a3.2.2.1.setOther (Ne.symm h3) _, a3.2.2.2.keep fun k hk => Below.heap_setCell w _ _ k ?_⟩, a4.keep fun k hk => Below.heap_setCell w _ _ k ?_, a5, a6.setCell (p := ⟨ga, t, none⟩) h5 _, by simp; exact a7⟩
  · have := a3.2.2.2.lt hk; simp; omega
  · have := a4.lt hk; simp; omega
theorem LvMem.drew {w0 : World} {B n ga gb ge gw : Nat} {vo vw : Value} {out way asked : List Nat} {ent : List Bool} {w : World} (h : LvMem w0 B n ga gb ge gw vo vw out way asked ent w) : LvMem w0 B n ga gb ge gw vo vw out way asked ent w.drew :=
  ⟨h.1, h.2.1, h.2.2.1, h.2.2.2.1, h.2.2.2.2.1.drew, h.2.2.2.2.2⟩

theorem lv_ask {w0 : World} {B n ga gb ge gw : Nat} {G : List (List Int)} {vo vw vw5 : Value} {out a asked way5 : List Nat} {ent ent5 : List Bool} {wr w4 w5 : World} {t q k : Nat}
    (h : LvSt w0 B n ga gb ge gw G vo vw out (a ++ [t]) asked ent wr) (hq : q = asked.getD t 0) (hqL : q < (G.getD t []).length) (hk : (G.getD t []).getD q 0 = (k : Int)) (hkn : k < G.length)
    (hm4 : LvMem w0 B n ga gb ge gw vo vw out (a ++ [t]) (asked.set t (q + 1)) ent w4)
    (h5 : Ent w5 B n ge gb gw ent5 vw5 way5 ∧ Only [some gb, some gw, vw.ownBlock] w4 w5 ∧ (∀ k, vw5.ownBlock = some k → vw.ownBlock = some k ∨ w4.heap.size ≤ k) ∧ Entd ent (a ++ [t]) k ent5 way5)
    (h1 : ga < B) (h2 : ga ≠ gb) (h3 : ga ≠ gw) (h4 : gb < B) (h5' : gw < B) (h6 : w0.heap.size ≤ gb) (h7 : w0.heap.size ≤ gw) (h8 : w0.heap.size ≤ B) :
    LvSt w0 B n ga gb ge gw G vo vw5 out way5 (asked.set t (q + 1)) ent5 w5 ∧ slack G (asked.set t (q + 1)) + 1 = slack G asked ∧ ∀ j, j ∈ out ∨ j ∈ a ++ [t] → j ∈ out ∨ j ∈ way5 := by
  obtain ⟨hE, ho, hv, hd⟩ := h5
  have htn : t < G.length := h.1.lt t (by simp)
  have hmem : (k : Int) ∈ G.getD t [] := by rw [← hk]; exact getD_mem' hqL
  obtain ⟨hd1, hd2, hd3⟩ := dfs_enter h.1 hkn (fun a' y e => by
    obtain ⟨_, e2⟩ := List.append_inj' e rfl
    simp at e2
    rw [← e2]
    exact ⟨htn, hkn, hmem⟩) hd
  have hd4 := hd1.ask t (hd3 t (by simp)) (by rw [← hq]; exact hqL) (fun y hy => by
    rw [← hq, hk] at hy
    have : y = k := by omega
    rw [this]; exact hd2)
  rw [← hq] at hd4
  refine ⟨⟨hd4, hm4.enter hE ho hv h1 h2 h3 h4 h5' h6 h7 h8⟩, ?_, fun j hj => hj.elim Or.inl (fun x => Or.inr (hd3 j x))⟩
  have := slack_set G asked t htn (by rw [h.1.lenA]; exact htn) (by rw [← hq]; exact hqL)
  rw [← hq] at this
  exact this

theorem LvMem.cut {w0 : World} {B n ga gb ge gw g4 c4 m t : Nat} {vo : Value} {out a asked : List Nat} {ent : List Bool} {w : World} (h : LvMem w0 B n ga gb ge gw vo (.slice (some ⟨g4, 0, none⟩) (m + 1) c4) out (a ++ [t]) asked ent w) (hm : m = a.length)
    (h3 : ga ≠ gw) (h4 : gb ≠ gw) (h5 : ge ≠ gw) (h6 : w0.heap.size ≤ gw) (h7 : gw < B) : LvMem w0 B n ga gb ge gw vo (.slice (some ⟨g4, 0, none⟩) m c4) out a asked ent (w.setCell ⟨gw, 0, none⟩ (.slice (some ⟨g4, 0, none⟩) m c4)) := by
  obtain ⟨a2, a3, a4, a5, a6, a7⟩ := h
  have hc := Own.cut a3.2.2.2 m (by omega)
  have e : (ints (a ++ [t])).take m = ints a := by rw [ints_append, hm, ← ints_len a, List.take_left]
  rw [e] at hc
  refine ⟨a2.setOther h3 _, ⟨a3.1.setOther h5 _, a3.2.1.setOther h4 _, a3.2.2.1.set _, hc.keep fun k hk => Below.heap_setCell w _ _ k ?_⟩, a4.keep fun k hk => Below.heap_setCell w _ _ k ?_, a5, a6.setCell (p := ⟨gw, 0, none⟩) h6 _, by simp; exact a7⟩
  · have := hc.lt hk; simp; omega
  · have := a4.lt hk; simp; omega

theorem LvMem.out {w0 : World} {B n ga gb ge gw t : Nat} {vo vw v' : Value} {out way asked : List Nat} {ent : List Bool} {w w' : World} (h : LvMem w0 B n ga gb ge gw vo vw out way asked ent w)
    (ho : Own w' B v' (ints out ++ [(t : Int)])) (hb : Only [vo.ownBlock] w w') (hf : v'.ownBlock = vo.ownBlock ∨ ∃ k, v'.ownBlock = some k ∧ w.heap.size ≤ k)
    (h1 : ga < B) (h4 : gb < B) (h5 : gw < B) (h6 : ge < B) (h8 : w0.heap.size ≤ B) : LvMem w0 B n ga gb ge gw v' vw (out ++ [t]) way asked ent w' := by
  obtain ⟨a2, a3, a4, a5, a6, a7⟩ := h
  have hvo : ∀ k, vo.ownBlock = some k → B ≤ k := fun k hk => (a4.lt hk).1
  have far : ∀ g, g < B → some g ∉ [vo.ownBlock] := fun g hg => by
    simp only [List.mem_singleton]
    intro e; have := hvo _ e.symm; omega
  refine ⟨a2.only hb (far _ h1), ⟨a3.1.only hb (far _ h6), a3.2.1.only hb (far _ h4), a3.2.2.1.only hb (far _ h5), a3.2.2.2.only hb ?_⟩, by rw [ints_append]; exact ho, ?_, a6.trans (hb.below a6.size ?_), Nat.le_trans a7 hb.size⟩
  · intro k hk hm
    simp only [List.mem_singleton] at hm
    exact a5 k hm.symm hk
  · intro k hk e
    rcases hf with q | ⟨k', q, hk'⟩
    · exact a5 k (by rw [← q]; exact hk) e
    · rw [q] at hk
      injection hk with hk
      have := a3.2.2.2.lt e
      omega
  · intro j hj
    simp only [List.mem_singleton] at hj
    have := hvo _ hj.symm; omega

theorem LvMem.place {w0 : World} {B n ga gb ge gw : Nat} {G : List (List Int)} {vo vw : Value} {out way asked : List Nat} {ent : List Bool} {w : World} (h : LvSt w0 B n ga gb ge gw G vo vw out way asked ent w) : out.length ≤ G.length :=
  nodup_len G.length out (List.nodup_append.1 h.1.nd).1 (fun x hx => h.1.lt x (List.mem_append_left _ hx))
end Go.Proofs.Ytdcmdbhkaohkgaa
