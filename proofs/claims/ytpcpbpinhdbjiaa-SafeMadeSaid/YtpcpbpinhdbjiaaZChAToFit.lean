/- What Chain tells. No condition. · Plain lists: what is planned is right; the plan of the example. No condition. -/
import Derived.Test.YtpcpbpinhdbjiaaZRtAToRtC
import Derived.Deep.DeepCutAuto
import Derived.Laws.Rows
namespace Go.Proofs.Ytpcpbpinhdbjiaa
set_option linter.unusedVariables false
set_option linter.unusedSimpArgs false
set_option maxRecDepth 100000
open Go.RowKit Gr

theorem Try.info9 : (Try.prog.info? 9).map (fun i => (i.zero, i.size, i.bytes)) = some (some (.string ⟨#[]⟩), 1, 16) := by kernel_rfl
theorem make3 (w : World) : (Instr.makeSlice 22 (.int .i64 3) (.int .i64 3)).run Try.prog w = .ok (.slice (some ⟨w.heap.size, 0, none⟩) 3 3) (w.alloc (.cells #[.string ⟨#[]⟩, .string ⟨#[]⟩, .string ⟨#[]⟩] 9)) := by
  obtain ⟨i, hi, hz0, hz1, hz2⟩ := info_parts Try.info9
  have hr := run_make (P := Try.prog) w 22 9 i (.string ⟨#[]⟩) Try.underlying22 hi hz0 .i64 .i64 3 3 (by omega) (by omega) (by rw [hz2]; omega) (by omega)
  rw [hz1] at hr
  rw [hr]
  have e : madeCells (Value.string ⟨#[]⟩).cells (Int.toNat 3 * 1) = #[.string ⟨#[]⟩, .string ⟨#[]⟩, .string ⟨#[]⟩] := by
    apply Array.ext'
    show (madeCells #[Value.string ⟨#[]⟩] (Int.toNat 3 * 1)).toList = _
    rw [toList_madeCells_one]
    rfl
  rw [e]
  rfl
def noVal : ValM := ⟨0, false, [], [], ⟨#[]⟩⟩
/-- an input, its opposite, that one's opposite, told -/
def chainM : FlatM := ⟨[⟨#[118]⟩], [⟨#[]⟩, ⟨#[]⟩, ⟨#[]⟩], [2], [⟨0, ⟨#[105, 110]⟩, [], 0, noVal, -1⟩, ⟨1, ⟨#[110, 101, 103]⟩, [0], 0, noVal, -1⟩, ⟨2, ⟨#[110, 101, 103]⟩, [1], 0, noVal, -1⟩], [], [], [], []⟩
def chainV (g : Nat) : FlatV := ⟨(some ⟨g + 1, 0, none⟩, 1, 1), (some ⟨g + 2, 0, none⟩, 3, 3), (some ⟨g + 3, 0, none⟩, 1, 1), (some ⟨g + 6, 0, none⟩, 3, 3), (none, 0, 0), (none, 0, 0), (none, 0, 0), (none, 0, 0)⟩
def chainQ (g : Nat) : Array Value := #[.int .i64 0, .string ⟨#[105, 110]⟩, .slice none 0 0, .int .i64 0, .int .i64 0, .bool false, .slice none 0 0, .slice none 0 0, .string ⟨#[]⟩, .int .i64 (-1), .int .i64 1, .string ⟨#[110, 101, 103]⟩, .slice (some ⟨g + 4, 0, none⟩) 1 1, .int .i64 0, .int .i64 0, .bool false, .slice none 0 0, .slice none 0 0, .string ⟨#[]⟩, .int .i64 (-1), .int .i64 2, .string ⟨#[110, 101, 103]⟩, .slice (some ⟨g + 5, 0, none⟩) 1 1, .int .i64 0, .int .i64 0, .bool false, .slice none 0 0, .slice none 0 0, .string ⟨#[]⟩, .int .i64 (-1)]
def chainW (w : World) : World := ((((((w.alloc (.cells (fvs (chainV w.heap.size)) 29)).alloc (.cells #[.string ⟨#[118]⟩] 9)).alloc (.cells #[.string ⟨#[]⟩, .string ⟨#[]⟩, .string ⟨#[]⟩] 9)).alloc (.cells #[.int .i64 2] 3)).alloc (.cells #[.int .i64 0] 3)).alloc (.cells #[.int .i64 1] 3)).alloc (.cells (chainQ w.heap.size) 52)
theorem chain_blk (w : World) : Blk (chainW w) w.heap.size 29 (fvs (chainV w.heap.size)) ∧ Blk (chainW w) (w.heap.size + 1) 9 #[.string ⟨#[118]⟩] ∧ Blk (chainW w) (w.heap.size + 2) 9 #[.string ⟨#[]⟩, .string ⟨#[]⟩, .string ⟨#[]⟩] ∧ Blk (chainW w) (w.heap.size + 3) 3 #[.int .i64 2] ∧
    Blk (chainW w) (w.heap.size + 4) 3 #[.int .i64 0] ∧ Blk (chainW w) (w.heap.size + 5) 3 #[.int .i64 1] ∧ Blk (chainW w) (w.heap.size + 6) 52 (chainQ w.heap.size) ∧ (chainW w).heap.size = w.heap.size + 7 ∧ Below w.heap.size w (chainW w) := by
  unfold chainW
  refine ⟨?_, ?_, ?_, ?_, ?_, ?_, ?_, ?_, ?_⟩
  · exact (((((((Blk.new w 29 (fvs (chainV w.heap.size))).alloc _).alloc _).alloc _).alloc _).alloc _).alloc _)
  · have := Blk.new (w.alloc (.cells (fvs (chainV w.heap.size)) 29)) 9 #[.string ⟨#[118]⟩]
    simp only [size_alloc] at this
    exact (((((this.alloc _).alloc _).alloc _).alloc _).alloc _)
  · have := Blk.new ((w.alloc (.cells (fvs (chainV w.heap.size)) 29)).alloc (.cells #[.string ⟨#[118]⟩] 9)) 9 #[.string ⟨#[]⟩, .string ⟨#[]⟩, .string ⟨#[]⟩]
    simp only [size_alloc] at this
    exact ((((this.alloc _).alloc _).alloc _).alloc _)
  · have := Blk.new (((w.alloc (.cells (fvs (chainV w.heap.size)) 29)).alloc (.cells #[.string ⟨#[118]⟩] 9)).alloc (.cells #[.string ⟨#[]⟩, .string ⟨#[]⟩, .string ⟨#[]⟩] 9)) 3 #[.int .i64 2]
    simp only [size_alloc] at this
    exact (((this.alloc _).alloc _).alloc _)
  · have := Blk.new ((((w.alloc (.cells (fvs (chainV w.heap.size)) 29)).alloc (.cells #[.string ⟨#[118]⟩] 9)).alloc (.cells #[.string ⟨#[]⟩, .string ⟨#[]⟩, .string ⟨#[]⟩] 9)).alloc (.cells #[.int .i64 2] 3)) 3 #[.int .i64 0]
    simp only [size_alloc] at this
    exact ((this.alloc _).alloc _)
  · have := Blk.new (((((w.alloc (.cells (fvs (chainV w.heap.size)) 29)).alloc (.cells #[.string ⟨#[118]⟩] 9)).alloc (.cells #[.string ⟨#[]⟩, .string ⟨#[]⟩, .string ⟨#[]⟩] 9)).alloc (.cells #[.int .i64 2] 3)).alloc (.cells #[.int .i64 0] 3)) 3 #[.int .i64 1]
    simp only [size_alloc] at this
    exact (this.alloc _)
  · have := Blk.new ((((((w.alloc (.cells (fvs (chainV w.heap.size)) 29)).alloc (.cells #[.string ⟨#[118]⟩] 9)).alloc (.cells #[.string ⟨#[]⟩, .string ⟨#[]⟩, .string ⟨#[]⟩] 9)).alloc (.cells #[.int .i64 2] 3)).alloc (.cells #[.int .i64 0] 3)).alloc (.cells #[.int .i64 1] 3)) 52 (chainQ w.heap.size)
    simp only [size_alloc] at this
    exact this
  · simp only [size_alloc]
  · exact (((((((Below.refl _ _).alloc (Nat.le_refl _) _).alloc (by simp only [size_alloc]; omega) _).alloc (by simp only [size_alloc]; omega) _).alloc (by simp only [size_alloc]; omega) _).alloc (by simp only [size_alloc]; omega) _).alloc (by simp only [size_alloc]; omega) _).alloc (by simp only [size_alloc]; omega) _
theorem irow_blk {w : World} {g B : Nat} {x : Int} (h : Blk w g 3 #[.int .i64 x]) (hg : g < B) : IRow w B (some ⟨g, 0, none⟩) 1 1 [x] :=
  ⟨rfl, Nat.le_refl _, by unfold maxLen; omega, (fun h => by cases h), g, 0, .inl rfl, fun i hi => ⟨hg, by
    obtain rfl : i = 0 := by omega
    exact h.cell 0 rfl⟩⟩
theorem noVal_at {W : World} {B b o : Nat} {vs : Array Value} {T : Nat} (h : Blk W b T vs) (h0 : vs[o]? = some (.int .i64 0)) (h1 : vs[o + 1]? = some (.bool false)) (h2 : vs[o + 2]? = some (.slice none 0 0)) (h3 : vs[o + 3]? = some (.slice none 0 0)) (h4 : vs[o + 4]? = some (.string ⟨#[]⟩)) : ValAt W B b o noVal where
  kind := ⟨h.cell o h0, by decide, by decide⟩
  neg := h.cell (o + 1) h1
  mag := ⟨none, 0, 0, h.cell (o + 2) h2, rfl, Nat.le_refl _, Nat.zero_le _, (fun _ => rfl), (by intro x hx; cases hx), Nat.zero_le _, 0, 0, Or.inr (Nat.le_refl _), fun i hi => by omega⟩
  den := ⟨none, 0, 0, h.cell (o + 3) h3, rfl, Nat.le_refl _, Nat.zero_le _, (fun _ => rfl), (by intro x hx; cases hx), Nat.zero_le _, 0, 0, Or.inr (Nat.le_refl _), fun i hi => by omega⟩
  name := ⟨h.cell (o + 4) h4, by decide⟩
theorem chain_is (w : World) : FlatIs (chainW w) (w.heap.size + 7) (chainV w.heap.size) chainM := by
  obtain ⟨b0, b1, b2, b3, b4, b5, b6, hsz, hb⟩ := chain_blk w
  refine ⟨⟨rfl, Nat.le_refl _, by unfold maxLen chainV; simp, w.heap.size + 1, 0, .inl rfl, fun i x hx => ⟨by omega, ?_⟩⟩, ⟨rfl, Nat.le_refl _, by unfold maxLen chainV; simp, w.heap.size + 2, 0, .inl rfl, fun i x hx => ⟨by omega, ?_⟩⟩,
    irow_blk b3 (by omega), ⟨rfl, Nat.le_refl _, by unfold maxLen chainV; simp, w.heap.size + 6, 0, .inl rfl, fun i x hx => ⟨by omega, ?_⟩⟩, SRow.nil _ _ _ _, SRow.nil _ _ _ _, SRow.nil _ _ _ _, IRow.nil _ _⟩
  · match i, hx with
    | 0, hx => injection hx with hx; subst hx; exact ⟨b1.cell 0 rfl, by decide⟩
  · match i, hx with
    | 0, hx => injection hx with hx; subst hx; exact ⟨b2.cell 0 rfl, by decide⟩
    | 1, hx => injection hx with hx; subst hx; exact ⟨b2.cell 1 rfl, by decide⟩
    | 2, hx => injection hx with hx; subst hx; exact ⟨b2.cell 2 rfl, by decide⟩
  · match i, hx with
    | 0, hx =>
      injection hx with hx; subst hx
      exact ⟨⟨b6.cell 0 rfl, by decide, by decide⟩, ⟨b6.cell 1 rfl, by decide⟩, ⟨none, 0, 0, b6.cell 2 rfl, IRow.nil _ _⟩, ⟨b6.cell 3 rfl, by decide, by decide⟩, noVal_at b6 rfl rfl rfl rfl rfl, ⟨b6.cell 9 rfl, by decide, by decide⟩⟩
    | 1, hx =>
      injection hx with hx; subst hx
      exact ⟨⟨b6.cell 10 rfl, by decide, by decide⟩, ⟨b6.cell 11 rfl, by decide⟩, ⟨_, 1, 1, b6.cell 12 rfl, irow_blk b4 (by omega)⟩, ⟨b6.cell 13 rfl, by decide, by decide⟩, noVal_at b6 rfl rfl rfl rfl rfl, ⟨b6.cell 19 rfl, by decide, by decide⟩⟩
    | 2, hx =>
      injection hx with hx; subst hx
      exact ⟨⟨b6.cell 20 rfl, by decide, by decide⟩, ⟨b6.cell 21 rfl, by decide⟩, ⟨_, 1, 1, b6.cell 22 rfl, irow_blk b5 (by omega)⟩, ⟨b6.cell 23 rfl, by decide, by decide⟩, noVal_at b6 rfl rfl rfl rfl rfl, ⟨b6.cell 29 rfl, by decide, by decide⟩⟩

theorem Try.info29 : (Try.prog.info? 29).map (·.size) = some 8 := by kernel_rfl
/-- what Chain tells -/
def ChainPost (w : World) (e : Ending) (w' : World) : Prop := ∃ v, e = .returned (flatV v) ∧ v.names.2.1 = 3 ∧ FlatIs w' w'.heap.size v chainM ∧ Below w.heap.size w w'
end Go.Proofs.Ytpcpbpinhdbjiaa

namespace Go.Proofs.Ytpcpbpinhdbjiaa
set_option linter.unusedVariables false
set_option linter.unusedSimpArgs false
set_option maxRecDepth 100000
open Go.RowKit Gr

theorem getD_map {l : List Nat} (k : Nat) : (ints l).getD k 0 = ((l.getD k 0 : Nat) : Int) := ints_getD l k
/-- what is planned is right -/
theorem plan_right {f : FlatM} {n : Nat} {out : List Nat} {xs : List Int} {S : Nat} (hg : goodB f = true) (hG : (gOf f).length = n) (h : IsPlan f n out xs S) : RightP f n (ints out) xs (S : Int) := by
  obtain ⟨sls, hs, hlo, hoi⟩ := h.slots
  have ho := h.once
  have hxl := hoi.1
  have hget : ∀ v : Nat, v < n → ∃ k, k < n ∧ (ints out).getD k 0 = (v : Int) ∧ xs.getD v 0 = (sls.getD k 0 : Nat) := fun v hv => by
    obtain ⟨k, hk, e1, e2⟩ := ho.plc hv
    exact ⟨k, hk, e2, hoi.2 k hk v e2⟩
  refine ⟨hg, ho, ⟨hxl, fun x hx => ?_⟩, fun v hv u hu hnd => ?_, fun a ha k hk e => ?_⟩
  · obtain ⟨v, hv, e⟩ := List.mem_iff_getElem.1 hx
    obtain ⟨k, hk, _, e2⟩ := hget v (by omega)
    have : xs.getD v 0 = x := by simp [hv, e]
    rw [this] at e2
    have := hlo.lt k hk
    omega
  · obtain ⟨i, hi, e1, e2⟩ := ho.plc hv
    obtain ⟨j, hj, e3, e4⟩ := ho.plc hu
    rw [e1, e3]
    rw [getD_map] at e2 e4
    have hil : i < out.length := by rw [h.len]; exact hi
    have hsp : out = out.take i ++ out.getD i 0 :: out.drop (i + 1) := by
      have h1 := List.take_append_drop i out
      rw [List.drop_eq_getElem_cons hil] at h1
      conv => lhs; rw [← h1]
      simp [hil]
    have hr := (h.lst _ _ _ hsp).1.2.2 u (by
      have : out.getD i 0 = v := by omega
      rw [this]
      unfold ndB at hnd
      simp only [Bool.and_eq_true, decide_eq_true_eq] at hnd
      exact ⟨by rw [hG]; exact hv, by rw [hG]; exact hu, by simpa using hnd.2⟩)
    obtain ⟨q, hq, eq⟩ := List.mem_iff_getElem.1 hr
    rw [List.length_take] at hq
    have hqi : q < i := by omega
    have e5 : out.getD q 0 = u := by
      rw [List.getElem_take] at eq
      have : q < out.length := by omega
      simp [this, eq]
    have hjq : j = q := nd_inj ho.nd (by rw [ho.len]; exact hj) (by rw [ho.len]; omega) (by rw [getD_map, getD_map, e5]; exact e4)
    omega
  · have han : a < n := ha
    obtain ⟨x, hx, ex⟩ := ho.get (show k < n by omega)
    obtain ⟨y, hy, ey⟩ := ho.get han
    rw [ex, ey, Int.toNat_natCast, Int.toNat_natCast, hoi.2 k (by omega) x ex, hoi.2 a ha y ey] at e
    refine Classical.byContradiction fun hc => ?_
    exact hlo.free a ha k hk (by omega) (by omega)

/-- the plan of the example -/
theorem chain_g : gOf chainM = [[], [0], [1]] := by decide
theorem chain_good : goodB chainM = true := by decide
theorem chain_end : endL chainM = [2] := by decide
theorem chain_lst : IsLst [[], [0], [1]] [0, 1, 2] := by
  have e0 : ∀ k, ¬ E [[], [0], [1]] 0 k := by rintro k ⟨_, _, h⟩; simp at h
  have e1 : ∀ k, E [[], [0], [1]] 1 k → k = 0 := by rintro k ⟨_, _, h⟩; simp at h; omega
  have e2 : ∀ k, E [[], [0], [1]] 2 k → k = 1 := by rintro k ⟨_, _, h⟩; simp at h; omega
  have n1 : E [[], [0], [1]] 1 0 := ⟨by simp, by simp, by simp⟩
  have n2 : E [[], [0], [1]] 2 1 := ⟨by simp, by simp, by simp⟩
  intro a b x e
  match a, e with
  | [], e =>
    simp at e
    obtain ⟨rfl, rfl⟩ := e
    exact ⟨⟨by simp, by simp, fun k hk => (e0 k hk).elim⟩, fun y _ => Nat.zero_le _⟩
  | [p], e =>
    simp at e
    obtain ⟨rfl, rfl, rfl⟩ := e
    refine ⟨⟨by simp, by simp, fun k hk => by rw [e1 k hk]; simp⟩, fun y hy => ?_⟩
    have := hy.2.1
    simp at this; omega
  | [p, q], e =>
    simp at e
    obtain ⟨rfl, rfl, rfl, rfl⟩ := e
    refine ⟨⟨by simp, by simp, fun k hk => by rw [e2 k hk]; simp⟩, fun y hy => ?_⟩
    have := hy.2.1
    simp at this; omega
  | p :: q :: r :: s, e => simp at e
theorem chain_out {out : List Nat} (h : IsLst (gOf chainM) out) (hn : ∀ y, ¬ Rdy (gOf chainM) out y) : out = [0, 1, 2] := by
  rw [chain_g] at h hn
  exact IsLst.one h chain_lst hn (chain_lst.full rfl)
theorem chain_la (v : Nat) (hv : v < 3) : laF chainM [0, 1, 2] v = [1, 2, 3].getD v 0 := by
  match v, hv with
  | 0, _ => decide
  | 1, _ => decide
  | 2, _ => decide
theorem chain_plan {out : List Nat} {xs : List Int} {S : Nat} (h : IsPlan chainM 3 out xs S) : xs = [0, 1, 0] ∧ S = 2 := by
  have ho : out = [0, 1, 2] := chain_out h.lst (h.lst.full (by rw [h.len, chain_g]; rfl))
  subst ho
  obtain ⟨sls, hs, hlo, hoi⟩ := h.slots
  have hL : ∀ k, k < 3 → Lpl (laF chainM (ints [0, 1, 2])) (ints [0, 1, 2]) k = [1, 2, 3].getD k 0 := by
    intro k hk
    match k, hk with
    | 0, _ => exact chain_la 0 (by omega)
    | 1, _ => exact chain_la 1 (by omega)
    | 2, _ => exact chain_la 2 (by omega)
  have hgr : Pl.Greedy 3 (Lpl (laF chainM (ints [0, 1, 2])) (ints [0, 1, 2])) fun k => [0, 1, 0].getD k 0 := by
    refine ⟨fun i hi k hk hl => ?_, fun i hi s hs => ?_⟩
    · rw [hL k (by omega)] at hl
      match i, k, hi, hk with
      | 1, 0, _, _ => simp
      | 2, 0, _, _ => simp at hl
      | 2, 1, _, _ => simp
    · match i, hi with
      | 0, _ => simp at hs
      | 1, _ =>
        have : s = 0 := by simp at hs; omega
        subst this
        exact ⟨0, by omega, rfl, by rw [hL 0 (by omega)]; decide⟩
      | 2, _ => simp at hs
  have hu := hlo.greedy.uniq hgr 3
  have s0 := hu 0 (by omega) (by omega)
  have s1 := hu 1 (by omega) (by omega)
  have s2 := hu 2 (by omega) (by omega)
  have x0 := hoi.2 0 (by omega) 0 rfl
  have x1 := hoi.2 1 (by omega) 1 rfl
  have x2 := hoi.2 2 (by omega) 2 rfl
  have hS : S = 2 := by
    rw [hlo.top]
    show max (max (max 0 (sls.getD 0 0 + 1)) (sls.getD 1 0 + 1)) (sls.getD 2 0 + 1) = 2
    skip
    rw [s0, s1, s2]; decide
  refine ⟨?_, hS⟩
  have hl := hoi.1
  match xs, hl with
  | [a, b, c], _ =>
    skip
    rw [s0] at x0; rw [s1] at x1; rw [s2] at x2
    simp at x0 x1 x2
    rw [x0, x1, x2]
  | [], hl => simp at hl
  | [_], hl => simp at hl
  | [_, _], hl => simp at hl
  | _ :: _ :: _ :: _ :: _, hl => simp at hl
theorem chain_small : SmallF chainM := by
  refine ⟨by decide, by decide, by decide, by decide, by decide, by decide, by decide, by decide, fun i q hq => ?_, fun i m hm => ?_, fun i c hc => ?_, fun i c hc => ?_⟩
  · match i, hq with
    | 0, hq => injection hq with hq; subst hq; decide
    | 1, hq => injection hq with hq; subst hq; decide
    | 2, hq => injection hq with hq; subst hq; decide
    | i + 3, hq => simp [chainM] at hq
  · simp [chainM] at hm
  · simp [chainM] at hc
  · simp [chainM] at hc

end Go.Proofs.Ytpcpbpinhdbjiaa
