/- What Chain tells. No condition. -/
import Derived.Test.YtioebjjnadgdjaaZRtCToRtD
import Derived.Deep.DeepCutAuto
import Derived.Laws.Rows
namespace Go.Proofs.Ytioebjjnadgdjaa
set_option linter.unusedVariables false
set_option linter.unusedSimpArgs false
set_option maxRecDepth 100000
open Go.RowKit Gr

theorem Try.info9 : (Try.prog.info? 9).map (fun i => (i.zero, i.size, i.bytes)) = some (some (.string ⟨#[]⟩), 1, 16) := by kernel_rfl
theorem make3 (w : World) : (Instr.makeSlice 22 (.int .i64 3) (.int .i64 3)).run Try.prog w = .ok (.slice (some ⟨w.heap.size, 0, none⟩) 3 3) (w.alloc (.cells #[.string ⟨#[]⟩, .string ⟨#[]⟩, .string ⟨#[]⟩] 9)) := by
  obtain ⟨i, hi, hz0, hz1, hz2⟩ := info_parts Try.info9
  have hr := run_make (P := Try.prog) w 22 9 i (.string ⟨#[]⟩) Try.underlying22 hi hz0 .i64 .i64 3 3 (by omega) (by omega) (by rw [hz2]; omega) (by omega)
  rw [hz1] at hr
  rw [hr]
  have e : madeCells (Value.string ⟨#[]⟩).cells (Int.toNat 3 * 1) = #[.string ⟨#[]⟩, .string ⟨#[]⟩, .string ⟨#[]⟩] := by
    apply Array.ext'
    show (madeCells #[Value.string ⟨#[]⟩] (Int.toNat 3 * 1)).toList = _
    rw [toList_madeCells_one]
    rfl
  rw [e]
  rfl
def noVal : ValM := ⟨0, false, [], [], ⟨#[]⟩⟩
/-- an input, its opposite, that one's opposite, told -/
def chainM : FlatM := ⟨[⟨#[118]⟩], [⟨#[]⟩, ⟨#[]⟩, ⟨#[]⟩], [2], [⟨0, ⟨#[105, 110]⟩, [], 0, noVal, -1⟩, ⟨1, ⟨#[110, 101, 103]⟩, [0], 0, noVal, -1⟩, ⟨2, ⟨#[110, 101, 103]⟩, [1], 0, noVal, -1⟩], [], [], [], []⟩
def chainV (g : Nat) : FlatV := ⟨(some ⟨g + 1, 0, none⟩, 1, 1), (some ⟨g + 2, 0, none⟩, 3, 3), (some ⟨g + 3, 0, none⟩, 1, 1), (some ⟨g + 6, 0, none⟩, 3, 3), (none, 0, 0), (none, 0, 0), (none, 0, 0), (none, 0, 0)⟩
def chainQ (g : Nat) : Array Value := #[.int .i64 0, .string ⟨#[105, 110]⟩, .slice none 0 0, .int .i64 0, .int .i64 0, .bool false, .slice none 0 0, .slice none 0 0, .string ⟨#[]⟩, .int .i64 (-1), .int .i64 1, .string ⟨#[110, 101, 103]⟩, .slice (some ⟨g + 4, 0, none⟩) 1 1, .int .i64 0, .int .i64 0, .bool false, .slice none 0 0, .slice none 0 0, .string ⟨#[]⟩, .int .i64 (-1), .int .i64 2, .string ⟨#[110, 101, 103]⟩, .slice (some ⟨g + 5, 0, none⟩) 1 1, .int .i64 0, .int .i64 0, .bool false, .slice none 0 0, .slice none 0 0, .string ⟨#[]⟩, .int .i64 (-1)]
def chainW (w : World) : World := ((((((w.alloc (.cells (fvs (chainV w.heap.size)) 29)).alloc (.cells #[.string ⟨#[118]⟩] 9)).alloc (.cells #[.string ⟨#[]⟩, .string ⟨#[]⟩, .string ⟨#[]⟩] 9)).alloc (.cells #[.int .i64 2] 3)).alloc (.cells #[.int .i64 0] 3)).alloc (.cells #[.int .i64 1] 3)).alloc (.cells (chainQ w.heap.size) 48)
theorem chain_blk (w : World) : Blk (chainW w) w.heap.size 29 (fvs (chainV w.heap.size)) ∧ Blk (chainW w) (w.heap.size + 1) 9 #[.string ⟨#[118]⟩] ∧ Blk (chainW w) (w.heap.size + 2) 9 #[.string ⟨#[]⟩, .string ⟨#[]⟩, .string ⟨#[]⟩] ∧ Blk (chainW w) (w.heap.size + 3) 3 #[.int .i64 2] ∧
    Blk (chainW w) (w.heap.size + 4) 3 #[.int .i64 0] ∧ Blk (chainW w) (w.heap.size + 5) 3 #[.int .i64 1] ∧ Blk (chainW w) (w.heap.size + 6) 48 (chainQ w.heap.size) ∧ (chainW w).heap.size = w.heap.size + 7 ∧ Below w.heap.size w (chainW w) := by
  unfold chainW
  refine ⟨?_, ?_, ?_, ?_, ?_, ?_, ?_, ?_, ?_⟩
  · exact (((((((Blk.new w 29 (fvs (chainV w.heap.size))).alloc _).alloc _).alloc _).alloc _).alloc _).alloc _)
  · have := Blk.new (w.alloc (.cells (fvs (chainV w.heap.size)) 29)) 9 #[.string ⟨#[118]⟩]
    simp only [size_alloc] at this
    exact (((((this.alloc _).alloc _).alloc _).alloc _).alloc _)
  · have := Blk.new ((w.alloc (.cells (fvs (chainV w.heap.size)) 29)).alloc (.cells #[.string ⟨#[118]⟩] 9)) 9 #[.string ⟨#[]⟩, .string ⟨#[]⟩, .string ⟨#[]⟩]
    simp only [size_alloc] at this
    exact ((((this.alloc _).alloc _).alloc _).alloc _)
  · have := Blk.new (((w.alloc (.cells (fvs (chainV w.heap.size)) 29)).alloc (.cells #[.string ⟨#[118]⟩] 9)).alloc (.cells #[.string ⟨#[]⟩, .string ⟨#[]⟩, .string ⟨#[]⟩] 9)) 3 #[.int .i64 2]
    simp only [size_alloc] at this
    exact (((this.alloc _).alloc _).alloc _)
  · have := Blk.new ((((w.alloc (.cells (fvs (chainV w.heap.size)) 29)).alloc (.cells #[.string ⟨#[118]⟩] 9)).alloc (.cells #[.string ⟨#[]⟩, .string ⟨#[]⟩, .string ⟨#[]⟩] 9)).alloc (.cells #[.int .i64 2] 3)) 3 #[.int .i64 0]
    simp only [size_alloc] at this
    exact ((this.alloc _).alloc _)
  · have := Blk.new (((((w.alloc (.cells (fvs (chainV w.heap.size)) 29)).alloc (.cells #[.string ⟨#[118]⟩] 9)).alloc (.cells #[.string ⟨#[]⟩, .string ⟨#[]⟩, .string ⟨#[]⟩] 9)).alloc (.cells #[.int .i64 2] 3)).alloc (.cells #[.int .i64 0] 3)) 3 #[.int .i64 1]
    simp only [size_alloc] at this
    exact (this.alloc _)
  · have := Blk.new ((((((w.alloc (.cells (fvs (chainV w.heap.size)) 29)).alloc (.cells #[.string ⟨#[118]⟩] 9)).alloc (.cells #[.string ⟨#[]⟩, .string ⟨#[]⟩, .string ⟨#[]⟩] 9)).alloc (.cells #[.int .i64 2] 3)).alloc (.cells #[.int .i64 0] 3)).alloc (.cells #[.int .i64 1] 3)) 48 (chainQ w.heap.size)
    simp only [size_alloc] at this
    exact this
  · simp only [size_alloc]
  · exact (((((((Below.refl _ _).alloc (Nat.le_refl _) _).alloc (by simp only [size_alloc]; omega) _).alloc (by simp only [size_alloc]; omega) _).alloc (by simp only [size_alloc]; omega) _).alloc (by simp only [size_alloc]; omega) _).alloc (by simp only [size_alloc]; omega) _).alloc (by simp only [size_alloc]; omega) _
theorem irow_blk {w : World} {g B : Nat} {x : Int} (h : Blk w g 3 #[.int .i64 x]) (hg : g < B) : IRow w B (some ⟨g, 0, none⟩) 1 1 [x] :=
  ⟨rfl, Nat.le_refl _, by unfold maxLen; omega, (fun h => by cases h), g, 0, .inl rfl, fun i hi => ⟨hg, by
    obtain rfl : i = 0 := by omega
    exact h.cell 0 rfl⟩⟩
theorem noVal_at {W : World} {B b o : Nat} {vs : Array Value} {T : Nat} (h : Blk W b T vs) (h0 : vs[o]? = some (.int .i64 0)) (h1 : vs[o + 1]? = some (.bool false)) (h2 : vs[o + 2]? = some (.slice none 0 0)) (h3 : vs[o + 3]? = some (.slice none 0 0)) (h4 : vs[o + 4]? = some (.string ⟨#[]⟩)) : ValAt W B b o noVal where
  kind := ⟨h.cell o h0, by decide, by decide⟩
  neg := h.cell (o + 1) h1
  mag := ⟨none, 0, 0, h.cell (o + 2) h2, rfl, Nat.le_refl _, Nat.zero_le _, (fun _ => rfl), (by intro x hx; cases hx), 0, 0, Or.inr (Nat.le_refl _), fun i hi => by omega⟩
  den := ⟨none, 0, 0, h.cell (o + 3) h3, rfl, Nat.le_refl _, Nat.zero_le _, (fun _ => rfl), (by intro x hx; cases hx), 0, 0, Or.inr (Nat.le_refl _), fun i hi => by omega⟩
  name := ⟨h.cell (o + 4) h4, by decide⟩
theorem chain_is (w : World) : FlatIs (chainW w) (w.heap.size + 7) (chainV w.heap.size) chainM := by
  obtain ⟨b0, b1, b2, b3, b4, b5, b6, hsz, hb⟩ := chain_blk w
  refine ⟨⟨rfl, Nat.le_refl _, by unfold maxLen chainV; simp, w.heap.size + 1, 0, .inl rfl, fun i x hx => ⟨by omega, ?_⟩⟩, ⟨rfl, Nat.le_refl _, by unfold maxLen chainV; simp, w.heap.size + 2, 0, .inl rfl, fun i x hx => ⟨by omega, ?_⟩⟩,
    irow_blk b3 (by omega), ⟨rfl, Nat.le_refl _, by unfold maxLen chainV; simp, w.heap.size + 6, 0, .inl rfl, fun i x hx => ⟨by omega, ?_⟩⟩, SRow.nil _ _ _ _, SRow.nil _ _ _ _, SRow.nil _ _ _ _, IRow.nil _ _⟩
  · match i, hx with
    | 0, hx => injection hx with hx; subst hx; exact ⟨b1.cell 0 rfl, by decide⟩
  · match i, hx with
    | 0, hx => injection hx with hx; subst hx; exact ⟨b2.cell 0 rfl, by decide⟩
    | 1, hx => injection hx with hx; subst hx; exact ⟨b2.cell 1 rfl, by decide⟩
    | 2, hx => injection hx with hx; subst hx; exact ⟨b2.cell 2 rfl, by decide⟩
  · match i, hx with
    | 0, hx =>
      injection hx with hx; subst hx
      exact ⟨⟨b6.cell 0 rfl, by decide, by decide⟩, ⟨b6.cell 1 rfl, by decide⟩, ⟨none, 0, 0, b6.cell 2 rfl, IRow.nil _ _⟩, ⟨b6.cell 3 rfl, by decide, by decide⟩, noVal_at b6 rfl rfl rfl rfl rfl, ⟨b6.cell 9 rfl, by decide, by decide⟩⟩
    | 1, hx =>
      injection hx with hx; subst hx
      exact ⟨⟨b6.cell 10 rfl, by decide, by decide⟩, ⟨b6.cell 11 rfl, by decide⟩, ⟨_, 1, 1, b6.cell 12 rfl, irow_blk b4 (by omega)⟩, ⟨b6.cell 13 rfl, by decide, by decide⟩, noVal_at b6 rfl rfl rfl rfl rfl, ⟨b6.cell 19 rfl, by decide, by decide⟩⟩
    | 2, hx =>
      injection hx with hx; subst hx
      exact ⟨⟨b6.cell 20 rfl, by decide, by decide⟩, ⟨b6.cell 21 rfl, by decide⟩, ⟨_, 1, 1, b6.cell 22 rfl, irow_blk b5 (by omega)⟩, ⟨b6.cell 23 rfl, by decide, by decide⟩, noVal_at b6 rfl rfl rfl rfl rfl, ⟨b6.cell 29 rfl, by decide, by decide⟩⟩

theorem Try.info29 : (Try.prog.info? 29).map (·.size) = some 8 := by kernel_rfl
/-- what Chain tells -/
def ChainPost (w : World) (e : Ending) (w' : World) : Prop := ∃ v, e = .returned (flatV v) ∧ v.names.2.1 = 3 ∧ FlatIs w' w'.heap.size v chainM ∧ Below w.heap.size w w'
set_option maxHeartbeats 2000000 in
theorem chain_t (w : World) : Calls Try.prog 26 #[] w (ChainPost w) := by
  have hmk := make3
  go_enter Try.func26, Try.ntmps26
  go_wp2
  obtain ⟨b0, b1, b2, b3, b4, b5, b6, hsz, hb⟩ := chain_blk w
  have hr := results_cell_row (P := Try.prog) (fn := Try.f26) (p := 0) (ty := 29) rfl
  refine bodyPost_ret_by (v := flatV (chainV w.heap.size)) (w := chainW w) (hr _ (chainW w) w.heap.size 29 (fvs (chainV w.heap.size)) (0, 0) _ rfl b0 Try.underlying29 rfl Try.info29) rfl ?_
  exact ⟨chainV w.heap.size, rfl, rfl, by rw [hsz]; exact chain_is w, hb⟩

end Go.Proofs.Ytioebjjnadgdjaa
