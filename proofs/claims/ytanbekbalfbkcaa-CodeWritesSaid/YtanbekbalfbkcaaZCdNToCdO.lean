/- What Of of package code tells of a plan that is not right. No condition but bounds. · What Of of package code tells of a right plan. No condition but bounds. -/
import Derived.Test.YtanbekbalfbkcaaZCdHaToCdI
import Derived.Test.YtanbekbalfbkcaaZCdJ
import Derived.Test.YtanbekbalfbkcaaZCdM
import Derived.Test.YtanbekbalfbkcaaZRtCToRtD
import Derived.Deep.RegionLaw
import Derived.Deep.DeepCutAuto
import Derived.Laws.ResultCell
import Derived.Laws.Rows
namespace Go.Proofs.Ytanbekbalfbkcaa
set_option linter.unusedVariables false
set_option linter.unusedSimpArgs false
set_option maxRecDepth 100000
open Go.RowKit Gr

theorem belowP10 {B : Nat} {a w : World} (h : Below B a w) {g : Nat} (hg : B ≤ g) (y0 y1 y2 y3 y4 y5 y6 y7 y8 y9 : Value) : Below B a ((((((((((w.setCell ⟨g, 0, none⟩ y0).setCell ⟨g, 1, none⟩ y1).setCell ⟨g, 2, none⟩ y2).setCell ⟨g, 3, none⟩ y3).setCell ⟨g, 4, none⟩ y4).setCell ⟨g, 5, none⟩ y5).setCell ⟨g, 6, none⟩ y6).setCell ⟨g, 7, none⟩ y7).setCell ⟨g, 8, none⟩ y8).setCell ⟨g, 9, none⟩ y9) :=
  (((((((((h.setCell (p := ⟨g, 0, none⟩) hg y0).setCell (p := ⟨g, 1, none⟩) hg y1).setCell (p := ⟨g, 2, none⟩) hg y2).setCell (p := ⟨g, 3, none⟩) hg y3).setCell (p := ⟨g, 4, none⟩) hg y4).setCell (p := ⟨g, 5, none⟩) hg y5).setCell (p := ⟨g, 6, none⟩) hg y6).setCell (p := ⟨g, 7, none⟩) hg y7).setCell (p := ⟨g, 8, none⟩) hg y8).setCell (p := ⟨g, 9, none⟩) hg y9
def OwnV (w : World) (B : Nat) (v : Value) (n : Nat) : Prop := ∃ xs, w.ownsRow B 52 5 v n xs
theorem OwnV.keep {w w' : World} {B : Nat} {v : Value} {n : Nat} (h : OwnV w B v n) (hk : ∀ k, v.ownBlock = some k → w'.heap[k]? = w.heap[k]?) : OwnV w' B v n := by
  obtain ⟨xs, h1, h2⟩ := h
  refine ⟨xs, h1, ?_⟩
  rcases h2 with h0 | ⟨g, cap, cur, rfl, hb, hg, hr⟩
  · exact Or.inl h0
  · exact Or.inr ⟨g, cap, cur, rfl, hb, (hk g rfl).trans hg, hr⟩
theorem OwnV.lt {w : World} {B : Nat} {v : Value} {n : Nat} (h : OwnV w B v n) {k : Nat} (hk : v.ownBlock = some k) : B ≤ k ∧ k < w.heap.size := by
  obtain ⟨xs, h⟩ := h
  exact World.ownsRow.lt h k hk
theorem OwnV.later {w w' : World} {B : Nat} {v : Value} {n : Nat} (h : OwnV w B v n) (hb : Below w.heap.size w w') : OwnV w' B v n := h.keep fun k hk => hb.block k (h.lt hk).2
theorem OwnV.setOther {w : World} {B g : Nat} {u : Value} {n : Nat} (h : OwnV w B u n) (hg : g < B) (o : Nat) (x : Value) : OwnV (w.setCell ⟨g, o, none⟩ x) B u n :=
  h.keep fun k hk => Below.heap_setCell w ⟨g, o, none⟩ x k (by have := (h.lt hk).1; simp; omega)
theorem OwnV.nil (w : World) (B : Nat) : OwnV w B (.slice none 0 0) 0 := ⟨[], World.ownsRow_nil w B 52 5⟩
theorem OwnV.slice {w : World} {B : Nat} {v : Value} {n : Nat} (h : OwnV w B v n) : ∃ a m c, v = .slice a m c := by
  obtain ⟨xs, h⟩ := h
  obtain ⟨a, c, e⟩ := owns_slice h
  exact ⟨a, _, c, e⟩
theorem Only.ownV {B : Nat} {v : Value} {n : Nat} {a b : World} (h : Only [v.ownBlock] a b) (ho : OwnV a B v n) (hB : B ≤ a.heap.size) : Below B a b :=
  h.below hB fun j hj => by
    simp at hj
    exact (ho.lt hj.symm).1
theorem Try.infoV : (Try.prog.info? 52).map (fun i => (i.zero, i.size, i.bytes)) = some (some (valV 0 false (none, 0, 0) (none, 0, 0) ⟨#[]⟩), 5, 80) := by kernel_rfl
/-- append(row, x) of values, as a step of a region that draws: x laid in a block of its own ahead -/
theorem stepV {w : World} {ops : Array Oper} {o : Oper} {a : Act} {K : Act → World → Prop} {Q : Exit → Act → World → Prop} {E : Prop} {cs : Array Value} (hgd : o.guard = none) (s x : Operand)
    (hop : o.op = .call { callee := .builtin .append, args := #[s, x], argTypes := #[36, 36] })
    (B : Nat) (v : Value) (n : Nat) (T : TypeId) (H : Nat) (hs : a.eval s = v) (hx : a.eval x = .slice (some ⟨H, 0, none⟩) 1 1) (hH : w.heap.size = H) (hcs : cs.toList.length = 5) (h1 : ∀ u ∈ cs.toList, u.oneCell' = true) (hown : OwnV w B v n) (hB : B ≤ H) (hl : n ≤ 100000000)
    (hK : ∀ v' w', OwnV w' B v' (n + 1) → Only [v.ownBlock] w w' → (v'.ownBlock = v.ownBlock ∨ ∃ k, v'.ownBlock = some k ∧ H ≤ k) → K (a.put o.dst v') w') :
    if Region.wanted o (yielded ops a.tmps) = true then Oper.wp Try.prog o a (w.alloc (.cells cs T)) K Q else E := by
  subst hH
  have hw : Region.wanted o (yielded ops a.tmps) = true := by simp [Region.wanted, hgd]
  rw [if_pos hw]
  obtain ⟨i0, hi, hz0, hz1, hz2⟩ := info_parts Try.infoV
  obtain ⟨xs, hown⟩ := hown
  obtain ⟨v', w', hr', h2, h3, h4, h5⟩ := run_append_own_at (P := Try.prog) (w.alloc (.cells cs T)) B 36 o.type 52 i0 _ 5 80 Try.underlying36 hi hz0 hz1 hz2 rfl (by decide) v n xs (World.ownsRow.alloc hown _) ⟨w.heap.size, 0, none⟩ 1 1 cs.toList (by rw [hcs]) (fun j u hu => by
    have e : (⟨w.heap.size, 0, none⟩ : Addr).add j = ⟨w.heap.size, j, none⟩ := by unfold Addr.add; split <;> simp_all
    rw [e, cell_of_row _ w.heap.size j _ T (0, 0) (heap_alloc_new w _)]
    simpa using hu) h1 (by unfold maxLen; omega) (by omega) (by simp; omega)
  unfold Oper.wp execOp
  simp only [hop, resolve, invoke, builtin, Sem.run_bind, Sem.run_pure, Result.andThen_ok, List.map_toArray, List.map_cons, List.map_nil, hs, hx, hr']
  refine hK v' w' ⟨_, h2⟩ ((Only.refl _ w |>.alloc _).trans (Only.of_grown h3 (Or.inl (by simp)))) ?_
  rcases h5 with h | h
  · exact Or.inl h
  · exact Or.inr ⟨_, h, by simp⟩
theorem Blk.ten {w : World} {g T : Nat} {x0 x1 x2 x3 x4 x5 x6 x7 x8 x9 : Value} (h : Blk w g T #[x0, x1, x2, x3, x4, x5, x6, x7, x8, x9]) : w.cell? ⟨g, 0, none⟩ = some x0 ∧ w.cell? ⟨g, 1, none⟩ = some x1 ∧ w.cell? ⟨g, 2, none⟩ = some x2 ∧ w.cell? ⟨g, 3, none⟩ = some x3 ∧ w.cell? ⟨g, 4, none⟩ = some x4 ∧ w.cell? ⟨g, 5, none⟩ = some x5 ∧ w.cell? ⟨g, 6, none⟩ = some x6 ∧ w.cell? ⟨g, 7, none⟩ = some x7 ∧ w.cell? ⟨g, 8, none⟩ = some x8 ∧ w.cell? ⟨g, 9, none⟩ = some x9 := ⟨h.cell 0 rfl, h.cell 1 rfl, h.cell 2 rfl, h.cell 3 rfl, h.cell 4 rfl, h.cell 5 rfl, h.cell 6 rfl, h.cell 7 rfl, h.cell 8 rfl, h.cell 9 rfl⟩
theorem Blk.tenF {w : World} {g T : Nat} {vs : Array Value} (h : Blk w g T vs) : w.frozen? ⟨g, 0, none⟩ = false ∧ w.frozen? ⟨g, 1, none⟩ = false ∧ w.frozen? ⟨g, 2, none⟩ = false ∧ w.frozen? ⟨g, 3, none⟩ = false ∧ w.frozen? ⟨g, 4, none⟩ = false ∧ w.frozen? ⟨g, 5, none⟩ = false ∧ w.frozen? ⟨g, 6, none⟩ = false ∧ w.frozen? ⟨g, 7, none⟩ = false ∧ w.frozen? ⟨g, 8, none⟩ = false ∧ w.frozen? ⟨g, 9, none⟩ = false := ⟨h.free 0, h.free 1, h.free 2, h.free 3, h.free 4, h.free 5, h.free 6, h.free 7, h.free 8, h.free 9⟩
theorem Try.infoCode : (Try.prog.info? 39).map (·.size) = some 10 := by kernel_rfl
/-- a function whose first result lies in a code's cells returns -/
theorem ret_code {fn : Func} {p u : Tmp} (h : fn.results = #[.cell p 39, .tmp u]) {a : Act} {w : World} {R : Ending → World → Prop} (g : Nat) (cs : Array Value) (hsz : cs.size = 10) (hg : Blk w g 39 cs) (hp : a.tmps.getD p undef = .pointer (some ⟨g, 0, none⟩)) (hd : a.defers = [])
    (hR : R (.returned (.tuple #[.agg cs, a.tmps.getD u undef])) w) : bodyPost Try.prog fn R .ret a w := by
  refine bodyPost_ret_by (v := .tuple #[.agg cs, a.tmps.getD u undef]) ?_ hd hR
  rw [results_cell_tmp h, hp]
  have := run_loadVar_row (P := Try.prog) w g 39 39 cs (0, 0) _ hg Try.underlying39 rfl (by rw [hsz]; exact Try.infoCode)
  simp [asAddr, Result.andThen, this]
set_option maxHeartbeats 4000000 in
/-- what Of tells of a plan that is not right -/
theorem cof_no (v : FlatV) (f : FlatM) (B : Nat) (A A2 : Option Addr) (m c m2 c2 : Nat) (S : Int) (o sl : List Int) (w : World) (h : FlatIs w B v f) (hB : B ≤ w.heap.size) (h1 : IRow w B A m c o) (h2 : IRow w B A2 m2 c2 sl) (hs : SmallF f) (hS : S ≤ 9223372036854775807) (hR : ¬ RightP f v.names.2.1 o sl S) :
    Calls Try.prog 7 #[flatV v, planV A m c A2 m2 c2 S] w fun e w' => e = .returned (.tuple #[.agg #[.int .i64 0, .int .i64 0, .int .i64 0, .int .i64 0, .int .i64 0, .slice none 0 0, .slice none 0 0, .slice none 0 0, .slice none 0 0, .slice none 0 0], .int .i64 1]) ∧ Below w.heap.size w w' := by
  obtain ⟨W1, hW1⟩ : ∃ W1, W1 = ((w.alloc (.cells (fvs v) 29)).alloc (.cells #[.slice A m c, .slice A2 m2 c2, .int .i64 S] 32)).alloc (.cells #[.int .i64 0, .int .i64 0, .int .i64 0, .int .i64 0, .int .i64 0, .slice none 0 0, .slice none 0 0, .slice none 0 0, .slice none 0 0, .slice none 0 0] 39) := ⟨_, rfl⟩
  have hb1 : Below w.heap.size w W1 := by rw [hW1]; exact (((Below.refl _ _).alloc (Nat.le_refl _) _).alloc (by simp) _).alloc (by simp; omega) _
  have HK := Lib.hid (show Blk W1 w.heap.size 29 (fvs v) from by rw [hW1]; exact ((Blk.new _ _ _).alloc _).alloc _)
  have HP := Lib.hid (show Blk W1 (w.heap.size + 1) 32 #[.slice A m c, .slice A2 m2 c2, .int .i64 S] from by rw [hW1]; have := (Blk.new (w.alloc (.cells (fvs v) 29)) 32 #[.slice A m c, .slice A2 m2 c2, .int .i64 S]).alloc (.cells #[.int .i64 0, .int .i64 0, .int .i64 0, .int .i64 0, .int .i64 0, .slice none 0 0, .slice none 0 0, .slice none 0 0, .slice none 0 0, .slice none 0 0] 39); rw [size_alloc] at this; exact this)
  have HZ := Lib.hid (show Blk W1 (w.heap.size + 2) 39 #[.int .i64 0, .int .i64 0, .int .i64 0, .int .i64 0, .int .i64 0, .slice none 0 0, .slice none 0 0, .slice none 0 0, .slice none 0 0, .slice none 0 0] from by rw [hW1]; have := Blk.new ((w.alloc (.cells (fvs v) 29)).alloc (.cells #[.slice A m c, .slice A2 m2 c2, .int .i64 S] 32)) 39 #[.int .i64 0, .int .i64 0, .int .i64 0, .int .i64 0, .int .i64 0, .slice none 0 0, .slice none 0 0, .slice none 0 0, .slice none 0 0, .slice none 0 0]; rw [size_alloc, size_alloc] at this; exact this)
  have HRT := Lib.hid (rightP_t v f B A A2 m c m2 c2 S o sl W1 (h.below (hb1.mono hB)) (Nat.le_trans hB hb1.size) (h1.below (hb1.mono hB)) (h2.below (hb1.mono hB)) hs hS)
  have HNR := Lib.hid hR
  have HB1 := Lib.hid hb1
  clear h hB h1 h2 hs hS hR hb1
  obtain ⟨f0, f1, f2, f3, f4, f5, f6, f7⟩ := HK.out.flat
  have p0 := HP.out.cell 0 rfl
  have p1 := HP.out.cell 1 rfl
  have p2 := HP.out.cell 2 rfl
  unfold flatV sl3 planV at HRT ⊢
  unfold fvs at hW1
  go_enter Try.func7, Try.ntmps7
  go_upto_region 1 with fail
  rw [← hW1]
  clear hW1
  go_upto_region 2 with (go_at_call 15; (with_reducible refine HRT.out.mono ?_); rintro e w2 ⟨⟨b, rfl, hb⟩, hb2⟩; obtain rfl : b = false := (by cases b with | false => rfl | true => exact absurd (hb.1 rfl) HNR.out); have HB2 := Lib.hid hb2; clear hb hb2 f0 f1 f2 f3 f4 f5 f6 f7 p0 p1 p2)
  obtain ⟨y0, y1, y2, y3, y4, y5, y6, y7, y8, y9⟩ := (HZ.out.later HB2.out).ten
  obtain ⟨z0, z1, z2, z3, z4, z5, z6, z7, z8, z9⟩ := (HZ.out.later HB2.out).tenF
  have HR := Lib.hid (((((((((((HZ.out.later HB2.out).putA 0 (.int .i64 0)).putA 1 (.int .i64 0)).putA 2 (.int .i64 0)).putA 3 (.int .i64 0)).putA 4 (.int .i64 0)).putA 5 (.slice none 0 0)).putA 6 (.slice none 0 0)).putA 7 (.slice none 0 0)).putA 8 (.slice none 0 0)).putA 9 (.slice none 0 0))
  have HOL := Lib.hid (belowP10 (HB1.out.trans (HB2.out.mono HB1.out.size)) (show w.heap.size ≤ w.heap.size + 2 by omega) (.int .i64 0) (.int .i64 0) (.int .i64 0) (.int .i64 0) (.int .i64 0) (.slice none 0 0) (.slice none 0 0) (.slice none 0 0) (.slice none 0 0) (.slice none 0 0))
  go_wp2
  refine ret_code rfl (w.heap.size + 2) _ rfl HR.out rfl rfl ?_
  exact ⟨rfl, HOL.out⟩

end Go.Proofs.Ytanbekbalfbkcaa

namespace Go.Proofs.Ytanbekbalfbkcaa
set_option linter.unusedVariables false
set_option linter.unusedSimpArgs false
set_option maxRecDepth 100000
open Go.RowKit Gr

theorem Blk.p10 {w : World} {g T : Nat} {x0 x1 x2 x3 x4 x5 x6 x7 x8 x9 : Value} (h : Blk w g T #[x0, x1, x2, x3, x4, x5, x6, x7, x8, x9]) (y0 y1 y2 y3 y4 y5 y6 y7 y8 y9 : Value) : Blk ((((((((((w.setCell ⟨g, 0, none⟩ y0).setCell ⟨g, 1, none⟩ y1).setCell ⟨g, 2, none⟩ y2).setCell ⟨g, 3, none⟩ y3).setCell ⟨g, 4, none⟩ y4).setCell ⟨g, 5, none⟩ y5).setCell ⟨g, 6, none⟩ y6).setCell ⟨g, 7, none⟩ y7).setCell ⟨g, 8, none⟩ y8).setCell ⟨g, 9, none⟩ y9) g T #[y0, y1, y2, y3, y4, y5, y6, y7, y8, y9] := by
  have h1 : Blk w g T [x0, x1, x2, x3, x4, x5, x6, x7, x8, x9].toArray := h
  exact (((((((((h1.put 0 y0).put 1 y1).put 2 y2).put 3 y3).put 4 y4).put 5 y5).put 6 y6).put 7 y7).put 8 y8).put 9 y9
theorem OwnS.setOther {w : World} {B g : Nat} {u : Value} {xs : List InsM} (h : OwnS w B u xs) (hg : g < B) (o : Nat) (x : Value) : OwnS (w.setCell ⟨g, o, none⟩ x) B u xs :=
  h.keep fun k hk => Below.heap_setCell w ⟨g, o, none⟩ x k (by have := (h.lt hk).1; simp; omega)
theorem OwnS.p10 {w : World} {B g : Nat} {u : Value} {xs : List InsM} (h : OwnS w B u xs) (hg : g < B) (y0 y1 y2 y3 y4 y5 y6 y7 y8 y9 : Value) : OwnS ((((((((((w.setCell ⟨g, 0, none⟩ y0).setCell ⟨g, 1, none⟩ y1).setCell ⟨g, 2, none⟩ y2).setCell ⟨g, 3, none⟩ y3).setCell ⟨g, 4, none⟩ y4).setCell ⟨g, 5, none⟩ y5).setCell ⟨g, 6, none⟩ y6).setCell ⟨g, 7, none⟩ y7).setCell ⟨g, 8, none⟩ y8).setCell ⟨g, 9, none⟩ y9) B u xs :=
  (((((((((h.setOther hg 0 y0).setOther hg 1 y1).setOther hg 2 y2).setOther hg 3 y3).setOther hg 4 y4).setOther hg 5 y5).setOther hg 6 y6).setOther hg 7 y7).setOther hg 8 y8).setOther hg 9 y9
set_option maxHeartbeats 8000000 in
/-- what Of tells of a right plan -/
def CodeP (f : FlatM) (o sl : List Int) (S : Int) (v : FlatV) (w : World) (e : Ending) (w' : World) : Prop :=
  (∃ (m c : Option Addr × Nat × Nat) (st de cr : Option Addr × Nat × Nat) (xs ys ds zs : List InsM),
    e = .returned (.tuple #[.agg #[.int .i64 (v.ins.2.1 : Int), .int .i64 (v.outs.2.1 : Int), .int .i64 S, .int .i64 (v.cross.2.1 : Int), .int .i64 (linesTo f f.cross.length : Nat), .slice m.1 m.2.1 m.2.2, .slice c.1 c.2.1 c.2.2, .slice st.1 st.2.1 st.2.2, .slice de.1 de.2.1 de.2.2, .slice cr.1 cr.2.1 cr.2.2], .int .i64 0]) ∧
    (SMem w' w'.heap.size st.1 st.2.1 st.2.2 (xs ++ ys) ∧ xs.length = o.length ∧ (∀ i x, xs[i]? = some x → EqIns f sl (o.getD i 0) x) ∧ tags ys = endT f) ∧
    (SMem w' w'.heap.size de.1 de.2.1 de.2.2 ds ∧ tags ds = tg ⟨#[115, 108, 111, 112, 101]⟩ f.conts.length) ∧
    (SMem w' w'.heap.size cr.1 cr.2.1 cr.2.2 zs ∧ zs.map Mark = crT f f.cross.length ∧ ∀ x ∈ zs, IsX x)) ∧ Below w.heap.size w w'
set_option maxHeartbeats 8000000 in
theorem cof_t (v : FlatV) (f : FlatM) (B : Nat) (A A2 : Option Addr) (c c2 : Nat) (S : Int) (o sl : List Int) (w : World) (h : FlatIs w B v f) (hB : B ≤ w.heap.size) (h1 : IRow w B A v.names.2.1 c o) (h2 : IRow w B A2 v.names.2.1 c2 sl) (hs : SmallF f) (hS : S ≤ 9223372036854775807) (hS0 : 0 ≤ S) (hR : RightP f v.names.2.1 o sl S) :
    Calls Try.prog 7 #[flatV v, planV A v.names.2.1 c A2 v.names.2.1 c2 S] w (CodeP f o sl S v w) := by
  obtain ⟨n, hnn⟩ : ∃ n, n = v.names.2.1 := ⟨_, rfl⟩
  have HNN := Lib.hid hnn
  obtain ⟨W1, hW1⟩ : ∃ W1, W1 = ((w.alloc (.cells (fvs v) 29)).alloc (.cells #[.slice A n c, .slice A2 n c2, .int .i64 S] 32)).alloc (.cells #[.int .i64 0, .int .i64 0, .int .i64 0, .int .i64 0, .int .i64 0, .slice none 0 0, .slice none 0 0, .slice none 0 0, .slice none 0 0, .slice none 0 0] 39) := ⟨_, rfl⟩
  have hb1 : Below w.heap.size w W1 := by rw [hW1]; exact (((Below.refl _ _).alloc (Nat.le_refl _) _).alloc (by simp) _).alloc (by simp; omega) _
  have HK := Lib.hid (show Blk W1 w.heap.size 29 (fvs v) from by rw [hW1]; exact ((Blk.new _ _ _).alloc _).alloc _)
  have HP := Lib.hid (show Blk W1 (w.heap.size + 1) 32 #[.slice A n c, .slice A2 n c2, .int .i64 S] from by rw [hW1]; have := (Blk.new (w.alloc (.cells (fvs v) 29)) 32 #[.slice A n c, .slice A2 n c2, .int .i64 S]).alloc (.cells #[.int .i64 0, .int .i64 0, .int .i64 0, .int .i64 0, .int .i64 0, .slice none 0 0, .slice none 0 0, .slice none 0 0, .slice none 0 0, .slice none 0 0] 39); rw [size_alloc] at this; exact this)
  have HZ := Lib.hid (show Blk W1 (w.heap.size + 2) 39 #[.int .i64 0, .int .i64 0, .int .i64 0, .int .i64 0, .int .i64 0, .slice none 0 0, .slice none 0 0, .slice none 0 0, .slice none 0 0, .slice none 0 0] from by rw [hW1]; have := Blk.new ((w.alloc (.cells (fvs v) 29)).alloc (.cells #[.slice A n c, .slice A2 n c2, .int .i64 S] 32)) 39 #[.int .i64 0, .int .i64 0, .int .i64 0, .int .i64 0, .int .i64 0, .slice none 0 0, .slice none 0 0, .slice none 0 0, .slice none 0 0, .slice none 0 0]; rw [size_alloc, size_alloc] at this; exact this)
  rw [← hnn] at h1 h2 hR ⊢
  have HRT := Lib.hid (show Calls Try.prog 15 #[flatV v, planV A n c A2 n c2 S] W1 (TellsIf (RightP f n o sl S) W1) from by rw [hnn]; exact rightP_t v f B A A2 _ c _ c2 S o sl W1 (h.below (hb1.mono hB)) (Nat.le_trans hB hb1.size) (by rw [← hnn]; exact h1.below (hb1.mono hB)) (by rw [← hnn]; exact h2.below (hb1.mono hB)) hs hS)
  have HNR := Lib.hid hR
  have HB1 := Lib.hid hb1
  have HFI := Lib.hid (fun W (hb : Below w.heap.size w W) => h.below (hb.mono hB))
  have HR1 := Lib.hid (fun W (hb : Below w.heap.size w W) => h1.below (hb.mono hB))
  have HR2 := Lib.hid (fun W (hb : Below w.heap.size w W) => h2.below (hb.mono hB))
  have HBB := Lib.hid hB
  have HSM := Lib.hid hs
  have HNM : Hid (f.names.length = n) := Lib.hid (by rw [hnn]; exact h.names.1)
  have hmi := h.ins.len_le
  have hmo := h.outs.len_le
  have hmx := h.cross.len_le
  unfold maxLen at hmi hmo hmx
  have hS1 : ¬ S < 0 := by omega
  clear h hB h1 h2 hs hR hb1 hnn
  obtain ⟨f0, f1, f2, f3, f4, f5, f6, f7⟩ := HK.out.flat
  have p0 := HP.out.cell 0 rfl
  have p1 := HP.out.cell 1 rfl
  have p2 := HP.out.cell 2 rfl
  unfold flatV sl3 planV at HRT ⊢
  unfold fvs at hW1
  go_enter Try.func7, Try.ntmps7
  go_upto_region 1 with fail
  rw [← hW1]
  clear hW1
  go_upto_region 3 with (go_at_call 15; (with_reducible refine HRT.out.mono ?_); rintro e w2 ⟨⟨b, rfl, hb⟩, hb2⟩; obtain rfl : b = true := hb.2 HNR.out; have HB2 := Lib.hid hb2; clear hb hb2 f0 f1 f2 f3 f4 f5 f6 f7 p0 p1 p2)
  obtain ⟨f0, f1, f2, f3, f4, f5, f6, f7⟩ := (HK.out.later HB2.out).flat
  have p0 : w2.cell? ⟨w.heap.size + 1, 0, none⟩ = some (.slice A n c) := (HP.out.later HB2.out).cell 0 rfl
  have p1 : w2.cell? ⟨w.heap.size + 1, 1, none⟩ = some (.slice A2 n c2) := (HP.out.later HB2.out).cell 1 rfl
  have p2 : w2.cell? ⟨w.heap.size + 1, 2, none⟩ = some (.int .i64 S) := (HP.out.later HB2.out).cell 2 rfl
  have HBW := Lib.hid (HB1.out.trans (HB2.out.mono HB1.out.size))
  have hl0 : w.heap.size + 1 < w2.heap.size := (HP.out.later HB2.out).lt
  have hl1 : w.heap.size < w2.heap.size := by omega
  obtain ⟨W3, hW3⟩ : ∃ W3, W3 = w2.alloc (.cells (fvs v ++ #[.slice A2 n c2]) 64) := ⟨_, rfl⟩
  have hb3 : Below w2.heap.size w2 W3 := by rw [hW3]; exact (Below.refl _ _).alloc (Nat.le_refl _) _
  have HB3 := Lib.hid (HBW.out.trans (hb3.mono HBW.out.size))
  have HW23 := Lib.hid hb3
  have HL23 := Lib.hid hb3.size
  have HCM := Lib.hid (show CM W3 B w2.heap.size v f A2 n c2 sl from ⟨⟨by rw [hW3]; exact Blk.new _ _ _, HFI.out _ HB3.out, HR2.out _ HB3.out, Nat.le_trans HBB.out HB3.out.size⟩, HNR.out.good, HSM.out, HNM.out⟩)
  obtain ⟨W4, hW4⟩ : ∃ W4, W4 = W3.alloc (.cells #[.int .i64 (v.ins.2.1 : Int), .int .i64 (v.outs.2.1 : Int), .int .i64 S, .int .i64 (v.cross.2.1 : Int), .int .i64 0, .slice none 0 0, .slice none 0 0, .slice none 0 0, .slice none 0 0, .slice none 0 0] 39) := ⟨_, rfl⟩
  have hb4 : Below W3.heap.size W3 W4 := by rw [hW4]; exact (Below.refl _ _).alloc (Nat.le_refl _) _
  have HK4 := Lib.hid (show Blk W4 W3.heap.size 39 #[.int .i64 (v.ins.2.1 : Int), .int .i64 (v.outs.2.1 : Int), .int .i64 S, .int .i64 (v.cross.2.1 : Int), .int .i64 0, .slice none 0 0, .slice none 0 0, .slice none 0 0, .slice none 0 0, .slice none 0 0] from by rw [hW4]; exact Blk.new _ _ _)
  have HB4 := Lib.hid hb4
  have HL34 := Lib.hid HK4.out.lt
  have HS4 := Lib.hid (Nat.le_refl W4.heap.size)
  unfold fvs at hW3
  simp only [List.push_toArray, Array.append_singleton, List.cons_append, List.nil_append, List.append_toArray] at hW3
  go_upto_region 4 with fail
  rw [← hW3]
  clear hW3 f0 f1 f2 f3 f4 f5 f6 f7 p0 p1 p2
  obtain ⟨f0, f1, f2, f3, f4, f5, f6, f7⟩ := ((HK.out.later HB2.out).later hb3).flat
  have p2 : W3.cell? ⟨w.heap.size + 1, 2, none⟩ = some (.int .i64 S) := ((HP.out.later HB2.out).later hb3).cell 2 rfl
  have hl3 : w.heap.size + 1 < W3.heap.size := Nat.lt_of_lt_of_le hl0 hb3.size
  have hl4 : w.heap.size < W3.heap.size := by omega
  go_upto_region 5 with fail
  rw [show max S 0 = S from Int.max_eq_left hS0]
  rw [← hW4]
  clear hW4 f0 f1 f2 f3 f4 f5 f6 f7 p2
  have HKF := Lib.hid ((HK.out.later HB2.out).later hb3)
  have HKP := Lib.hid ((HP.out.later HB2.out).later hb3)
  obtain ⟨f0, f1, f2, f3, f4, f5, f6, f7⟩ := (HKF.out.later hb4).flat
  clear hb3 hb4
  have HLFm : Hid (v.mems.2.1 ≤ 100) := Lib.hid (by rw [← HCM.out.mkr.is.mems.1]; have := HCM.out.small.mems; omega)
  have hmm := HCM.out.mkr.is.mems.len_le
  unfold maxLen at hmm
  obtain ⟨EAm, hEA⟩ : ∃ EA, EA = v.mems.1 := ⟨_, rfl⟩
  rw [← hEA] at f4
  have HEAm := Lib.hid hEA
  clear hEA
  go_wp2_with fail
  clear f0 f1 f2 f3 f4 f5 f6 f7
  go_loopw [38] (fun t wr => ∃ (k : Nat) (am : Option Addr) (nm cm : Nat), k ≤ v.mems.2.1 ∧ t = .int .i64 k ∧ Hid (OwnV wr W4.heap.size (.slice am nm cm) k) ∧ Hid (Blk wr W3.heap.size 39 #[.int .i64 (v.ins.2.1 : Int), .int .i64 (v.outs.2.1 : Int), .int .i64 S, .int .i64 (v.cross.2.1 : Int), .int .i64 0, .slice am nm cm, .slice none 0 0, .slice none 0 0, .slice none 0 0, .slice none 0 0]) ∧ Hid (Below W3.heap.size W3 wr) ∧ Hid (W4.heap.size ≤ wr.heap.size)) (fun t _ => v.mems.2.1 - (intOf t).toNat)
  case atStart => exact ⟨0, none, 0, 0, Nat.zero_le _, rfl, Lib.hid (OwnV.nil _ _), HK4, HB4, HS4⟩
  case round =>
    obtain ⟨k, am, nm, cm, hk, rfl, HO, HKQ, HBQ, HSQ⟩ := hrel
    by_cases hlt : k < v.mems.2.1
    · have hMr := HCM.out.later HBQ.out
      obtain ⟨x, hx⟩ := hMr.mkr.is.mems.ex hlt
      obtain ⟨b, off, ha, hbB, hat⟩ := hMr.mkr.is.mems.at_ hx
      obtain ⟨m, d, r, hrm, hrd, _, e0, e1, e2, e3, e4, e5, e6, e7⟩ := hat.cells
      have ha' := HEAm.out.trans ha
      subst ha'
      have hbl : b < wr.heap.size := Nat.lt_of_lt_of_le hbB hMr.mkr.hB
      obtain ⟨W5, hW5⟩ : ∃ W5, W5 = wr.alloc (.cells (memvs x m d r) 66) := ⟨_, rfl⟩
      have hb5 : Below wr.heap.size wr W5 := by rw [hW5]; exact (Below.refl _ _).alloc (Nat.le_refl _) _
      have HK5 := Lib.hid (show Blk W5 wr.heap.size 66 (memvs x m d r) from by rw [hW5]; exact Blk.new _ _ _)
      have hq5 : wr.heap.size < W5.heap.size := HK5.out.lt
      have h34 : W3.heap.size < W4.heap.size := HL34.out
      have h3q : W3.heap.size < W5.heap.size := by have := HSQ.out; omega
      have HB5 := Lib.hid (HBQ.out.trans (hb5.mono HBQ.out.size))
      have HKI := Lib.hid (HKQ.out.later hb5)
      have HO5 := Lib.hid (HO.out.later hb5)
      have HSZ : Hid (W4.heap.size ≤ W5.heap.size) := Lib.hid (Nat.le_trans HSQ.out (Nat.le_of_lt hq5))
      have HCP := Lib.hid (show Calls Try.prog 16 #[.agg #[.int .i64 x.init.kind, .bool x.init.neg, .slice m.1 m.2.1 m.2.2, .slice d.1 d.2.1 d.2.2, .string x.init.name]] W5.drew fun e w' => (∃ m6 d6 : Option Addr × Nat × Nat, e = .returned (.agg #[.int .i64 x.init.kind, .bool x.init.neg, .slice m6.1 m6.2.1 m6.2.2, .slice d6.1 d6.2.1 d6.2.2, .string x.init.name])) ∧ Below W5.drew.heap.size W5.drew w' from copied_t x.init.kind x.init.neg m d x.init.name B x.init.mag x.init.den W5.drew (hrm.keep fun p hp => hb5.cell (Nat.lt_of_lt_of_le hp hMr.mkr.hB)) (hrd.keep fun p hp => hb5.cell (Nat.lt_of_lt_of_le hp hMr.mkr.hB)) (Nat.le_trans hMr.mkr.hB hb5.size))
      have q0 : W5.drew.cell? ⟨wr.heap.size, 0, none⟩ = some (.int .i64 x.init.kind) := HK5.out.cell 0 rfl
      have q1 : W5.drew.cell? ⟨wr.heap.size, 1, none⟩ = some (.bool x.init.neg) := HK5.out.cell 1 rfl
      have q2 : W5.drew.cell? ⟨wr.heap.size, 2, none⟩ = some (.slice m.1 m.2.1 m.2.2) := HK5.out.cell 2 rfl
      have q3 : W5.drew.cell? ⟨wr.heap.size, 3, none⟩ = some (.slice d.1 d.2.1 d.2.2) := HK5.out.cell 3 rfl
      have q4 : W5.drew.cell? ⟨wr.heap.size, 4, none⟩ = some (.string x.init.name) := HK5.out.cell 4 rfl
      have k5 : W5.drew.cell? ⟨W3.heap.size, 5, none⟩ = some (.slice am nm cm) := HKI.out.cell 5 rfl
      unfold memvs at hW5
      clear hMr hx ha hat hb5 hrm hrd 
      go_upto_region 8 with fail
      rw [← hW5]
      clear hW5 e0 e1 e2 e3 e4 e5 e6 e7
      go_region_law (first
        | (go_simp; go_at_call 16; (with_reducible refine HCP.out.mono ?_); rintro e w6 ⟨⟨m6, d6, rfl⟩, hb6⟩; have hb6' := (Below.refl W5.heap.size W5).drew.trans hb6; have HO6 := Lib.hid (HO5.out.later hb6'); have HK6 := Lib.hid (HKI.out.later hb6'); have HB6 := Lib.hid (HB5.out.trans (hb6'.mono HB5.out.size)); have HS6 := Lib.hid (Nat.le_trans HSZ.out hb6'.size); have k6 : w6.cell? ⟨W3.heap.size, 5, none⟩ = some (.slice am nm cm) := HK6.out.cell 5 rfl; have k6a : (w6.alloc (.cells #[.int .i64 x.init.kind, .bool x.init.neg, .slice m6.1 m6.2.1 m6.2.2, .slice d6.1 d6.2.1 d6.2.2, .string x.init.name] 52)).cell? ⟨W3.heap.size, 5, none⟩ = some (.slice am nm cm) := (HK6.out.alloc _).cell 5 rfl; have h36 : W3.heap.size < w6.heap.size := Nat.lt_of_lt_of_le h34 HS6.out; clear hb6 hb6')
        | (refine stepV rfl _ _ rfl W4.heap.size (.slice am nm cm) k 52 w6.heap.size rfl rfl rfl rfl (by intro u hu; simp at hu; rcases hu with rfl | rfl | rfl | rfl | rfl <;> rfl) HO6.out HS6.out (by have := HLFm.out; omega) ?_; intro v7 w7 hown7 honly7 hat7; obtain ⟨a7, n7, c7, hv7⟩ := hown7.slice; subst hv7; have HO7 := Lib.hid hown7; have HBB7 := Lib.hid (honly7.ownV HO6.out HS6.out); have HK7 := Lib.hid (HK6.out.below HBB7.out h34); have k7 : w7.cell? ⟨W3.heap.size, 5, none⟩ = some (.slice am nm cm) := HK7.out.cell 5 rfl; have z7 := HK7.out.free 5; have HS7 := Lib.hid (Nat.le_trans HS6.out honly7.size); clear hown7 honly7 hat7))
      all_goals
        go_wp2_with fail
        go_roundw
        case rel => exact ⟨k + 1, a7, n7, c7, by omega, by go_num, Lib.hid (HO7.out.setOther h34 5 _), Lib.hid (HK7.out.putA 5 _), Lib.hid ((HB6.out.trans (HBB7.out.mono (Nat.le_of_lt h34))).setCell (p := ⟨W3.heap.size, 5, none⟩) (Nat.le_refl _) _), Lib.hid (by have := HS7.out; simp; exact this)⟩
        case measure => simp [intOf]; omega
    · obtain rfl : k = v.mems.2.1 := by omega
      obtain ⟨f0, f1, f2, f3, f4, f5, f6, f7⟩ := (HKF.out.later HBQ.out).flat
      obtain ⟨ax, nx, cx, hax⟩ : ∃ a b c, (a, b, c) = (am, nm, cm) := ⟨am, nm, cm, rfl⟩
      injection hax with q1 q2
      injection q2 with q2 q3
      subst q1 q2 q3
      have HKO := HK4
      clear HK4 HB4 HS4
      have HK4 := HKQ
      have HB4 := HBQ
      have HS4 := HSQ
      clear HKQ HBQ HSQ HO hk hlt
      have HLFc : Hid (v.conts.2.1 ≤ 100) := Lib.hid (by rw [← HCM.out.mkr.is.conts.1]; have := HCM.out.small.conts; omega)
      have hmc := HCM.out.mkr.is.conts.len_le
      unfold maxLen at hmc
      obtain ⟨EAc, hEA⟩ : ∃ EA, EA = v.conts.1 := ⟨_, rfl⟩
      rw [← hEA] at f5
      have HEAc := Lib.hid hEA
      clear hEA
      go_wp2_with fail
      clear f0 f1 f2 f3 f4 f5 f6 f7
      go_loopw [54] (fun t wr => ∃ (k : Nat) (am : Option Addr) (nm cm : Nat), k ≤ v.conts.2.1 ∧ t = .int .i64 k ∧ Hid (OwnV wr W4.heap.size (.slice am nm cm) k) ∧ Hid (Blk wr W3.heap.size 39 #[.int .i64 (v.ins.2.1 : Int), .int .i64 (v.outs.2.1 : Int), .int .i64 S, .int .i64 (v.cross.2.1 : Int), .int .i64 0, .slice ax nx cx, .slice am nm cm, .slice none 0 0, .slice none 0 0, .slice none 0 0]) ∧ Hid (Below W3.heap.size W3 wr) ∧ Hid (W4.heap.size ≤ wr.heap.size)) (fun t _ => v.conts.2.1 - (intOf t).toNat)
      case atStart => exact ⟨0, none, 0, 0, Nat.zero_le _, rfl, Lib.hid (OwnV.nil _ _), HK4, HB4, HS4⟩
      case round =>
        obtain ⟨k, am, nm, cm, hk, rfl, HO, HKQ, HBQ, HSQ⟩ := hrel
        by_cases hlt : k < v.conts.2.1
        · have hMr := HCM.out.later HBQ.out
          obtain ⟨x, hx⟩ := hMr.mkr.is.conts.ex hlt
          obtain ⟨b, off, ha, hbB, hat⟩ := hMr.mkr.is.conts.at_ hx
          obtain ⟨m, d, r, s, hrm, hrd, _, _, e0, e1, e2, e3, e4, e5, e6, e7, e8⟩ := hat.cells
          have ha' := HEAc.out.trans ha
          subst ha'
          have hbl : b < wr.heap.size := Nat.lt_of_lt_of_le hbB hMr.mkr.hB
          obtain ⟨W5, hW5⟩ : ∃ W5, W5 = wr.alloc (.cells (contvs x m d r s) 70) := ⟨_, rfl⟩
          have hb5 : Below wr.heap.size wr W5 := by rw [hW5]; exact (Below.refl _ _).alloc (Nat.le_refl _) _
          have HK5 := Lib.hid (show Blk W5 wr.heap.size 70 (contvs x m d r s) from by rw [hW5]; exact Blk.new _ _ _)
          have hq5 : wr.heap.size < W5.heap.size := HK5.out.lt
          have h34 : W3.heap.size < W4.heap.size := HL34.out
          have h3q : W3.heap.size < W5.heap.size := by have := HSQ.out; omega
          have HB5 := Lib.hid (HBQ.out.trans (hb5.mono HBQ.out.size))
          have HKI := Lib.hid (HKQ.out.later hb5)
          have HO5 := Lib.hid (HO.out.later hb5)
          have HSZ : Hid (W4.heap.size ≤ W5.heap.size) := Lib.hid (Nat.le_trans HSQ.out (Nat.le_of_lt hq5))
          have HCP := Lib.hid (show Calls Try.prog 16 #[.agg #[.int .i64 x.init.kind, .bool x.init.neg, .slice m.1 m.2.1 m.2.2, .slice d.1 d.2.1 d.2.2, .string x.init.name]] W5.drew fun e w' => (∃ m6 d6 : Option Addr × Nat × Nat, e = .returned (.agg #[.int .i64 x.init.kind, .bool x.init.neg, .slice m6.1 m6.2.1 m6.2.2, .slice d6.1 d6.2.1 d6.2.2, .string x.init.name])) ∧ Below W5.drew.heap.size W5.drew w' from copied_t x.init.kind x.init.neg m d x.init.name B x.init.mag x.init.den W5.drew (hrm.keep fun p hp => hb5.cell (Nat.lt_of_lt_of_le hp hMr.mkr.hB)) (hrd.keep fun p hp => hb5.cell (Nat.lt_of_lt_of_le hp hMr.mkr.hB)) (Nat.le_trans hMr.mkr.hB hb5.size))
          have q0 : W5.drew.cell? ⟨wr.heap.size, 0, none⟩ = some (.int .i64 x.init.kind) := HK5.out.cell 0 rfl
          have q1 : W5.drew.cell? ⟨wr.heap.size, 1, none⟩ = some (.bool x.init.neg) := HK5.out.cell 1 rfl
          have q2 : W5.drew.cell? ⟨wr.heap.size, 2, none⟩ = some (.slice m.1 m.2.1 m.2.2) := HK5.out.cell 2 rfl
          have q3 : W5.drew.cell? ⟨wr.heap.size, 3, none⟩ = some (.slice d.1 d.2.1 d.2.2) := HK5.out.cell 3 rfl
          have q4 : W5.drew.cell? ⟨wr.heap.size, 4, none⟩ = some (.string x.init.name) := HK5.out.cell 4 rfl
          have k5 : W5.drew.cell? ⟨W3.heap.size, 6, none⟩ = some (.slice am nm cm) := HKI.out.cell 6 rfl
          unfold contvs at hW5
          clear hMr hx ha hat hb5 hrm hrd  
          go_upto_region 13 with fail
          rw [← hW5]
          clear hW5 e0 e1 e2 e3 e4 e5 e6 e7 e8
          go_region_law (first
            | (go_simp; go_at_call 16; (with_reducible refine HCP.out.mono ?_); rintro e w6 ⟨⟨m6, d6, rfl⟩, hb6⟩; have hb6' := (Below.refl W5.heap.size W5).drew.trans hb6; have HO6 := Lib.hid (HO5.out.later hb6'); have HK6 := Lib.hid (HKI.out.later hb6'); have HB6 := Lib.hid (HB5.out.trans (hb6'.mono HB5.out.size)); have HS6 := Lib.hid (Nat.le_trans HSZ.out hb6'.size); have k6 : w6.cell? ⟨W3.heap.size, 6, none⟩ = some (.slice am nm cm) := HK6.out.cell 6 rfl; have k6a : (w6.alloc (.cells #[.int .i64 x.init.kind, .bool x.init.neg, .slice m6.1 m6.2.1 m6.2.2, .slice d6.1 d6.2.1 d6.2.2, .string x.init.name] 52)).cell? ⟨W3.heap.size, 6, none⟩ = some (.slice am nm cm) := (HK6.out.alloc _).cell 6 rfl; have h36 : W3.heap.size < w6.heap.size := Nat.lt_of_lt_of_le h34 HS6.out; clear hb6 hb6')
            | (refine stepV rfl _ _ rfl W4.heap.size (.slice am nm cm) k 52 w6.heap.size rfl rfl rfl rfl (by intro u hu; simp at hu; rcases hu with rfl | rfl | rfl | rfl | rfl <;> rfl) HO6.out HS6.out (by have := HLFc.out; omega) ?_; intro v7 w7 hown7 honly7 hat7; obtain ⟨a7, n7, c7, hv7⟩ := hown7.slice; subst hv7; have HO7 := Lib.hid hown7; have HBB7 := Lib.hid (honly7.ownV HO6.out HS6.out); have HK7 := Lib.hid (HK6.out.below HBB7.out h34); have k7 : w7.cell? ⟨W3.heap.size, 6, none⟩ = some (.slice am nm cm) := HK7.out.cell 6 rfl; have z7 := HK7.out.free 6; have HS7 := Lib.hid (Nat.le_trans HS6.out honly7.size); clear hown7 honly7 hat7))
          all_goals
            go_wp2_with fail
            go_roundw
            case rel => exact ⟨k + 1, a7, n7, c7, by omega, by go_num, Lib.hid (HO7.out.setOther h34 6 _), Lib.hid (HK7.out.putA 6 _), Lib.hid ((HB6.out.trans (HBB7.out.mono (Nat.le_of_lt h34))).setCell (p := ⟨W3.heap.size, 6, none⟩) (Nat.le_refl _) _), Lib.hid (by have := HS7.out; simp; exact this)⟩
            case measure => simp [intOf]; omega
        · obtain rfl : k = v.conts.2.1 := by omega
          have hw3r : W3.heap.size < wr.heap.size := Nat.lt_of_lt_of_le HL34.out HSQ.out
          have kp0 : wr.cell? ⟨w.heap.size + 1, 0, none⟩ = some (.slice A n c) := (HKP.out.below HBQ.out hl3).cell 0 rfl
          have HST := Lib.hid (step_t w2.heap.size B v f A2 n c2 sl A c o wr (HCM.out.later HBQ.out) (HR1.out _ (HB3.out.trans (HBQ.out.mono HB3.out.size))) HNR.out.once)
          go_upto_region 16 with (go_at_call 17; (with_reducible refine HST.out.mono ?_); rintro e w6 ⟨v6, xs, ys, rfl, hown6, hl6, hq6, ht6, hb6⟩; obtain ⟨a6, n6, c6, hv6⟩ := own_sliceS hown6; subst hv6; have HO6 := Lib.hid hown6; have HXS := Lib.hid (And.intro hl6 (And.intro hq6 ht6)); have HB6 := Lib.hid (HBQ.out.trans (hb6.mono HBQ.out.size)); have HK6 := Lib.hid (HKQ.out.later hb6); have HS6 := Lib.hid hb6.size; have k6 : w6.cell? ⟨W3.heap.size, 7, none⟩ = some (.slice none 0 0) := HK6.out.cell 7 rfl; have z6 := HK6.out.free 7; clear hown6 hl6 hq6 ht6 hb6 kp0)
          obtain ⟨W6, hW6⟩ : ∃ W6, W6 = w6.setCell ⟨W3.heap.size, 7, none⟩ (.slice a6 n6 c6) := ⟨_, rfl⟩
          have HK6' := Lib.hid (show Blk W6 W3.heap.size 39 #[.int .i64 (v.ins.2.1 : Int), .int .i64 (v.outs.2.1 : Int), .int .i64 S, .int .i64 (v.cross.2.1 : Int), .int .i64 0, .slice ax nx cx, .slice am nm cm, .slice a6 n6 c6, .slice none 0 0, .slice none 0 0] from by rw [hW6]; exact HK6.out.putA 7 _)
          have HB6' : Hid (Below W3.heap.size W3 W6) := Lib.hid (by rw [hW6]; exact HB6.out.setCell (p := ⟨W3.heap.size, 7, none⟩) (Nat.le_refl _) _)
          have HO6' : Hid (OwnS W6 wr.heap.size (.slice a6 n6 c6) (xs ++ ys)) := Lib.hid (by rw [hW6]; exact HO6.out.setOther hw3r 7 _)
          have HS6' : Hid (wr.heap.size ≤ W6.heap.size) := Lib.hid (by rw [hW6]; simp; exact HS6.out)
          rw [← hW6]
          clear hW6 k6 z6 HK6 HB6 HO6 HS6
          have HDE := Lib.hid (deriv_t w2.heap.size B v f A2 n c2 sl W6 (HCM.out.later HB6'.out))
          go_upto_region 17 with (go_at_call 18; (with_reducible refine HDE.out.mono ?_); rintro e w7 ⟨v7, ds, rfl, hown7, ht7, hb7⟩; obtain ⟨a7, n7, c7, hv7⟩ := own_sliceS hown7; subst hv7; have HO7 := Lib.hid (hown7.more HS6'.out); have HO67 := Lib.hid (HO6'.out.later hb7); have HDS := Lib.hid ht7; have HB7 := Lib.hid (HB6'.out.trans (hb7.mono HB6'.out.size)); have HK7 := Lib.hid (HK6'.out.later hb7); have HS7 := Lib.hid (Nat.le_trans HS6'.out hb7.size); have k7 : w7.cell? ⟨W3.heap.size, 8, none⟩ = some (.slice none 0 0) := HK7.out.cell 8 rfl; have z7 := HK7.out.free 8; clear hown7 ht7 hb7)
          obtain ⟨W7, hW7⟩ : ∃ W7, W7 = w7.setCell ⟨W3.heap.size, 8, none⟩ (.slice a7 n7 c7) := ⟨_, rfl⟩
          have HK7' := Lib.hid (show Blk W7 W3.heap.size 39 #[.int .i64 (v.ins.2.1 : Int), .int .i64 (v.outs.2.1 : Int), .int .i64 S, .int .i64 (v.cross.2.1 : Int), .int .i64 0, .slice ax nx cx, .slice am nm cm, .slice a6 n6 c6, .slice a7 n7 c7, .slice none 0 0] from by rw [hW7]; exact HK7.out.putA 8 _)
          have HB7' : Hid (Below W3.heap.size W3 W7) := Lib.hid (by rw [hW7]; exact HB7.out.setCell (p := ⟨W3.heap.size, 8, none⟩) (Nat.le_refl _) _)
          have HO7' : Hid (OwnS W7 wr.heap.size (.slice a7 n7 c7) ds) := Lib.hid (by rw [hW7]; exact HO7.out.setOther hw3r 8 _)
          have HO67' : Hid (OwnS W7 wr.heap.size (.slice a6 n6 c6) (xs ++ ys)) := Lib.hid (by rw [hW7]; exact HO67.out.setOther hw3r 8 _)
          have HS7' : Hid (wr.heap.size ≤ W7.heap.size) := Lib.hid (by rw [hW7]; simp; exact HS7.out)
          rw [← hW7]
          clear hW7 k7 z7 HK7 HB7 HO7 HO67 HS7
          have HCR := Lib.hid (cross_t w2.heap.size B v f A2 n c2 sl W7 (HCM.out.later HB7'.out))
          go_upto_region 18 with (go_at_call 19; (with_reducible refine HCR.out.mono ?_); rintro e w8 ⟨v8, zs, rfl, hown8, ht8, hi8, hb8⟩; obtain ⟨a8, n8, c8, hv8⟩ := own_sliceS hown8; subst hv8; have HO8 := Lib.hid (hown8.more HS7'.out); have HO68 := Lib.hid (HO67'.out.later hb8); have HO78 := Lib.hid (HO7'.out.later hb8); have HZS := Lib.hid (And.intro ht8 hi8); have HB8 := Lib.hid (HB7'.out.trans (hb8.mono HB7'.out.size)); have HK8 := Lib.hid (HK7'.out.later hb8); have k8 : w8.cell? ⟨W3.heap.size, 9, none⟩ = some (.slice none 0 0) := HK8.out.cell 9 rfl; have z8 := HK8.out.free 9; have k9 : w8.cell? ⟨W3.heap.size, 4, none⟩ = some (.int .i64 0) := HK8.out.cell 4 rfl; have z9 := HK8.out.free 4; clear hown8 ht8 hi8 hb8)
          obtain ⟨W8, hW8⟩ : ∃ W8, W8 = (w8.setCell ⟨W3.heap.size, 9, none⟩ (.slice a8 n8 c8)).setCell ⟨W3.heap.size, 4, none⟩ (.int .i64 (linesTo f f.cross.length : Nat)) := ⟨_, rfl⟩
          have HK8' := Lib.hid (show Blk W8 W3.heap.size 39 #[.int .i64 (v.ins.2.1 : Int), .int .i64 (v.outs.2.1 : Int), .int .i64 S, .int .i64 (v.cross.2.1 : Int), .int .i64 (linesTo f f.cross.length : Nat), .slice ax nx cx, .slice am nm cm, .slice a6 n6 c6, .slice a7 n7 c7, .slice a8 n8 c8] from by rw [hW8]; exact (HK8.out.putA 9 _).putA 4 _)
          have HB8' : Hid (Below W3.heap.size W3 W8) := Lib.hid (by rw [hW8]; exact (HB8.out.setCell (p := ⟨W3.heap.size, 9, none⟩) (Nat.le_refl _) _).setCell (p := ⟨W3.heap.size, 4, none⟩) (Nat.le_refl _) _)
          have HOa : Hid (OwnS W8 wr.heap.size (.slice a6 n6 c6) (xs ++ ys)) := Lib.hid (by rw [hW8]; exact (HO68.out.setOther hw3r 9 _).setOther hw3r 4 _)
          have HOb : Hid (OwnS W8 wr.heap.size (.slice a7 n7 c7) ds) := Lib.hid (by rw [hW8]; exact (HO78.out.setOther hw3r 9 _).setOther hw3r 4 _)
          have HOc : Hid (OwnS W8 wr.heap.size (.slice a8 n8 c8) zs) := Lib.hid (by rw [hW8]; exact (HO8.out.setOther hw3r 9 _).setOther hw3r 4 _)
          rw [← hW8]
          clear hW8 k8 z8 k9 z9 HK8 HB8 HO68 HO78 HO8
          have hl2 : w.heap.size + 2 < w2.heap.size := (HZ.out.later HB2.out).lt
          have hl5 : w.heap.size + 2 < W3.heap.size := Nat.lt_of_lt_of_le hl2 HL23.out
          have HZ8 := Lib.hid (((HZ.out.later HB2.out).later HW23.out).below HB8'.out hl5)
          obtain ⟨y0, y1, y2, y3, y4, y5, y6, y7, y8, y9⟩ := HZ8.out.ten
          obtain ⟨z0, z1, z2, z3, z4, z5, z6, z7, z8, z9⟩ := HZ8.out.tenF
          obtain ⟨n0_, n1_, n2_, n3_, n4_, n5_, n6_, n7_, n8_, n9_⟩ := HK8'.out.ten
          have HR := Lib.hid (HZ8.out.p10 (.int .i64 (v.ins.2.1 : Int)) (.int .i64 (v.outs.2.1 : Int)) (.int .i64 S) (.int .i64 (v.cross.2.1 : Int)) (.int .i64 (linesTo f f.cross.length : Nat)) (.slice ax nx cx) (.slice am nm cm) (.slice a6 n6 c6) (.slice a7 n7 c7) (.slice a8 n8 c8))
          have HOL := Lib.hid (belowP10 (HB3.out.trans (HB8'.out.mono HB3.out.size)) (show w.heap.size ≤ w.heap.size + 2 by omega) (.int .i64 (v.ins.2.1 : Int)) (.int .i64 (v.outs.2.1 : Int)) (.int .i64 S) (.int .i64 (v.cross.2.1 : Int)) (.int .i64 (linesTo f f.cross.length : Nat)) (.slice ax nx cx) (.slice am nm cm) (.slice a6 n6 c6) (.slice a7 n7 c7) (.slice a8 n8 c8))
          have HQa := Lib.hid (HOa.out.p10 (show w.heap.size + 2 < wr.heap.size by omega) (.int .i64 (v.ins.2.1 : Int)) (.int .i64 (v.outs.2.1 : Int)) (.int .i64 S) (.int .i64 (v.cross.2.1 : Int)) (.int .i64 (linesTo f f.cross.length : Nat)) (.slice ax nx cx) (.slice am nm cm) (.slice a6 n6 c6) (.slice a7 n7 c7) (.slice a8 n8 c8))
          have HQb := Lib.hid (HOb.out.p10 (show w.heap.size + 2 < wr.heap.size by omega) (.int .i64 (v.ins.2.1 : Int)) (.int .i64 (v.outs.2.1 : Int)) (.int .i64 S) (.int .i64 (v.cross.2.1 : Int)) (.int .i64 (linesTo f f.cross.length : Nat)) (.slice ax nx cx) (.slice am nm cm) (.slice a6 n6 c6) (.slice a7 n7 c7) (.slice a8 n8 c8))
          have HQc := Lib.hid (HOc.out.p10 (show w.heap.size + 2 < wr.heap.size by omega) (.int .i64 (v.ins.2.1 : Int)) (.int .i64 (v.outs.2.1 : Int)) (.int .i64 S) (.int .i64 (v.cross.2.1 : Int)) (.int .i64 (linesTo f f.cross.length : Nat)) (.slice ax nx cx) (.slice am nm cm) (.slice a6 n6 c6) (.slice a7 n7 c7) (.slice a8 n8 c8))
          go_wp2
          refine ret_code rfl (w.heap.size + 2) #[.int .i64 (v.ins.2.1 : Int), .int .i64 (v.outs.2.1 : Int), .int .i64 S, .int .i64 (v.cross.2.1 : Int), .int .i64 (linesTo f f.cross.length : Nat), .slice ax nx cx, .slice am nm cm, .slice a6 n6 c6, .slice a7 n7 c7, .slice a8 n8 c8] rfl HR.out rfl rfl ?_
          obtain ⟨ra, rc, re, rm⟩ := HQa.out.mem
          obtain ⟨ra2, rc2, re2, rm2⟩ := HQb.out.mem
          obtain ⟨ra3, rc3, re3, rm3⟩ := HQc.out.mem
          injection re with r1 r2 r3
          injection re2 with s1 s2 s3
          injection re3 with t1 t2 t3
          subst r1 r2 r3 s1 s2 s3 t1 t2 t3
          exact ⟨⟨(ax, nx, cx), (am, nm, cm), (a6, (xs ++ ys).length, c6), (a7, ds.length, c7), (a8, zs.length, c8), xs, ys, ds, zs, rfl, ⟨rm, HXS.out.1, HXS.out.2.1, HXS.out.2.2⟩, ⟨rm2, HDS.out⟩, ⟨rm3, HZS.out.1, HZS.out.2⟩⟩, HOL.out⟩

end Go.Proofs.Ytanbekbalfbkcaa
