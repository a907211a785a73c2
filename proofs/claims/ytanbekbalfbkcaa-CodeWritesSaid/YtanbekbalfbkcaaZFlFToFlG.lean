/- What hasPlace tells. No condition. · What allEqs tells. No condition. -/
import Derived.Test.YtanbekbalfbkcaaZFlE
namespace Go.Proofs.Ytanbekbalfbkcaa
set_option linter.unusedVariables false
set_option linter.unusedSimpArgs false
set_option maxRecDepth 100000
open Go.RowKit

theorem kL_0 (k : Int) (li lm lc lx : Nat) : kL (bs [105, 110]) k li lm lc lx = plB k li := rfl
set_option maxHeartbeats 400000 in
theorem hp_0 (q : FEqM) (a m d : Option Addr × Nat × Nat) (v : FlatV) (w : World) (h : q.op = bs [105, 110]) : Calls Try.prog 54 #[feqV q a m d, flatV v] w fun e w' => e = .returned (.bool (kL q.op q.k v.ins.2.1 v.mems.2.1 v.conts.2.1 v.cross.2.1)) ∧ Below w.heap.size w w' := by
  obtain ⟨var, op, args, k, lit, guard⟩ := q
  simp only at h
  have HE := Lib.hid (kL_0 k v.ins.2.1 v.mems.2.1 v.conts.2.1 v.cross.2.1)
  subst h
  unfold bs at HE ⊢
  unfold feqV flatV sl3
  go_enter Try.func54, Try.ntmps54
  go_wp2_with (go_at_call 50; refine (isPlace_at k v.ins.2.1 _ _ rfl).mono ?_; rintro e w' ⟨rfl, rfl⟩)
  go_ret
  exact ⟨by rw [HE.out]; rfl, ((Below.refl _ _).alloc (Nat.le_refl _) _).alloc (by simp) _⟩
theorem kL_1 (k : Int) (li lm lc lx : Nat) : kL (bs [109, 101, 109]) k li lm lc lx = plB k lm := rfl
set_option maxHeartbeats 400000 in
theorem hp_1 (q : FEqM) (a m d : Option Addr × Nat × Nat) (v : FlatV) (w : World) (h : q.op = bs [109, 101, 109]) : Calls Try.prog 54 #[feqV q a m d, flatV v] w fun e w' => e = .returned (.bool (kL q.op q.k v.ins.2.1 v.mems.2.1 v.conts.2.1 v.cross.2.1)) ∧ Below w.heap.size w w' := by
  obtain ⟨var, op, args, k, lit, guard⟩ := q
  simp only at h
  have HE := Lib.hid (kL_1 k v.ins.2.1 v.mems.2.1 v.conts.2.1 v.cross.2.1)
  subst h
  unfold bs at HE ⊢
  unfold feqV flatV sl3
  go_enter Try.func54, Try.ntmps54
  go_wp2_with (go_at_call 50; refine (isPlace_at k v.mems.2.1 _ _ rfl).mono ?_; rintro e w' ⟨rfl, rfl⟩)
  go_ret
  exact ⟨by rw [HE.out]; rfl, ((Below.refl _ _).alloc (Nat.le_refl _) _).alloc (by simp) _⟩
theorem kL_2 (k : Int) (li lm lc lx : Nat) : kL (bs [99, 111, 110, 116]) k li lm lc lx = plB k lc := rfl
set_option maxHeartbeats 400000 in
theorem hp_2 (q : FEqM) (a m d : Option Addr × Nat × Nat) (v : FlatV) (w : World) (h : q.op = bs [99, 111, 110, 116]) : Calls Try.prog 54 #[feqV q a m d, flatV v] w fun e w' => e = .returned (.bool (kL q.op q.k v.ins.2.1 v.mems.2.1 v.conts.2.1 v.cross.2.1)) ∧ Below w.heap.size w w' := by
  obtain ⟨var, op, args, k, lit, guard⟩ := q
  simp only at h
  have HE := Lib.hid (kL_2 k v.ins.2.1 v.mems.2.1 v.conts.2.1 v.cross.2.1)
  subst h
  unfold bs at HE ⊢
  unfold feqV flatV sl3
  go_enter Try.func54, Try.ntmps54
  go_wp2_with (go_at_call 50; refine (isPlace_at k v.conts.2.1 _ _ rfl).mono ?_; rintro e w' ⟨rfl, rfl⟩)
  go_ret
  exact ⟨by rw [HE.out]; rfl, ((Below.refl _ _).alloc (Nat.le_refl _) _).alloc (by simp) _⟩
theorem kL_3 (k : Int) (li lm lc lx : Nat) : kL (bs [102, 108, 97, 103]) k li lm lc lx = plB k lx := rfl
set_option maxHeartbeats 400000 in
theorem hp_3 (q : FEqM) (a m d : Option Addr × Nat × Nat) (v : FlatV) (w : World) (h : q.op = bs [102, 108, 97, 103]) : Calls Try.prog 54 #[feqV q a m d, flatV v] w fun e w' => e = .returned (.bool (kL q.op q.k v.ins.2.1 v.mems.2.1 v.conts.2.1 v.cross.2.1)) ∧ Below w.heap.size w w' := by
  obtain ⟨var, op, args, k, lit, guard⟩ := q
  simp only at h
  have HE := Lib.hid (kL_3 k v.ins.2.1 v.mems.2.1 v.conts.2.1 v.cross.2.1)
  subst h
  unfold bs at HE ⊢
  unfold feqV flatV sl3
  go_enter Try.func54, Try.ntmps54
  go_wp2_with (go_at_call 50; refine (isPlace_at k v.cross.2.1 _ _ rfl).mono ?_; rintro e w' ⟨rfl, rfl⟩)
  go_ret
  exact ⟨by rw [HE.out]; rfl, ((Below.refl _ _).alloc (Nat.le_refl _) _).alloc (by simp) _⟩
theorem kL_no (op : ByteArray) (k : Int) (li lm lc lx : Nat) (h0 : ¬ op = bs [105, 110]) (h1 : ¬ op = bs [109, 101, 109]) (h2 : ¬ op = bs [99, 111, 110, 116]) (h3 : ¬ op = bs [102, 108, 97, 103]) : kL op k li lm lc lx = true := by
  unfold kL opIn opMem opCont opFlag
  rw [if_neg h0, if_neg h1, if_neg h2, if_neg h3]
set_option maxHeartbeats 400000 in
theorem hp_none (q : FEqM) (a m d : Option Addr × Nat × Nat) (v : FlatV) (w : World) (h0 : ¬ q.op = bs [105, 110]) (h1 : ¬ q.op = bs [109, 101, 109]) (h2 : ¬ q.op = bs [99, 111, 110, 116]) (h3 : ¬ q.op = bs [102, 108, 97, 103]) : Calls Try.prog 54 #[feqV q a m d, flatV v] w fun e w' => e = .returned (.bool (kL q.op q.k v.ins.2.1 v.mems.2.1 v.conts.2.1 v.cross.2.1)) ∧ Below w.heap.size w w' := by
  obtain ⟨var, op, args, k, lit, guard⟩ := q
  simp only at h0 h1 h2 h3
  have HE := Lib.hid (kL_no op k v.ins.2.1 v.mems.2.1 v.conts.2.1 v.cross.2.1 h0 h1 h2 h3)
  have g0 := str_no h0; clear h0
  have g1 := str_no h1; clear h1
  have g2 := str_no h2; clear h2
  have g3 := str_no h3; clear h3
  unfold feqV flatV sl3
  go_enter Try.func54, Try.ntmps54
  go_wp2
  go_ret
  exact ⟨by rw [HE.out]; rfl, ((Below.refl _ _).alloc (Nat.le_refl _) _).alloc (by simp) _⟩
theorem hasPlace_at (q : FEqM) (a m d : Option Addr × Nat × Nat) (v : FlatV) (w : World) : Calls Try.prog 54 #[feqV q a m d, flatV v] w fun e w' => e = .returned (.bool (kL q.op q.k v.ins.2.1 v.mems.2.1 v.conts.2.1 v.cross.2.1)) ∧ Below w.heap.size w w' := by
  by_cases h0 : q.op = bs [105, 110]
  · exact hp_0 q a m d v w h0
  by_cases h1 : q.op = bs [109, 101, 109]
  · exact hp_1 q a m d v w h1
  by_cases h2 : q.op = bs [99, 111, 110, 116]
  · exact hp_2 q a m d v w h2
  by_cases h3 : q.op = bs [102, 108, 97, 103]
  · exact hp_3 q a m d v w h3
  exact hp_none q a m d v w h0 h1 h2 h3

end Go.Proofs.Ytanbekbalfbkcaa

namespace Go.Proofs.Ytanbekbalfbkcaa
set_option linter.unusedVariables false
set_option linter.unusedSimpArgs false
set_option maxRecDepth 100000
open Go.RowKit

theorem FEqAt.cells {w : World} {B b o : Nat} {q : FEqM} (h : FEqAt w B b o q) : ∃ a m d : Option Addr × Nat × Nat, IRow w B a.1 a.2.1 a.2.2 q.args ∧ URow w B m.1 m.2.1 m.2.2 q.lit.mag ∧ URow w B d.1 d.2.1 d.2.2 q.lit.den ∧
    (w.cell? ⟨b, o, none⟩ = some (.int .i64 q.var) ∧ w.cell? ⟨b, o + 1, none⟩ = some (.string q.op) ∧ w.cell? ⟨b, o + 2, none⟩ = some (.slice a.1 a.2.1 a.2.2) ∧ w.cell? ⟨b, o + 3, none⟩ = some (.int .i64 q.k) ∧ w.cell? ⟨b, o + 4, none⟩ = some (.int .i64 q.lit.kind) ∧
     w.cell? ⟨b, o + 5, none⟩ = some (.bool q.lit.neg) ∧ w.cell? ⟨b, o + 6, none⟩ = some (.slice m.1 m.2.1 m.2.2) ∧ w.cell? ⟨b, o + 7, none⟩ = some (.slice d.1 d.2.1 d.2.2) ∧ w.cell? ⟨b, o + 8, none⟩ = some (.string q.lit.name) ∧ w.cell? ⟨b, o + 9, none⟩ = some (.int .i64 q.guard)) := by
  obtain ⟨A, L, C, h1, h2⟩ := h.args
  obtain ⟨A', L', C', h3, h4⟩ := h.lit.mag
  obtain ⟨A'', L'', C'', h5, h6⟩ := h.lit.den
  exact ⟨(A, L, C), (A', L', C'), (A'', L'', C''), h2, h4, h6, h.var.1, h.op.1, h1, h.k.1, h.lit.kind.1, h.lit.neg, h3, h5, h.lit.name.1, h.guard.1⟩
theorem eqB_of {f : FlatM} {v : FlatV} {q : FEqM} {n : Nat} (hn : f.names.length = v.names.2.1) (ha : q.args.length = n) (hl : f.ins.length = v.ins.2.1) (hm : f.mems.length = v.mems.2.1) (hc : f.conts.length = v.conts.2.1) (hx : f.cross.length = v.cross.2.1) :
    eqB f q = (guB q.guard v.names.2.1 && wiB q.args v.names.2.1 && enB q.op n && kL q.op q.k v.ins.2.1 v.mems.2.1 v.conts.2.1 v.cross.2.1) := by
  unfold eqB kB; rw [hn, ha, hl, hm, hc, hx]

/-- block g is these cells -/
def Blk (w : World) (g T : Nat) (vs : Array Value) : Prop := w.heap[g]? = some (.cells vs T (0, 0))
theorem Blk.cell {w : World} {g T : Nat} {vs : Array Value} (h : Blk w g T vs) (i : Nat) {v : Value} (hv : vs[i]? = some v) : w.cell? ⟨g, i, none⟩ = some v := by
  rw [cell_of_row w g i _ T (0, 0) h]; exact hv
theorem Blk.free {w : World} {g T : Nat} {vs : Array Value} (h : Blk w g T vs) (i : Nat) : w.frozen? ⟨g, i, none⟩ = false := frozen_of_row w g i _ T h
theorem Blk.lt {w : World} {g T : Nat} {vs : Array Value} (h : Blk w g T vs) : g < w.heap.size := (Array.getElem?_eq_some_iff.1 h).1
theorem Blk.below {w w' : World} {B g T : Nat} {vs : Array Value} (h : Blk w g T vs) (hb : Below B w w') (hg : g < B) : Blk w' g T vs := (hb.block g hg).trans h
theorem Blk.later {w w' : World} {g T : Nat} {vs : Array Value} (h : Blk w g T vs) (hb : Below w.heap.size w w') : Blk w' g T vs := h.below hb h.lt
theorem Blk.new (w : World) (T : Nat) (vs : Array Value) : Blk (w.alloc (.cells vs T)) w.heap.size T vs := heap_alloc_new w _
theorem Blk.alloc {w : World} {g T : Nat} {vs : Array Value} (h : Blk w g T vs) (o : Obj) : Blk (w.alloc o) g T vs := h.later ((Below.refl _ _).alloc (Nat.le_refl _) o)
/-- the cells of a flat program's value -/
def fvs (v : FlatV) : Array Value := #[.slice v.ins.1 v.ins.2.1 v.ins.2.2, .slice v.names.1 v.names.2.1 v.names.2.2, .slice v.outs.1 v.outs.2.1 v.outs.2.2, .slice v.eqs.1 v.eqs.2.1 v.eqs.2.2, .slice v.mems.1 v.mems.2.1 v.mems.2.2, .slice v.conts.1 v.conts.2.1 v.conts.2.2, .slice v.cross.1 v.cross.2.1 v.cross.2.2, .slice v.again.1 v.again.2.1 v.again.2.2]
theorem Blk.flat {w : World} {g : Nat} {v : FlatV} (h : Blk w g 29 (fvs v)) :
    w.cell? ⟨g, 0, none⟩ = some (.slice v.ins.1 v.ins.2.1 v.ins.2.2) ∧ w.cell? ⟨g, 1, none⟩ = some (.slice v.names.1 v.names.2.1 v.names.2.2) ∧ w.cell? ⟨g, 2, none⟩ = some (.slice v.outs.1 v.outs.2.1 v.outs.2.2) ∧ w.cell? ⟨g, 3, none⟩ = some (.slice v.eqs.1 v.eqs.2.1 v.eqs.2.2) ∧
    w.cell? ⟨g, 4, none⟩ = some (.slice v.mems.1 v.mems.2.1 v.mems.2.2) ∧ w.cell? ⟨g, 5, none⟩ = some (.slice v.conts.1 v.conts.2.1 v.conts.2.2) ∧ w.cell? ⟨g, 6, none⟩ = some (.slice v.cross.1 v.cross.2.1 v.cross.2.2) ∧ w.cell? ⟨g, 7, none⟩ = some (.slice v.again.1 v.again.2.1 v.again.2.2) :=
  ⟨h.cell 0 rfl, h.cell 1 rfl, h.cell 2 rfl, h.cell 3 rfl, h.cell 4 rfl, h.cell 5 rfl, h.cell 6 rfl, h.cell 7 rfl⟩
/-- the cells of an equation's value -/
def qvs (q : FEqM) (a m d : Option Addr × Nat × Nat) : Array Value := #[.int .i64 q.var, .string q.op, .slice a.1 a.2.1 a.2.2, .int .i64 q.k, .int .i64 q.lit.kind, .bool q.lit.neg, .slice m.1 m.2.1 m.2.2, .slice d.1 d.2.1 d.2.2, .string q.lit.name, .int .i64 q.guard]
theorem Blk.eq {w : World} {g : Nat} {q : FEqM} {a m d : Option Addr × Nat × Nat} (h : Blk w g 77 (qvs q a m d)) :
    w.cell? ⟨g, 0, none⟩ = some (.int .i64 q.var) ∧ w.cell? ⟨g, 1, none⟩ = some (.string q.op) ∧ w.cell? ⟨g, 2, none⟩ = some (.slice a.1 a.2.1 a.2.2) ∧ w.cell? ⟨g, 3, none⟩ = some (.int .i64 q.k) ∧ w.cell? ⟨g, 4, none⟩ = some (.int .i64 q.lit.kind) ∧
     w.cell? ⟨g, 5, none⟩ = some (.bool q.lit.neg) ∧ w.cell? ⟨g, 6, none⟩ = some (.slice m.1 m.2.1 m.2.2) ∧ w.cell? ⟨g, 7, none⟩ = some (.slice d.1 d.2.1 d.2.2) ∧ w.cell? ⟨g, 8, none⟩ = some (.string q.lit.name) ∧ w.cell? ⟨g, 9, none⟩ = some (.int .i64 q.guard) :=
  ⟨h.cell 0 rfl, h.cell 1 rfl, h.cell 2 rfl, h.cell 3 rfl, h.cell 4 rfl, h.cell 5 rfl, h.cell 6 rfl, h.cell 7 rfl, h.cell 8 rfl, h.cell 9 rfl⟩

/-- what holds while one equation is looked at: the program's box, the equation's box, the program itself -/
structure EqSt (W0 : World) (B g e : Nat) (v : FlatV) (f : FlatM) (q : FEqM) (a m d : Option Addr × Nat × Nat) (W : World) : Prop where
  fb : Blk W g 29 (fvs v)
  qb : Blk W e 77 (qvs q a m d)
  is : FlatIs W B v f
  row : IRow W B a.1 a.2.1 a.2.2 q.args
  old : Below (g + 1) W0 W
  le : B ≤ g
theorem EqSt.later {W0 W W' : World} {B g e : Nat} {v : FlatV} {f : FlatM} {q : FEqM} {a m d : Option Addr × Nat × Nat} (h : EqSt W0 B g e v f q a m d W) (hb : Below W.heap.size W W') : EqSt W0 B g e v f q a m d W' :=
  have hl := h.fb.lt
  have hB : B ≤ W.heap.size := Nat.le_trans h.le (Nat.le_of_lt hl)
  ⟨h.fb.later hb, h.qb.later hb, h.is.below (hb.mono hB), h.row.below (hb.mono hB), h.old.trans (hb.mono hl), h.le⟩
theorem EqSt.hB {W0 W : World} {B g e : Nat} {v : FlatV} {f : FlatM} {q : FEqM} {a m d : Option Addr × Nat × Nat} (h : EqSt W0 B g e v f q a m d W) : B ≤ W.heap.size := Nat.le_trans h.le (Nat.le_of_lt h.fb.lt)
theorem hasEnough_b (q : FEqM) (a m d : Option Addr × Nat × Nat) (b : Bool) (w : World) (hm : a.2.1 ≤ maxLen) (h : enB q.op a.2.1 = b) : Calls Try.prog 53 #[feqV q a m d] w fun e w' => e = .returned (.bool b) ∧ Below w.heap.size w w' := by
  subst h; exact hasEnough_at q a m d w hm
theorem hasPlace_b (q : FEqM) (a m d : Option Addr × Nat × Nat) (v : FlatV) (b : Bool) (w : World) (h : kL q.op q.k v.ins.2.1 v.mems.2.1 v.conts.2.1 v.cross.2.1 = b) : Calls Try.prog 54 #[feqV q a m d, flatV v] w fun e w' => e = .returned (.bool b) ∧ Below w.heap.size w w' := by
  subst h; exact hasPlace_at q a m d v w

set_option maxHeartbeats 1000000 in
theorem allEqs_t (v : FlatV) (f : FlatM) (B : Nat) (w : World) (h : FlatIs w B v f) (hB : B ≤ w.heap.size) :
    Calls Try.prog 43 #[flatV v] w fun e w' => e = .returned (.bool (eqsB f)) ∧ Below w.heap.size w w' := by
  have hm := h.eqs.len_le
  have HQ : Hid (∀ q n, q.args.length = n → eqB f q = (guB q.guard v.names.2.1 && wiB q.args v.names.2.1 && enB q.op n && kL q.op q.k v.ins.2.1 v.mems.2.1 v.conts.2.1 v.cross.2.1)) := Lib.hid fun q n ha => eqB_of h.names.1 ha h.ins.1 h.mems.1 h.conts.1 h.cross.1
  have HE := Lib.hid h.eqs.1
  have HF := Lib.hid (show FlatIs (w.alloc (.cells (fvs v) 29)) B v f from h.below ((Below.refl B w).alloc hB _)); clear h
  have HK := Lib.hid (Blk.new w 29 (fvs v))
  have HB0 := Lib.hid (show Below w.heap.size w (w.alloc (.cells (fvs v) 29)) from (Below.refl _ _).alloc (Nat.le_refl _) _)
  have HBB := Lib.hid hB; clear hB
  unfold maxLen at hm
  unfold flatV sl3
  go_enter Try.func43, Try.ntmps43
  go_wp2
  go_loopw [8] (fun t wr => ∃ k : Nat, k ≤ v.eqs.2.1 ∧ t = .int .i64 k ∧ Hid ((f.eqs.take k).all (eqB f) = true) ∧ Hid (Below (w.heap.size + 1) (w.alloc (.cells (fvs v) 29)) wr)) (fun t _ => v.eqs.2.1 - (intOf t).toNat)
  case atStart => exact ⟨0, Nat.zero_le _, rfl, Lib.hid rfl, Lib.hid (Below.refl _ _)⟩
  case round =>
    obtain ⟨k, hk, rfl, hz, hbr⟩ := hrel
    by_cases hlt : k < v.eqs.2.1
    · have hfb := HK.out.below hbr.out (Nat.lt_succ_self _)
      have his := HF.out.below (hbr.out.mono (Nat.le_succ_of_le HBB.out))
      obtain ⟨q, hq⟩ := his.eqs.ex hlt
      obtain ⟨b, off, ha, hbB, hat⟩ := his.eqs.at_ hq
      obtain ⟨a, m, d, hrow, hrm, hrd, e0, e1, e2, e3, e4, e5, e6, e7, e8, e9⟩ := hat.cells
      obtain ⟨f0, f1, f2, f3, f4, f5, f6, f7⟩ := hfb.flat
      have hgl : w.heap.size < wr.heap.size := hfb.lt
      have hbl : b < wr.heap.size := Nat.lt_of_lt_of_le hbB (Nat.le_trans HBB.out (Nat.le_of_lt hfb.lt))
      have hnew : Below wr.heap.size wr (wr.alloc (.cells (qvs q a m d) 77)) := (Below.refl _ _).alloc (Nat.le_refl _) _
      have HS := Lib.hid (show EqSt (w.alloc (.cells (fvs v) 29)) B w.heap.size wr.heap.size v f q a m d (wr.alloc (.cells (qvs q a m d) 77)) from ⟨hfb.later hnew, Blk.new _ _ _, his.below (hnew.mono (Nat.le_trans HBB.out (Nat.le_of_lt hfb.lt))), hrow.below (hnew.mono (Nat.le_trans HBB.out (Nat.le_of_lt hfb.lt))), hbr.out.trans (hnew.mono hfb.lt), HBB.out⟩)
      have HN := Lib.hid hrow.1
      have HQ1 := Lib.hid (HQ.out q a.2.1 hrow.1)
      have HX := Lib.hid hq
      have ha1 := hrow.len_le
      rw [ha]
      clear hfb his hat hrow hrm hrd hnew hq ha
      cases h1 : guB q.guard v.names.2.1 with
      | false =>
        have H1 := Lib.hid h1; clear h1
        go_wp2_with (first | (go_at_call 51; refine (isGuard_at q.guard v false _ H1.out).mono ?_; rintro e w1 ⟨rfl, hb⟩; replace HS := Lib.hid (HS.out.later hb); clear hb; obtain ⟨f0, f1, f2, f3, f4, f5, f6, f7⟩ := HS.out.fb.flat; obtain ⟨e0, e1, e2, e3, e4, e5, e6, e7, e8, e9⟩ := HS.out.qb.eq))
        go_ret
        exact ⟨ret_bool' (all_no HX.out (by rw [HQ1.out, H1.out]; simp)).symm, HB0.out.trans (HS.out.old.mono (Nat.le_succ _))⟩
      | true =>
        have H1 := Lib.hid h1; clear h1
        cases h2 : wiB q.args v.names.2.1 with
        | false =>
          have H2 := Lib.hid h2; clear h2
          go_wp2_with (first | (go_at_call 51; refine (isGuard_at q.guard v true _ H1.out).mono ?_; rintro e w1 ⟨rfl, hb⟩; replace HS := Lib.hid (HS.out.later hb); clear hb; obtain ⟨f0, f1, f2, f3, f4, f5, f6, f7⟩ := HS.out.fb.flat; obtain ⟨e0, e1, e2, e3, e4, e5, e6, e7, e8, e9⟩ := HS.out.qb.eq) | (go_at_call 52; refine (areVars_at a.1 a.2.1 a.2.2 B q.args v false _ HS.out.row HS.out.hB H2.out).mono ?_; rintro e w1 ⟨rfl, hb⟩; replace HS := Lib.hid (HS.out.later hb); clear hb; obtain ⟨f0, f1, f2, f3, f4, f5, f6, f7⟩ := HS.out.fb.flat; obtain ⟨e0, e1, e2, e3, e4, e5, e6, e7, e8, e9⟩ := HS.out.qb.eq))
          go_ret
          exact ⟨ret_bool' (all_no HX.out (by rw [HQ1.out, H1.out, H2.out]; simp)).symm, HB0.out.trans (HS.out.old.mono (Nat.le_succ _))⟩
        | true =>
          have H2 := Lib.hid h2; clear h2
          cases h3 : enB q.op a.2.1 with
          | false =>
            have H3 := Lib.hid h3; clear h3
            go_wp2_with (first | (go_at_call 51; refine (isGuard_at q.guard v true _ H1.out).mono ?_; rintro e w1 ⟨rfl, hb⟩; replace HS := Lib.hid (HS.out.later hb); clear hb; obtain ⟨f0, f1, f2, f3, f4, f5, f6, f7⟩ := HS.out.fb.flat; obtain ⟨e0, e1, e2, e3, e4, e5, e6, e7, e8, e9⟩ := HS.out.qb.eq) | (go_at_call 52; refine (areVars_at a.1 a.2.1 a.2.2 B q.args v true _ HS.out.row HS.out.hB H2.out).mono ?_; rintro e w1 ⟨rfl, hb⟩; replace HS := Lib.hid (HS.out.later hb); clear hb; obtain ⟨f0, f1, f2, f3, f4, f5, f6, f7⟩ := HS.out.fb.flat; obtain ⟨e0, e1, e2, e3, e4, e5, e6, e7, e8, e9⟩ := HS.out.qb.eq) | (go_at_call 53; refine (hasEnough_b q a m d false _ ha1 H3.out).mono ?_; rintro e w1 ⟨rfl, hb⟩; replace HS := Lib.hid (HS.out.later hb); clear hb; obtain ⟨f0, f1, f2, f3, f4, f5, f6, f7⟩ := HS.out.fb.flat; obtain ⟨e0, e1, e2, e3, e4, e5, e6, e7, e8, e9⟩ := HS.out.qb.eq))
            go_ret
            exact ⟨ret_bool' (all_no HX.out (by rw [HQ1.out, H1.out, H2.out, H3.out]; simp)).symm, HB0.out.trans (HS.out.old.mono (Nat.le_succ _))⟩
          | true =>
            have H3 := Lib.hid h3; clear h3
            cases h4 : kL q.op q.k v.ins.2.1 v.mems.2.1 v.conts.2.1 v.cross.2.1 with
            | false =>
              have H4 := Lib.hid h4; clear h4
              go_wp2_with (first | (go_at_call 51; refine (isGuard_at q.guard v true _ H1.out).mono ?_; rintro e w1 ⟨rfl, hb⟩; replace HS := Lib.hid (HS.out.later hb); clear hb; obtain ⟨f0, f1, f2, f3, f4, f5, f6, f7⟩ := HS.out.fb.flat; obtain ⟨e0, e1, e2, e3, e4, e5, e6, e7, e8, e9⟩ := HS.out.qb.eq) | (go_at_call 52; refine (areVars_at a.1 a.2.1 a.2.2 B q.args v true _ HS.out.row HS.out.hB H2.out).mono ?_; rintro e w1 ⟨rfl, hb⟩; replace HS := Lib.hid (HS.out.later hb); clear hb; obtain ⟨f0, f1, f2, f3, f4, f5, f6, f7⟩ := HS.out.fb.flat; obtain ⟨e0, e1, e2, e3, e4, e5, e6, e7, e8, e9⟩ := HS.out.qb.eq) | (go_at_call 53; refine (hasEnough_b q a m d true _ ha1 H3.out).mono ?_; rintro e w1 ⟨rfl, hb⟩; replace HS := Lib.hid (HS.out.later hb); clear hb; obtain ⟨f0, f1, f2, f3, f4, f5, f6, f7⟩ := HS.out.fb.flat; obtain ⟨e0, e1, e2, e3, e4, e5, e6, e7, e8, e9⟩ := HS.out.qb.eq) | (go_at_call 54; refine (hasPlace_b q a m d v false _ H4.out).mono ?_; rintro e w1 ⟨rfl, hb⟩; replace HS := Lib.hid (HS.out.later hb); clear hb; obtain ⟨f0, f1, f2, f3, f4, f5, f6, f7⟩ := HS.out.fb.flat; obtain ⟨e0, e1, e2, e3, e4, e5, e6, e7, e8, e9⟩ := HS.out.qb.eq))
              go_ret
              exact ⟨ret_bool' (all_no HX.out (by rw [HQ1.out, H1.out, H2.out, H3.out, H4.out]; simp)).symm, HB0.out.trans (HS.out.old.mono (Nat.le_succ _))⟩
            | true =>
              have H4 := Lib.hid h4; clear h4
              go_wp2_with (first | (go_at_call 51; refine (isGuard_at q.guard v true _ H1.out).mono ?_; rintro e w1 ⟨rfl, hb⟩; replace HS := Lib.hid (HS.out.later hb); clear hb; obtain ⟨f0, f1, f2, f3, f4, f5, f6, f7⟩ := HS.out.fb.flat; obtain ⟨e0, e1, e2, e3, e4, e5, e6, e7, e8, e9⟩ := HS.out.qb.eq) | (go_at_call 52; refine (areVars_at a.1 a.2.1 a.2.2 B q.args v true _ HS.out.row HS.out.hB H2.out).mono ?_; rintro e w1 ⟨rfl, hb⟩; replace HS := Lib.hid (HS.out.later hb); clear hb; obtain ⟨f0, f1, f2, f3, f4, f5, f6, f7⟩ := HS.out.fb.flat; obtain ⟨e0, e1, e2, e3, e4, e5, e6, e7, e8, e9⟩ := HS.out.qb.eq) | (go_at_call 53; refine (hasEnough_b q a m d true _ ha1 H3.out).mono ?_; rintro e w1 ⟨rfl, hb⟩; replace HS := Lib.hid (HS.out.later hb); clear hb; obtain ⟨f0, f1, f2, f3, f4, f5, f6, f7⟩ := HS.out.fb.flat; obtain ⟨e0, e1, e2, e3, e4, e5, e6, e7, e8, e9⟩ := HS.out.qb.eq) | (go_at_call 54; refine (hasPlace_b q a m d v true _ H4.out).mono ?_; rintro e w1 ⟨rfl, hb⟩; replace HS := Lib.hid (HS.out.later hb); clear hb; obtain ⟨f0, f1, f2, f3, f4, f5, f6, f7⟩ := HS.out.fb.flat; obtain ⟨e0, e1, e2, e3, e4, e5, e6, e7, e8, e9⟩ := HS.out.qb.eq))
              go_roundw
              case rel => exact ⟨k + 1, by omega, by go_num, Lib.hid (by rw [all_succ HX.out, HQ1.out, H1.out, H2.out, H3.out, H4.out]; exact (by simpa using hz.out)), Lib.hid HS.out.old⟩
              case measure => simp [intOf]; omega
    · go_wp2
      go_ret
      exact ⟨ret_bool' (all_end HE.out (by rw [show v.eqs.2.1 = k by omega]; exact hz.out)).symm, HB0.out.trans (hbr.out.mono (Nat.le_succ _))⟩

end Go.Proofs.Ytanbekbalfbkcaa
