/- What equation tells, of an equation that reads nothing. No condition but bounds. -/
import Derived.Test.YtanbekbalfbkcaaZCdAToCdD
import Derived.Deep.RegionHeld3
import Derived.Deep.DeepCutAuto
namespace Go.Proofs.Ytanbekbalfbkcaa
set_option linter.unusedVariables false
set_option linter.unusedSimpArgs false
set_option maxRecDepth 100000
open Go.RowKit

def insA (x : InsM) : Array Value := #[.string x.op, .int .i64 x.dst, .slice x.args.1 x.args.2.1 x.args.2.2, .int .i64 x.k, .int .i64 x.kind, .bool x.neg, .slice x.mag.1 x.mag.2.1 x.mag.2.2, .slice x.den.1 x.den.2.1 x.den.2.2, .string x.name, .int .i64 x.guard, .slice x.resets.1 x.resets.2.1 x.resets.2.2]
theorem insA_cs (x : InsM) : x.cs.toArray = insA x := rfl
theorem insV_A (x : InsM) : insV x = .agg (insA x) := rfl
theorem Blk.elev {w : World} {g T : Nat} {x0 x1 x2 x3 x4 x5 x6 x7 x8 x9 x10 : Value} (h : Blk w g T #[x0, x1, x2, x3, x4, x5, x6, x7, x8, x9, x10]) : w.cell? ⟨g, 0, none⟩ = some x0 ∧ w.cell? ⟨g, 1, none⟩ = some x1 ∧ w.cell? ⟨g, 2, none⟩ = some x2 ∧ w.cell? ⟨g, 3, none⟩ = some x3 ∧ w.cell? ⟨g, 4, none⟩ = some x4 ∧ w.cell? ⟨g, 5, none⟩ = some x5 ∧ w.cell? ⟨g, 6, none⟩ = some x6 ∧ w.cell? ⟨g, 7, none⟩ = some x7 ∧ w.cell? ⟨g, 8, none⟩ = some x8 ∧ w.cell? ⟨g, 9, none⟩ = some x9 ∧ w.cell? ⟨g, 10, none⟩ = some x10 :=
  ⟨h.cell 0 rfl, h.cell 1 rfl, h.cell 2 rfl, h.cell 3 rfl, h.cell 4 rfl, h.cell 5 rfl, h.cell 6 rfl, h.cell 7 rfl, h.cell 8 rfl, h.cell 9 rfl, h.cell 10 rfl⟩
theorem Blk.elevF {w : World} {g T : Nat} {vs : Array Value} (h : Blk w g T vs) : w.frozen? ⟨g, 0, none⟩ = false ∧ w.frozen? ⟨g, 1, none⟩ = false ∧ w.frozen? ⟨g, 2, none⟩ = false ∧ w.frozen? ⟨g, 3, none⟩ = false ∧ w.frozen? ⟨g, 4, none⟩ = false ∧ w.frozen? ⟨g, 5, none⟩ = false ∧ w.frozen? ⟨g, 6, none⟩ = false ∧ w.frozen? ⟨g, 7, none⟩ = false ∧ w.frozen? ⟨g, 8, none⟩ = false ∧ w.frozen? ⟨g, 9, none⟩ = false ∧ w.frozen? ⟨g, 10, none⟩ = false :=
  ⟨h.free 0, h.free 1, h.free 2, h.free 3, h.free 4, h.free 5, h.free 6, h.free 7, h.free 8, h.free 9, h.free 10⟩
theorem Blk.put11 {w : World} {g T : Nat} {x0 x1 x2 x3 x4 x5 x6 x7 x8 x9 x10 : Value} (h : Blk w g T #[x0, x1, x2, x3, x4, x5, x6, x7, x8, x9, x10]) (y0 y1 y2 y3 y4 y5 y6 y7 y8 y9 y10 : Value) : Blk (((((((((((w.setCell ⟨g, 0, none⟩ y0).setCell ⟨g, 1, none⟩ y1).setCell ⟨g, 2, none⟩ y2).setCell ⟨g, 3, none⟩ y3).setCell ⟨g, 4, none⟩ y4).setCell ⟨g, 5, none⟩ y5).setCell ⟨g, 6, none⟩ y6).setCell ⟨g, 7, none⟩ y7).setCell ⟨g, 8, none⟩ y8).setCell ⟨g, 9, none⟩ y9).setCell ⟨g, 10, none⟩ y10) g T #[y0, y1, y2, y3, y4, y5, y6, y7, y8, y9, y10] := by
  have h1 : Blk w g T [x0, x1, x2, x3, x4, x5, x6, x7, x8, x9, x10].toArray := h
  exact ((((((((((h1.put 0 y0).put 1 y1).put 2 y2).put 3 y3).put 4 y4).put 5 y5).put 6 y6).put 7 y7).put 8 y8).put 9 y9).put 10 y10
theorem Blk.putA {w : World} {g T : Nat} {vs : Array Value} (h : Blk w g T vs) (j : Nat) (u : Value) : Blk (w.setCell ⟨g, j, none⟩ u) g T (vs.setIfInBounds j u) := by
  have := heap_setCell_same w g j _ T u h
  unfold Blk
  rw [this]
theorem bs_toList (l : List UInt8) : (bs l).toList = l := by rw [Lib.toList_data]; rfl
theorem keepS3 {W w' : World} {C : Nat} {p0 p1 p2 : Addr} {x0 x1 x2 : Value} (h : W.cell? p0 = some x0 ∧ W.cell? p1 = some x1 ∧ W.cell? p2 = some x2) (hb : Below C W w') (h0 : p0.block < C) (h1 : p1.block < C) (h2 : p2.block < C) :
    w'.cell? p0 = some x0 ∧ w'.cell? p1 = some x1 ∧ w'.cell? p2 = some x2 :=
  ⟨(hb.cell h0).trans h.1, (hb.cell h1).trans h.2.1, (hb.cell h2).trans h.2.2⟩
theorem belowP11 {B : Nat} {a w : World} (h : Below B a w) {g : Nat} (hg : B ≤ g) (y0 y1 y2 y3 y4 y5 y6 y7 y8 y9 y10 : Value) : Below B a (((((((((((w.setCell ⟨g, 0, none⟩ y0).setCell ⟨g, 1, none⟩ y1).setCell ⟨g, 2, none⟩ y2).setCell ⟨g, 3, none⟩ y3).setCell ⟨g, 4, none⟩ y4).setCell ⟨g, 5, none⟩ y5).setCell ⟨g, 6, none⟩ y6).setCell ⟨g, 7, none⟩ y7).setCell ⟨g, 8, none⟩ y8).setCell ⟨g, 9, none⟩ y9).setCell ⟨g, 10, none⟩ y10) :=
  ((((((((((h.setCell (p := ⟨g, 0, none⟩) hg y0).setCell (p := ⟨g, 1, none⟩) hg y1).setCell (p := ⟨g, 2, none⟩) hg y2).setCell (p := ⟨g, 3, none⟩) hg y3).setCell (p := ⟨g, 4, none⟩) hg y4).setCell (p := ⟨g, 5, none⟩) hg y5).setCell (p := ⟨g, 6, none⟩) hg y6).setCell (p := ⟨g, 7, none⟩) hg y7).setCell (p := ⟨g, 8, none⟩) hg y8).setCell (p := ⟨g, 9, none⟩) hg y9).setCell (p := ⟨g, 10, none⟩) hg y10
theorem Try.infoInsS : (Try.prog.info? 54).map (·.size) = some 11 := by kernel_rfl
theorem keepS4 {W w' : World} {C : Nat} {p0 p1 p2 p3 : Addr} {x0 x1 x2 x3 : Value} (h : W.cell? p0 = some x0 ∧ W.cell? p1 = some x1 ∧ W.cell? p2 = some x2 ∧ W.cell? p3 = some x3) (hb : Below C W w') (h0 : p0.block < C) (h1 : p1.block < C) (h2 : p2.block < C) (h3 : p3.block < C) :
    w'.cell? p0 = some x0 ∧ w'.cell? p1 = some x1 ∧ w'.cell? p2 = some x2 ∧ w'.cell? p3 = some x3 :=
  ⟨(hb.cell h0).trans h.1, (hb.cell h1).trans h.2.1, (hb.cell h2).trans h.2.2.1, (hb.cell h3).trans h.2.2.2⟩
theorem keepP4 {W : World} {C e : Nat} {o0 o1 o2 o3 : Nat} {x0 x1 x2 x3 : Value} (h : W.cell? ⟨e, o0, none⟩ = some x0 ∧ W.cell? ⟨e, o1, none⟩ = some x1 ∧ W.cell? ⟨e, o2, none⟩ = some x2 ∧ W.cell? ⟨e, o3, none⟩ = some x3) (he : e < C) (y0 y1 y2 y3 y4 y5 y6 y7 y8 y9 y10 : Value) :
    (((((((((((W.setCell ⟨C, 0, none⟩ y0).setCell ⟨C, 1, none⟩ y1).setCell ⟨C, 2, none⟩ y2).setCell ⟨C, 3, none⟩ y3).setCell ⟨C, 4, none⟩ y4).setCell ⟨C, 5, none⟩ y5).setCell ⟨C, 6, none⟩ y6).setCell ⟨C, 7, none⟩ y7).setCell ⟨C, 8, none⟩ y8).setCell ⟨C, 9, none⟩ y9).setCell ⟨C, 10, none⟩ y10).cell? ⟨e, o0, none⟩ = some x0 ∧ (((((((((((W.setCell ⟨C, 0, none⟩ y0).setCell ⟨C, 1, none⟩ y1).setCell ⟨C, 2, none⟩ y2).setCell ⟨C, 3, none⟩ y3).setCell ⟨C, 4, none⟩ y4).setCell ⟨C, 5, none⟩ y5).setCell ⟨C, 6, none⟩ y6).setCell ⟨C, 7, none⟩ y7).setCell ⟨C, 8, none⟩ y8).setCell ⟨C, 9, none⟩ y9).setCell ⟨C, 10, none⟩ y10).cell? ⟨e, o1, none⟩ = some x1 ∧ (((((((((((W.setCell ⟨C, 0, none⟩ y0).setCell ⟨C, 1, none⟩ y1).setCell ⟨C, 2, none⟩ y2).setCell ⟨C, 3, none⟩ y3).setCell ⟨C, 4, none⟩ y4).setCell ⟨C, 5, none⟩ y5).setCell ⟨C, 6, none⟩ y6).setCell ⟨C, 7, none⟩ y7).setCell ⟨C, 8, none⟩ y8).setCell ⟨C, 9, none⟩ y9).setCell ⟨C, 10, none⟩ y10).cell? ⟨e, o2, none⟩ = some x2 ∧ (((((((((((W.setCell ⟨C, 0, none⟩ y0).setCell ⟨C, 1, none⟩ y1).setCell ⟨C, 2, none⟩ y2).setCell ⟨C, 3, none⟩ y3).setCell ⟨C, 4, none⟩ y4).setCell ⟨C, 5, none⟩ y5).setCell ⟨C, 6, none⟩ y6).setCell ⟨C, 7, none⟩ y7).setCell ⟨C, 8, none⟩ y8).setCell ⟨C, 9, none⟩ y9).setCell ⟨C, 10, none⟩ y10).cell? ⟨e, o3, none⟩ = some x3 := by
  have hb : Below C W (((((((((((W.setCell ⟨C, 0, none⟩ y0).setCell ⟨C, 1, none⟩ y1).setCell ⟨C, 2, none⟩ y2).setCell ⟨C, 3, none⟩ y3).setCell ⟨C, 4, none⟩ y4).setCell ⟨C, 5, none⟩ y5).setCell ⟨C, 6, none⟩ y6).setCell ⟨C, 7, none⟩ y7).setCell ⟨C, 8, none⟩ y8).setCell ⟨C, 9, none⟩ y9).setCell ⟨C, 10, none⟩ y10) := belowP11 (Below.refl C W) (Nat.le_refl C) y0 y1 y2 y3 y4 y5 y6 y7 y8 y9 y10
  exact keepS4 h hb he he he he
theorem keepA4 {W : World} {C e : Nat} {o0 o1 o2 o3 : Nat} {x0 x1 x2 x3 : Value} (h : W.cell? ⟨e, o0, none⟩ = some x0 ∧ W.cell? ⟨e, o1, none⟩ = some x1 ∧ W.cell? ⟨e, o2, none⟩ = some x2 ∧ W.cell? ⟨e, o3, none⟩ = some x3) (he : e < C) (hC : C ≤ W.heap.size) (o : Obj) :
    (W.alloc o).cell? ⟨e, o0, none⟩ = some x0 ∧ (W.alloc o).cell? ⟨e, o1, none⟩ = some x1 ∧ (W.alloc o).cell? ⟨e, o2, none⟩ = some x2 ∧ (W.alloc o).cell? ⟨e, o3, none⟩ = some x3 :=
  keepS4 h ((Below.refl C W).alloc hC o) he he he he
/-- what equation tells: an instruction of the equation's name, to the slot of its variable -/
def EqPost (ss : List Int) (q : FEqM) (w : World) (e : Ending) (w' : World) : Prop := (∃ x : InsM, e = .returned (insV x) ∧ x.op = q.op ∧ x.dst = slotS ss q.var) ∧ Below w.heap.size w w'
set_option maxHeartbeats 4000000 in
theorem eqn_else (g B : Nat) (v : FlatV) (f : FlatM) (A2 : Option Addr) (n2 c2 : Nat) (ss : List Int) (q : FEqM) (a m d : Option Addr × Nat × Nat) (w : World) (hk : Mk w B g v f A2 n2 c2 ss) (hrow : IRow w B a.1 a.2.1 a.2.2 q.args) (hm : URow w B m.1 m.2.1 m.2.2 q.lit.mag) (hd : URow w B d.1 d.2.1 d.2.2 q.lit.den)
    (hn : a.2.1 ≤ 1000000) (hv : q.var < (n2 : Int)) (hg : q.guard < (n2 : Int)) (hx : ∀ x ∈ q.args, x < (n2 : Int)) (h0 : ¬ q.op = bs [108, 105, 116]) (h1 : ¬ q.op = bs [105, 110]) (h2 : ¬ q.op = bs [102, 108, 97, 103]) (h3 : ¬ q.op = bs [109, 101, 109]) (h4 : ¬ q.op = bs [99, 111, 110, 116]) :
    Calls Try.prog 48 #[.pointer (some ⟨g, 0, none⟩), feqV q a m d] w (EqPost ss q w) := by
  obtain ⟨var, op, args, k, lit, guard⟩ := q
  obtain ⟨A, n, c⟩ := a
  simp only at hrow hm hd hn hv hg hx h0 h1 h2 h3 h4
  obtain ⟨W1, hW1⟩ : ∃ W1, W1 = (w.alloc (.cells (qvs ⟨var, op, args, k, lit, guard⟩ (A, n, c) m d) 77)).alloc (.cells #[.string ⟨#[]⟩, .int .i64 0, .slice none 0 0, .int .i64 0, .int .i64 0, .bool false, .slice none 0 0, .slice none 0 0, .string ⟨#[]⟩, .int .i64 0, .slice none 0 0] 54) := ⟨_, rfl⟩
  have hb1 : Below w.heap.size w W1 := by rw [hW1]; exact ((Below.refl _ _).alloc (Nat.le_refl _) _).alloc (by simp) _
  have hs1 : W1.heap.size = w.heap.size + 2 := by rw [hW1]; simp
  have HK := Lib.hid (show Blk W1 w.heap.size 77 (qvs ⟨var, op, args, k, lit, guard⟩ (A, n, c) m d) from by rw [hW1]; exact (Blk.new _ _ _).alloc _)
  have HZ := Lib.hid (show Blk W1 (w.heap.size + 1) 54 #[.string ⟨#[]⟩, .int .i64 0, .slice none 0 0, .int .i64 0, .int .i64 0, .bool false, .slice none 0 0, .slice none 0 0, .string ⟨#[]⟩, .int .i64 0, .slice none 0 0] from by rw [hW1]; have := Blk.new (w.alloc (.cells (qvs ⟨var, op, args, k, lit, guard⟩ (A, n, c) m d) 77)) 54 #[.string ⟨#[]⟩, .int .i64 0, .slice none 0 0, .int .i64 0, .int .i64 0, .bool false, .slice none 0 0, .slice none 0 0, .string ⟨#[]⟩, .int .i64 0, .slice none 0 0]; rw [size_alloc] at this; exact this)
  have HMK : Hid (∀ W, Below W1.heap.size W1 W → Mk W B g v f A2 n2 c2 ss) := Lib.hid fun W hb => hk.later (hb1.trans (hb.mono hb1.size))
  have HRW : Hid (∀ W, Below W1.heap.size W1 W → IRow W B A n c args) := Lib.hid fun W hb => hrow.below ((hb1.trans (hb.mono hb1.size)).mono hk.hB)
  have HBB := Lib.hid hk.hB
  have HB1 := Lib.hid hb1
  have HS1 := Lib.hid hs1
  have HX := Lib.hid hx
  have HLT : Hid (w.heap.size < W1.heap.size) := Lib.hid (by omega)
  have HUM : Hid (∀ W, Below W1.heap.size W1 W → URow W B m.1 m.2.1 m.2.2 lit.mag) := Lib.hid fun W hb => hm.keep fun p hp => (hb1.trans (hb.mono hb1.size)).cell (Nat.lt_of_lt_of_le hp hk.hB)
  have HUD : Hid (∀ W, Below W1.heap.size W1 W → URow W B d.1 d.2.1 d.2.2 lit.den) := Lib.hid fun W hb => hd.keep fun p hp => (hb1.trans (hb.mono hb1.size)).cell (Nat.lt_of_lt_of_le hp hk.hB)
  have g0 := str_no h0; have g1 := str_no h1; have g2 := str_no h2; have g3 := str_no h3; have g4 := str_no h4
  clear h0 h1 h2 h3 h4 hk hrow hm hd hb1 hs1 hx
  unfold qvs at hW1
  dsimp only at hW1
  unfold feqV sl3
  go_enter Try.func48, Try.ntmps48
  go_upto_region 1 with fail
  rw [← hW1]
  clear hW1
  have HB := Lib.hid (Below.refl W1.heap.size W1).drew
  have HBa := Lib.hid ((Below.refl W1.heap.size W1).alloc (Nat.le_refl _) (.cells #[.string ⟨#[]⟩, .int .i64 0, .slice none 0 0, .int .i64 0, .int .i64 0, .bool false, .slice none 0 0, .slice none 0 0, .string ⟨#[]⟩, .int .i64 0, .slice none 0 0] 54)).drew
  have HP : Hid (W1.drew.cell? ⟨w.heap.size, 0, none⟩ = some (.int .i64 var) ∧ W1.drew.cell? ⟨w.heap.size, 1, none⟩ = some (.string op) ∧ W1.drew.cell? ⟨w.heap.size, 2, none⟩ = some (.slice A n c) ∧ W1.drew.cell? ⟨w.heap.size, 9, none⟩ = some (.int .i64 guard)) := Lib.hid (by have h := (HK.out.later (Below.refl W1.heap.size W1).drew).eq; exact ⟨h.1, h.2.1, h.2.2.1, h.2.2.2.2.2.2.2.2.2⟩)
  have HPa : Hid (∀ o : Obj, (W1.alloc o).drew.cell? ⟨w.heap.size, 0, none⟩ = some (.int .i64 var) ∧ (W1.alloc o).drew.cell? ⟨w.heap.size, 1, none⟩ = some (.string op) ∧ (W1.alloc o).drew.cell? ⟨w.heap.size, 2, none⟩ = some (.slice A n c) ∧ (W1.alloc o).drew.cell? ⟨w.heap.size, 9, none⟩ = some (.int .i64 guard)) := Lib.hid (fun o => by have h := (HK.out.later ((Below.refl W1.heap.size W1).alloc (Nat.le_refl _) o).drew).eq; exact ⟨h.1, h.2.1, h.2.2.1, h.2.2.2.2.2.2.2.2.2⟩)
  have HSV := Lib.hid (fun W (hb : Below W1.heap.size W1 W) => slot_t g n2 c2 B A2 ss var W (HMK.out W hb).cells.2.2.2.2.2.2.2.2 (HMK.out W hb).row hv)
  have HSG := Lib.hid (fun W (hb : Below W1.heap.size W1 W) => slot_t g n2 c2 B A2 ss guard W (HMK.out W hb).cells.2.2.2.2.2.2.2.2 (HMK.out W hb).row hg)
  have HTU := Lib.hid (fun W (hb : Below W1.heap.size W1 W) => turnM_t g B v f A2 n2 c2 ss A n c args W (HMK.out W hb) (HRW.out W hb) (HMK.out W hb).hB hn HX.out)
  go_cut [5] (fun s5 wx => ∃ (g5 : Nat) (a4 : Option Addr) (n4 c4 : Nat), s5 = .pointer (some ⟨g5, 0, none⟩) ∧ Hid (W1.heap.size ≤ g5) ∧ Hid (Blk wx g5 54 #[.string op, .int .i64 (slotS ss var), .slice a4 n4 c4, .int .i64 0, .int .i64 0, .bool false, .slice none 0 0, .slice none 0 0, .string ⟨#[]⟩, .int .i64 (slotS ss guard), .slice none 0 0]) ∧ Hid (Below W1.heap.size W1 wx))
  case first =>
    go_region_held3 (fun w' => w'.cell? ⟨w.heap.size, 0, none⟩ = some (.int .i64 var) ∧ w'.cell? ⟨w.heap.size, 1, none⟩ = some (.string op) ∧ w'.cell? ⟨w.heap.size, 2, none⟩ = some (.slice A n c) ∧ w'.cell? ⟨w.heap.size, 9, none⟩ = some (.int .i64 guard)) (first | with_reducible exact HP.out | with_reducible exact HPa.out _ | with_reducible exact HPb.out _ _ _ _ _ _ _ _ _ _ _ | go_keep) (first
    | (go_at_call 39; first
        | ((with_reducible refine (HSV.out _ HB.out).mono ?_); rintro e w2 ⟨rfl, hw⟩; subst w2)
        | ((with_reducible refine (HSV.out _ HBa.out).mono ?_); rintro e w2 ⟨rfl, hw⟩; subst w2)
        | ((with_reducible refine (HSG.out _ HB.out).mono ?_); rintro e w2 ⟨rfl, hw⟩; subst w2)
        | ((with_reducible refine (HSG.out _ HBa.out).mono ?_); rintro e w2 ⟨rfl, hw⟩; subst w2))
    | (go_at_call 49; first
        | ((with_reducible refine (HTU.out _ HB.out).mono ?_); rintro e w3 ⟨v3, l3, rfl, hown, hl3, hb⟩; obtain ⟨a4, n4, c4, hv4⟩ := own_slice hown; subst hv4; skip; replace HB := Lib.hid (HB.out.trans (hb.mono HB.out.size)); replace HBa := Lib.hid (HB.out.alloc HB.out.size (.cells #[.string ⟨#[]⟩, .int .i64 0, .slice none 0 0, .int .i64 0, .int .i64 0, .bool false, .slice none 0 0, .slice none 0 0, .string ⟨#[]⟩, .int .i64 0, .slice none 0 0] 54)); replace HP := Lib.hid (show w3.cell? ⟨w.heap.size, 0, none⟩ = some (.int .i64 var) ∧ w3.cell? ⟨w.heap.size, 1, none⟩ = some (.string op) ∧ w3.cell? ⟨w.heap.size, 2, none⟩ = some (.slice A n c) ∧ w3.cell? ⟨w.heap.size, 9, none⟩ = some (.int .i64 guard) from by have h := (HK.out.later HB.out).eq; exact ⟨h.1, h.2.1, h.2.2.1, h.2.2.2.2.2.2.2.2.2⟩); replace HPa := Lib.hid (keepA4 HP.out HLT.out HB.out.size); have HPb := Lib.hid (keepP4 HP.out HLT.out); clear hown hb)
        | ((with_reducible refine (HTU.out _ HBa.out).mono ?_); rintro e w3 ⟨v3, l3, rfl, hown, hl3, hb⟩; obtain ⟨a4, n4, c4, hv4⟩ := own_slice hown; subst hv4; have HT : Hid (Blk w3 W1.heap.size 54 #[.string ⟨#[]⟩, .int .i64 0, .slice none 0 0, .int .i64 0, .int .i64 0, .bool false, .slice none 0 0, .slice none 0 0, .string ⟨#[]⟩, .int .i64 0, .slice none 0 0]) := Lib.hid ((show Blk (W1.alloc (.cells #[.string ⟨#[]⟩, .int .i64 0, .slice none 0 0, .int .i64 0, .int .i64 0, .bool false, .slice none 0 0, .slice none 0 0, .string ⟨#[]⟩, .int .i64 0, .slice none 0 0] 54)).drew W1.heap.size 54 #[.string ⟨#[]⟩, .int .i64 0, .slice none 0 0, .int .i64 0, .int .i64 0, .bool false, .slice none 0 0, .slice none 0 0, .string ⟨#[]⟩, .int .i64 0, .slice none 0 0] from Blk.new W1 54 #[.string ⟨#[]⟩, .int .i64 0, .slice none 0 0, .int .i64 0, .int .i64 0, .bool false, .slice none 0 0, .slice none 0 0, .string ⟨#[]⟩, .int .i64 0, .slice none 0 0]).later hb); obtain ⟨y0, y1, y2, y3, y4, y5, y6, y7, y8, y9, y10⟩ := HT.out.elev; obtain ⟨z0, z1, z2, z3, z4, z5, z6, z7, z8, z9, z10⟩ := HT.out.elevF; replace HB := Lib.hid (HBa.out.trans (hb.mono HBa.out.size)); replace HBa := Lib.hid (HB.out.alloc HB.out.size (.cells #[.string ⟨#[]⟩, .int .i64 0, .slice none 0 0, .int .i64 0, .int .i64 0, .bool false, .slice none 0 0, .slice none 0 0, .string ⟨#[]⟩, .int .i64 0, .slice none 0 0] 54)); replace HP := Lib.hid (show w3.cell? ⟨w.heap.size, 0, none⟩ = some (.int .i64 var) ∧ w3.cell? ⟨w.heap.size, 1, none⟩ = some (.string op) ∧ w3.cell? ⟨w.heap.size, 2, none⟩ = some (.slice A n c) ∧ w3.cell? ⟨w.heap.size, 9, none⟩ = some (.int .i64 guard) from by have h := (HK.out.later HB.out).eq; exact ⟨h.1, h.2.1, h.2.2.1, h.2.2.2.2.2.2.2.2.2⟩); replace HPa := Lib.hid (keepA4 HP.out HLT.out HB.out.size); have HPb := Lib.hid (keepP4 HP.out HLT.out); clear hown hb)))
    all_goals
      go_wp2_with fail
      go_meet
      case rel =>
        first
        | exact ⟨_, a4, n4, c4, rfl, Lib.hid HB.out.size, Lib.hid (Blk.new _ _ _), Lib.hid (HB.out.alloc HB.out.size _)⟩
        | exact ⟨_, a4, n4, c4, rfl, Lib.hid (Nat.le_refl _), Lib.hid (HT.out.put11 (.string op) (.int .i64 (slotS ss var)) (.slice a4 n4 c4) (.int .i64 0) (.int .i64 0) (.bool false) (.slice none 0 0) (.slice none 0 0) (.string ⟨#[]⟩) (.int .i64 (slotS ss guard)) (.slice none 0 0)), Lib.hid (belowP11 HB.out (Nat.le_refl _) (.string op) (.int .i64 (slotS ss var)) (.slice a4 n4 c4) (.int .i64 0) (.int .i64 0) (.bool false) (.slice none 0 0) (.slice none 0 0) (.string ⟨#[]⟩) (.int .i64 (slotS ss guard)) (.slice none 0 0))⟩
  case rest =>
    obtain ⟨g5, a4, n4, c4, rfl, HG5, HN, HB5⟩ := hcut
    obtain ⟨w5, rfl⟩ : ∃ w5 : World, w5 = wc := ⟨_, rfl⟩
    clear HSV HSG HTU HB HBa HP HPa
    obtain ⟨e0, e1, e2, e3, e4, e5, e6, e7, e8, e9⟩ := (HK.out.later HB5.out).eq
    obtain ⟨nc0, nc1, nc2, nc3, nc4, nc5, nc6, nc7, nc8, nc9, nc10⟩ := HN.out.elev
    obtain ⟨yc0, yc1, yc2, yc3, yc4, yc5, yc6, yc7, yc8, yc9, yc10⟩ := (HZ.out.later HB5.out).elev
    obtain ⟨zc0, zc1, zc2, zc3, zc4, zc5, zc6, zc7, zc8, zc9, zc10⟩ := (HZ.out.later HB5.out).elevF
    have HR := Lib.hid ((HZ.out.later HB5.out).put11 (.string op) (.int .i64 (slotS ss var)) (.slice a4 n4 c4) (.int .i64 0) (.int .i64 0) (.bool false) (.slice none 0 0) (.slice none 0 0) (.string ⟨#[]⟩) (.int .i64 (slotS ss guard)) (.slice none 0 0))
    have HOL := Lib.hid (belowP11 (HB1.out.trans (HB5.out.mono HB1.out.size)) (Nat.le_succ _) (.string op) (.int .i64 (slotS ss var)) (.slice a4 n4 c4) (.int .i64 0) (.int .i64 0) (.bool false) (.slice none 0 0) (.slice none 0 0) (.string ⟨#[]⟩) (.int .i64 (slotS ss guard)) (.slice none 0 0))
    go_wp2
    refine ret_row rfl (w.heap.size + 1) _ HR.out rfl rfl Try.underlying54 Try.infoInsS ?_
    exact ⟨⟨⟨op, slotS ss var, (a4, n4, c4), 0, 0, false, (none, 0, 0), (none, 0, 0), ⟨#[]⟩, slotS ss guard, (none, 0, 0)⟩, rfl, rfl, rfl⟩, HOL.out⟩

end Go.Proofs.Ytanbekbalfbkcaa
