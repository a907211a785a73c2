/- What equation tells, of one that reads: lit. No condition but bounds. · What equation tells, of one that reads: in. No condition but bounds. · What equation tells, of one that reads: flag. No condition but bounds. -/
import Derived.Test.YtanbekbalfbkcaaZCdE
import Derived.Deep.RegionHeld3
import Derived.Deep.DeepCutAuto
namespace Go.Proofs.Ytanbekbalfbkcaa
set_option linter.unusedVariables false
set_option linter.unusedSimpArgs false
set_option maxRecDepth 100000
open Go.RowKit

set_option maxHeartbeats 4000000 in
theorem eqn_lit (g B : Nat) (v : FlatV) (f : FlatM) (A2 : Option Addr) (n2 c2 : Nat) (ss : List Int) (q : FEqM) (a m d : Option Addr × Nat × Nat) (w : World) (hk : Mk w B g v f A2 n2 c2 ss) (hrow : IRow w B a.1 a.2.1 a.2.2 q.args) (hm : URow w B m.1 m.2.1 m.2.2 q.lit.mag) (hd : URow w B d.1 d.2.1 d.2.2 q.lit.den)
    (hn : a.2.1 ≤ 1000000) (hv : q.var < (n2 : Int)) (hg : q.guard < (n2 : Int)) (hx : ∀ x ∈ q.args, x < (n2 : Int)) (h0 : q.op = bs [108, 105, 116]) :
    Calls Try.prog 48 #[.pointer (some ⟨g, 0, none⟩), feqV q a m d] w (EqPost ss q w) := by
  obtain ⟨var, op, args, k, lit, guard⟩ := q
  obtain ⟨A, n, c⟩ := a
  simp only at hrow hm hd hn hv hg hx h0
  obtain ⟨W1, hW1⟩ : ∃ W1, W1 = (w.alloc (.cells (qvs ⟨var, op, args, k, lit, guard⟩ (A, n, c) m d) 77)).alloc (.cells #[.string ⟨#[]⟩, .int .i64 0, .slice none 0 0, .int .i64 0, .int .i64 0, .bool false, .slice none 0 0, .slice none 0 0, .string ⟨#[]⟩, .int .i64 0, .slice none 0 0] 54) := ⟨_, rfl⟩
  have hb1 : Below w.heap.size w W1 := by rw [hW1]; exact ((Below.refl _ _).alloc (Nat.le_refl _) _).alloc (by simp) _
  have hs1 : W1.heap.size = w.heap.size + 2 := by rw [hW1]; simp
  have HK := Lib.hid (show Blk W1 w.heap.size 77 (qvs ⟨var, op, args, k, lit, guard⟩ (A, n, c) m d) from by rw [hW1]; exact (Blk.new _ _ _).alloc _)
  have HZ := Lib.hid (show Blk W1 (w.heap.size + 1) 54 #[.string ⟨#[]⟩, .int .i64 0, .slice none 0 0, .int .i64 0, .int .i64 0, .bool false, .slice none 0 0, .slice none 0 0, .string ⟨#[]⟩, .int .i64 0, .slice none 0 0] from by rw [hW1]; have := Blk.new (w.alloc (.cells (qvs ⟨var, op, args, k, lit, guard⟩ (A, n, c) m d) 77)) 54 #[.string ⟨#[]⟩, .int .i64 0, .slice none 0 0, .int .i64 0, .int .i64 0, .bool false, .slice none 0 0, .slice none 0 0, .string ⟨#[]⟩, .int .i64 0, .slice none 0 0]; rw [size_alloc] at this; exact this)
  have HMK : Hid (∀ W, Below W1.heap.size W1 W → Mk W B g v f A2 n2 c2 ss) := Lib.hid fun W hb => hk.later (hb1.trans (hb.mono hb1.size))
  have HRW : Hid (∀ W, Below W1.heap.size W1 W → IRow W B A n c args) := Lib.hid fun W hb => hrow.below ((hb1.trans (hb.mono hb1.size)).mono hk.hB)
  have HBB := Lib.hid hk.hB
  have HB1 := Lib.hid hb1
  have HS1 := Lib.hid hs1
  have HX := Lib.hid hx
  have HLT : Hid (w.heap.size < W1.heap.size) := Lib.hid (by omega)
  have HUM : Hid (∀ W, Below W1.heap.size W1 W → URow W B m.1 m.2.1 m.2.2 lit.mag) := Lib.hid fun W hb => hm.keep fun p hp => (hb1.trans (hb.mono hb1.size)).cell (Nat.lt_of_lt_of_le hp hk.hB)
  have HUD : Hid (∀ W, Below W1.heap.size W1 W → URow W B d.1 d.2.1 d.2.2 lit.den) := Lib.hid fun W hb => hd.keep fun p hp => (hb1.trans (hb.mono hb1.size)).cell (Nat.lt_of_lt_of_le hp hk.hB)
  have g0 : (op.toList == [108, 105, 116]) = true := (by rw [h0, bs_toList]; try decide); have g1 : (op.toList == [105, 110]) = false := (by rw [h0, bs_toList]; try decide); have g2 : (op.toList == [102, 108, 97, 103]) = false := (by rw [h0, bs_toList]; try decide); have g3 : (op.toList == [109, 101, 109]) = false := (by rw [h0, bs_toList]; try decide); have g4 : (op.toList == [99, 111, 110, 116]) = false := (by rw [h0, bs_toList]; try decide)
  clear h0 hk hrow hm hd hb1 hs1 hx
  unfold qvs at hW1
  dsimp only at hW1
  unfold feqV sl3
  go_enter Try.func48, Try.ntmps48
  go_upto_region 1 with fail
  rw [← hW1]
  clear hW1
  have HB := Lib.hid (Below.refl W1.heap.size W1).drew
  have HBa := Lib.hid ((Below.refl W1.heap.size W1).alloc (Nat.le_refl _) (.cells #[.string ⟨#[]⟩, .int .i64 0, .slice none 0 0, .int .i64 0, .int .i64 0, .bool false, .slice none 0 0, .slice none 0 0, .string ⟨#[]⟩, .int .i64 0, .slice none 0 0] 54)).drew
  have HP : Hid (W1.drew.cell? ⟨w.heap.size, 0, none⟩ = some (.int .i64 var) ∧ W1.drew.cell? ⟨w.heap.size, 1, none⟩ = some (.string op) ∧ W1.drew.cell? ⟨w.heap.size, 2, none⟩ = some (.slice A n c) ∧ W1.drew.cell? ⟨w.heap.size, 9, none⟩ = some (.int .i64 guard)) := Lib.hid (by have h := (HK.out.later (Below.refl W1.heap.size W1).drew).eq; exact ⟨h.1, h.2.1, h.2.2.1, h.2.2.2.2.2.2.2.2.2⟩)
  have HPa : Hid (∀ o : Obj, (W1.alloc o).drew.cell? ⟨w.heap.size, 0, none⟩ = some (.int .i64 var) ∧ (W1.alloc o).drew.cell? ⟨w.heap.size, 1, none⟩ = some (.string op) ∧ (W1.alloc o).drew.cell? ⟨w.heap.size, 2, none⟩ = some (.slice A n c) ∧ (W1.alloc o).drew.cell? ⟨w.heap.size, 9, none⟩ = some (.int .i64 guard)) := Lib.hid (fun o => by have h := (HK.out.later ((Below.refl W1.heap.size W1).alloc (Nat.le_refl _) o).drew).eq; exact ⟨h.1, h.2.1, h.2.2.1, h.2.2.2.2.2.2.2.2.2⟩)
  have HSV := Lib.hid (fun W (hb : Below W1.heap.size W1 W) => slot_t g n2 c2 B A2 ss var W (HMK.out W hb).cells.2.2.2.2.2.2.2.2 (HMK.out W hb).row hv)
  have HSG := Lib.hid (fun W (hb : Below W1.heap.size W1 W) => slot_t g n2 c2 B A2 ss guard W (HMK.out W hb).cells.2.2.2.2.2.2.2.2 (HMK.out W hb).row hg)
  have HTU := Lib.hid (fun W (hb : Below W1.heap.size W1 W) => turnM_t g B v f A2 n2 c2 ss A n c args W (HMK.out W hb) (HRW.out W hb) (HMK.out W hb).hB hn HX.out)
  go_cut [5] (fun s5 wx => ∃ (g5 : Nat) (a4 : Option Addr) (n4 c4 : Nat), s5 = .pointer (some ⟨g5, 0, none⟩) ∧ Hid (W1.heap.size ≤ g5) ∧ Hid (Blk wx g5 54 #[.string op, .int .i64 (slotS ss var), .slice a4 n4 c4, .int .i64 0, .int .i64 0, .bool false, .slice none 0 0, .slice none 0 0, .string ⟨#[]⟩, .int .i64 (slotS ss guard), .slice none 0 0]) ∧ Hid (Below W1.heap.size W1 wx))
  case first =>
    go_region_held3 (fun w' => w'.cell? ⟨w.heap.size, 0, none⟩ = some (.int .i64 var) ∧ w'.cell? ⟨w.heap.size, 1, none⟩ = some (.string op) ∧ w'.cell? ⟨w.heap.size, 2, none⟩ = some (.slice A n c) ∧ w'.cell? ⟨w.heap.size, 9, none⟩ = some (.int .i64 guard)) (first | with_reducible exact HP.out | with_reducible exact HPa.out _ | with_reducible exact HPb.out _ _ _ _ _ _ _ _ _ _ _ | go_keep) (first
    | (go_at_call 39; first
        | ((with_reducible refine (HSV.out _ HB.out).mono ?_); rintro e w2 ⟨rfl, hw⟩; subst w2)
        | ((with_reducible refine (HSV.out _ HBa.out).mono ?_); rintro e w2 ⟨rfl, hw⟩; subst w2)
        | ((with_reducible refine (HSG.out _ HB.out).mono ?_); rintro e w2 ⟨rfl, hw⟩; subst w2)
        | ((with_reducible refine (HSG.out _ HBa.out).mono ?_); rintro e w2 ⟨rfl, hw⟩; subst w2))
    | (go_at_call 49; first
        | ((with_reducible refine (HTU.out _ HB.out).mono ?_); rintro e w3 ⟨v3, l3, rfl, hown, hl3, hb⟩; obtain ⟨a4, n4, c4, hv4⟩ := own_slice hown; subst hv4; skip; replace HB := Lib.hid (HB.out.trans (hb.mono HB.out.size)); replace HBa := Lib.hid (HB.out.alloc HB.out.size (.cells #[.string ⟨#[]⟩, .int .i64 0, .slice none 0 0, .int .i64 0, .int .i64 0, .bool false, .slice none 0 0, .slice none 0 0, .string ⟨#[]⟩, .int .i64 0, .slice none 0 0] 54)); replace HP := Lib.hid (show w3.cell? ⟨w.heap.size, 0, none⟩ = some (.int .i64 var) ∧ w3.cell? ⟨w.heap.size, 1, none⟩ = some (.string op) ∧ w3.cell? ⟨w.heap.size, 2, none⟩ = some (.slice A n c) ∧ w3.cell? ⟨w.heap.size, 9, none⟩ = some (.int .i64 guard) from by have h := (HK.out.later HB.out).eq; exact ⟨h.1, h.2.1, h.2.2.1, h.2.2.2.2.2.2.2.2.2⟩); replace HPa := Lib.hid (keepA4 HP.out HLT.out HB.out.size); have HPb := Lib.hid (keepP4 HP.out HLT.out); clear hown hb)
        | ((with_reducible refine (HTU.out _ HBa.out).mono ?_); rintro e w3 ⟨v3, l3, rfl, hown, hl3, hb⟩; obtain ⟨a4, n4, c4, hv4⟩ := own_slice hown; subst hv4; have HT : Hid (Blk w3 W1.heap.size 54 #[.string ⟨#[]⟩, .int .i64 0, .slice none 0 0, .int .i64 0, .int .i64 0, .bool false, .slice none 0 0, .slice none 0 0, .string ⟨#[]⟩, .int .i64 0, .slice none 0 0]) := Lib.hid ((show Blk (W1.alloc (.cells #[.string ⟨#[]⟩, .int .i64 0, .slice none 0 0, .int .i64 0, .int .i64 0, .bool false, .slice none 0 0, .slice none 0 0, .string ⟨#[]⟩, .int .i64 0, .slice none 0 0] 54)).drew W1.heap.size 54 #[.string ⟨#[]⟩, .int .i64 0, .slice none 0 0, .int .i64 0, .int .i64 0, .bool false, .slice none 0 0, .slice none 0 0, .string ⟨#[]⟩, .int .i64 0, .slice none 0 0] from Blk.new W1 54 #[.string ⟨#[]⟩, .int .i64 0, .slice none 0 0, .int .i64 0, .int .i64 0, .bool false, .slice none 0 0, .slice none 0 0, .string ⟨#[]⟩, .int .i64 0, .slice none 0 0]).later hb); obtain ⟨y0, y1, y2, y3, y4, y5, y6, y7, y8, y9, y10⟩ := HT.out.elev; obtain ⟨z0, z1, z2, z3, z4, z5, z6, z7, z8, z9, z10⟩ := HT.out.elevF; replace HB := Lib.hid (HBa.out.trans (hb.mono HBa.out.size)); replace HBa := Lib.hid (HB.out.alloc HB.out.size (.cells #[.string ⟨#[]⟩, .int .i64 0, .slice none 0 0, .int .i64 0, .int .i64 0, .bool false, .slice none 0 0, .slice none 0 0, .string ⟨#[]⟩, .int .i64 0, .slice none 0 0] 54)); replace HP := Lib.hid (show w3.cell? ⟨w.heap.size, 0, none⟩ = some (.int .i64 var) ∧ w3.cell? ⟨w.heap.size, 1, none⟩ = some (.string op) ∧ w3.cell? ⟨w.heap.size, 2, none⟩ = some (.slice A n c) ∧ w3.cell? ⟨w.heap.size, 9, none⟩ = some (.int .i64 guard) from by have h := (HK.out.later HB.out).eq; exact ⟨h.1, h.2.1, h.2.2.1, h.2.2.2.2.2.2.2.2.2⟩); replace HPa := Lib.hid (keepA4 HP.out HLT.out HB.out.size); have HPb := Lib.hid (keepP4 HP.out HLT.out); clear hown hb)))
    all_goals
      go_wp2_with fail
      go_meet
      case rel =>
        first
        | exact ⟨_, a4, n4, c4, rfl, Lib.hid HB.out.size, Lib.hid (Blk.new _ _ _), Lib.hid (HB.out.alloc HB.out.size _)⟩
        | exact ⟨_, a4, n4, c4, rfl, Lib.hid (Nat.le_refl _), Lib.hid (HT.out.put11 (.string op) (.int .i64 (slotS ss var)) (.slice a4 n4 c4) (.int .i64 0) (.int .i64 0) (.bool false) (.slice none 0 0) (.slice none 0 0) (.string ⟨#[]⟩) (.int .i64 (slotS ss guard)) (.slice none 0 0)), Lib.hid (belowP11 HB.out (Nat.le_refl _) (.string op) (.int .i64 (slotS ss var)) (.slice a4 n4 c4) (.int .i64 0) (.int .i64 0) (.bool false) (.slice none 0 0) (.slice none 0 0) (.string ⟨#[]⟩) (.int .i64 (slotS ss guard)) (.slice none 0 0))⟩
  case rest =>
    obtain ⟨g5, a4, n4, c4, rfl, HG5, HN, HB5⟩ := hcut
    obtain ⟨w5, rfl⟩ : ∃ w5 : World, w5 = wc := ⟨_, rfl⟩
    clear HSV HSG HTU HB HBa HP HPa
    obtain ⟨e0, e1, e2, e3, e4, e5, e6, e7, e8, e9⟩ := (HK.out.later HB5.out).eq
    have HCP := Lib.hid (show Calls Try.prog 16 #[.agg #[.int .i64 lit.kind, .bool lit.neg, .slice m.1 m.2.1 m.2.2, .slice d.1 d.2.1 d.2.2, .string lit.name]] w5 fun e w' => (∃ m6 d6 : Option Addr × Nat × Nat, e = .returned (.agg #[.int .i64 lit.kind, .bool lit.neg, .slice m6.1 m6.2.1 m6.2.2, .slice d6.1 d6.2.1 d6.2.2, .string lit.name])) ∧ Below w5.heap.size w5 w' from copied_t lit.kind lit.neg m d lit.name B lit.mag lit.den w5 (HUM.out w5 HB5.out) (HUD.out w5 HB5.out) (HMK.out w5 HB5.out).hB)
    go_upto_region 12 with (go_at_call 16; (with_reducible refine HCP.out.mono ?_); rintro e w6 ⟨⟨m6, d6, rfl⟩, hb6⟩; have HN6 := Lib.hid (HN.out.later hb6); have HB6 := Lib.hid (HB5.out.trans (hb6.mono HB5.out.size)); clear hb6 e0 e1 e2 e3 e4 e5 e6 e7 e8 e9; obtain ⟨nc0, nc1, nc2, nc3, nc4, nc5, nc6, nc7, nc8, nc9, nc10⟩ := HN6.out.elev; obtain ⟨nf0, nf1, nf2, nf3, nf4, nf5, nf6, nf7, nf8, nf9, nf10⟩ := HN6.out.elevF; obtain ⟨w7, hw7⟩ : ∃ w7, w7 = ((((w6.setCell ⟨g5, 4, none⟩ (.int .i64 lit.kind)).setCell ⟨g5, 5, none⟩ (.bool lit.neg)).setCell ⟨g5, 6, none⟩ (.slice m6.1 m6.2.1 m6.2.2)).setCell ⟨g5, 7, none⟩ (.slice d6.1 d6.2.1 d6.2.2)).setCell ⟨g5, 8, none⟩ (.string lit.name) := ⟨_, rfl⟩; have HN7 : Hid (Blk w7 g5 54 #[.string op, .int .i64 (slotS ss var), .slice a4 n4 c4, .int .i64 0, .int .i64 lit.kind, .bool lit.neg, .slice m6.1 m6.2.1 m6.2.2, .slice d6.1 d6.2.1 d6.2.2, .string lit.name, .int .i64 (slotS ss guard), .slice none 0 0]) := Lib.hid (by rw [hw7]; exact ((((HN6.out.putA 4 _).putA 5 _).putA 6 _).putA 7 _).putA 8 _); have HB7 : Hid (Below W1.heap.size W1 w7) := Lib.hid (by rw [hw7]; exact ((((HB6.out.setCell (p := ⟨g5, 4, none⟩) HG5.out _).setCell (p := ⟨g5, 5, none⟩) HG5.out _).setCell (p := ⟨g5, 6, none⟩) HG5.out _).setCell (p := ⟨g5, 7, none⟩) HG5.out _).setCell (p := ⟨g5, 8, none⟩) HG5.out _))
    rw [← hw7]
    clear hw7 nc0 nc1 nc2 nc3 nc4 nc5 nc6 nc7 nc8 nc9 nc10 nf0 nf1 nf2 nf3 nf4 nf5 nf6 nf7 nf8 nf9 nf10
    obtain ⟨nc0, nc1, nc2, nc3, nc4, nc5, nc6, nc7, nc8, nc9, nc10⟩ := HN7.out.elev
    obtain ⟨yc0, yc1, yc2, yc3, yc4, yc5, yc6, yc7, yc8, yc9, yc10⟩ := (HZ.out.later HB7.out).elev
    obtain ⟨zc0, zc1, zc2, zc3, zc4, zc5, zc6, zc7, zc8, zc9, zc10⟩ := (HZ.out.later HB7.out).elevF
    have HR := Lib.hid ((HZ.out.later HB7.out).put11 (.string op) (.int .i64 (slotS ss var)) (.slice a4 n4 c4) (.int .i64 0) (.int .i64 lit.kind) (.bool lit.neg) (.slice m6.1 m6.2.1 m6.2.2) (.slice d6.1 d6.2.1 d6.2.2) (.string lit.name) (.int .i64 (slotS ss guard)) (.slice none 0 0))
    have HOL := Lib.hid (belowP11 (HB1.out.trans (HB7.out.mono HB1.out.size)) (Nat.le_succ _) (.string op) (.int .i64 (slotS ss var)) (.slice a4 n4 c4) (.int .i64 0) (.int .i64 lit.kind) (.bool lit.neg) (.slice m6.1 m6.2.1 m6.2.2) (.slice d6.1 d6.2.1 d6.2.2) (.string lit.name) (.int .i64 (slotS ss guard)) (.slice none 0 0))
    go_wp2
    refine ret_row rfl (w.heap.size + 1) _ HR.out rfl rfl Try.underlying54 Try.infoInsS ?_
    exact ⟨⟨⟨op, slotS ss var, (a4, n4, c4), 0, lit.kind, lit.neg, m6, d6, lit.name, slotS ss guard, (none, 0, 0)⟩, rfl, rfl, rfl⟩, HOL.out⟩

end Go.Proofs.Ytanbekbalfbkcaa

namespace Go.Proofs.Ytanbekbalfbkcaa
set_option linter.unusedVariables false
set_option linter.unusedSimpArgs false
set_option maxRecDepth 100000
open Go.RowKit

set_option maxHeartbeats 4000000 in
theorem eqn_in (g B : Nat) (v : FlatV) (f : FlatM) (A2 : Option Addr) (n2 c2 : Nat) (ss : List Int) (q : FEqM) (a m d : Option Addr × Nat × Nat) (w : World) (hk : Mk w B g v f A2 n2 c2 ss) (hrow : IRow w B a.1 a.2.1 a.2.2 q.args) (hm : URow w B m.1 m.2.1 m.2.2 q.lit.mag) (hd : URow w B d.1 d.2.1 d.2.2 q.lit.den)
    (hn : a.2.1 ≤ 1000000) (hv : q.var < (n2 : Int)) (hg : q.guard < (n2 : Int)) (hx : ∀ x ∈ q.args, x < (n2 : Int)) (h0 : q.op = bs [105, 110]) :
    Calls Try.prog 48 #[.pointer (some ⟨g, 0, none⟩), feqV q a m d] w (EqPost ss q w) := by
  obtain ⟨var, op, args, k, lit, guard⟩ := q
  obtain ⟨A, n, c⟩ := a
  simp only at hrow hm hd hn hv hg hx h0
  obtain ⟨W1, hW1⟩ : ∃ W1, W1 = (w.alloc (.cells (qvs ⟨var, op, args, k, lit, guard⟩ (A, n, c) m d) 77)).alloc (.cells #[.string ⟨#[]⟩, .int .i64 0, .slice none 0 0, .int .i64 0, .int .i64 0, .bool false, .slice none 0 0, .slice none 0 0, .string ⟨#[]⟩, .int .i64 0, .slice none 0 0] 54) := ⟨_, rfl⟩
  have hb1 : Below w.heap.size w W1 := by rw [hW1]; exact ((Below.refl _ _).alloc (Nat.le_refl _) _).alloc (by simp) _
  have hs1 : W1.heap.size = w.heap.size + 2 := by rw [hW1]; simp
  have HK := Lib.hid (show Blk W1 w.heap.size 77 (qvs ⟨var, op, args, k, lit, guard⟩ (A, n, c) m d) from by rw [hW1]; exact (Blk.new _ _ _).alloc _)
  have HZ := Lib.hid (show Blk W1 (w.heap.size + 1) 54 #[.string ⟨#[]⟩, .int .i64 0, .slice none 0 0, .int .i64 0, .int .i64 0, .bool false, .slice none 0 0, .slice none 0 0, .string ⟨#[]⟩, .int .i64 0, .slice none 0 0] from by rw [hW1]; have := Blk.new (w.alloc (.cells (qvs ⟨var, op, args, k, lit, guard⟩ (A, n, c) m d) 77)) 54 #[.string ⟨#[]⟩, .int .i64 0, .slice none 0 0, .int .i64 0, .int .i64 0, .bool false, .slice none 0 0, .slice none 0 0, .string ⟨#[]⟩, .int .i64 0, .slice none 0 0]; rw [size_alloc] at this; exact this)
  have HMK : Hid (∀ W, Below W1.heap.size W1 W → Mk W B g v f A2 n2 c2 ss) := Lib.hid fun W hb => hk.later (hb1.trans (hb.mono hb1.size))
  have HRW : Hid (∀ W, Below W1.heap.size W1 W → IRow W B A n c args) := Lib.hid fun W hb => hrow.below ((hb1.trans (hb.mono hb1.size)).mono hk.hB)
  have HBB := Lib.hid hk.hB
  have HB1 := Lib.hid hb1
  have HS1 := Lib.hid hs1
  have HX := Lib.hid hx
  have HLT : Hid (w.heap.size < W1.heap.size) := Lib.hid (by omega)
  have HUM : Hid (∀ W, Below W1.heap.size W1 W → URow W B m.1 m.2.1 m.2.2 lit.mag) := Lib.hid fun W hb => hm.keep fun p hp => (hb1.trans (hb.mono hb1.size)).cell (Nat.lt_of_lt_of_le hp hk.hB)
  have HUD : Hid (∀ W, Below W1.heap.size W1 W → URow W B d.1 d.2.1 d.2.2 lit.den) := Lib.hid fun W hb => hd.keep fun p hp => (hb1.trans (hb.mono hb1.size)).cell (Nat.lt_of_lt_of_le hp hk.hB)
  have g0 : (op.toList == [108, 105, 116]) = false := (by rw [h0, bs_toList]; try decide); have g1 : (op.toList == [105, 110]) = true := (by rw [h0, bs_toList]; try decide); have g2 : (op.toList == [102, 108, 97, 103]) = false := (by rw [h0, bs_toList]; try decide); have g3 : (op.toList == [109, 101, 109]) = false := (by rw [h0, bs_toList]; try decide); have g4 : (op.toList == [99, 111, 110, 116]) = false := (by rw [h0, bs_toList]; try decide)
  clear h0 hk hrow hm hd hb1 hs1 hx
  unfold qvs at hW1
  dsimp only at hW1
  unfold feqV sl3
  go_enter Try.func48, Try.ntmps48
  go_upto_region 1 with fail
  rw [← hW1]
  clear hW1
  have HB := Lib.hid (Below.refl W1.heap.size W1).drew
  have HBa := Lib.hid ((Below.refl W1.heap.size W1).alloc (Nat.le_refl _) (.cells #[.string ⟨#[]⟩, .int .i64 0, .slice none 0 0, .int .i64 0, .int .i64 0, .bool false, .slice none 0 0, .slice none 0 0, .string ⟨#[]⟩, .int .i64 0, .slice none 0 0] 54)).drew
  have HP : Hid (W1.drew.cell? ⟨w.heap.size, 0, none⟩ = some (.int .i64 var) ∧ W1.drew.cell? ⟨w.heap.size, 1, none⟩ = some (.string op) ∧ W1.drew.cell? ⟨w.heap.size, 2, none⟩ = some (.slice A n c) ∧ W1.drew.cell? ⟨w.heap.size, 9, none⟩ = some (.int .i64 guard)) := Lib.hid (by have h := (HK.out.later (Below.refl W1.heap.size W1).drew).eq; exact ⟨h.1, h.2.1, h.2.2.1, h.2.2.2.2.2.2.2.2.2⟩)
  have HPa : Hid (∀ o : Obj, (W1.alloc o).drew.cell? ⟨w.heap.size, 0, none⟩ = some (.int .i64 var) ∧ (W1.alloc o).drew.cell? ⟨w.heap.size, 1, none⟩ = some (.string op) ∧ (W1.alloc o).drew.cell? ⟨w.heap.size, 2, none⟩ = some (.slice A n c) ∧ (W1.alloc o).drew.cell? ⟨w.heap.size, 9, none⟩ = some (.int .i64 guard)) := Lib.hid (fun o => by have h := (HK.out.later ((Below.refl W1.heap.size W1).alloc (Nat.le_refl _) o).drew).eq; exact ⟨h.1, h.2.1, h.2.2.1, h.2.2.2.2.2.2.2.2.2⟩)
  have HSV := Lib.hid (fun W (hb : Below W1.heap.size W1 W) => slot_t g n2 c2 B A2 ss var W (HMK.out W hb).cells.2.2.2.2.2.2.2.2 (HMK.out W hb).row hv)
  have HSG := Lib.hid (fun W (hb : Below W1.heap.size W1 W) => slot_t g n2 c2 B A2 ss guard W (HMK.out W hb).cells.2.2.2.2.2.2.2.2 (HMK.out W hb).row hg)
  have HTU := Lib.hid (fun W (hb : Below W1.heap.size W1 W) => turnM_t g B v f A2 n2 c2 ss A n c args W (HMK.out W hb) (HRW.out W hb) (HMK.out W hb).hB hn HX.out)
  go_cut [5] (fun s5 wx => ∃ (g5 : Nat) (a4 : Option Addr) (n4 c4 : Nat), s5 = .pointer (some ⟨g5, 0, none⟩) ∧ Hid (W1.heap.size ≤ g5) ∧ Hid (Blk wx g5 54 #[.string op, .int .i64 (slotS ss var), .slice a4 n4 c4, .int .i64 0, .int .i64 0, .bool false, .slice none 0 0, .slice none 0 0, .string ⟨#[]⟩, .int .i64 (slotS ss guard), .slice none 0 0]) ∧ Hid (Below W1.heap.size W1 wx))
  case first =>
    go_region_held3 (fun w' => w'.cell? ⟨w.heap.size, 0, none⟩ = some (.int .i64 var) ∧ w'.cell? ⟨w.heap.size, 1, none⟩ = some (.string op) ∧ w'.cell? ⟨w.heap.size, 2, none⟩ = some (.slice A n c) ∧ w'.cell? ⟨w.heap.size, 9, none⟩ = some (.int .i64 guard)) (first | with_reducible exact HP.out | with_reducible exact HPa.out _ | with_reducible exact HPb.out _ _ _ _ _ _ _ _ _ _ _ | go_keep) (first
    | (go_at_call 39; first
        | ((with_reducible refine (HSV.out _ HB.out).mono ?_); rintro e w2 ⟨rfl, hw⟩; subst w2)
        | ((with_reducible refine (HSV.out _ HBa.out).mono ?_); rintro e w2 ⟨rfl, hw⟩; subst w2)
        | ((with_reducible refine (HSG.out _ HB.out).mono ?_); rintro e w2 ⟨rfl, hw⟩; subst w2)
        | ((with_reducible refine (HSG.out _ HBa.out).mono ?_); rintro e w2 ⟨rfl, hw⟩; subst w2))
    | (go_at_call 49; first
        | ((with_reducible refine (HTU.out _ HB.out).mono ?_); rintro e w3 ⟨v3, l3, rfl, hown, hl3, hb⟩; obtain ⟨a4, n4, c4, hv4⟩ := own_slice hown; subst hv4; skip; replace HB := Lib.hid (HB.out.trans (hb.mono HB.out.size)); replace HBa := Lib.hid (HB.out.alloc HB.out.size (.cells #[.string ⟨#[]⟩, .int .i64 0, .slice none 0 0, .int .i64 0, .int .i64 0, .bool false, .slice none 0 0, .slice none 0 0, .string ⟨#[]⟩, .int .i64 0, .slice none 0 0] 54)); replace HP := Lib.hid (show w3.cell? ⟨w.heap.size, 0, none⟩ = some (.int .i64 var) ∧ w3.cell? ⟨w.heap.size, 1, none⟩ = some (.string op) ∧ w3.cell? ⟨w.heap.size, 2, none⟩ = some (.slice A n c) ∧ w3.cell? ⟨w.heap.size, 9, none⟩ = some (.int .i64 guard) from by have h := (HK.out.later HB.out).eq; exact ⟨h.1, h.2.1, h.2.2.1, h.2.2.2.2.2.2.2.2.2⟩); replace HPa := Lib.hid (keepA4 HP.out HLT.out HB.out.size); have HPb := Lib.hid (keepP4 HP.out HLT.out); clear hown hb)
        | ((with_reducible refine (HTU.out _ HBa.out).mono ?_); rintro e w3 ⟨v3, l3, rfl, hown, hl3, hb⟩; obtain ⟨a4, n4, c4, hv4⟩ := own_slice hown; subst hv4; have HT : Hid (Blk w3 W1.heap.size 54 #[.string ⟨#[]⟩, .int .i64 0, .slice none 0 0, .int .i64 0, .int .i64 0, .bool false, .slice none 0 0, .slice none 0 0, .string ⟨#[]⟩, .int .i64 0, .slice none 0 0]) := Lib.hid ((show Blk (W1.alloc (.cells #[.string ⟨#[]⟩, .int .i64 0, .slice none 0 0, .int .i64 0, .int .i64 0, .bool false, .slice none 0 0, .slice none 0 0, .string ⟨#[]⟩, .int .i64 0, .slice none 0 0] 54)).drew W1.heap.size 54 #[.string ⟨#[]⟩, .int .i64 0, .slice none 0 0, .int .i64 0, .int .i64 0, .bool false, .slice none 0 0, .slice none 0 0, .string ⟨#[]⟩, .int .i64 0, .slice none 0 0] from Blk.new W1 54 #[.string ⟨#[]⟩, .int .i64 0, .slice none 0 0, .int .i64 0, .int .i64 0, .bool false, .slice none 0 0, .slice none 0 0, .string ⟨#[]⟩, .int .i64 0, .slice none 0 0]).later hb); obtain ⟨y0, y1, y2, y3, y4, y5, y6, y7, y8, y9, y10⟩ := HT.out.elev; obtain ⟨z0, z1, z2, z3, z4, z5, z6, z7, z8, z9, z10⟩ := HT.out.elevF; replace HB := Lib.hid (HBa.out.trans (hb.mono HBa.out.size)); replace HBa := Lib.hid (HB.out.alloc HB.out.size (.cells #[.string ⟨#[]⟩, .int .i64 0, .slice none 0 0, .int .i64 0, .int .i64 0, .bool false, .slice none 0 0, .slice none 0 0, .string ⟨#[]⟩, .int .i64 0, .slice none 0 0] 54)); replace HP := Lib.hid (show w3.cell? ⟨w.heap.size, 0, none⟩ = some (.int .i64 var) ∧ w3.cell? ⟨w.heap.size, 1, none⟩ = some (.string op) ∧ w3.cell? ⟨w.heap.size, 2, none⟩ = some (.slice A n c) ∧ w3.cell? ⟨w.heap.size, 9, none⟩ = some (.int .i64 guard) from by have h := (HK.out.later HB.out).eq; exact ⟨h.1, h.2.1, h.2.2.1, h.2.2.2.2.2.2.2.2.2⟩); replace HPa := Lib.hid (keepA4 HP.out HLT.out HB.out.size); have HPb := Lib.hid (keepP4 HP.out HLT.out); clear hown hb)))
    all_goals
      go_wp2_with fail
      go_meet
      case rel =>
        first
        | exact ⟨_, a4, n4, c4, rfl, Lib.hid HB.out.size, Lib.hid (Blk.new _ _ _), Lib.hid (HB.out.alloc HB.out.size _)⟩
        | exact ⟨_, a4, n4, c4, rfl, Lib.hid (Nat.le_refl _), Lib.hid (HT.out.put11 (.string op) (.int .i64 (slotS ss var)) (.slice a4 n4 c4) (.int .i64 0) (.int .i64 0) (.bool false) (.slice none 0 0) (.slice none 0 0) (.string ⟨#[]⟩) (.int .i64 (slotS ss guard)) (.slice none 0 0)), Lib.hid (belowP11 HB.out (Nat.le_refl _) (.string op) (.int .i64 (slotS ss var)) (.slice a4 n4 c4) (.int .i64 0) (.int .i64 0) (.bool false) (.slice none 0 0) (.slice none 0 0) (.string ⟨#[]⟩) (.int .i64 (slotS ss guard)) (.slice none 0 0))⟩
  case rest =>
    obtain ⟨g5, a4, n4, c4, rfl, HG5, HN, HB5⟩ := hcut
    obtain ⟨w5, rfl⟩ : ∃ w5 : World, w5 = wc := ⟨_, rfl⟩
    clear HSV HSG HTU HB HBa HP HPa
    obtain ⟨e0, e1, e2, e3, e4, e5, e6, e7, e8, e9⟩ := (HK.out.later HB5.out).eq
    obtain ⟨nc0, nc1, nc2, nc3, nc4, nc5, nc6, nc7, nc8, nc9, nc10⟩ := HN.out.elev
    obtain ⟨nf0, nf1, nf2, nf3, nf4, nf5, nf6, nf7, nf8, nf9, nf10⟩ := HN.out.elevF
    have HN6 : Hid (Blk (w5.setCell ⟨g5, 3, none⟩ (.int .i64 k)) g5 54 #[.string op, .int .i64 (slotS ss var), .slice a4 n4 c4, .int .i64 k, .int .i64 0, .bool false, .slice none 0 0, .slice none 0 0, .string ⟨#[]⟩, .int .i64 (slotS ss guard), .slice none 0 0]) := Lib.hid (HN.out.putA 3 _)
    have HB6 : Hid (Below W1.heap.size W1 (w5.setCell ⟨g5, 3, none⟩ (.int .i64 k))) := Lib.hid (HB5.out.setCell (p := ⟨g5, 3, none⟩) HG5.out _)
    go_upto_region 12 with fail
    obtain ⟨w6, hw6⟩ : ∃ w6, w6 = w5.setCell ⟨g5, 3, none⟩ (.int .i64 k) := ⟨_, rfl⟩
    rw [← hw6] at HN6 HB6 ⊢
    clear hw6 nc0 nc1 nc2 nc3 nc4 nc5 nc6 nc7 nc8 nc9 nc10 nf0 nf1 nf2 nf3 nf4 nf5 nf6 nf7 nf8 nf9 nf10 e0 e1 e2 e3 e4 e5 e6 e7 e8 e9
    obtain ⟨nc0, nc1, nc2, nc3, nc4, nc5, nc6, nc7, nc8, nc9, nc10⟩ := HN6.out.elev
    obtain ⟨yc0, yc1, yc2, yc3, yc4, yc5, yc6, yc7, yc8, yc9, yc10⟩ := (HZ.out.later HB6.out).elev
    obtain ⟨zc0, zc1, zc2, zc3, zc4, zc5, zc6, zc7, zc8, zc9, zc10⟩ := (HZ.out.later HB6.out).elevF
    have HR := Lib.hid ((HZ.out.later HB6.out).put11 (.string op) (.int .i64 (slotS ss var)) (.slice a4 n4 c4) (.int .i64 k) (.int .i64 0) (.bool false) (.slice none 0 0) (.slice none 0 0) (.string ⟨#[]⟩) (.int .i64 (slotS ss guard)) (.slice none 0 0))
    have HOL := Lib.hid (belowP11 (HB1.out.trans (HB6.out.mono HB1.out.size)) (Nat.le_succ _) (.string op) (.int .i64 (slotS ss var)) (.slice a4 n4 c4) (.int .i64 k) (.int .i64 0) (.bool false) (.slice none 0 0) (.slice none 0 0) (.string ⟨#[]⟩) (.int .i64 (slotS ss guard)) (.slice none 0 0))
    go_wp2
    refine ret_row rfl (w.heap.size + 1) _ HR.out rfl rfl Try.underlying54 Try.infoInsS ?_
    exact ⟨⟨⟨op, slotS ss var, (a4, n4, c4), k, 0, false, (none, 0, 0), (none, 0, 0), ⟨#[]⟩, slotS ss guard, (none, 0, 0)⟩, rfl, rfl, rfl⟩, HOL.out⟩

end Go.Proofs.Ytanbekbalfbkcaa

namespace Go.Proofs.Ytanbekbalfbkcaa
set_option linter.unusedVariables false
set_option linter.unusedSimpArgs false
set_option maxRecDepth 100000
open Go.RowKit

set_option maxHeartbeats 4000000 in
theorem eqn_flag (g B : Nat) (v : FlatV) (f : FlatM) (A2 : Option Addr) (n2 c2 : Nat) (ss : List Int) (q : FEqM) (a m d : Option Addr × Nat × Nat) (w : World) (hk : Mk w B g v f A2 n2 c2 ss) (hrow : IRow w B a.1 a.2.1 a.2.2 q.args) (hm : URow w B m.1 m.2.1 m.2.2 q.lit.mag) (hd : URow w B d.1 d.2.1 d.2.2 q.lit.den)
    (hn : a.2.1 ≤ 1000000) (hv : q.var < (n2 : Int)) (hg : q.guard < (n2 : Int)) (hx : ∀ x ∈ q.args, x < (n2 : Int)) (h0 : q.op = bs [102, 108, 97, 103]) :
    Calls Try.prog 48 #[.pointer (some ⟨g, 0, none⟩), feqV q a m d] w (EqPost ss q w) := by
  obtain ⟨var, op, args, k, lit, guard⟩ := q
  obtain ⟨A, n, c⟩ := a
  simp only at hrow hm hd hn hv hg hx h0
  obtain ⟨W1, hW1⟩ : ∃ W1, W1 = (w.alloc (.cells (qvs ⟨var, op, args, k, lit, guard⟩ (A, n, c) m d) 77)).alloc (.cells #[.string ⟨#[]⟩, .int .i64 0, .slice none 0 0, .int .i64 0, .int .i64 0, .bool false, .slice none 0 0, .slice none 0 0, .string ⟨#[]⟩, .int .i64 0, .slice none 0 0] 54) := ⟨_, rfl⟩
  have hb1 : Below w.heap.size w W1 := by rw [hW1]; exact ((Below.refl _ _).alloc (Nat.le_refl _) _).alloc (by simp) _
  have hs1 : W1.heap.size = w.heap.size + 2 := by rw [hW1]; simp
  have HK := Lib.hid (show Blk W1 w.heap.size 77 (qvs ⟨var, op, args, k, lit, guard⟩ (A, n, c) m d) from by rw [hW1]; exact (Blk.new _ _ _).alloc _)
  have HZ := Lib.hid (show Blk W1 (w.heap.size + 1) 54 #[.string ⟨#[]⟩, .int .i64 0, .slice none 0 0, .int .i64 0, .int .i64 0, .bool false, .slice none 0 0, .slice none 0 0, .string ⟨#[]⟩, .int .i64 0, .slice none 0 0] from by rw [hW1]; have := Blk.new (w.alloc (.cells (qvs ⟨var, op, args, k, lit, guard⟩ (A, n, c) m d) 77)) 54 #[.string ⟨#[]⟩, .int .i64 0, .slice none 0 0, .int .i64 0, .int .i64 0, .bool false, .slice none 0 0, .slice none 0 0, .string ⟨#[]⟩, .int .i64 0, .slice none 0 0]; rw [size_alloc] at this; exact this)
  have HMK : Hid (∀ W, Below W1.heap.size W1 W → Mk W B g v f A2 n2 c2 ss) := Lib.hid fun W hb => hk.later (hb1.trans (hb.mono hb1.size))
  have HRW : Hid (∀ W, Below W1.heap.size W1 W → IRow W B A n c args) := Lib.hid fun W hb => hrow.below ((hb1.trans (hb.mono hb1.size)).mono hk.hB)
  have HBB := Lib.hid hk.hB
  have HB1 := Lib.hid hb1
  have HS1 := Lib.hid hs1
  have HX := Lib.hid hx
  have HLT : Hid (w.heap.size < W1.heap.size) := Lib.hid (by omega)
  have HUM : Hid (∀ W, Below W1.heap.size W1 W → URow W B m.1 m.2.1 m.2.2 lit.mag) := Lib.hid fun W hb => hm.keep fun p hp => (hb1.trans (hb.mono hb1.size)).cell (Nat.lt_of_lt_of_le hp hk.hB)
  have HUD : Hid (∀ W, Below W1.heap.size W1 W → URow W B d.1 d.2.1 d.2.2 lit.den) := Lib.hid fun W hb => hd.keep fun p hp => (hb1.trans (hb.mono hb1.size)).cell (Nat.lt_of_lt_of_le hp hk.hB)
  have g0 : (op.toList == [108, 105, 116]) = false := (by rw [h0, bs_toList]; try decide); have g1 : (op.toList == [105, 110]) = false := (by rw [h0, bs_toList]; try decide); have g2 : (op.toList == [102, 108, 97, 103]) = true := (by rw [h0, bs_toList]; try decide); have g3 : (op.toList == [109, 101, 109]) = false := (by rw [h0, bs_toList]; try decide); have g4 : (op.toList == [99, 111, 110, 116]) = false := (by rw [h0, bs_toList]; try decide)
  clear h0 hk hrow hm hd hb1 hs1 hx
  unfold qvs at hW1
  dsimp only at hW1
  unfold feqV sl3
  go_enter Try.func48, Try.ntmps48
  go_upto_region 1 with fail
  rw [← hW1]
  clear hW1
  have HB := Lib.hid (Below.refl W1.heap.size W1).drew
  have HBa := Lib.hid ((Below.refl W1.heap.size W1).alloc (Nat.le_refl _) (.cells #[.string ⟨#[]⟩, .int .i64 0, .slice none 0 0, .int .i64 0, .int .i64 0, .bool false, .slice none 0 0, .slice none 0 0, .string ⟨#[]⟩, .int .i64 0, .slice none 0 0] 54)).drew
  have HP : Hid (W1.drew.cell? ⟨w.heap.size, 0, none⟩ = some (.int .i64 var) ∧ W1.drew.cell? ⟨w.heap.size, 1, none⟩ = some (.string op) ∧ W1.drew.cell? ⟨w.heap.size, 2, none⟩ = some (.slice A n c) ∧ W1.drew.cell? ⟨w.heap.size, 9, none⟩ = some (.int .i64 guard)) := Lib.hid (by have h := (HK.out.later (Below.refl W1.heap.size W1).drew).eq; exact ⟨h.1, h.2.1, h.2.2.1, h.2.2.2.2.2.2.2.2.2⟩)
  have HPa : Hid (∀ o : Obj, (W1.alloc o).drew.cell? ⟨w.heap.size, 0, none⟩ = some (.int .i64 var) ∧ (W1.alloc o).drew.cell? ⟨w.heap.size, 1, none⟩ = some (.string op) ∧ (W1.alloc o).drew.cell? ⟨w.heap.size, 2, none⟩ = some (.slice A n c) ∧ (W1.alloc o).drew.cell? ⟨w.heap.size, 9, none⟩ = some (.int .i64 guard)) := Lib.hid (fun o => by have h := (HK.out.later ((Below.refl W1.heap.size W1).alloc (Nat.le_refl _) o).drew).eq; exact ⟨h.1, h.2.1, h.2.2.1, h.2.2.2.2.2.2.2.2.2⟩)
  have HSV := Lib.hid (fun W (hb : Below W1.heap.size W1 W) => slot_t g n2 c2 B A2 ss var W (HMK.out W hb).cells.2.2.2.2.2.2.2.2 (HMK.out W hb).row hv)
  have HSG := Lib.hid (fun W (hb : Below W1.heap.size W1 W) => slot_t g n2 c2 B A2 ss guard W (HMK.out W hb).cells.2.2.2.2.2.2.2.2 (HMK.out W hb).row hg)
  have HTU := Lib.hid (fun W (hb : Below W1.heap.size W1 W) => turnM_t g B v f A2 n2 c2 ss A n c args W (HMK.out W hb) (HRW.out W hb) (HMK.out W hb).hB hn HX.out)
  go_cut [5] (fun s5 wx => ∃ (g5 : Nat) (a4 : Option Addr) (n4 c4 : Nat), s5 = .pointer (some ⟨g5, 0, none⟩) ∧ Hid (W1.heap.size ≤ g5) ∧ Hid (Blk wx g5 54 #[.string op, .int .i64 (slotS ss var), .slice a4 n4 c4, .int .i64 0, .int .i64 0, .bool false, .slice none 0 0, .slice none 0 0, .string ⟨#[]⟩, .int .i64 (slotS ss guard), .slice none 0 0]) ∧ Hid (Below W1.heap.size W1 wx))
  case first =>
    go_region_held3 (fun w' => w'.cell? ⟨w.heap.size, 0, none⟩ = some (.int .i64 var) ∧ w'.cell? ⟨w.heap.size, 1, none⟩ = some (.string op) ∧ w'.cell? ⟨w.heap.size, 2, none⟩ = some (.slice A n c) ∧ w'.cell? ⟨w.heap.size, 9, none⟩ = some (.int .i64 guard)) (first | with_reducible exact HP.out | with_reducible exact HPa.out _ | with_reducible exact HPb.out _ _ _ _ _ _ _ _ _ _ _ | go_keep) (first
    | (go_at_call 39; first
        | ((with_reducible refine (HSV.out _ HB.out).mono ?_); rintro e w2 ⟨rfl, hw⟩; subst w2)
        | ((with_reducible refine (HSV.out _ HBa.out).mono ?_); rintro e w2 ⟨rfl, hw⟩; subst w2)
        | ((with_reducible refine (HSG.out _ HB.out).mono ?_); rintro e w2 ⟨rfl, hw⟩; subst w2)
        | ((with_reducible refine (HSG.out _ HBa.out).mono ?_); rintro e w2 ⟨rfl, hw⟩; subst w2))
    | (go_at_call 49; first
        | ((with_reducible refine (HTU.out _ HB.out).mono ?_); rintro e w3 ⟨v3, l3, rfl, hown, hl3, hb⟩; obtain ⟨a4, n4, c4, hv4⟩ := own_slice hown; subst hv4; skip; replace HB := Lib.hid (HB.out.trans (hb.mono HB.out.size)); replace HBa := Lib.hid (HB.out.alloc HB.out.size (.cells #[.string ⟨#[]⟩, .int .i64 0, .slice none 0 0, .int .i64 0, .int .i64 0, .bool false, .slice none 0 0, .slice none 0 0, .string ⟨#[]⟩, .int .i64 0, .slice none 0 0] 54)); replace HP := Lib.hid (show w3.cell? ⟨w.heap.size, 0, none⟩ = some (.int .i64 var) ∧ w3.cell? ⟨w.heap.size, 1, none⟩ = some (.string op) ∧ w3.cell? ⟨w.heap.size, 2, none⟩ = some (.slice A n c) ∧ w3.cell? ⟨w.heap.size, 9, none⟩ = some (.int .i64 guard) from by have h := (HK.out.later HB.out).eq; exact ⟨h.1, h.2.1, h.2.2.1, h.2.2.2.2.2.2.2.2.2⟩); replace HPa := Lib.hid (keepA4 HP.out HLT.out HB.out.size); have HPb := Lib.hid (keepP4 HP.out HLT.out); clear hown hb)
        | ((with_reducible refine (HTU.out _ HBa.out).mono ?_); rintro e w3 ⟨v3, l3, rfl, hown, hl3, hb⟩; obtain ⟨a4, n4, c4, hv4⟩ := own_slice hown; subst hv4; have HT : Hid (Blk w3 W1.heap.size 54 #[.string ⟨#[]⟩, .int .i64 0, .slice none 0 0, .int .i64 0, .int .i64 0, .bool false, .slice none 0 0, .slice none 0 0, .string ⟨#[]⟩, .int .i64 0, .slice none 0 0]) := Lib.hid ((show Blk (W1.alloc (.cells #[.string ⟨#[]⟩, .int .i64 0, .slice none 0 0, .int .i64 0, .int .i64 0, .bool false, .slice none 0 0, .slice none 0 0, .string ⟨#[]⟩, .int .i64 0, .slice none 0 0] 54)).drew W1.heap.size 54 #[.string ⟨#[]⟩, .int .i64 0, .slice none 0 0, .int .i64 0, .int .i64 0, .bool false, .slice none 0 0, .slice none 0 0, .string ⟨#[]⟩, .int .i64 0, .slice none 0 0] from Blk.new W1 54 #[.string ⟨#[]⟩, .int .i64 0, .slice none 0 0, .int .i64 0, .int .i64 0, .bool false, .slice none 0 0, .slice none 0 0, .string ⟨#[]⟩, .int .i64 0, .slice none 0 0]).later hb); obtain ⟨y0, y1, y2, y3, y4, y5, y6, y7, y8, y9, y10⟩ := HT.out.elev; obtain ⟨z0, z1, z2, z3, z4, z5, z6, z7, z8, z9, z10⟩ := HT.out.elevF; replace HB := Lib.hid (HBa.out.trans (hb.mono HBa.out.size)); replace HBa := Lib.hid (HB.out.alloc HB.out.size (.cells #[.string ⟨#[]⟩, .int .i64 0, .slice none 0 0, .int .i64 0, .int .i64 0, .bool false, .slice none 0 0, .slice none 0 0, .string ⟨#[]⟩, .int .i64 0, .slice none 0 0] 54)); replace HP := Lib.hid (show w3.cell? ⟨w.heap.size, 0, none⟩ = some (.int .i64 var) ∧ w3.cell? ⟨w.heap.size, 1, none⟩ = some (.string op) ∧ w3.cell? ⟨w.heap.size, 2, none⟩ = some (.slice A n c) ∧ w3.cell? ⟨w.heap.size, 9, none⟩ = some (.int .i64 guard) from by have h := (HK.out.later HB.out).eq; exact ⟨h.1, h.2.1, h.2.2.1, h.2.2.2.2.2.2.2.2.2⟩); replace HPa := Lib.hid (keepA4 HP.out HLT.out HB.out.size); have HPb := Lib.hid (keepP4 HP.out HLT.out); clear hown hb)))
    all_goals
      go_wp2_with fail
      go_meet
      case rel =>
        first
        | exact ⟨_, a4, n4, c4, rfl, Lib.hid HB.out.size, Lib.hid (Blk.new _ _ _), Lib.hid (HB.out.alloc HB.out.size _)⟩
        | exact ⟨_, a4, n4, c4, rfl, Lib.hid (Nat.le_refl _), Lib.hid (HT.out.put11 (.string op) (.int .i64 (slotS ss var)) (.slice a4 n4 c4) (.int .i64 0) (.int .i64 0) (.bool false) (.slice none 0 0) (.slice none 0 0) (.string ⟨#[]⟩) (.int .i64 (slotS ss guard)) (.slice none 0 0)), Lib.hid (belowP11 HB.out (Nat.le_refl _) (.string op) (.int .i64 (slotS ss var)) (.slice a4 n4 c4) (.int .i64 0) (.int .i64 0) (.bool false) (.slice none 0 0) (.slice none 0 0) (.string ⟨#[]⟩) (.int .i64 (slotS ss guard)) (.slice none 0 0))⟩
  case rest =>
    obtain ⟨g5, a4, n4, c4, rfl, HG5, HN, HB5⟩ := hcut
    obtain ⟨w5, rfl⟩ : ∃ w5 : World, w5 = wc := ⟨_, rfl⟩
    clear HSV HSG HTU HB HBa HP HPa
    obtain ⟨e0, e1, e2, e3, e4, e5, e6, e7, e8, e9⟩ := (HK.out.later HB5.out).eq
    obtain ⟨nc0, nc1, nc2, nc3, nc4, nc5, nc6, nc7, nc8, nc9, nc10⟩ := HN.out.elev
    obtain ⟨nf0, nf1, nf2, nf3, nf4, nf5, nf6, nf7, nf8, nf9, nf10⟩ := HN.out.elevF
    have HN6 : Hid (Blk (w5.setCell ⟨g5, 3, none⟩ (.int .i64 k)) g5 54 #[.string op, .int .i64 (slotS ss var), .slice a4 n4 c4, .int .i64 k, .int .i64 0, .bool false, .slice none 0 0, .slice none 0 0, .string ⟨#[]⟩, .int .i64 (slotS ss guard), .slice none 0 0]) := Lib.hid (HN.out.putA 3 _)
    have HB6 : Hid (Below W1.heap.size W1 (w5.setCell ⟨g5, 3, none⟩ (.int .i64 k))) := Lib.hid (HB5.out.setCell (p := ⟨g5, 3, none⟩) HG5.out _)
    go_upto_region 12 with fail
    obtain ⟨w6, hw6⟩ : ∃ w6, w6 = w5.setCell ⟨g5, 3, none⟩ (.int .i64 k) := ⟨_, rfl⟩
    rw [← hw6] at HN6 HB6 ⊢
    clear hw6 nc0 nc1 nc2 nc3 nc4 nc5 nc6 nc7 nc8 nc9 nc10 nf0 nf1 nf2 nf3 nf4 nf5 nf6 nf7 nf8 nf9 nf10 e0 e1 e2 e3 e4 e5 e6 e7 e8 e9
    obtain ⟨nc0, nc1, nc2, nc3, nc4, nc5, nc6, nc7, nc8, nc9, nc10⟩ := HN6.out.elev
    obtain ⟨yc0, yc1, yc2, yc3, yc4, yc5, yc6, yc7, yc8, yc9, yc10⟩ := (HZ.out.later HB6.out).elev
    obtain ⟨zc0, zc1, zc2, zc3, zc4, zc5, zc6, zc7, zc8, zc9, zc10⟩ := (HZ.out.later HB6.out).elevF
    have HR := Lib.hid ((HZ.out.later HB6.out).put11 (.string op) (.int .i64 (slotS ss var)) (.slice a4 n4 c4) (.int .i64 k) (.int .i64 0) (.bool false) (.slice none 0 0) (.slice none 0 0) (.string ⟨#[]⟩) (.int .i64 (slotS ss guard)) (.slice none 0 0))
    have HOL := Lib.hid (belowP11 (HB1.out.trans (HB6.out.mono HB1.out.size)) (Nat.le_succ _) (.string op) (.int .i64 (slotS ss var)) (.slice a4 n4 c4) (.int .i64 k) (.int .i64 0) (.bool false) (.slice none 0 0) (.slice none 0 0) (.string ⟨#[]⟩) (.int .i64 (slotS ss guard)) (.slice none 0 0))
    go_wp2
    refine ret_row rfl (w.heap.size + 1) _ HR.out rfl rfl Try.underlying54 Try.infoInsS ?_
    exact ⟨⟨⟨op, slotS ss var, (a4, n4, c4), k, 0, false, (none, 0, 0), (none, 0, 0), ⟨#[]⟩, slotS ss guard, (none, 0, 0)⟩, rfl, rfl, rfl⟩, HOL.out⟩

end Go.Proofs.Ytanbekbalfbkcaa
