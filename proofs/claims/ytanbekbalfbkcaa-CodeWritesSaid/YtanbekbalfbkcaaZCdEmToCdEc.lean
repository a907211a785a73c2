/- What equation tells, of one that reads: mem. No condition but bounds. · What equation tells, of one that reads: cont. No condition but bounds. -/
import Derived.Test.YtanbekbalfbkcaaZCdE
import Derived.Deep.RegionHeld3
import Derived.Deep.DeepCutAuto
namespace Go.Proofs.Ytanbekbalfbkcaa
set_option linter.unusedVariables false
set_option linter.unusedSimpArgs false
set_option maxRecDepth 100000
open Go.RowKit

set_option maxHeartbeats 4000000 in
theorem eqn_mem (g B : Nat) (v : FlatV) (f : FlatM) (A2 : Option Addr) (n2 c2 : Nat) (ss : List Int) (q : FEqM) (a m d : Option Addr × Nat × Nat) (w : World) (hk : Mk w B g v f A2 n2 c2 ss) (hrow : IRow w B a.1 a.2.1 a.2.2 q.args) (hm : URow w B m.1 m.2.1 m.2.2 q.lit.mag) (hd : URow w B d.1 d.2.1 d.2.2 q.lit.den)
    (hn : a.2.1 ≤ 1000000) (hv : q.var < (n2 : Int)) (hg : q.guard < (n2 : Int)) (hx : ∀ x ∈ q.args, x < (n2 : Int)) (h0 : q.op = bs [109, 101, 109]) (hkk : plB q.k v.mems.2.1 = true) (hres : ∀ (i : Nat) (x : MemM), f.mems[i]? = some x → x.resets.length ≤ 1000 ∧ ∀ y ∈ x.resets, y < (n2 : Int)) :
    Calls Try.prog 48 #[.pointer (some ⟨g, 0, none⟩), feqV q a m d] w (EqPost ss q w) := by
  obtain ⟨var, op, args, k, lit, guard⟩ := q
  obtain ⟨A, n, c⟩ := a
  simp only at hrow hm hd hn hv hg hx h0 hkk hres
  obtain ⟨W1, hW1⟩ : ∃ W1, W1 = (w.alloc (.cells (qvs ⟨var, op, args, k, lit, guard⟩ (A, n, c) m d) 77)).alloc (.cells #[.string ⟨#[]⟩, .int .i64 0, .slice none 0 0, .int .i64 0, .int .i64 0, .bool false, .slice none 0 0, .slice none 0 0, .string ⟨#[]⟩, .int .i64 0, .slice none 0 0] 54) := ⟨_, rfl⟩
  have hb1 : Below w.heap.size w W1 := by rw [hW1]; exact ((Below.refl _ _).alloc (Nat.le_refl _) _).alloc (by simp) _
  have hs1 : W1.heap.size = w.heap.size + 2 := by rw [hW1]; simp
  have HK := Lib.hid (show Blk W1 w.heap.size 77 (qvs ⟨var, op, args, k, lit, guard⟩ (A, n, c) m d) from by rw [hW1]; exact (Blk.new _ _ _).alloc _)
  have HZ := Lib.hid (show Blk W1 (w.heap.size + 1) 54 #[.string ⟨#[]⟩, .int .i64 0, .slice none 0 0, .int .i64 0, .int .i64 0, .bool false, .slice none 0 0, .slice none 0 0, .string ⟨#[]⟩, .int .i64 0, .slice none 0 0] from by rw [hW1]; have := Blk.new (w.alloc (.cells (qvs ⟨var, op, args, k, lit, guard⟩ (A, n, c) m d) 77)) 54 #[.string ⟨#[]⟩, .int .i64 0, .slice none 0 0, .int .i64 0, .int .i64 0, .bool false, .slice none 0 0, .slice none 0 0, .string ⟨#[]⟩, .int .i64 0, .slice none 0 0]; rw [size_alloc] at this; exact this)
  have HMK : Hid (∀ W, Below W1.heap.size W1 W → Mk W B g v f A2 n2 c2 ss) := Lib.hid fun W hb => hk.later (hb1.trans (hb.mono hb1.size))
  have HRW : Hid (∀ W, Below W1.heap.size W1 W → IRow W B A n c args) := Lib.hid fun W hb => hrow.below ((hb1.trans (hb.mono hb1.size)).mono hk.hB)
  have HBB := Lib.hid hk.hB
  have HB1 := Lib.hid hb1
  have HS1 := Lib.hid hs1
  have HX := Lib.hid hx
  have HLT : Hid (w.heap.size < W1.heap.size) := Lib.hid (by omega)
  have HUM : Hid (∀ W, Below W1.heap.size W1 W → URow W B m.1 m.2.1 m.2.2 lit.mag) := Lib.hid fun W hb => hm.keep fun p hp => (hb1.trans (hb.mono hb1.size)).cell (Nat.lt_of_lt_of_le hp hk.hB)
  have HUD : Hid (∀ W, Below W1.heap.size W1 W → URow W B d.1 d.2.1 d.2.2 lit.den) := Lib.hid fun W hb => hd.keep fun p hp => (hb1.trans (hb.mono hb1.size)).cell (Nat.lt_of_lt_of_le hp hk.hB)
  obtain ⟨p0, p1⟩ := plB_yes hkk
  obtain ⟨j, rfl⟩ : ∃ j : Nat, k = (j : Int) := ⟨k.toNat, by omega⟩
  have hj : j < v.mems.2.1 := by omega
  obtain ⟨x, hx0⟩ := hk.is.mems.ex hj
  obtain ⟨b, off, hab, hlb, hat⟩ := hk.is.mems.at_ hx0
  obtain ⟨A3, L3, C3, p3, q3⟩ := hat.resets
  have hlen3 : L3 ≤ 1000000 := by rw [← q3.1]; exact Nat.le_trans (hres _ x hx0).1 (by decide)
  have HBL : Hid (b < W1.heap.size) := Lib.hid (by have := hk.hB; omega)
  have HGL : Hid (g < W1.heap.size) := Lib.hid (by have := hk.blk.lt; omega)
  have HX3 := Lib.hid (hres _ x hx0).2
  have HP3 : Hid (W1.cell? ⟨b, off + j * 8 + 7, none⟩ = some (.slice A3 L3 C3)) := Lib.hid ((hb1.cell (p := ⟨b, off + j * 8 + 7, none⟩) (Nat.lt_of_lt_of_le hlb hk.hB)).trans p3)
  have HAC : Hid (W1.cell? ⟨g, 4, none⟩ = some (.slice (some ⟨b, off, none⟩) v.mems.2.1 v.mems.2.2)) := Lib.hid (by rw [← hab]; exact (hk.later hb1).cells.2.2.2.2.1)
  have HQ3 : Hid (∀ W, Below W1.heap.size W1 W → IRow W B A3 L3 C3 x.resets) := Lib.hid fun W hb => q3.below ((hb1.trans (hb.mono hb1.size)).mono hk.hB)
  clear hkk hres hx0 hab hat p3 q3
  have g0 : (op.toList == [108, 105, 116]) = false := (by rw [h0, bs_toList]; try decide); have g1 : (op.toList == [105, 110]) = false := (by rw [h0, bs_toList]; try decide); have g2 : (op.toList == [102, 108, 97, 103]) = false := (by rw [h0, bs_toList]; try decide); have g3 : (op.toList == [109, 101, 109]) = true := (by rw [h0, bs_toList]; try decide); have g4 : (op.toList == [99, 111, 110, 116]) = false := (by rw [h0, bs_toList]; try decide)
  clear h0 hk hrow hm hd hb1 hs1 hx
  unfold qvs at hW1
  dsimp only at hW1
  unfold feqV sl3
  go_enter Try.func48, Try.ntmps48
  go_upto_region 1 with fail
  rw [← hW1]
  clear hW1
  have HB := Lib.hid (Below.refl W1.heap.size W1).drew
  have HBa := Lib.hid ((Below.refl W1.heap.size W1).alloc (Nat.le_refl _) (.cells #[.string ⟨#[]⟩, .int .i64 0, .slice none 0 0, .int .i64 0, .int .i64 0, .bool false, .slice none 0 0, .slice none 0 0, .string ⟨#[]⟩, .int .i64 0, .slice none 0 0] 54)).drew
  have HP : Hid (W1.drew.cell? ⟨w.heap.size, 0, none⟩ = some (.int .i64 var) ∧ W1.drew.cell? ⟨w.heap.size, 1, none⟩ = some (.string op) ∧ W1.drew.cell? ⟨w.heap.size, 2, none⟩ = some (.slice A n c) ∧ W1.drew.cell? ⟨w.heap.size, 9, none⟩ = some (.int .i64 guard)) := Lib.hid (by have h := (HK.out.later (Below.refl W1.heap.size W1).drew).eq; exact ⟨h.1, h.2.1, h.2.2.1, h.2.2.2.2.2.2.2.2.2⟩)
  have HPa : Hid (∀ o : Obj, (W1.alloc o).drew.cell? ⟨w.heap.size, 0, none⟩ = some (.int .i64 var) ∧ (W1.alloc o).drew.cell? ⟨w.heap.size, 1, none⟩ = some (.string op) ∧ (W1.alloc o).drew.cell? ⟨w.heap.size, 2, none⟩ = some (.slice A n c) ∧ (W1.alloc o).drew.cell? ⟨w.heap.size, 9, none⟩ = some (.int .i64 guard)) := Lib.hid (fun o => by have h := (HK.out.later ((Below.refl W1.heap.size W1).alloc (Nat.le_refl _) o).drew).eq; exact ⟨h.1, h.2.1, h.2.2.1, h.2.2.2.2.2.2.2.2.2⟩)
  have HSV := Lib.hid (fun W (hb : Below W1.heap.size W1 W) => slot_t g n2 c2 B A2 ss var W (HMK.out W hb).cells.2.2.2.2.2.2.2.2 (HMK.out W hb).row hv)
  have HSG := Lib.hid (fun W (hb : Below W1.heap.size W1 W) => slot_t g n2 c2 B A2 ss guard W (HMK.out W hb).cells.2.2.2.2.2.2.2.2 (HMK.out W hb).row hg)
  have HTU := Lib.hid (fun W (hb : Below W1.heap.size W1 W) => turnM_t g B v f A2 n2 c2 ss A n c args W (HMK.out W hb) (HRW.out W hb) (HMK.out W hb).hB hn HX.out)
  go_cut [5] (fun s5 wx => ∃ (g5 : Nat) (a4 : Option Addr) (n4 c4 : Nat), s5 = .pointer (some ⟨g5, 0, none⟩) ∧ Hid (W1.heap.size ≤ g5) ∧ Hid (Blk wx g5 54 #[.string op, .int .i64 (slotS ss var), .slice a4 n4 c4, .int .i64 0, .int .i64 0, .bool false, .slice none 0 0, .slice none 0 0, .string ⟨#[]⟩, .int .i64 (slotS ss guard), .slice none 0 0]) ∧ Hid (Below W1.heap.size W1 wx))
  case first =>
    go_region_held3 (fun w' => w'.cell? ⟨w.heap.size, 0, none⟩ = some (.int .i64 var) ∧ w'.cell? ⟨w.heap.size, 1, none⟩ = some (.string op) ∧ w'.cell? ⟨w.heap.size, 2, none⟩ = some (.slice A n c) ∧ w'.cell? ⟨w.heap.size, 9, none⟩ = some (.int .i64 guard)) (first | with_reducible exact HP.out | with_reducible exact HPa.out _ | with_reducible exact HPb.out _ _ _ _ _ _ _ _ _ _ _ | go_keep) (first
    | (go_at_call 39; first
        | ((with_reducible refine (HSV.out _ HB.out).mono ?_); rintro e w2 ⟨rfl, hw⟩; subst w2)
        | ((with_reducible refine (HSV.out _ HBa.out).mono ?_); rintro e w2 ⟨rfl, hw⟩; subst w2)
        | ((with_reducible refine (HSG.out _ HB.out).mono ?_); rintro e w2 ⟨rfl, hw⟩; subst w2)
        | ((with_reducible refine (HSG.out _ HBa.out).mono ?_); rintro e w2 ⟨rfl, hw⟩; subst w2))
    | (go_at_call 49; first
        | ((with_reducible refine (HTU.out _ HB.out).mono ?_); rintro e w3 ⟨v3, l3, rfl, hown, hl3, hb⟩; obtain ⟨a4, n4, c4, hv4⟩ := own_slice hown; subst hv4; skip; replace HB := Lib.hid (HB.out.trans (hb.mono HB.out.size)); replace HBa := Lib.hid (HB.out.alloc HB.out.size (.cells #[.string ⟨#[]⟩, .int .i64 0, .slice none 0 0, .int .i64 0, .int .i64 0, .bool false, .slice none 0 0, .slice none 0 0, .string ⟨#[]⟩, .int .i64 0, .slice none 0 0] 54)); replace HP := Lib.hid (show w3.cell? ⟨w.heap.size, 0, none⟩ = some (.int .i64 var) ∧ w3.cell? ⟨w.heap.size, 1, none⟩ = some (.string op) ∧ w3.cell? ⟨w.heap.size, 2, none⟩ = some (.slice A n c) ∧ w3.cell? ⟨w.heap.size, 9, none⟩ = some (.int .i64 guard) from by have h := (HK.out.later HB.out).eq; exact ⟨h.1, h.2.1, h.2.2.1, h.2.2.2.2.2.2.2.2.2⟩); replace HPa := Lib.hid (keepA4 HP.out HLT.out HB.out.size); have HPb := Lib.hid (keepP4 HP.out HLT.out); clear hown hb)
        | ((with_reducible refine (HTU.out _ HBa.out).mono ?_); rintro e w3 ⟨v3, l3, rfl, hown, hl3, hb⟩; obtain ⟨a4, n4, c4, hv4⟩ := own_slice hown; subst hv4; have HT : Hid (Blk w3 W1.heap.size 54 #[.string ⟨#[]⟩, .int .i64 0, .slice none 0 0, .int .i64 0, .int .i64 0, .bool false, .slice none 0 0, .slice none 0 0, .string ⟨#[]⟩, .int .i64 0, .slice none 0 0]) := Lib.hid ((show Blk (W1.alloc (.cells #[.string ⟨#[]⟩, .int .i64 0, .slice none 0 0, .int .i64 0, .int .i64 0, .bool false, .slice none 0 0, .slice none 0 0, .string ⟨#[]⟩, .int .i64 0, .slice none 0 0] 54)).drew W1.heap.size 54 #[.string ⟨#[]⟩, .int .i64 0, .slice none 0 0, .int .i64 0, .int .i64 0, .bool false, .slice none 0 0, .slice none 0 0, .string ⟨#[]⟩, .int .i64 0, .slice none 0 0] from Blk.new W1 54 #[.string ⟨#[]⟩, .int .i64 0, .slice none 0 0, .int .i64 0, .int .i64 0, .bool false, .slice none 0 0, .slice none 0 0, .string ⟨#[]⟩, .int .i64 0, .slice none 0 0]).later hb); obtain ⟨y0, y1, y2, y3, y4, y5, y6, y7, y8, y9, y10⟩ := HT.out.elev; obtain ⟨z0, z1, z2, z3, z4, z5, z6, z7, z8, z9, z10⟩ := HT.out.elevF; replace HB := Lib.hid (HBa.out.trans (hb.mono HBa.out.size)); replace HBa := Lib.hid (HB.out.alloc HB.out.size (.cells #[.string ⟨#[]⟩, .int .i64 0, .slice none 0 0, .int .i64 0, .int .i64 0, .bool false, .slice none 0 0, .slice none 0 0, .string ⟨#[]⟩, .int .i64 0, .slice none 0 0] 54)); replace HP := Lib.hid (show w3.cell? ⟨w.heap.size, 0, none⟩ = some (.int .i64 var) ∧ w3.cell? ⟨w.heap.size, 1, none⟩ = some (.string op) ∧ w3.cell? ⟨w.heap.size, 2, none⟩ = some (.slice A n c) ∧ w3.cell? ⟨w.heap.size, 9, none⟩ = some (.int .i64 guard) from by have h := (HK.out.later HB.out).eq; exact ⟨h.1, h.2.1, h.2.2.1, h.2.2.2.2.2.2.2.2.2⟩); replace HPa := Lib.hid (keepA4 HP.out HLT.out HB.out.size); have HPb := Lib.hid (keepP4 HP.out HLT.out); clear hown hb)))
    all_goals
      go_wp2_with fail
      go_meet
      case rel =>
        first
        | exact ⟨_, a4, n4, c4, rfl, Lib.hid HB.out.size, Lib.hid (Blk.new _ _ _), Lib.hid (HB.out.alloc HB.out.size _)⟩
        | exact ⟨_, a4, n4, c4, rfl, Lib.hid (Nat.le_refl _), Lib.hid (HT.out.put11 (.string op) (.int .i64 (slotS ss var)) (.slice a4 n4 c4) (.int .i64 0) (.int .i64 0) (.bool false) (.slice none 0 0) (.slice none 0 0) (.string ⟨#[]⟩) (.int .i64 (slotS ss guard)) (.slice none 0 0)), Lib.hid (belowP11 HB.out (Nat.le_refl _) (.string op) (.int .i64 (slotS ss var)) (.slice a4 n4 c4) (.int .i64 0) (.int .i64 0) (.bool false) (.slice none 0 0) (.slice none 0 0) (.string ⟨#[]⟩) (.int .i64 (slotS ss guard)) (.slice none 0 0))⟩
  case rest =>
    obtain ⟨g5, a4, n4, c4, rfl, HG5, HN, HB5⟩ := hcut
    obtain ⟨w5, rfl⟩ : ∃ w5 : World, w5 = wc := ⟨_, rfl⟩
    clear HSV HSG HTU HB HBa HP HPa
    obtain ⟨e0, e1, e2, e3, e4, e5, e6, e7, e8, e9⟩ := (HK.out.later HB5.out).eq
    have hjI : (j : Int) < (v.mems.2.1 : Int) := by omega
    have HP : Hid (w5.drew.cell? ⟨w.heap.size, 3, none⟩ = some (.int .i64 (j : Int)) ∧ w5.drew.cell? ⟨g, 4, none⟩ = some (.slice (some ⟨b, off, none⟩) v.mems.2.1 v.mems.2.2) ∧ w5.drew.cell? ⟨b, off + j * 8 + 7, none⟩ = some (.slice A3 L3 C3)) := Lib.hid ⟨((HK.out.later HB5.out).eq).2.2.2.1, (HB5.out.cell (p := ⟨g, 4, none⟩) HGL.out).trans HAC.out, (HB5.out.cell (p := ⟨b, off + j * 8 + 7, none⟩) HBL.out).trans HP3.out⟩
    have HT3 := Lib.hid (turnM_t g B v f A2 n2 c2 ss A3 L3 C3 x.resets w5.drew (HMK.out w5.drew HB5.out.drew) (HQ3.out w5.drew HB5.out.drew) (HMK.out w5.drew HB5.out.drew).hB hlen3 HX3.out)
    go_upto_region 9 with fail
    clear e0 e1 e2 e3 e4 e5 e6 e7 e8 e9
    go_region_held3 (fun w' => w'.cell? ⟨w.heap.size, 3, none⟩ = some (.int .i64 (j : Int)) ∧ w'.cell? ⟨g, 4, none⟩ = some (.slice (some ⟨b, off, none⟩) v.mems.2.1 v.mems.2.2) ∧ w'.cell? ⟨b, off + j * 8 + 7, none⟩ = some (.slice A3 L3 C3)) (first | with_reducible exact HP.out | with_reducible exact HPb.out | with_reducible exact HPc.out | go_keep) (first
      | (go_at_call 49; (with_reducible refine HT3.out.mono ?_); rintro e w6 ⟨v6, l6, rfl, hown, hl6, hb6⟩; obtain ⟨a6, n6, c6, hv6⟩ := own_slice hown; subst hv6; have HB6 := Lib.hid (HB5.out.drew.trans (hb6.mono HB5.out.size)); have HN6 := Lib.hid ((show Blk w5.drew g5 54 #[.string op, .int .i64 (slotS ss var), .slice a4 n4 c4, .int .i64 0, .int .i64 0, .bool false, .slice none 0 0, .slice none 0 0, .string ⟨#[]⟩, .int .i64 (slotS ss guard), .slice none 0 0] from HN.out).later hb6); replace HP := Lib.hid (keepS3 HP.out (hb6.mono HB5.out.size) HLT.out HGL.out HBL.out); have HPb := Lib.hid (keepS3 HP.out ((Below.refl W1.heap.size w6).setCell (p := ⟨g5, 3, none⟩) HG5.out (.int .i64 (j : Int))) HLT.out HGL.out HBL.out); have HPc := Lib.hid (keepS3 HPb.out ((Below.refl W1.heap.size _).setCell (p := ⟨g5, 10, none⟩) HG5.out (.slice a6 n6 c6)) HLT.out HGL.out HBL.out); obtain ⟨nc0, nc1, nc2, nc3, nc4, nc5, nc6, nc7, nc8, nc9, nc10⟩ := HN6.out.elev; obtain ⟨nf0, nf1, nf2, nf3, nf4, nf5, nf6, nf7, nf8, nf9, nf10⟩ := HN6.out.elevF; clear hown hb6))
    obtain ⟨w7, hw7⟩ : ∃ w7, w7 = (w6.setCell ⟨g5, 3, none⟩ (.int .i64 (j : Int))).setCell ⟨g5, 10, none⟩ (.slice a6 n6 c6) := ⟨_, rfl⟩
    have HN7 : Hid (Blk w7 g5 54 #[.string op, .int .i64 (slotS ss var), .slice a4 n4 c4, .int .i64 (j : Int), .int .i64 0, .bool false, .slice none 0 0, .slice none 0 0, .string ⟨#[]⟩, .int .i64 (slotS ss guard), .slice a6 n6 c6]) := Lib.hid (by rw [hw7]; exact (HN6.out.putA 3 _).putA 10 _)
    have HB7 : Hid (Below W1.heap.size W1 w7) := Lib.hid (by rw [hw7]; exact (HB6.out.setCell (p := ⟨g5, 3, none⟩) HG5.out _).setCell (p := ⟨g5, 10, none⟩) HG5.out _)
    rw [← hw7]
    clear hw7 HP HPb HPc nc0 nc1 nc2 nc3 nc4 nc5 nc6 nc7 nc8 nc9 nc10 nf0 nf1 nf2 nf3 nf4 nf5 nf6 nf7 nf8 nf9 nf10
    obtain ⟨nc0, nc1, nc2, nc3, nc4, nc5, nc6, nc7, nc8, nc9, nc10⟩ := HN7.out.elev
    obtain ⟨yc0, yc1, yc2, yc3, yc4, yc5, yc6, yc7, yc8, yc9, yc10⟩ := (HZ.out.later HB7.out).elev
    obtain ⟨zc0, zc1, zc2, zc3, zc4, zc5, zc6, zc7, zc8, zc9, zc10⟩ := (HZ.out.later HB7.out).elevF
    have HR := Lib.hid ((HZ.out.later HB7.out).put11 (.string op) (.int .i64 (slotS ss var)) (.slice a4 n4 c4) (.int .i64 (j : Int)) (.int .i64 0) (.bool false) (.slice none 0 0) (.slice none 0 0) (.string ⟨#[]⟩) (.int .i64 (slotS ss guard)) (.slice a6 n6 c6))
    have HOL := Lib.hid (belowP11 (HB1.out.trans (HB7.out.mono HB1.out.size)) (Nat.le_succ _) (.string op) (.int .i64 (slotS ss var)) (.slice a4 n4 c4) (.int .i64 (j : Int)) (.int .i64 0) (.bool false) (.slice none 0 0) (.slice none 0 0) (.string ⟨#[]⟩) (.int .i64 (slotS ss guard)) (.slice a6 n6 c6))
    go_wp2
    refine ret_row rfl (w.heap.size + 1) _ HR.out rfl rfl Try.underlying54 Try.infoInsS ?_
    exact ⟨⟨⟨op, slotS ss var, (a4, n4, c4), (j : Int), 0, false, (none, 0, 0), (none, 0, 0), ⟨#[]⟩, slotS ss guard, (a6, n6, c6)⟩, rfl, rfl, rfl⟩, HOL.out⟩

end Go.Proofs.Ytanbekbalfbkcaa

namespace Go.Proofs.Ytanbekbalfbkcaa
set_option linter.unusedVariables false
set_option linter.unusedSimpArgs false
set_option maxRecDepth 100000
open Go.RowKit

set_option maxHeartbeats 4000000 in
theorem eqn_cont (g B : Nat) (v : FlatV) (f : FlatM) (A2 : Option Addr) (n2 c2 : Nat) (ss : List Int) (q : FEqM) (a m d : Option Addr × Nat × Nat) (w : World) (hk : Mk w B g v f A2 n2 c2 ss) (hrow : IRow w B a.1 a.2.1 a.2.2 q.args) (hm : URow w B m.1 m.2.1 m.2.2 q.lit.mag) (hd : URow w B d.1 d.2.1 d.2.2 q.lit.den)
    (hn : a.2.1 ≤ 1000000) (hv : q.var < (n2 : Int)) (hg : q.guard < (n2 : Int)) (hx : ∀ x ∈ q.args, x < (n2 : Int)) (h0 : q.op = bs [99, 111, 110, 116]) (hkk : plB q.k v.conts.2.1 = true) (hres : ∀ (i : Nat) (x : ContM), f.conts[i]? = some x → x.resets.length ≤ 1000 ∧ ∀ y ∈ x.resets, y < (n2 : Int)) :
    Calls Try.prog 48 #[.pointer (some ⟨g, 0, none⟩), feqV q a m d] w (EqPost ss q w) := by
  obtain ⟨var, op, args, k, lit, guard⟩ := q
  obtain ⟨A, n, c⟩ := a
  simp only at hrow hm hd hn hv hg hx h0 hkk hres
  obtain ⟨W1, hW1⟩ : ∃ W1, W1 = (w.alloc (.cells (qvs ⟨var, op, args, k, lit, guard⟩ (A, n, c) m d) 77)).alloc (.cells #[.string ⟨#[]⟩, .int .i64 0, .slice none 0 0, .int .i64 0, .int .i64 0, .bool false, .slice none 0 0, .slice none 0 0, .string ⟨#[]⟩, .int .i64 0, .slice none 0 0] 54) := ⟨_, rfl⟩
  have hb1 : Below w.heap.size w W1 := by rw [hW1]; exact ((Below.refl _ _).alloc (Nat.le_refl _) _).alloc (by simp) _
  have hs1 : W1.heap.size = w.heap.size + 2 := by rw [hW1]; simp
  have HK := Lib.hid (show Blk W1 w.heap.size 77 (qvs ⟨var, op, args, k, lit, guard⟩ (A, n, c) m d) from by rw [hW1]; exact (Blk.new _ _ _).alloc _)
  have HZ := Lib.hid (show Blk W1 (w.heap.size + 1) 54 #[.string ⟨#[]⟩, .int .i64 0, .slice none 0 0, .int .i64 0, .int .i64 0, .bool false, .slice none 0 0, .slice none 0 0, .string ⟨#[]⟩, .int .i64 0, .slice none 0 0] from by rw [hW1]; have := Blk.new (w.alloc (.cells (qvs ⟨var, op, args, k, lit, guard⟩ (A, n, c) m d) 77)) 54 #[.string ⟨#[]⟩, .int .i64 0, .slice none 0 0, .int .i64 0, .int .i64 0, .bool false, .slice none 0 0, .slice none 0 0, .string ⟨#[]⟩, .int .i64 0, .slice none 0 0]; rw [size_alloc] at this; exact this)
  have HMK : Hid (∀ W, Below W1.heap.size W1 W → Mk W B g v f A2 n2 c2 ss) := Lib.hid fun W hb => hk.later (hb1.trans (hb.mono hb1.size))
  have HRW : Hid (∀ W, Below W1.heap.size W1 W → IRow W B A n c args) := Lib.hid fun W hb => hrow.below ((hb1.trans (hb.mono hb1.size)).mono hk.hB)
  have HBB := Lib.hid hk.hB
  have HB1 := Lib.hid hb1
  have HS1 := Lib.hid hs1
  have HX := Lib.hid hx
  have HLT : Hid (w.heap.size < W1.heap.size) := Lib.hid (by omega)
  have HUM : Hid (∀ W, Below W1.heap.size W1 W → URow W B m.1 m.2.1 m.2.2 lit.mag) := Lib.hid fun W hb => hm.keep fun p hp => (hb1.trans (hb.mono hb1.size)).cell (Nat.lt_of_lt_of_le hp hk.hB)
  have HUD : Hid (∀ W, Below W1.heap.size W1 W → URow W B d.1 d.2.1 d.2.2 lit.den) := Lib.hid fun W hb => hd.keep fun p hp => (hb1.trans (hb.mono hb1.size)).cell (Nat.lt_of_lt_of_le hp hk.hB)
  obtain ⟨p0, p1⟩ := plB_yes hkk
  obtain ⟨j, rfl⟩ : ∃ j : Nat, k = (j : Int) := ⟨k.toNat, by omega⟩
  have hj : j < v.conts.2.1 := by omega
  obtain ⟨x, hx0⟩ := hk.is.conts.ex hj
  obtain ⟨b, off, hab, hlb, hat⟩ := hk.is.conts.at_ hx0
  obtain ⟨A3, L3, C3, p3, q3⟩ := hat.resets
  have hlen3 : L3 ≤ 1000000 := by rw [← q3.1]; exact Nat.le_trans (hres _ x hx0).1 (by decide)
  have HBL : Hid (b < W1.heap.size) := Lib.hid (by have := hk.hB; omega)
  have HGL : Hid (g < W1.heap.size) := Lib.hid (by have := hk.blk.lt; omega)
  have HX3 := Lib.hid (hres _ x hx0).2
  have HP3 : Hid (W1.cell? ⟨b, off + j * 9 + 7, none⟩ = some (.slice A3 L3 C3)) := Lib.hid ((hb1.cell (p := ⟨b, off + j * 9 + 7, none⟩) (Nat.lt_of_lt_of_le hlb hk.hB)).trans p3)
  have HAC : Hid (W1.cell? ⟨g, 5, none⟩ = some (.slice (some ⟨b, off, none⟩) v.conts.2.1 v.conts.2.2)) := Lib.hid (by rw [← hab]; exact (hk.later hb1).cells.2.2.2.2.2.1)
  have HQ3 : Hid (∀ W, Below W1.heap.size W1 W → IRow W B A3 L3 C3 x.resets) := Lib.hid fun W hb => q3.below ((hb1.trans (hb.mono hb1.size)).mono hk.hB)
  clear hkk hres hx0 hab hat p3 q3
  have g0 : (op.toList == [108, 105, 116]) = false := (by rw [h0, bs_toList]; try decide); have g1 : (op.toList == [105, 110]) = false := (by rw [h0, bs_toList]; try decide); have g2 : (op.toList == [102, 108, 97, 103]) = false := (by rw [h0, bs_toList]; try decide); have g3 : (op.toList == [109, 101, 109]) = false := (by rw [h0, bs_toList]; try decide); have g4 : (op.toList == [99, 111, 110, 116]) = true := (by rw [h0, bs_toList]; try decide)
  clear h0 hk hrow hm hd hb1 hs1 hx
  unfold qvs at hW1
  dsimp only at hW1
  unfold feqV sl3
  go_enter Try.func48, Try.ntmps48
  go_upto_region 1 with fail
  rw [← hW1]
  clear hW1
  have HB := Lib.hid (Below.refl W1.heap.size W1).drew
  have HBa := Lib.hid ((Below.refl W1.heap.size W1).alloc (Nat.le_refl _) (.cells #[.string ⟨#[]⟩, .int .i64 0, .slice none 0 0, .int .i64 0, .int .i64 0, .bool false, .slice none 0 0, .slice none 0 0, .string ⟨#[]⟩, .int .i64 0, .slice none 0 0] 54)).drew
  have HP : Hid (W1.drew.cell? ⟨w.heap.size, 0, none⟩ = some (.int .i64 var) ∧ W1.drew.cell? ⟨w.heap.size, 1, none⟩ = some (.string op) ∧ W1.drew.cell? ⟨w.heap.size, 2, none⟩ = some (.slice A n c) ∧ W1.drew.cell? ⟨w.heap.size, 9, none⟩ = some (.int .i64 guard)) := Lib.hid (by have h := (HK.out.later (Below.refl W1.heap.size W1).drew).eq; exact ⟨h.1, h.2.1, h.2.2.1, h.2.2.2.2.2.2.2.2.2⟩)
  have HPa : Hid (∀ o : Obj, (W1.alloc o).drew.cell? ⟨w.heap.size, 0, none⟩ = some (.int .i64 var) ∧ (W1.alloc o).drew.cell? ⟨w.heap.size, 1, none⟩ = some (.string op) ∧ (W1.alloc o).drew.cell? ⟨w.heap.size, 2, none⟩ = some (.slice A n c) ∧ (W1.alloc o).drew.cell? ⟨w.heap.size, 9, none⟩ = some (.int .i64 guard)) := Lib.hid (fun o => by have h := (HK.out.later ((Below.refl W1.heap.size W1).alloc (Nat.le_refl _) o).drew).eq; exact ⟨h.1, h.2.1, h.2.2.1, h.2.2.2.2.2.2.2.2.2⟩)
  have HSV := Lib.hid (fun W (hb : Below W1.heap.size W1 W) => slot_t g n2 c2 B A2 ss var W (HMK.out W hb).cells.2.2.2.2.2.2.2.2 (HMK.out W hb).row hv)
  have HSG := Lib.hid (fun W (hb : Below W1.heap.size W1 W) => slot_t g n2 c2 B A2 ss guard W (HMK.out W hb).cells.2.2.2.2.2.2.2.2 (HMK.out W hb).row hg)
  have HTU := Lib.hid (fun W (hb : Below W1.heap.size W1 W) => turnM_t g B v f A2 n2 c2 ss A n c args W (HMK.out W hb) (HRW.out W hb) (HMK.out W hb).hB hn HX.out)
  go_cut [5] (fun s5 wx => ∃ (g5 : Nat) (a4 : Option Addr) (n4 c4 : Nat), s5 = .pointer (some ⟨g5, 0, none⟩) ∧ Hid (W1.heap.size ≤ g5) ∧ Hid (Blk wx g5 54 #[.string op, .int .i64 (slotS ss var), .slice a4 n4 c4, .int .i64 0, .int .i64 0, .bool false, .slice none 0 0, .slice none 0 0, .string ⟨#[]⟩, .int .i64 (slotS ss guard), .slice none 0 0]) ∧ Hid (Below W1.heap.size W1 wx))
  case first =>
    go_region_held3 (fun w' => w'.cell? ⟨w.heap.size, 0, none⟩ = some (.int .i64 var) ∧ w'.cell? ⟨w.heap.size, 1, none⟩ = some (.string op) ∧ w'.cell? ⟨w.heap.size, 2, none⟩ = some (.slice A n c) ∧ w'.cell? ⟨w.heap.size, 9, none⟩ = some (.int .i64 guard)) (first | with_reducible exact HP.out | with_reducible exact HPa.out _ | with_reducible exact HPb.out _ _ _ _ _ _ _ _ _ _ _ | go_keep) (first
    | (go_at_call 39; first
        | ((with_reducible refine (HSV.out _ HB.out).mono ?_); rintro e w2 ⟨rfl, hw⟩; subst w2)
        | ((with_reducible refine (HSV.out _ HBa.out).mono ?_); rintro e w2 ⟨rfl, hw⟩; subst w2)
        | ((with_reducible refine (HSG.out _ HB.out).mono ?_); rintro e w2 ⟨rfl, hw⟩; subst w2)
        | ((with_reducible refine (HSG.out _ HBa.out).mono ?_); rintro e w2 ⟨rfl, hw⟩; subst w2))
    | (go_at_call 49; first
        | ((with_reducible refine (HTU.out _ HB.out).mono ?_); rintro e w3 ⟨v3, l3, rfl, hown, hl3, hb⟩; obtain ⟨a4, n4, c4, hv4⟩ := own_slice hown; subst hv4; skip; replace HB := Lib.hid (HB.out.trans (hb.mono HB.out.size)); replace HBa := Lib.hid (HB.out.alloc HB.out.size (.cells #[.string ⟨#[]⟩, .int .i64 0, .slice none 0 0, .int .i64 0, .int .i64 0, .bool false, .slice none 0 0, .slice none 0 0, .string ⟨#[]⟩, .int .i64 0, .slice none 0 0] 54)); replace HP := Lib.hid (show w3.cell? ⟨w.heap.size, 0, none⟩ = some (.int .i64 var) ∧ w3.cell? ⟨w.heap.size, 1, none⟩ = some (.string op) ∧ w3.cell? ⟨w.heap.size, 2, none⟩ = some (.slice A n c) ∧ w3.cell? ⟨w.heap.size, 9, none⟩ = some (.int .i64 guard) from by have h := (HK.out.later HB.out).eq; exact ⟨h.1, h.2.1, h.2.2.1, h.2.2.2.2.2.2.2.2.2⟩); replace HPa := Lib.hid (keepA4 HP.out HLT.out HB.out.size); have HPb := Lib.hid (keepP4 HP.out HLT.out); clear hown hb)
        | ((with_reducible refine (HTU.out _ HBa.out).mono ?_); rintro e w3 ⟨v3, l3, rfl, hown, hl3, hb⟩; obtain ⟨a4, n4, c4, hv4⟩ := own_slice hown; subst hv4; have HT : Hid (Blk w3 W1.heap.size 54 #[.string ⟨#[]⟩, .int .i64 0, .slice none 0 0, .int .i64 0, .int .i64 0, .bool false, .slice none 0 0, .slice none 0 0, .string ⟨#[]⟩, .int .i64 0, .slice none 0 0]) := Lib.hid ((show Blk (W1.alloc (.cells #[.string ⟨#[]⟩, .int .i64 0, .slice none 0 0, .int .i64 0, .int .i64 0, .bool false, .slice none 0 0, .slice none 0 0, .string ⟨#[]⟩, .int .i64 0, .slice none 0 0] 54)).drew W1.heap.size 54 #[.string ⟨#[]⟩, .int .i64 0, .slice none 0 0, .int .i64 0, .int .i64 0, .bool false, .slice none 0 0, .slice none 0 0, .string ⟨#[]⟩, .int .i64 0, .slice none 0 0] from Blk.new W1 54 #[.string ⟨#[]⟩, .int .i64 0, .slice none 0 0, .int .i64 0, .int .i64 0, .bool false, .slice none 0 0, .slice none 0 0, .string ⟨#[]⟩, .int .i64 0, .slice none 0 0]).later hb); obtain ⟨y0, y1, y2, y3, y4, y5, y6, y7, y8, y9, y10⟩ := HT.out.elev; obtain ⟨z0, z1, z2, z3, z4, z5, z6, z7, z8, z9, z10⟩ := HT.out.elevF; replace HB := Lib.hid (HBa.out.trans (hb.mono HBa.out.size)); replace HBa := Lib.hid (HB.out.alloc HB.out.size (.cells #[.string ⟨#[]⟩, .int .i64 0, .slice none 0 0, .int .i64 0, .int .i64 0, .bool false, .slice none 0 0, .slice none 0 0, .string ⟨#[]⟩, .int .i64 0, .slice none 0 0] 54)); replace HP := Lib.hid (show w3.cell? ⟨w.heap.size, 0, none⟩ = some (.int .i64 var) ∧ w3.cell? ⟨w.heap.size, 1, none⟩ = some (.string op) ∧ w3.cell? ⟨w.heap.size, 2, none⟩ = some (.slice A n c) ∧ w3.cell? ⟨w.heap.size, 9, none⟩ = some (.int .i64 guard) from by have h := (HK.out.later HB.out).eq; exact ⟨h.1, h.2.1, h.2.2.1, h.2.2.2.2.2.2.2.2.2⟩); replace HPa := Lib.hid (keepA4 HP.out HLT.out HB.out.size); have HPb := Lib.hid (keepP4 HP.out HLT.out); clear hown hb)))
    all_goals
      go_wp2_with fail
      go_meet
      case rel =>
        first
        | exact ⟨_, a4, n4, c4, rfl, Lib.hid HB.out.size, Lib.hid (Blk.new _ _ _), Lib.hid (HB.out.alloc HB.out.size _)⟩
        | exact ⟨_, a4, n4, c4, rfl, Lib.hid (Nat.le_refl _), Lib.hid (HT.out.put11 (.string op) (.int .i64 (slotS ss var)) (.slice a4 n4 c4) (.int .i64 0) (.int .i64 0) (.bool false) (.slice none 0 0) (.slice none 0 0) (.string ⟨#[]⟩) (.int .i64 (slotS ss guard)) (.slice none 0 0)), Lib.hid (belowP11 HB.out (Nat.le_refl _) (.string op) (.int .i64 (slotS ss var)) (.slice a4 n4 c4) (.int .i64 0) (.int .i64 0) (.bool false) (.slice none 0 0) (.slice none 0 0) (.string ⟨#[]⟩) (.int .i64 (slotS ss guard)) (.slice none 0 0))⟩
  case rest =>
    obtain ⟨g5, a4, n4, c4, rfl, HG5, HN, HB5⟩ := hcut
    obtain ⟨w5, rfl⟩ : ∃ w5 : World, w5 = wc := ⟨_, rfl⟩
    clear HSV HSG HTU HB HBa HP HPa
    obtain ⟨e0, e1, e2, e3, e4, e5, e6, e7, e8, e9⟩ := (HK.out.later HB5.out).eq
    have hjI : (j : Int) < (v.conts.2.1 : Int) := by omega
    have HP : Hid (w5.drew.cell? ⟨w.heap.size, 3, none⟩ = some (.int .i64 (j : Int)) ∧ w5.drew.cell? ⟨g, 5, none⟩ = some (.slice (some ⟨b, off, none⟩) v.conts.2.1 v.conts.2.2) ∧ w5.drew.cell? ⟨b, off + j * 9 + 7, none⟩ = some (.slice A3 L3 C3)) := Lib.hid ⟨((HK.out.later HB5.out).eq).2.2.2.1, (HB5.out.cell (p := ⟨g, 5, none⟩) HGL.out).trans HAC.out, (HB5.out.cell (p := ⟨b, off + j * 9 + 7, none⟩) HBL.out).trans HP3.out⟩
    have HT3 := Lib.hid (turnM_t g B v f A2 n2 c2 ss A3 L3 C3 x.resets w5.drew (HMK.out w5.drew HB5.out.drew) (HQ3.out w5.drew HB5.out.drew) (HMK.out w5.drew HB5.out.drew).hB hlen3 HX3.out)
    go_upto_region 11 with fail
    clear e0 e1 e2 e3 e4 e5 e6 e7 e8 e9
    go_region_held3 (fun w' => w'.cell? ⟨w.heap.size, 3, none⟩ = some (.int .i64 (j : Int)) ∧ w'.cell? ⟨g, 5, none⟩ = some (.slice (some ⟨b, off, none⟩) v.conts.2.1 v.conts.2.2) ∧ w'.cell? ⟨b, off + j * 9 + 7, none⟩ = some (.slice A3 L3 C3)) (first | with_reducible exact HP.out | with_reducible exact HPb.out | with_reducible exact HPc.out | go_keep) (first
      | (go_at_call 49; (with_reducible refine HT3.out.mono ?_); rintro e w6 ⟨v6, l6, rfl, hown, hl6, hb6⟩; obtain ⟨a6, n6, c6, hv6⟩ := own_slice hown; subst hv6; have HB6 := Lib.hid (HB5.out.drew.trans (hb6.mono HB5.out.size)); have HN6 := Lib.hid ((show Blk w5.drew g5 54 #[.string op, .int .i64 (slotS ss var), .slice a4 n4 c4, .int .i64 0, .int .i64 0, .bool false, .slice none 0 0, .slice none 0 0, .string ⟨#[]⟩, .int .i64 (slotS ss guard), .slice none 0 0] from HN.out).later hb6); replace HP := Lib.hid (keepS3 HP.out (hb6.mono HB5.out.size) HLT.out HGL.out HBL.out); have HPb := Lib.hid (keepS3 HP.out ((Below.refl W1.heap.size w6).setCell (p := ⟨g5, 3, none⟩) HG5.out (.int .i64 (j : Int))) HLT.out HGL.out HBL.out); have HPc := Lib.hid (keepS3 HPb.out ((Below.refl W1.heap.size _).setCell (p := ⟨g5, 10, none⟩) HG5.out (.slice a6 n6 c6)) HLT.out HGL.out HBL.out); obtain ⟨nc0, nc1, nc2, nc3, nc4, nc5, nc6, nc7, nc8, nc9, nc10⟩ := HN6.out.elev; obtain ⟨nf0, nf1, nf2, nf3, nf4, nf5, nf6, nf7, nf8, nf9, nf10⟩ := HN6.out.elevF; clear hown hb6))
    obtain ⟨w7, hw7⟩ : ∃ w7, w7 = (w6.setCell ⟨g5, 3, none⟩ (.int .i64 (j : Int))).setCell ⟨g5, 10, none⟩ (.slice a6 n6 c6) := ⟨_, rfl⟩
    have HN7 : Hid (Blk w7 g5 54 #[.string op, .int .i64 (slotS ss var), .slice a4 n4 c4, .int .i64 (j : Int), .int .i64 0, .bool false, .slice none 0 0, .slice none 0 0, .string ⟨#[]⟩, .int .i64 (slotS ss guard), .slice a6 n6 c6]) := Lib.hid (by rw [hw7]; exact (HN6.out.putA 3 _).putA 10 _)
    have HB7 : Hid (Below W1.heap.size W1 w7) := Lib.hid (by rw [hw7]; exact (HB6.out.setCell (p := ⟨g5, 3, none⟩) HG5.out _).setCell (p := ⟨g5, 10, none⟩) HG5.out _)
    rw [← hw7]
    clear hw7 HP HPb HPc nc0 nc1 nc2 nc3 nc4 nc5 nc6 nc7 nc8 nc9 nc10 nf0 nf1 nf2 nf3 nf4 nf5 nf6 nf7 nf8 nf9 nf10
    obtain ⟨nc0, nc1, nc2, nc3, nc4, nc5, nc6, nc7, nc8, nc9, nc10⟩ := HN7.out.elev
    obtain ⟨yc0, yc1, yc2, yc3, yc4, yc5, yc6, yc7, yc8, yc9, yc10⟩ := (HZ.out.later HB7.out).elev
    obtain ⟨zc0, zc1, zc2, zc3, zc4, zc5, zc6, zc7, zc8, zc9, zc10⟩ := (HZ.out.later HB7.out).elevF
    have HR := Lib.hid ((HZ.out.later HB7.out).put11 (.string op) (.int .i64 (slotS ss var)) (.slice a4 n4 c4) (.int .i64 (j : Int)) (.int .i64 0) (.bool false) (.slice none 0 0) (.slice none 0 0) (.string ⟨#[]⟩) (.int .i64 (slotS ss guard)) (.slice a6 n6 c6))
    have HOL := Lib.hid (belowP11 (HB1.out.trans (HB7.out.mono HB1.out.size)) (Nat.le_succ _) (.string op) (.int .i64 (slotS ss var)) (.slice a4 n4 c4) (.int .i64 (j : Int)) (.int .i64 0) (.bool false) (.slice none 0 0) (.slice none 0 0) (.string ⟨#[]⟩) (.int .i64 (slotS ss guard)) (.slice a6 n6 c6))
    go_wp2
    refine ret_row rfl (w.heap.size + 1) _ HR.out rfl rfl Try.underlying54 Try.infoInsS ?_
    exact ⟨⟨⟨op, slotS ss var, (a4, n4, c4), (j : Int), 0, false, (none, 0, 0), (none, 0, 0), ⟨#[]⟩, slotS ss guard, (a6, n6, c6)⟩, rfl, rfl, rfl⟩, HOL.out⟩

end Go.Proofs.Ytanbekbalfbkcaa
