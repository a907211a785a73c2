/- What operation tells. No condition but bounds. · What operation tells, of one that chooses. No condition but bounds. · What operation tells, of any of a good program; what the third body is, as a plain list. No condition but bounds. -/
import Derived.Test.YtanbekbalfbkcaaZCdFToCdG
import Derived.Test.YtanbekbalfbkcaaZPlBToPlD
import Derived.Deep.RegionHeld3
import Derived.Deep.DeepCutAuto
import Derived.Test.YtanbekbalfbkcaaZCdHaToCdI
namespace Go.Proofs.Ytanbekbalfbkcaa
set_option linter.unusedVariables false
set_option linter.unusedSimpArgs false
set_option maxRecDepth 100000
open Go.RowKit

/-- what operation tells: an instruction of the operation's name with a sign ahead, to a line -/
def OpPost (o : COpM) (dst : Int) (w : World) (e : Ending) (w' : World) : Prop := (∃ x : InsM, e = .returned (insV x) ∧ x.op = ⟨#[108]⟩ ++ o.op ∧ x.dst = dst) ∧ Below w.heap.size w w'
theorem IRow.takeC {w : World} {B : Nat} {a : Option Addr} {n c k : Nat} {xs : List Int} (h : IRow w B a n c xs) (hk : k ≤ n) : IRow w B a k c (xs.take k) := by
  obtain ⟨h1, h2, h3, h4, b, off, h6, h7⟩ := h
  refine ⟨by rw [List.length_take]; omega, by omega, h3, h4, b, off, ?_, fun i hi => ⟨(h7 i (by omega)).1, ?_⟩⟩
  · rcases h6 with h6 | h6
    · exact .inl h6
    · exact .inr (by omega)
  · rw [(h7 i (by omega)).2]
    congr 2
    simp [List.getD, List.getElem?_take_of_lt hi]
theorem IRow.dropC {w : World} {B b off n c : Nat} {xs : List Int} (h : IRow w B (some ⟨b, off, none⟩) n c xs) (hn : 0 < n) : IRow w B (some ⟨b, off + 1, none⟩) (n - 1) (c - 1) (xs.drop 1) := by
  obtain ⟨h1, h2, h3, h4, b', off', h6, h7⟩ := h
  have e := h6.resolve_right (by omega)
  injection e with e
  injection e with e1 e2
  subst e1 e2
  refine ⟨by rw [List.length_drop]; omega, by omega, by omega, (fun h => by cases h), b, off + 1, .inl rfl, fun i hi => ⟨(h7 (i + 1) (by omega)).1, ?_⟩⟩
  rw [show off + 1 + i = off + (i + 1) by omega, (h7 (i + 1) (by omega)).2]
  congr 2
  simp [List.getD, Nat.add_comm]
theorem own_rowN {w : World} {B n c m : Nat} {a : Option Addr} {l : List Int} (h : Own w B (.slice a n c) l) (hl : l.length = m) : n = m ∧ IRow w w.heap.size a n c l := by
  obtain ⟨a', c', e, hr⟩ := h.irow
  injection e with e1 e2 e3
  subst e1 e2 e3
  exact ⟨hl, hr⟩
theorem Blk.two {w : World} {g T : Nat} {a b : Value} (h : Blk w g T #[a, b]) : w.cell? ⟨g, 0, none⟩ = some a ∧ w.cell? ⟨g, 1, none⟩ = some b := ⟨h.cell 0 rfl, h.cell 1 rfl⟩
set_option maxHeartbeats 4000000 in
theorem opn_else (g B gl : Nat) (F : Int) (v : FlatV) (f : FlatM) (A2 : Option Addr) (n2 c2 : Nat) (ss : List Int) (o : COpM) (r : Option Addr × Nat × Nat) (dst guard : Int) (w : World) (hk : Mk w B g v f A2 n2 c2 ss) (hrow : IRow w B r.1 r.2.1 r.2.2 o.args) (hn : r.2.1 ≤ 1000000) (hl : w.cell? ⟨gl, 0, none⟩ = some (.int .i64 F)) (hgl : gl < w.heap.size) (hsz : o.op.size ≤ 100) (hx : True) (h0 : ¬ o.op = bs [118, 97, 114]) (h1 : ¬ o.op = bs [99, 111, 110, 116]) (h2 : ¬ o.op = bs [42]) (h3 : ¬ o.op = bs [115, 101, 108]) :
    Calls Try.prog 41 #[.pointer (some ⟨g, 0, none⟩), .agg #[.string o.op, .slice r.1 r.2.1 r.2.2], .int .i64 dst, .int .i64 guard, .func (.func 40) #[] #[.pointer (some ⟨gl, 0, none⟩)]] w (OpPost o dst w) := by
  obtain ⟨op, args⟩ := o
  obtain ⟨A, n, c⟩ := r
  simp only at hrow hn hx hsz h0 h1 h2 h3
  have hz1 : ¬ 9223372036854775807 < 1 + op.size := by omega
  obtain ⟨W1, hW1⟩ : ∃ W1, W1 = (w.alloc (.cells #[.string op, .slice A n c] 80)).alloc (.cells #[.string ⟨#[]⟩, .int .i64 0, .slice none 0 0, .int .i64 0, .int .i64 0, .bool false, .slice none 0 0, .slice none 0 0, .string ⟨#[]⟩, .int .i64 0, .slice none 0 0] 54) := ⟨_, rfl⟩
  have hb1 : Below w.heap.size w W1 := by rw [hW1]; exact ((Below.refl _ _).alloc (Nat.le_refl _) _).alloc (by simp) _
  have hs1 : W1.heap.size = w.heap.size + 2 := by rw [hW1]; simp
  have HK := Lib.hid (show Blk W1 w.heap.size 80 #[.string op, .slice A n c] from by rw [hW1]; exact (Blk.new _ _ _).alloc _)
  have HZ := Lib.hid (show Blk W1 (w.heap.size + 1) 54 #[.string ⟨#[]⟩, .int .i64 0, .slice none 0 0, .int .i64 0, .int .i64 0, .bool false, .slice none 0 0, .slice none 0 0, .string ⟨#[]⟩, .int .i64 0, .slice none 0 0] from by rw [hW1]; have := Blk.new (w.alloc (.cells #[.string op, .slice A n c] 80)) 54 #[.string ⟨#[]⟩, .int .i64 0, .slice none 0 0, .int .i64 0, .int .i64 0, .bool false, .slice none 0 0, .slice none 0 0, .string ⟨#[]⟩, .int .i64 0, .slice none 0 0]; rw [size_alloc] at this; exact this)
  have HB1 := Lib.hid hb1
  have HS1 := Lib.hid hs1
  have HX := Lib.hid hx
  have HRW : Hid (∀ W, Below W1.heap.size W1 W → IRow W B A n c args) := Lib.hid fun W hb => hrow.below ((hb1.trans (hb.mono hb1.size)).mono hk.hB)
  have HMK : Hid (∀ W, Below W1.heap.size W1 W → Mk W B g v f A2 n2 c2 ss) := Lib.hid fun W hb => hk.later (hb1.trans (hb.mono hb1.size))
  have HLC : Hid (∀ W, Below W1.heap.size W1 W → W.cell? ⟨gl, 0, none⟩ = some (.int .i64 F)) := Lib.hid fun W hb => ((hb1.trans (hb.mono hb1.size)).cell (p := ⟨gl, 0, none⟩) hgl).trans hl
  have HGL : Hid (gl < W1.heap.size) := Lib.hid (by omega)
  have HAL : Hid (args.length = n) := Lib.hid hrow.1
  have g0 := str_no h0; have g1 := str_no h1; have g2 := str_no h2; have g3 := str_no h3
  clear h0 h1 h2 h3 hk hrow hb1 hs1 hx hl hgl
  go_enter Try.func41, Try.ntmps41
  go_upto_region 1 with fail
  rw [← hW1]
  clear hW1
  obtain ⟨e0, e1⟩ := HK.out.two
  obtain ⟨w5, hw5⟩ : ∃ w5, w5 = W1.alloc (.cells #[.string (⟨#[108]⟩ ++ op), .int .i64 dst, .slice none 0 0, .int .i64 0, .int .i64 0, .bool false, .slice none 0 0, .slice none 0 0, .string ⟨#[]⟩, .int .i64 guard, .slice none 0 0] 54) := ⟨_, rfl⟩
  obtain ⟨g5, hg5⟩ : ∃ g5, g5 = W1.heap.size := ⟨_, rfl⟩
  have HB5 : Hid (Below W1.heap.size W1 w5) := Lib.hid (by rw [hw5]; exact (Below.refl _ _).alloc (Nat.le_refl _) _)
  have HN : Hid (Blk w5 g5 54 #[.string (⟨#[108]⟩ ++ op), .int .i64 dst, .slice none 0 0, .int .i64 0, .int .i64 0, .bool false, .slice none 0 0, .slice none 0 0, .string ⟨#[]⟩, .int .i64 guard, .slice none 0 0]) := Lib.hid (by rw [hw5, hg5]; exact Blk.new _ _ _)
  have HG5 : Hid (W1.heap.size ≤ g5) := Lib.hid (by rw [hg5]; exact Nat.le_refl _)
  go_upto_region 2 with fail
  rw [← hw5, ← hg5]
  clear hw5 hg5 e0 e1
  obtain ⟨e0, e1⟩ := (HK.out.later HB5.out).two
  obtain ⟨nc0, nc1, nc2, nc3, nc4, nc5, nc6, nc7, nc8, nc9, nc10⟩ := HN.out.elev
  obtain ⟨nf0, nf1, nf2, nf3, nf4, nf5, nf6, nf7, nf8, nf9, nf10⟩ := HN.out.elevF
  have HTC := Lib.hid (turnL_t gl B F A n c args w5 (HLC.out w5 HB5.out) (Nat.lt_of_lt_of_le HGL.out HB5.out.size) (HRW.out w5 HB5.out) (HMK.out w5 HB5.out).hB hn)
  go_upto_region 13 with (go_at_call 49; (with_reducible refine HTC.out.mono ?_); rintro e w6 ⟨v6, l6, rfl, hown, hl6, hb6⟩; obtain ⟨a6, n6, c6, hv6⟩ := own_slice hown; subst hv6; have HB6 := Lib.hid (HB5.out.trans (hb6.mono HB5.out.size)); have HN6 := Lib.hid (HN.out.later hb6); clear hown hb6 e0 e1 nc0 nc1 nc2 nc3 nc4 nc5 nc6 nc7 nc8 nc9 nc10 nf0 nf1 nf2 nf3 nf4 nf5 nf6 nf7 nf8 nf9 nf10; obtain ⟨nc0, nc1, nc2, nc3, nc4, nc5, nc6, nc7, nc8, nc9, nc10⟩ := HN6.out.elev; obtain ⟨nf0, nf1, nf2, nf3, nf4, nf5, nf6, nf7, nf8, nf9, nf10⟩ := HN6.out.elevF)
  obtain ⟨w7, hw7⟩ : ∃ w7, w7 = w6.setCell ⟨g5, 2, none⟩ (.slice a6 n6 c6) := ⟨_, rfl⟩
  have HN7 : Hid (Blk w7 g5 54 #[.string (⟨#[108]⟩ ++ op), .int .i64 dst, .slice a6 n6 c6, .int .i64 0, .int .i64 0, .bool false, .slice none 0 0, .slice none 0 0, .string ⟨#[]⟩, .int .i64 guard, .slice none 0 0]) := Lib.hid (by rw [hw7]; exact HN6.out.putA 2 _)
  have HB7 : Hid (Below W1.heap.size W1 w7) := Lib.hid (by rw [hw7]; exact HB6.out.setCell (p := ⟨g5, 2, none⟩) HG5.out _)
  rw [← hw7]
  clear hw7 nc0 nc1 nc2 nc3 nc4 nc5 nc6 nc7 nc8 nc9 nc10 nf0 nf1 nf2 nf3 nf4 nf5 nf6 nf7 nf8 nf9 nf10
  obtain ⟨nc0, nc1, nc2, nc3, nc4, nc5, nc6, nc7, nc8, nc9, nc10⟩ := HN7.out.elev
  obtain ⟨yc0, yc1, yc2, yc3, yc4, yc5, yc6, yc7, yc8, yc9, yc10⟩ := (HZ.out.later HB7.out).elev
  obtain ⟨zc0, zc1, zc2, zc3, zc4, zc5, zc6, zc7, zc8, zc9, zc10⟩ := (HZ.out.later HB7.out).elevF
  have HR := Lib.hid ((HZ.out.later HB7.out).put11 (.string (⟨#[108]⟩ ++ op)) (.int .i64 dst) (.slice a6 n6 c6) (.int .i64 0) (.int .i64 0) (.bool false) (.slice none 0 0) (.slice none 0 0) (.string ⟨#[]⟩) (.int .i64 guard) (.slice none 0 0))
  have HOL := Lib.hid (belowP11 (HB1.out.trans (HB7.out.mono HB1.out.size)) (Nat.le_succ _) (.string (⟨#[108]⟩ ++ op)) (.int .i64 dst) (.slice a6 n6 c6) (.int .i64 0) (.int .i64 0) (.bool false) (.slice none 0 0) (.slice none 0 0) (.string ⟨#[]⟩) (.int .i64 guard) (.slice none 0 0))
  go_wp2
  refine ret_row rfl (w.heap.size + 1) _ HR.out rfl rfl Try.underlying54 Try.infoInsS ?_
  exact ⟨⟨⟨⟨#[108]⟩ ++ op, dst, (a6, n6, c6), 0, 0, false, (none, 0, 0), (none, 0, 0), ⟨#[]⟩, guard, (none, 0, 0)⟩, rfl, rfl, rfl⟩, HOL.out⟩
set_option maxHeartbeats 4000000 in
theorem opn_var (g B gl : Nat) (F : Int) (v : FlatV) (f : FlatM) (A2 : Option Addr) (n2 c2 : Nat) (ss : List Int) (o : COpM) (r : Option Addr × Nat × Nat) (dst guard : Int) (w : World) (hk : Mk w B g v f A2 n2 c2 ss) (hrow : IRow w B r.1 r.2.1 r.2.2 o.args) (hn : r.2.1 ≤ 1000000) (hl : w.cell? ⟨gl, 0, none⟩ = some (.int .i64 F)) (hgl : gl < w.heap.size) (hsz : o.op.size ≤ 100) (hx : ∀ x ∈ o.args, x < (n2 : Int)) (h0 : o.op = bs [118, 97, 114]) :
    Calls Try.prog 41 #[.pointer (some ⟨g, 0, none⟩), .agg #[.string o.op, .slice r.1 r.2.1 r.2.2], .int .i64 dst, .int .i64 guard, .func (.func 40) #[] #[.pointer (some ⟨gl, 0, none⟩)]] w (OpPost o dst w) := by
  obtain ⟨op, args⟩ := o
  obtain ⟨A, n, c⟩ := r
  simp only at hrow hn hx hsz h0
  have hz1 : ¬ 9223372036854775807 < 1 + op.size := by omega
  obtain ⟨W1, hW1⟩ : ∃ W1, W1 = (w.alloc (.cells #[.string op, .slice A n c] 80)).alloc (.cells #[.string ⟨#[]⟩, .int .i64 0, .slice none 0 0, .int .i64 0, .int .i64 0, .bool false, .slice none 0 0, .slice none 0 0, .string ⟨#[]⟩, .int .i64 0, .slice none 0 0] 54) := ⟨_, rfl⟩
  have hb1 : Below w.heap.size w W1 := by rw [hW1]; exact ((Below.refl _ _).alloc (Nat.le_refl _) _).alloc (by simp) _
  have hs1 : W1.heap.size = w.heap.size + 2 := by rw [hW1]; simp
  have HK := Lib.hid (show Blk W1 w.heap.size 80 #[.string op, .slice A n c] from by rw [hW1]; exact (Blk.new _ _ _).alloc _)
  have HZ := Lib.hid (show Blk W1 (w.heap.size + 1) 54 #[.string ⟨#[]⟩, .int .i64 0, .slice none 0 0, .int .i64 0, .int .i64 0, .bool false, .slice none 0 0, .slice none 0 0, .string ⟨#[]⟩, .int .i64 0, .slice none 0 0] from by rw [hW1]; have := Blk.new (w.alloc (.cells #[.string op, .slice A n c] 80)) 54 #[.string ⟨#[]⟩, .int .i64 0, .slice none 0 0, .int .i64 0, .int .i64 0, .bool false, .slice none 0 0, .slice none 0 0, .string ⟨#[]⟩, .int .i64 0, .slice none 0 0]; rw [size_alloc] at this; exact this)
  have HB1 := Lib.hid hb1
  have HS1 := Lib.hid hs1
  have HX := Lib.hid hx
  have HRW : Hid (∀ W, Below W1.heap.size W1 W → IRow W B A n c args) := Lib.hid fun W hb => hrow.below ((hb1.trans (hb.mono hb1.size)).mono hk.hB)
  have HMK : Hid (∀ W, Below W1.heap.size W1 W → Mk W B g v f A2 n2 c2 ss) := Lib.hid fun W hb => hk.later (hb1.trans (hb.mono hb1.size))
  have HLC : Hid (∀ W, Below W1.heap.size W1 W → W.cell? ⟨gl, 0, none⟩ = some (.int .i64 F)) := Lib.hid fun W hb => ((hb1.trans (hb.mono hb1.size)).cell (p := ⟨gl, 0, none⟩) hgl).trans hl
  have HGL : Hid (gl < W1.heap.size) := Lib.hid (by omega)
  have HAL : Hid (args.length = n) := Lib.hid hrow.1
  have g0 : (op.toList == [118, 97, 114]) = true := (by rw [h0, bs_toList]; try decide); have g1 : (op.toList == [99, 111, 110, 116]) = false := (by rw [h0, bs_toList]; try decide); have g2 : (op.toList == [42]) = false := (by rw [h0, bs_toList]; try decide); have g3 : (op.toList == [115, 101, 108]) = false := (by rw [h0, bs_toList]; try decide)
  clear h0 hk hrow hb1 hs1 hx hl hgl
  go_enter Try.func41, Try.ntmps41
  go_upto_region 1 with fail
  rw [← hW1]
  clear hW1
  obtain ⟨e0, e1⟩ := HK.out.two
  obtain ⟨w5, hw5⟩ : ∃ w5, w5 = W1.alloc (.cells #[.string (⟨#[108]⟩ ++ op), .int .i64 dst, .slice none 0 0, .int .i64 0, .int .i64 0, .bool false, .slice none 0 0, .slice none 0 0, .string ⟨#[]⟩, .int .i64 guard, .slice none 0 0] 54) := ⟨_, rfl⟩
  obtain ⟨g5, hg5⟩ : ∃ g5, g5 = W1.heap.size := ⟨_, rfl⟩
  have HB5 : Hid (Below W1.heap.size W1 w5) := Lib.hid (by rw [hw5]; exact (Below.refl _ _).alloc (Nat.le_refl _) _)
  have HN : Hid (Blk w5 g5 54 #[.string (⟨#[108]⟩ ++ op), .int .i64 dst, .slice none 0 0, .int .i64 0, .int .i64 0, .bool false, .slice none 0 0, .slice none 0 0, .string ⟨#[]⟩, .int .i64 guard, .slice none 0 0]) := Lib.hid (by rw [hw5, hg5]; exact Blk.new _ _ _)
  have HG5 : Hid (W1.heap.size ≤ g5) := Lib.hid (by rw [hg5]; exact Nat.le_refl _)
  go_upto_region 2 with fail
  rw [← hw5, ← hg5]
  clear hw5 hg5 e0 e1
  obtain ⟨e0, e1⟩ := (HK.out.later HB5.out).two
  obtain ⟨nc0, nc1, nc2, nc3, nc4, nc5, nc6, nc7, nc8, nc9, nc10⟩ := HN.out.elev
  obtain ⟨nf0, nf1, nf2, nf3, nf4, nf5, nf6, nf7, nf8, nf9, nf10⟩ := HN.out.elevF
  have HTC := Lib.hid (turnM_t g B v f A2 n2 c2 ss A n c args w5 (HMK.out w5 HB5.out) (HRW.out w5 HB5.out) (HMK.out w5 HB5.out).hB hn HX.out)
  go_upto_region 13 with (go_at_call 49; (with_reducible refine HTC.out.mono ?_); rintro e w6 ⟨v6, l6, rfl, hown, hl6, hb6⟩; obtain ⟨a6, n6, c6, hv6⟩ := own_slice hown; subst hv6; have HB6 := Lib.hid (HB5.out.trans (hb6.mono HB5.out.size)); have HN6 := Lib.hid (HN.out.later hb6); clear hown hb6 e0 e1 nc0 nc1 nc2 nc3 nc4 nc5 nc6 nc7 nc8 nc9 nc10 nf0 nf1 nf2 nf3 nf4 nf5 nf6 nf7 nf8 nf9 nf10; obtain ⟨nc0, nc1, nc2, nc3, nc4, nc5, nc6, nc7, nc8, nc9, nc10⟩ := HN6.out.elev; obtain ⟨nf0, nf1, nf2, nf3, nf4, nf5, nf6, nf7, nf8, nf9, nf10⟩ := HN6.out.elevF)
  obtain ⟨w7, hw7⟩ : ∃ w7, w7 = w6.setCell ⟨g5, 2, none⟩ (.slice a6 n6 c6) := ⟨_, rfl⟩
  have HN7 : Hid (Blk w7 g5 54 #[.string (⟨#[108]⟩ ++ op), .int .i64 dst, .slice a6 n6 c6, .int .i64 0, .int .i64 0, .bool false, .slice none 0 0, .slice none 0 0, .string ⟨#[]⟩, .int .i64 guard, .slice none 0 0]) := Lib.hid (by rw [hw7]; exact HN6.out.putA 2 _)
  have HB7 : Hid (Below W1.heap.size W1 w7) := Lib.hid (by rw [hw7]; exact HB6.out.setCell (p := ⟨g5, 2, none⟩) HG5.out _)
  rw [← hw7]
  clear hw7 nc0 nc1 nc2 nc3 nc4 nc5 nc6 nc7 nc8 nc9 nc10 nf0 nf1 nf2 nf3 nf4 nf5 nf6 nf7 nf8 nf9 nf10
  obtain ⟨nc0, nc1, nc2, nc3, nc4, nc5, nc6, nc7, nc8, nc9, nc10⟩ := HN7.out.elev
  obtain ⟨yc0, yc1, yc2, yc3, yc4, yc5, yc6, yc7, yc8, yc9, yc10⟩ := (HZ.out.later HB7.out).elev
  obtain ⟨zc0, zc1, zc2, zc3, zc4, zc5, zc6, zc7, zc8, zc9, zc10⟩ := (HZ.out.later HB7.out).elevF
  have HR := Lib.hid ((HZ.out.later HB7.out).put11 (.string (⟨#[108]⟩ ++ op)) (.int .i64 dst) (.slice a6 n6 c6) (.int .i64 0) (.int .i64 0) (.bool false) (.slice none 0 0) (.slice none 0 0) (.string ⟨#[]⟩) (.int .i64 guard) (.slice none 0 0))
  have HOL := Lib.hid (belowP11 (HB1.out.trans (HB7.out.mono HB1.out.size)) (Nat.le_succ _) (.string (⟨#[108]⟩ ++ op)) (.int .i64 dst) (.slice a6 n6 c6) (.int .i64 0) (.int .i64 0) (.bool false) (.slice none 0 0) (.slice none 0 0) (.string ⟨#[]⟩) (.int .i64 guard) (.slice none 0 0))
  go_wp2
  refine ret_row rfl (w.heap.size + 1) _ HR.out rfl rfl Try.underlying54 Try.infoInsS ?_
  exact ⟨⟨⟨⟨#[108]⟩ ++ op, dst, (a6, n6, c6), 0, 0, false, (none, 0, 0), (none, 0, 0), ⟨#[]⟩, guard, (none, 0, 0)⟩, rfl, rfl, rfl⟩, HOL.out⟩
set_option maxHeartbeats 4000000 in
theorem opn_cont (g B gl : Nat) (F : Int) (v : FlatV) (f : FlatM) (A2 : Option Addr) (n2 c2 : Nat) (ss : List Int) (o : COpM) (r : Option Addr × Nat × Nat) (dst guard : Int) (w : World) (hk : Mk w B g v f A2 n2 c2 ss) (hrow : IRow w B r.1 r.2.1 r.2.2 o.args) (hn : r.2.1 ≤ 1000000) (hl : w.cell? ⟨gl, 0, none⟩ = some (.int .i64 F)) (hgl : gl < w.heap.size) (hsz : o.op.size ≤ 100) (hx : r.2.1 = 1) (h0 : o.op = bs [99, 111, 110, 116]) :
    Calls Try.prog 41 #[.pointer (some ⟨g, 0, none⟩), .agg #[.string o.op, .slice r.1 r.2.1 r.2.2], .int .i64 dst, .int .i64 guard, .func (.func 40) #[] #[.pointer (some ⟨gl, 0, none⟩)]] w (OpPost o dst w) := by
  obtain ⟨op, args⟩ := o
  obtain ⟨A, n, c⟩ := r
  simp only at hrow hn hx hsz h0
  have hz1 : ¬ 9223372036854775807 < 1 + op.size := by omega
  obtain ⟨W1, hW1⟩ : ∃ W1, W1 = (w.alloc (.cells #[.string op, .slice A n c] 80)).alloc (.cells #[.string ⟨#[]⟩, .int .i64 0, .slice none 0 0, .int .i64 0, .int .i64 0, .bool false, .slice none 0 0, .slice none 0 0, .string ⟨#[]⟩, .int .i64 0, .slice none 0 0] 54) := ⟨_, rfl⟩
  have hb1 : Below w.heap.size w W1 := by rw [hW1]; exact ((Below.refl _ _).alloc (Nat.le_refl _) _).alloc (by simp) _
  have hs1 : W1.heap.size = w.heap.size + 2 := by rw [hW1]; simp
  have HK := Lib.hid (show Blk W1 w.heap.size 80 #[.string op, .slice A n c] from by rw [hW1]; exact (Blk.new _ _ _).alloc _)
  have HZ := Lib.hid (show Blk W1 (w.heap.size + 1) 54 #[.string ⟨#[]⟩, .int .i64 0, .slice none 0 0, .int .i64 0, .int .i64 0, .bool false, .slice none 0 0, .slice none 0 0, .string ⟨#[]⟩, .int .i64 0, .slice none 0 0] from by rw [hW1]; have := Blk.new (w.alloc (.cells #[.string op, .slice A n c] 80)) 54 #[.string ⟨#[]⟩, .int .i64 0, .slice none 0 0, .int .i64 0, .int .i64 0, .bool false, .slice none 0 0, .slice none 0 0, .string ⟨#[]⟩, .int .i64 0, .slice none 0 0]; rw [size_alloc] at this; exact this)
  have HB1 := Lib.hid hb1
  have HS1 := Lib.hid hs1
  have HX := Lib.hid hx
  have HRW : Hid (∀ W, Below W1.heap.size W1 W → IRow W B A n c args) := Lib.hid fun W hb => hrow.below ((hb1.trans (hb.mono hb1.size)).mono hk.hB)
  have HMK : Hid (∀ W, Below W1.heap.size W1 W → Mk W B g v f A2 n2 c2 ss) := Lib.hid fun W hb => hk.later (hb1.trans (hb.mono hb1.size))
  have HLC : Hid (∀ W, Below W1.heap.size W1 W → W.cell? ⟨gl, 0, none⟩ = some (.int .i64 F)) := Lib.hid fun W hb => ((hb1.trans (hb.mono hb1.size)).cell (p := ⟨gl, 0, none⟩) hgl).trans hl
  have HGL : Hid (gl < W1.heap.size) := Lib.hid (by omega)
  have HAL : Hid (args.length = n) := Lib.hid hrow.1
  have g0 : (op.toList == [118, 97, 114]) = false := (by rw [h0, bs_toList]; try decide); have g1 : (op.toList == [99, 111, 110, 116]) = true := (by rw [h0, bs_toList]; try decide); have g2 : (op.toList == [42]) = false := (by rw [h0, bs_toList]; try decide); have g3 : (op.toList == [115, 101, 108]) = false := (by rw [h0, bs_toList]; try decide)
  clear h0 hk hrow hb1 hs1 hx hl hgl
  go_enter Try.func41, Try.ntmps41
  go_upto_region 1 with fail
  rw [← hW1]
  clear hW1
  obtain ⟨e0, e1⟩ := HK.out.two
  obtain ⟨w5, hw5⟩ : ∃ w5, w5 = W1.alloc (.cells #[.string (⟨#[108]⟩ ++ op), .int .i64 dst, .slice none 0 0, .int .i64 0, .int .i64 0, .bool false, .slice none 0 0, .slice none 0 0, .string ⟨#[]⟩, .int .i64 guard, .slice none 0 0] 54) := ⟨_, rfl⟩
  obtain ⟨g5, hg5⟩ : ∃ g5, g5 = W1.heap.size := ⟨_, rfl⟩
  have HB5 : Hid (Below W1.heap.size W1 w5) := Lib.hid (by rw [hw5]; exact (Below.refl _ _).alloc (Nat.le_refl _) _)
  have HN : Hid (Blk w5 g5 54 #[.string (⟨#[108]⟩ ++ op), .int .i64 dst, .slice none 0 0, .int .i64 0, .int .i64 0, .bool false, .slice none 0 0, .slice none 0 0, .string ⟨#[]⟩, .int .i64 guard, .slice none 0 0]) := Lib.hid (by rw [hw5, hg5]; exact Blk.new _ _ _)
  have HG5 : Hid (W1.heap.size ≤ g5) := Lib.hid (by rw [hg5]; exact Nat.le_refl _)
  go_upto_region 2 with fail
  rw [← hw5, ← hg5]
  clear hw5 hg5 e0 e1
  obtain ⟨e0, e1⟩ := (HK.out.later HB5.out).two
  obtain ⟨nc0, nc1, nc2, nc3, nc4, nc5, nc6, nc7, nc8, nc9, nc10⟩ := HN.out.elev
  obtain ⟨nf0, nf1, nf2, nf3, nf4, nf5, nf6, nf7, nf8, nf9, nf10⟩ := HN.out.elevF
  obtain ⟨b, off, hab, hbB, hc0⟩ := (HRW.out w5 HB5.out).at_ (show 0 < n by have := HX.out; omega)
  subst hab
  have hbl : b < w5.heap.size := Nat.lt_of_lt_of_le hbB (HMK.out w5 HB5.out).hB
  obtain ⟨X, hX⟩ : ∃ X, X = args.getD 0 0 := ⟨_, rfl⟩
  rw [← hX, Nat.add_zero] at hc0
  have hn1 : (0 : Int) < (n : Int) := by have := HX.out; omega
  clear hX
  go_upto_region 13 with fail
  obtain ⟨w7, hw7⟩ : ∃ w7, w7 = w5.setCell ⟨g5, 3, none⟩ (.int .i64 X) := ⟨_, rfl⟩
  have HN7 : Hid (Blk w7 g5 54 #[.string (⟨#[108]⟩ ++ op), .int .i64 dst, .slice none 0 0, .int .i64 X, .int .i64 0, .bool false, .slice none 0 0, .slice none 0 0, .string ⟨#[]⟩, .int .i64 guard, .slice none 0 0]) := Lib.hid (by rw [hw7]; exact HN.out.putA 3 _)
  have HB7 : Hid (Below W1.heap.size W1 w7) := Lib.hid (by rw [hw7]; exact HB5.out.setCell (p := ⟨g5, 3, none⟩) HG5.out _)
  rw [← hw7]
  clear hw7 hc0 e0 e1 nc0 nc1 nc2 nc3 nc4 nc5 nc6 nc7 nc8 nc9 nc10 nf0 nf1 nf2 nf3 nf4 nf5 nf6 nf7 nf8 nf9 nf10
  obtain ⟨nc0, nc1, nc2, nc3, nc4, nc5, nc6, nc7, nc8, nc9, nc10⟩ := HN7.out.elev
  obtain ⟨yc0, yc1, yc2, yc3, yc4, yc5, yc6, yc7, yc8, yc9, yc10⟩ := (HZ.out.later HB7.out).elev
  obtain ⟨zc0, zc1, zc2, zc3, zc4, zc5, zc6, zc7, zc8, zc9, zc10⟩ := (HZ.out.later HB7.out).elevF
  have HR := Lib.hid ((HZ.out.later HB7.out).put11 (.string (⟨#[108]⟩ ++ op)) (.int .i64 dst) (.slice none 0 0) (.int .i64 X) (.int .i64 0) (.bool false) (.slice none 0 0) (.slice none 0 0) (.string ⟨#[]⟩) (.int .i64 guard) (.slice none 0 0))
  have HOL := Lib.hid (belowP11 (HB1.out.trans (HB7.out.mono HB1.out.size)) (Nat.le_succ _) (.string (⟨#[108]⟩ ++ op)) (.int .i64 dst) (.slice none 0 0) (.int .i64 X) (.int .i64 0) (.bool false) (.slice none 0 0) (.slice none 0 0) (.string ⟨#[]⟩) (.int .i64 guard) (.slice none 0 0))
  go_wp2
  refine ret_row rfl (w.heap.size + 1) _ HR.out rfl rfl Try.underlying54 Try.infoInsS ?_
  exact ⟨⟨⟨⟨#[108]⟩ ++ op, dst, (none, 0, 0), X, 0, false, (none, 0, 0), (none, 0, 0), ⟨#[]⟩, guard, (none, 0, 0)⟩, rfl, rfl, rfl⟩, HOL.out⟩
set_option maxHeartbeats 4000000 in
theorem opn_mul (g B gl : Nat) (F : Int) (v : FlatV) (f : FlatM) (A2 : Option Addr) (n2 c2 : Nat) (ss : List Int) (o : COpM) (r : Option Addr × Nat × Nat) (dst guard : Int) (w : World) (hk : Mk w B g v f A2 n2 c2 ss) (hrow : IRow w B r.1 r.2.1 r.2.2 o.args) (hn : r.2.1 ≤ 1000000) (hl : w.cell? ⟨gl, 0, none⟩ = some (.int .i64 F)) (hgl : gl < w.heap.size) (hsz : o.op.size ≤ 100) (hx : r.2.1 = 3) (h0 : o.op = bs [42]) :
    Calls Try.prog 41 #[.pointer (some ⟨g, 0, none⟩), .agg #[.string o.op, .slice r.1 r.2.1 r.2.2], .int .i64 dst, .int .i64 guard, .func (.func 40) #[] #[.pointer (some ⟨gl, 0, none⟩)]] w (OpPost o dst w) := by
  obtain ⟨op, args⟩ := o
  obtain ⟨A, n, c⟩ := r
  simp only at hrow hn hx hsz h0
  have hz1 : ¬ 9223372036854775807 < 1 + op.size := by omega
  obtain ⟨W1, hW1⟩ : ∃ W1, W1 = (w.alloc (.cells #[.string op, .slice A n c] 80)).alloc (.cells #[.string ⟨#[]⟩, .int .i64 0, .slice none 0 0, .int .i64 0, .int .i64 0, .bool false, .slice none 0 0, .slice none 0 0, .string ⟨#[]⟩, .int .i64 0, .slice none 0 0] 54) := ⟨_, rfl⟩
  have hb1 : Below w.heap.size w W1 := by rw [hW1]; exact ((Below.refl _ _).alloc (Nat.le_refl _) _).alloc (by simp) _
  have hs1 : W1.heap.size = w.heap.size + 2 := by rw [hW1]; simp
  have HK := Lib.hid (show Blk W1 w.heap.size 80 #[.string op, .slice A n c] from by rw [hW1]; exact (Blk.new _ _ _).alloc _)
  have HZ := Lib.hid (show Blk W1 (w.heap.size + 1) 54 #[.string ⟨#[]⟩, .int .i64 0, .slice none 0 0, .int .i64 0, .int .i64 0, .bool false, .slice none 0 0, .slice none 0 0, .string ⟨#[]⟩, .int .i64 0, .slice none 0 0] from by rw [hW1]; have := Blk.new (w.alloc (.cells #[.string op, .slice A n c] 80)) 54 #[.string ⟨#[]⟩, .int .i64 0, .slice none 0 0, .int .i64 0, .int .i64 0, .bool false, .slice none 0 0, .slice none 0 0, .string ⟨#[]⟩, .int .i64 0, .slice none 0 0]; rw [size_alloc] at this; exact this)
  have HB1 := Lib.hid hb1
  have HS1 := Lib.hid hs1
  have HX := Lib.hid hx
  have HRW : Hid (∀ W, Below W1.heap.size W1 W → IRow W B A n c args) := Lib.hid fun W hb => hrow.below ((hb1.trans (hb.mono hb1.size)).mono hk.hB)
  have HMK : Hid (∀ W, Below W1.heap.size W1 W → Mk W B g v f A2 n2 c2 ss) := Lib.hid fun W hb => hk.later (hb1.trans (hb.mono hb1.size))
  have HLC : Hid (∀ W, Below W1.heap.size W1 W → W.cell? ⟨gl, 0, none⟩ = some (.int .i64 F)) := Lib.hid fun W hb => ((hb1.trans (hb.mono hb1.size)).cell (p := ⟨gl, 0, none⟩) hgl).trans hl
  have HGL : Hid (gl < W1.heap.size) := Lib.hid (by omega)
  have HAL : Hid (args.length = n) := Lib.hid hrow.1
  have g0 : (op.toList == [118, 97, 114]) = false := (by rw [h0, bs_toList]; try decide); have g1 : (op.toList == [99, 111, 110, 116]) = false := (by rw [h0, bs_toList]; try decide); have g2 : (op.toList == [42]) = true := (by rw [h0, bs_toList]; try decide); have g3 : (op.toList == [115, 101, 108]) = false := (by rw [h0, bs_toList]; try decide)
  clear h0 hk hrow hb1 hs1 hx hl hgl
  go_enter Try.func41, Try.ntmps41
  go_upto_region 1 with fail
  rw [← hW1]
  clear hW1
  obtain ⟨e0, e1⟩ := HK.out.two
  obtain ⟨w5, hw5⟩ : ∃ w5, w5 = W1.alloc (.cells #[.string (⟨#[108]⟩ ++ op), .int .i64 dst, .slice none 0 0, .int .i64 0, .int .i64 0, .bool false, .slice none 0 0, .slice none 0 0, .string ⟨#[]⟩, .int .i64 guard, .slice none 0 0] 54) := ⟨_, rfl⟩
  obtain ⟨g5, hg5⟩ : ∃ g5, g5 = W1.heap.size := ⟨_, rfl⟩
  have HB5 : Hid (Below W1.heap.size W1 w5) := Lib.hid (by rw [hw5]; exact (Below.refl _ _).alloc (Nat.le_refl _) _)
  have HN : Hid (Blk w5 g5 54 #[.string (⟨#[108]⟩ ++ op), .int .i64 dst, .slice none 0 0, .int .i64 0, .int .i64 0, .bool false, .slice none 0 0, .slice none 0 0, .string ⟨#[]⟩, .int .i64 guard, .slice none 0 0]) := Lib.hid (by rw [hw5, hg5]; exact Blk.new _ _ _)
  have HG5 : Hid (W1.heap.size ≤ g5) := Lib.hid (by rw [hg5]; exact Nat.le_refl _)
  go_upto_region 2 with fail
  rw [← hw5, ← hg5]
  clear hw5 hg5 e0 e1
  obtain ⟨e0, e1⟩ := (HK.out.later HB5.out).two
  obtain ⟨nc0, nc1, nc2, nc3, nc4, nc5, nc6, nc7, nc8, nc9, nc10⟩ := HN.out.elev
  obtain ⟨nf0, nf1, nf2, nf3, nf4, nf5, nf6, nf7, nf8, nf9, nf10⟩ := HN.out.elevF
  obtain ⟨b, off, hab, hbB, hc0⟩ := (HRW.out w5 HB5.out).at_ (show 0 < n by have := HX.out; omega)
  subst hab
  have hbl : b < w5.heap.size := Nat.lt_of_lt_of_le hbB (HMK.out w5 HB5.out).hB
  clear hc0
  obtain ⟨X, hX⟩ : ∃ X, X = args.getD 2 0 := ⟨_, rfl⟩
  have hrw5 := HRW.out w5 HB5.out
  obtain ⟨b2, off2, hab2, _, hc2⟩ := hrw5.at_ (show 2 < n by have := HX.out; omega)
  injection hab2 with hab2
  injection hab2 with q1 q2
  subst q1 q2
  rw [← hX] at hc2
  have hcap : 2 ≤ c := by have := hrw5.2.1; have := HX.out; omega
  have hcm := hrw5.2.2.1
  unfold maxLen at hcm
  have hn2 : (2 : Int) < (n : Int) := by have := HX.out; omega
  have hcI : (2 : Int) ≤ (c : Int) := by omega
  have hcJ : ¬ (c : Int) < 2 := by omega
  have HTC := Lib.hid (turnL_t gl B F (some ⟨b, off, none⟩) 2 c (args.take 2) w5.drew (HLC.out w5.drew HB5.out.drew) (Nat.lt_of_lt_of_le HGL.out HB5.out.size) ((HRW.out w5.drew HB5.out.drew).takeC (by have := HX.out; omega)) (HMK.out w5.drew HB5.out.drew).hB (by omega))
  have HP : Hid (w5.drew.cell? ⟨b, off + 2, none⟩ = some (.int .i64 X)) := Lib.hid hc2
  have hbC : b < W1.heap.size := by have := (HMK.out W1 (Below.refl _ _)).hB; omega
  have HBC := Lib.hid hbC
  clear hX hrw5 hc2
  go_upto_region 10 with fail
  clear e0 e1 nc0 nc1 nc2 nc3 nc4 nc5 nc6 nc7 nc8 nc9 nc10 nf0 nf1 nf2 nf3 nf4 nf5 nf6 nf7 nf8 nf9 nf10
  go_region_held3 (fun w' => w'.cell? ⟨b, off + 2, none⟩ = some (.int .i64 X)) (first | with_reducible exact HP.out | with_reducible exact HPb.out | with_reducible exact HPc.out) (first
    | (go_at_call 49; (with_reducible refine HTC.out.mono ?_); rintro e w6 ⟨v6, l6, rfl, hown, hl6, hb6⟩; obtain ⟨a6, n6, c6, hv6⟩ := own_slice hown; subst hv6; have HB6 := Lib.hid (HB5.out.drew.trans (hb6.mono HB5.out.size)); have HN6 := Lib.hid ((show Blk w5.drew g5 54 #[.string (⟨#[108]⟩ ++ op), .int .i64 dst, .slice none 0 0, .int .i64 0, .int .i64 0, .bool false, .slice none 0 0, .slice none 0 0, .string ⟨#[]⟩, .int .i64 guard, .slice none 0 0] from HN.out).later hb6); replace HP := Lib.hid ((hb6.mono HB5.out.size).cell (p := ⟨b, off + 2, none⟩) HBC.out |>.trans HP.out); have HPb := Lib.hid ((((Below.refl W1.heap.size w6).setCell (p := ⟨g5, 2, none⟩) HG5.out (.slice a6 n6 c6)).cell (p := ⟨b, off + 2, none⟩) HBC.out).trans HP.out); have HPc := Lib.hid ((((Below.refl W1.heap.size _).setCell (p := ⟨g5, 3, none⟩) HG5.out (.int .i64 X)).cell (p := ⟨b, off + 2, none⟩) HBC.out).trans HPb.out); obtain ⟨nc0, nc1, nc2, nc3, nc4, nc5, nc6, nc7, nc8, nc9, nc10⟩ := HN6.out.elev; obtain ⟨nf0, nf1, nf2, nf3, nf4, nf5, nf6, nf7, nf8, nf9, nf10⟩ := HN6.out.elevF; clear hown hb6))
  obtain ⟨w7, hw7⟩ : ∃ w7, w7 = (w6.setCell ⟨g5, 2, none⟩ (.slice a6 n6 c6)).setCell ⟨g5, 3, none⟩ (.int .i64 X) := ⟨_, rfl⟩
  have HN7 : Hid (Blk w7 g5 54 #[.string (⟨#[108]⟩ ++ op), .int .i64 dst, .slice a6 n6 c6, .int .i64 X, .int .i64 0, .bool false, .slice none 0 0, .slice none 0 0, .string ⟨#[]⟩, .int .i64 guard, .slice none 0 0]) := Lib.hid (by rw [hw7]; exact (HN6.out.putA 2 _).putA 3 _)
  have HB7 : Hid (Below W1.heap.size W1 w7) := Lib.hid (by rw [hw7]; exact (HB6.out.setCell (p := ⟨g5, 2, none⟩) HG5.out _).setCell (p := ⟨g5, 3, none⟩) HG5.out _)
  rw [← hw7]
  clear hw7 HP HPb HPc nc0 nc1 nc2 nc3 nc4 nc5 nc6 nc7 nc8 nc9 nc10 nf0 nf1 nf2 nf3 nf4 nf5 nf6 nf7 nf8 nf9 nf10
  obtain ⟨nc0, nc1, nc2, nc3, nc4, nc5, nc6, nc7, nc8, nc9, nc10⟩ := HN7.out.elev
  obtain ⟨yc0, yc1, yc2, yc3, yc4, yc5, yc6, yc7, yc8, yc9, yc10⟩ := (HZ.out.later HB7.out).elev
  obtain ⟨zc0, zc1, zc2, zc3, zc4, zc5, zc6, zc7, zc8, zc9, zc10⟩ := (HZ.out.later HB7.out).elevF
  have HR := Lib.hid ((HZ.out.later HB7.out).put11 (.string (⟨#[108]⟩ ++ op)) (.int .i64 dst) (.slice a6 n6 c6) (.int .i64 X) (.int .i64 0) (.bool false) (.slice none 0 0) (.slice none 0 0) (.string ⟨#[]⟩) (.int .i64 guard) (.slice none 0 0))
  have HOL := Lib.hid (belowP11 (HB1.out.trans (HB7.out.mono HB1.out.size)) (Nat.le_succ _) (.string (⟨#[108]⟩ ++ op)) (.int .i64 dst) (.slice a6 n6 c6) (.int .i64 X) (.int .i64 0) (.bool false) (.slice none 0 0) (.slice none 0 0) (.string ⟨#[]⟩) (.int .i64 guard) (.slice none 0 0))
  go_wp2
  refine ret_row rfl (w.heap.size + 1) _ HR.out rfl rfl Try.underlying54 Try.infoInsS ?_
  exact ⟨⟨⟨⟨#[108]⟩ ++ op, dst, (a6, n6, c6), X, 0, false, (none, 0, 0), (none, 0, 0), ⟨#[]⟩, guard, (none, 0, 0)⟩, rfl, rfl, rfl⟩, HOL.out⟩

end Go.Proofs.Ytanbekbalfbkcaa

namespace Go.Proofs.Ytanbekbalfbkcaa
set_option linter.unusedVariables false
set_option linter.unusedSimpArgs false
set_option maxRecDepth 100000
open Go.RowKit

set_option maxHeartbeats 4000000 in
theorem opn_sel (g B gl : Nat) (F : Int) (v : FlatV) (f : FlatM) (A2 : Option Addr) (n2 c2 : Nat) (ss : List Int) (o : COpM) (r : Option Addr × Nat × Nat) (dst guard : Int) (w : World) (hk : Mk w B g v f A2 n2 c2 ss) (hrow : IRow w B r.1 r.2.1 r.2.2 o.args) (hn : r.2.1 ≤ 1000000) (hl : w.cell? ⟨gl, 0, none⟩ = some (.int .i64 F)) (hgl : gl < w.heap.size) (hsz : o.op.size ≤ 100) (hx : r.2.1 = 3 ∧ o.args.getD 0 0 < (n2 : Int)) (h0 : o.op = bs [115, 101, 108]) :
    Calls Try.prog 41 #[.pointer (some ⟨g, 0, none⟩), .agg #[.string o.op, .slice r.1 r.2.1 r.2.2], .int .i64 dst, .int .i64 guard, .func (.func 40) #[] #[.pointer (some ⟨gl, 0, none⟩)]] w (OpPost o dst w) := by
  obtain ⟨op, args⟩ := o
  obtain ⟨A, n, c⟩ := r
  simp only at hrow hn hx hsz h0
  have hz1 : ¬ 9223372036854775807 < 1 + op.size := by omega
  obtain ⟨W1, hW1⟩ : ∃ W1, W1 = (w.alloc (.cells #[.string op, .slice A n c] 80)).alloc (.cells #[.string ⟨#[]⟩, .int .i64 0, .slice none 0 0, .int .i64 0, .int .i64 0, .bool false, .slice none 0 0, .slice none 0 0, .string ⟨#[]⟩, .int .i64 0, .slice none 0 0] 54) := ⟨_, rfl⟩
  have hb1 : Below w.heap.size w W1 := by rw [hW1]; exact ((Below.refl _ _).alloc (Nat.le_refl _) _).alloc (by simp) _
  have hs1 : W1.heap.size = w.heap.size + 2 := by rw [hW1]; simp
  have HK := Lib.hid (show Blk W1 w.heap.size 80 #[.string op, .slice A n c] from by rw [hW1]; exact (Blk.new _ _ _).alloc _)
  have HZ := Lib.hid (show Blk W1 (w.heap.size + 1) 54 #[.string ⟨#[]⟩, .int .i64 0, .slice none 0 0, .int .i64 0, .int .i64 0, .bool false, .slice none 0 0, .slice none 0 0, .string ⟨#[]⟩, .int .i64 0, .slice none 0 0] from by rw [hW1]; have := Blk.new (w.alloc (.cells #[.string op, .slice A n c] 80)) 54 #[.string ⟨#[]⟩, .int .i64 0, .slice none 0 0, .int .i64 0, .int .i64 0, .bool false, .slice none 0 0, .slice none 0 0, .string ⟨#[]⟩, .int .i64 0, .slice none 0 0]; rw [size_alloc] at this; exact this)
  have HB1 := Lib.hid hb1
  have HS1 := Lib.hid hs1
  have HX := Lib.hid hx
  have HRW : Hid (∀ W, Below W1.heap.size W1 W → IRow W B A n c args) := Lib.hid fun W hb => hrow.below ((hb1.trans (hb.mono hb1.size)).mono hk.hB)
  have HMK : Hid (∀ W, Below W1.heap.size W1 W → Mk W B g v f A2 n2 c2 ss) := Lib.hid fun W hb => hk.later (hb1.trans (hb.mono hb1.size))
  have HLC : Hid (∀ W, Below W1.heap.size W1 W → W.cell? ⟨gl, 0, none⟩ = some (.int .i64 F)) := Lib.hid fun W hb => ((hb1.trans (hb.mono hb1.size)).cell (p := ⟨gl, 0, none⟩) hgl).trans hl
  have HGL : Hid (gl < W1.heap.size) := Lib.hid (by omega)
  have HAL : Hid (args.length = n) := Lib.hid hrow.1
  have g0 : (op.toList == [118, 97, 114]) = false := (by rw [h0, bs_toList]; try decide); have g1 : (op.toList == [99, 111, 110, 116]) = false := (by rw [h0, bs_toList]; try decide); have g2 : (op.toList == [42]) = false := (by rw [h0, bs_toList]; try decide); have g3 : (op.toList == [115, 101, 108]) = true := (by rw [h0, bs_toList]; try decide)
  clear h0 hk hrow hb1 hs1 hx hl hgl
  go_enter Try.func41, Try.ntmps41
  go_upto_region 1 with fail
  rw [← hW1]
  clear hW1
  obtain ⟨e0, e1⟩ := HK.out.two
  obtain ⟨w5, hw5⟩ : ∃ w5, w5 = W1.alloc (.cells #[.string (⟨#[108]⟩ ++ op), .int .i64 dst, .slice none 0 0, .int .i64 0, .int .i64 0, .bool false, .slice none 0 0, .slice none 0 0, .string ⟨#[]⟩, .int .i64 guard, .slice none 0 0] 54) := ⟨_, rfl⟩
  obtain ⟨g5, hg5⟩ : ∃ g5, g5 = W1.heap.size := ⟨_, rfl⟩
  have HB5 : Hid (Below W1.heap.size W1 w5) := Lib.hid (by rw [hw5]; exact (Below.refl _ _).alloc (Nat.le_refl _) _)
  have HN : Hid (Blk w5 g5 54 #[.string (⟨#[108]⟩ ++ op), .int .i64 dst, .slice none 0 0, .int .i64 0, .int .i64 0, .bool false, .slice none 0 0, .slice none 0 0, .string ⟨#[]⟩, .int .i64 guard, .slice none 0 0]) := Lib.hid (by rw [hw5, hg5]; exact Blk.new _ _ _)
  have HG5 : Hid (W1.heap.size ≤ g5) := Lib.hid (by rw [hg5]; exact Nat.le_refl _)
  go_upto_region 2 with fail
  rw [← hw5, ← hg5]
  clear hw5 hg5 e0 e1
  obtain ⟨e0, e1⟩ := (HK.out.later HB5.out).two
  obtain ⟨nc0, nc1, nc2, nc3, nc4, nc5, nc6, nc7, nc8, nc9, nc10⟩ := HN.out.elev
  obtain ⟨nf0, nf1, nf2, nf3, nf4, nf5, nf6, nf7, nf8, nf9, nf10⟩ := HN.out.elevF
  obtain ⟨b, off, hab, hbB, hc0⟩ := (HRW.out w5 HB5.out).at_ (show 0 < n by have := HX.out; omega)
  subst hab
  have hbl : b < w5.heap.size := Nat.lt_of_lt_of_le hbB (HMK.out w5 HB5.out).hB
  obtain ⟨X, hX⟩ : ∃ X, X = args.getD 0 0 := ⟨_, rfl⟩
  have hXn : X < (n2 : Int) := by rw [hX]; exact HX.out.2
  rw [← hX, Nat.add_zero] at hc0
  have hrw5 := HRW.out w5 HB5.out
  have hcap : 3 ≤ c := by have := hrw5.2.1; have := HX.out.1; omega
  have hcm := hrw5.2.2.1
  unfold maxLen at hcm
  obtain rfl : n = 3 := HX.out.1
  have hba : Below w5.heap.size w5 (w5.alloc (.cells #[.int .i64 X] 3)).drew := ((Below.refl _ _).alloc (Nat.le_refl _) _).drew
  have HBA := Lib.hid (HB5.out.trans (hba.mono HB5.out.size))
  have HT1 := Lib.hid (turnM_t g B v f A2 n2 c2 ss (some ⟨w5.heap.size, 0, none⟩) 1 1 [X] (w5.alloc (.cells #[.int .i64 X] 3)).drew (HMK.out _ HBA.out) ((irow1 w5 X 3).below (Below.refl _ _).drew) (by simp [World.drew]) (by omega) (by intro y hy; simp at hy; subst hy; exact hXn))
  have HT2 := Lib.hid (fun W (hb : Below W1.heap.size W1 W) => turnL_t gl B F (some ⟨b, off + 1, none⟩) 2 (c - 1) (args.drop 1) W (HLC.out W hb) (Nat.lt_of_lt_of_le HGL.out hb.size) ((HRW.out W hb).dropC (by omega)) (HMK.out W hb).hB (by omega))
  have HP : Hid (w5.drew.cell? ⟨b, off, none⟩ = some (.int .i64 X)) := Lib.hid hc0
  have hbC : b < W1.heap.size := by have := (HMK.out W1 (Below.refl _ _)).hB; omega
  have HBC := Lib.hid hbC
  have HPa : Hid ((w5.alloc (.cells #[.int .i64 X] 3)).drew.cell? ⟨b, off, none⟩ = some (.int .i64 X)) := Lib.hid ((((Below.refl W1.heap.size w5.drew).alloc HB5.out.size (.cells #[.int .i64 X] 3)).cell (p := ⟨b, off, none⟩) hbC).trans hc0)
  have HNA := Lib.hid (HN.out.later hba)
  have HGB : Hid (g5 < (w5.alloc (.cells #[.int .i64 X] 3)).drew.heap.size) := Lib.hid (Nat.lt_of_lt_of_le HN.out.lt hba.size)
  clear hX hrw5 hc0 hba
  go_upto_region 12 with fail
  clear e0 e1 nc0 nc1 nc2 nc3 nc4 nc5 nc6 nc7 nc8 nc9 nc10 nf0 nf1 nf2 nf3 nf4 nf5 nf6 nf7 nf8 nf9 nf10
  go_region_held3 (fun w' => w'.cell? ⟨b, off, none⟩ = some (.int .i64 X)) (first | with_reducible exact HP.out | with_reducible exact HPa.out | with_reducible exact HPb.out | with_reducible exact HPc.out | with_reducible exact HPd.out | with_reducible exact HPe.out) (first
    | (go_at_call 49; first
        | ((with_reducible refine HT1.out.mono ?_); rintro e w6 ⟨v6, l6, rfl, hown, hl6, hb6⟩; obtain ⟨a6, n6, c6, hv6⟩ := own_slice hown; subst hv6; have HB6 := Lib.hid (HBA.out.trans (hb6.mono HBA.out.size)); have HPb := Lib.hid (((hb6.mono HBA.out.size).cell (p := ⟨b, off, none⟩) HBC.out).trans HPa.out); have HN6 := Lib.hid (HNA.out.later hb6); have HO6 := Lib.hid hown; have HS6 := Lib.hid hb6.size; have HL6 := Lib.hid hl6; clear hown hb6 hl6)
        | ((with_reducible refine (HT2.out _ HB6.out).mono ?_); rintro e w7 ⟨v7, l7, rfl, hown, hl7, hb7⟩; obtain ⟨a7, n7, c7, hv7⟩ := own_slice hown; subst hv7; have HB7 := Lib.hid (HB6.out.trans (hb7.mono HB6.out.size)); have HPc := Lib.hid (((hb7.mono HB6.out.size).cell (p := ⟨b, off, none⟩) HBC.out).trans HPb.out); have HN7 := Lib.hid (HN6.out.later hb7); have HO7 := Lib.hid (HO6.out.below hb7 (Nat.le_refl _)); have HR7 := Lib.hid (own_rowN hown hl7); have HS7 := Lib.hid (Nat.le_trans HS6.out hb7.size); clear hown hb7 hl7))
    | (refine stepR rfl _ _ 23 Try.underlying23 rfl (w5.alloc (.cells #[.int .i64 X] 3)).drew.heap.size w7.heap.size (.slice a6 n6 c6) l6 a7 n7 c7 l7 rfl rfl HO7.out HR7.out.2 HS7.out (by rw [HL6.out]; omega) (by have := HR7.out.1; omega) ?_; intro v8 w8 hown8 honly8 hat8; obtain ⟨a8, n8, c8, hv8⟩ := own_slice hown8; subst hv8; have HBQ := Lib.hid (honly8.own HO7.out HS7.out); have HB8 := Lib.hid (HB7.out.trans (HBQ.out.mono HBA.out.size)); have HN8 := Lib.hid (HN7.out.below HBQ.out HGB.out); have HPd := Lib.hid (((HBQ.out.mono HBA.out.size).cell (p := ⟨b, off, none⟩) HBC.out).trans HPc.out); have HPe := Lib.hid ((((Below.refl W1.heap.size w8).setCell (p := ⟨g5, 2, none⟩) HG5.out (.slice a8 n8 c8)).cell (p := ⟨b, off, none⟩) HBC.out).trans HPd.out); obtain ⟨nc0, nc1, nc2, nc3, nc4, nc5, nc6, nc7, nc8, nc9, nc10⟩ := HN8.out.elev; obtain ⟨nf0, nf1, nf2, nf3, nf4, nf5, nf6, nf7, nf8, nf9, nf10⟩ := HN8.out.elevF; clear hown8 honly8 hat8))
  all_goals
    obtain ⟨w9, hw9⟩ : ∃ w9, w9 = w8.setCell ⟨g5, 2, none⟩ (.slice a8 n8 c8) := ⟨_, rfl⟩
    have HN9 : Hid (Blk w9 g5 54 #[.string (⟨#[108]⟩ ++ op), .int .i64 dst, .slice a8 n8 c8, .int .i64 0, .int .i64 0, .bool false, .slice none 0 0, .slice none 0 0, .string ⟨#[]⟩, .int .i64 guard, .slice none 0 0]) := Lib.hid (by rw [hw9]; exact HN8.out.putA 2 _)
    have HB9 : Hid (Below W1.heap.size W1 w9) := Lib.hid (by rw [hw9]; exact HB8.out.setCell (p := ⟨g5, 2, none⟩) HG5.out _)
    rw [← hw9]
    clear hw9 HP HPa HPb HPc HPd HPe nc0 nc1 nc2 nc3 nc4 nc5 nc6 nc7 nc8 nc9 nc10 nf0 nf1 nf2 nf3 nf4 nf5 nf6 nf7 nf8 nf9 nf10
    obtain ⟨nc0, nc1, nc2, nc3, nc4, nc5, nc6, nc7, nc8, nc9, nc10⟩ := HN9.out.elev
    obtain ⟨yc0, yc1, yc2, yc3, yc4, yc5, yc6, yc7, yc8, yc9, yc10⟩ := (HZ.out.later HB9.out).elev
    obtain ⟨zc0, zc1, zc2, zc3, zc4, zc5, zc6, zc7, zc8, zc9, zc10⟩ := (HZ.out.later HB9.out).elevF
    have HR := Lib.hid ((HZ.out.later HB9.out).put11 (.string (⟨#[108]⟩ ++ op)) (.int .i64 dst) (.slice a8 n8 c8) (.int .i64 0) (.int .i64 0) (.bool false) (.slice none 0 0) (.slice none 0 0) (.string ⟨#[]⟩) (.int .i64 guard) (.slice none 0 0))
    have HOL := Lib.hid (belowP11 (HB1.out.trans (HB9.out.mono HB1.out.size)) (Nat.le_succ _) (.string (⟨#[108]⟩ ++ op)) (.int .i64 dst) (.slice a8 n8 c8) (.int .i64 0) (.int .i64 0) (.bool false) (.slice none 0 0) (.slice none 0 0) (.string ⟨#[]⟩) (.int .i64 guard) (.slice none 0 0))
    go_wp2
    refine ret_row rfl (w.heap.size + 1) _ HR.out rfl rfl Try.underlying54 Try.infoInsS ?_
    exact ⟨⟨⟨⟨#[108]⟩ ++ op, dst, (a8, n8, c8), 0, 0, false, (none, 0, 0), (none, 0, 0), ⟨#[]⟩, guard, (none, 0, 0)⟩, rfl, rfl, rfl⟩, HOL.out⟩


end Go.Proofs.Ytanbekbalfbkcaa

namespace Go.Proofs.Ytanbekbalfbkcaa
set_option linter.unusedVariables false
set_option linter.unusedSimpArgs false
set_option maxRecDepth 100000
open Go.RowKit

theorem operation_t (g B gl : Nat) (F : Int) (v : FlatV) (f : FlatM) (A2 : Option Addr) (n2 c2 : Nat) (ss : List Int) (o : COpM) (r : Option Addr × Nat × Nat) (dst guard : Int) (w : World) (j C : Nat) (hk : Mk w B g v f A2 n2 c2 ss) (hrow : IRow w B r.1 r.2.1 r.2.2 o.args) (hl : w.cell? ⟨gl, 0, none⟩ = some (.int .i64 F)) (hgl : gl < w.heap.size) (ha : askL o.op o.args j n2 C = true) :
    Calls Try.prog 41 #[.pointer (some ⟨g, 0, none⟩), .agg #[.string o.op, .slice r.1 r.2.1 r.2.2], .int .i64 dst, .int .i64 guard, .func (.func 40) #[] #[.pointer (some ⟨gl, 0, none⟩)]] w (OpPost o dst w) := by
  have hlen := hrow.1
  unfold askL at ha
  by_cases h0 : o.op = bs [118, 97, 114]
  · rw [if_pos (show o.op = copVar from h0), Bool.and_eq_true, beq_iff_eq] at ha
    exact opn_var g B gl F v f A2 n2 c2 ss o r dst guard w hk hrow (by omega) hl hgl (by rw [h0]; decide) (fun x hx => (plB_yes (List.all_eq_true.1 ha.2 x hx)).2) h0
  rw [if_neg (show ¬ o.op = copVar from h0)] at ha
  by_cases h1 : o.op = bs [99, 111, 110, 116]
  · rw [if_pos (show o.op = copCont from h1), Bool.and_eq_true, beq_iff_eq] at ha
    exact opn_cont g B gl F v f A2 n2 c2 ss o r dst guard w hk hrow (by omega) hl hgl (by rw [h1]; decide) (by omega) h1
  rw [if_neg (show ¬ o.op = copCont from h1)] at ha
  by_cases h2 : o.op = bs [42]
  · have e1 : ¬ o.op = copNeg := by rw [h2]; decide
    have e2 : copsTwo.any (fun x => decide (o.op = x)) = false := by rw [h2]; decide
    rw [if_neg e1, e2, if_neg (by simp), if_pos (show o.op = copMul from h2), Bool.and_eq_true, beq_iff_eq] at ha
    exact opn_mul g B gl F v f A2 n2 c2 ss o r dst guard w hk hrow (by omega) hl hgl (by rw [h2]; decide) (by omega) h2
  by_cases h3 : o.op = bs [115, 101, 108]
  · have e1 : ¬ o.op = copNeg := by rw [h3]; decide
    have e2 : copsTwo.any (fun x => decide (o.op = x)) = false := by rw [h3]; decide
    rw [if_neg e1, e2, if_neg (by simp), if_neg (show ¬ o.op = copMul by rw [h3]; decide), if_pos (show o.op = copSel from h3), Bool.and_eq_true, Bool.and_eq_true, beq_iff_eq] at ha
    have hx : o.args.getD 0 0 < (n2 : Int) := by
      have := List.all_eq_true.1 ha.2.1 (o.args.getD 0 0) (by rw [List.getD_eq_getElem?_getD, List.getElem?_eq_getElem (by omega), List.mem_take_iff_getElem]; exact ⟨0, by omega, rfl⟩)
      exact (plB_yes this).2
    exact opn_sel g B gl F v f A2 n2 c2 ss o r dst guard w hk hrow (by omega) hl hgl (by rw [h3]; decide) ⟨by omega, hx⟩ h3
  have hsz : o.op.size ≤ 100 ∧ r.2.1 ≤ 1000000 := by
    by_cases e1 : o.op = copNeg
    · rw [if_pos e1, Bool.and_eq_true, beq_iff_eq] at ha
      exact ⟨by rw [e1]; decide, by omega⟩
    · rw [if_neg e1] at ha
      cases e2 : copsTwo.any (fun x => decide (o.op = x)) with
      | true =>
        rw [e2, if_pos rfl, Bool.and_eq_true, beq_iff_eq] at ha
        refine ⟨?_, by omega⟩
        simp [copsTwo] at e2
        rcases e2 with e2 | e2 | e2 <;> rw [e2] <;> decide
      | false =>
        rw [e2, if_neg (by simp), if_neg (show ¬ o.op = copMul from h2), if_neg (show ¬ o.op = copSel from h3)] at ha
        cases ha
  exact opn_else g B gl F v f A2 n2 c2 ss o r dst guard w hk hrow hsz.2 hl hgl hsz.1 trivial h0 h1 h2 h3
def askN : ByteArray := ⟨#[97, 115, 107]⟩
/-- the line that an instruction tells; none, if it asks -/
def Mark (x : InsM) : Option Int := if x.op = askN then none else some x.dst
def opsN (f : FlatM) (k : Nat) : Nat := ((f.cross[k]?).map fun c => c.ops.length).getD 0
def linesTo (f : FlatM) : Nat → Nat
  | 0 => 0
  | k + 1 => linesTo f k + opsN f k
def lns (F n : Nat) : List (Option Int) := (List.range n).map fun (j : Nat) => some ((F + j : Nat) : Int)
def crT (f : FlatM) : Nat → List (Option Int)
  | 0 => []
  | k + 1 => crT f k ++ lns (linesTo f k) (opsN f k) ++ [none]
theorem lns_succ (F n : Nat) : lns F (n + 1) = lns F n ++ [some ((F + n : Nat) : Int)] := by unfold lns; rw [List.range_succ, List.map_append]; rfl
theorem lns_len (F n : Nat) : (lns F n).length = n := by unfold lns; simp
theorem crT_len (f : FlatM) : ∀ k, (crT f k).length = linesTo f k + k
  | 0 => rfl
  | k + 1 => by
    have := crT_len f k
    unfold crT linesTo
    simp only [List.length_append, lns_len, this, List.length_cons, List.length_nil]
    omega
theorem opsN_le {f : FlatM} (hs : SmallF f) (k : Nat) : opsN f k ≤ 30 := by
  unfold opsN
  cases h : f.cross[k]? with
  | none => simp
  | some c => simpa using hs.ops k c h
theorem linesTo_le {f : FlatM} (hs : SmallF f) : ∀ k, linesTo f k ≤ k * 30
  | 0 => Nat.le_refl _
  | k + 1 => by
    have := linesTo_le hs k
    have := opsN_le hs k
    unfold linesTo; omega
/-- an instruction of the third body: it asks, or its name begins with the sign -/
def IsX (x : InsM) : Prop := x.op = askN ∨ ∃ s : ByteArray, x.op = ⟨#[108]⟩ ++ s
theorem l_not_ask (s : ByteArray) : ¬ (⟨#[108]⟩ ++ s : ByteArray) = askN := fun h => by
  have h2 := congrArg (fun b : ByteArray => b.data.toList) h
  simp [askN, ByteArray.data_append] at h2
/-- what cross tells -/
def CrossPost (f : FlatM) (w : World) (e : Ending) (w' : World) : Prop := ∃ v' xs, e = .returned (.tuple #[v', .int .i64 (linesTo f f.cross.length : Nat)]) ∧ OwnS w' w.heap.size v' xs ∧ xs.map Mark = crT f f.cross.length ∧ (∀ x ∈ xs, IsX x) ∧ Below w.heap.size w w'

end Go.Proofs.Ytanbekbalfbkcaa
