/- What the document's answer's div tells, on two rows of bits. -/
import Derived.Test.YtjpjibdcjmjcgaaRefC
namespace Go.Proofs.Ytjpjibdcjmjcgaa
open Go.RowKit Nums

/-- Block g is a row of bits, none of them frozen. -/
def MemB (w : World) (g : Nat) (bs : List Bool) : Prop := w.heap[g]? = some (.cells (bs.map Value.bool).toArray 4 (0, 0))

theorem MemB.lt {w : World} {g : Nat} {bs : List Bool} (h : MemB w g bs) : g < w.heap.size := (Array.getElem?_eq_some_iff.1 h).1

theorem MemB.cell {w : World} {g : Nat} {bs : List Bool} (h : MemB w g bs) (i : Nat) (hi : i < bs.length) : w.cell? ⟨g, i, none⟩ = some (.bool (bs.getD i false)) := by
  rw [cell_of_row w g i _ 4 (0, 0) h]
  simp [hi]

theorem MemB.free {w : World} {g : Nat} {bs : List Bool} (h : MemB w g bs) (i : Nat) : w.frozen? ⟨g, i, none⟩ = false := frozen_of_row w g i _ 4 h

theorem MemB.set {w : World} {g : Nat} {bs : List Bool} (h : MemB w g bs) (i : Nat) (u : Bool) : MemB (w.setCell ⟨g, i, none⟩ (.bool u)) g (bs.set i u) := by
  have := heap_setCell_same w g i _ 4 (.bool u) h
  unfold MemB
  rw [this]
  congr 2
  rw [List.setIfInBounds_toArray, List.map_set]

theorem MemB.below {B : Nat} {w w' : World} {g : Nat} {bs : List Bool} (h : MemB w g bs) (hb : Below B w w') (hg : g < B) : MemB w' g bs := by unfold MemB; rw [hb.block g hg]; exact h

theorem MemB.row {w : World} {g : Nat} {bs : List Bool} (h : MemB w g bs) (n c : Nat) (hn : bs.length = n) (hc : n ≤ c) (hm : c ≤ maxLen) : BRow w (some ⟨g, 0, none⟩) n c bs :=
  ⟨hn, hc, hm, by simp, g, 0, Or.inl rfl, fun i hi => ⟨h.lt, by rw [Nat.zero_add]; exact h.cell i (by omega)⟩⟩

/-- make([]bool, n) -/
theorem makeB {w : World} {ops : Array Oper} {rest : List Oper} {o : Oper} {a : Act} {Q : Exit → Act → World → Prop}
    (hg : o.guard = none) (l : Operand) (hop : o.op = Op.makeSlice 41 l l) (L : Int) (n : Nat) (hl : a.eval l = .int .i64 L) (hL : L = (n : Int)) (hn : n ≤ 1000000000000)
    (hK : ∀ g w', w.heap.size ≤ g → MemB w' g (List.replicate n false) → Below w.heap.size w w' → wpList Try.prog ops Q rest (a.put o.dst (.slice (some ⟨g, 0, none⟩) n n)) w') :
    wpList Try.prog ops Q (o :: rest) a w := by
  refine wpList_plain hg fun K hK' => ?_
  obtain ⟨i, hi, hz0, hz1, hz2⟩ := info_parts Try.info4
  have hr := run_make (P := Try.prog) w 41 4 i (.bool false) Try.underlying41 hi hz0 .i64 .i64 n n (by omega) (Int.le_refl _) (by rw [hz2]; omega) (by omega)
  simp only [Int.toNat_natCast] at hr
  subst hL
  unfold Oper.wp
  simp [execOp, hop, hl, hr, Result.andThen]
  refine hK' _ _ (hK _ _ (Nat.le_refl _) ?_ ((Below.refl _ _).alloc (Nat.le_refl _) _))
  unfold MemB
  rw [heap_alloc_new]
  congr 2
  rw [hz1, Nat.mul_one]
  apply Array.ext'
  show (madeCells #[Value.bool false] n).toList = _
  rw [toList_madeCells_one]
  simp

/-- every block that a points into lies from B on -/
def From (a : Option Addr) (B : Nat) : Prop := ∀ ad, a = some ad → B ≤ ad.block

theorem brow_set {w : World} {a : Option Addr} {n c : Nat} {bs : List Bool} (h : BRow w a n c bs) {g : Nat} (hf : From a (g + 1)) (i : Nat) (u : Value) : BRow (w.setCell ⟨g, i, none⟩ u) a n c bs := by
  obtain ⟨h1, h2, h3, h4, b, off, h6, h7⟩ := h
  refine ⟨h1, h2, h3, h4, b, off, h6, fun j hj => ⟨?_, ?_⟩⟩
  · have := (h7 j hj).1; simp [World.setCell]; exact this
  · rcases h6 with rfl | h6
    · have hb := hf _ rfl
      rw [World.cell?_of_block (w := w) (Below.heap_setCell w ⟨g, i, none⟩ u b (by show b ≠ g; simp at hb; omega))]
      exact (h7 j hj).2
    · omega

theorem brow_own2 {w : World} {B : Nat} {v : Value} {bs : List Bool} (h : OwnB w B v bs) : ∃ a c, v = .slice a bs.length c ∧ BRow w a bs.length c bs ∧ From a B := by
  have hlt := h.lt
  rcases h.2 with ⟨rfl, h0⟩ | ⟨g, cap, cur, rfl, hBg, hgg, hnc, hcm, _⟩
  · have : bs = [] := List.length_eq_zero_iff.1 h0
    subst this
    exact ⟨none, 0, rfl, brow_nil w, fun ad e => by cases e⟩
  · refine ⟨some ⟨g, 0, none⟩, cap, rfl, ⟨rfl, hnc, hcm, by simp, g, 0, Or.inl rfl, fun i hi => ⟨(hlt g rfl).2, ?_⟩⟩, fun ad e => by cases e; exact hBg⟩
    rw [Nat.zero_add, h.cellAt i (by omega)]
    simp [hi]

/-- The call tells the bits of N, in a block of its own. -/
def BOwn (N : Nat) (w : World) (e : Ending) (w' : World) : Prop :=
  ∃ a' m c', e = .returned (.slice a' m c') ∧ m = (bitsOf N).length ∧ BRow w' a' m c' (bitsOf N) ∧ Below w.heap.size w w' ∧ From a' w.heap.size

theorem bcut_own2 (w0 w : World) (v : Value) (bs : List Bool) (N : Nat) (h : OwnB w w0.heap.size v bs) (hv : bval bs = N) (hn : bs.length ≤ 1000000000) (hb : Below w0.heap.size w0 w) : Calls Try.prog 51 #[v] w (BOwn N w0) := by
  subst hv
  obtain ⟨a, c, rfl, hrow, hf⟩ := brow_own2 h
  refine (bcut_num a _ c bs w hrow hn).mono ?_
  rintro e w' ⟨m, rfl, hm, hmn, hr, rfl⟩
  exact ⟨a, m, c, rfl, hm, hr, hb, hf⟩

theorem append_bit {w0 : World} {ops : Array Oper} {rest : List Oper} {o : Oper} {a : Act} {Q : Exit → Act → World → Prop} (hgd : o.guard = none) (s x : Operand)
    (ho : o.op = .call { callee := .builtin .append, args := #[s, x], argTypes := #[41, 41] }) (ao : Option Addr) (mo co : Nat) (y : Bool) (bs : List Bool) (hs : a.eval s = .slice (some ⟨w0.heap.size, 0, none⟩) 1 1) (hx : a.eval x = .slice ao mo co)
    (hrow : BRow w0 ao mo co bs) (hn : mo ≤ 1000000000)
    (hK : ∀ v' w', OwnB w' w0.heap.size v' (y :: bs) → Below w0.heap.size w0 w' → wpList Try.prog ops Q rest (a.put o.dst v') w') :
    wpList Try.prog ops Q (o :: rest) a (w0.alloc (.cells #[.bool y] 4)) := by
  obtain ⟨i0, hi, hz0, hz1, hz2⟩ := info_parts Try.info4
  have hown : (w0.alloc (.cells #[.bool y] 4)).ownsRow w0.heap.size 4 1 (.slice (some ⟨w0.heap.size, 0, none⟩) 1 1) 1 [.bool y] := World.ownsRow_lit (base := w0.heap.size) (e := 4) (size := 1) w0 #[.bool y] 1 (Nat.le_refl _) (by unfold maxLen; omega) (by simp)
  obtain ⟨hl, hnc, hcm, hnone, b, off, hor, hc⟩ := hrow
  have h2 := (Below.refl w0.heap.size w0).alloc (Nat.le_refl _) (.cells #[.bool y] 4)
  cases ao with
  | none =>
    have hc0 := hnone rfl
    have hm0 : mo = 0 := by omega
    subst hc0; subst hm0
    have hbs : bs = [] := List.length_eq_zero_iff.1 hl
    subst hbs
    exact wpList_append_own_none hgd s x 41 ho w0.heap.size 4 i0 1 Try.underlying41 hi _ 1 [.bool y] hs hown hx (hK _ _ hown h2)
  | some ad =>
    refine wpList_append_own (w0.alloc (.cells #[.bool y] 4)) hgd s x 41 ho w0.heap.size 4 i0 (.bool false) 1 1 Try.underlying41 hi hz0 hz1 hz2 rfl (by decide) _ 1 [.bool y] hs hown ad mo co (bs.map Value.bool) hx ?_ ?_ ?_ ?_ ?_ ?_ ?_
    · simp; omega
    · intro j u hj
      have hjk : j < mo := by
        have := (List.getElem?_eq_some_iff.1 hj).1
        simp at this; omega
      rcases hor with h | h
      · obtain rfl : ad = ⟨b, off, none⟩ := by injection h
        have e : (⟨b, off, none⟩ : Addr).add j = ⟨b, off + j, none⟩ := by unfold Addr.add; split <;> simp_all
        have hjx : j < bs.length := by omega
        rw [e, h2.cell (p := ⟨b, off + j, none⟩) (hc j hjk).1, (hc j hjk).2, ← hj]
        simp [hjx]
      · omega
    · intro u hu; obtain ⟨y, _, rfl⟩ := List.mem_map.1 hu; rfl
    · unfold maxLen; omega
    · omega
    · simp
    · intro v' w' h1 h3 _
      refine hK v' w' ?_ ?_
      · unfold OwnB
        have e : (y :: bs).length = 1 + mo := by simp [hl]; omega
        rw [e]
        exact h1
      · exact h2.grown h3 (by simp) (fun k hk => by simp [Value.ownBlock] at hk; omega)

set_option maxHeartbeats 4000000 in
theorem bsub_own (a0 a1 : Option Addr) (n0 c0 n1 c1 : Nat) (xs ys : List Bool) (w : World) (h0 : BRow w a0 n0 c0 xs) (h1 : BRow w a1 n1 c1 ys) (hn0 : n0 ≤ 10000000) (hn1 : n1 ≤ n0) (hle : bval ys ≤ bval xs) :
    Calls Try.prog 38 #[.slice a0 n0 c0, .slice a1 n1 c1] w (BOwn (bval xs - bval ys) w) := by
  have HL0 := Lib.hid h0.1
  have HL1 := Lib.hid h1.1
  have H0 := Lib.hid h0; clear h0
  have H1 := Lib.hid h1; clear h1
  have HLE := Lib.hid hle; clear hle
  go_enter Try.func38, Try.ntmps38
  go_wp2
  go_loopw [5, 6, 7] (fun v cv t wr => ∃ (k : Nat) (c : Bool) (out : List Bool), k ≤ n0 ∧ t = .int .i64 (k : Int) ∧ cv = .bool c ∧ Hid (OwnB wr w.heap.size v out ∧ BDiffAt xs ys out k c) ∧ Below w.heap.size w wr) (fun _ _ t _ => (10000002 - (intOf t)).toNat)
  case atStart => exact ⟨0, false, [], by omega, rfl, rfl, ⟨World.ownsRow_nil _ _ _ _, rfl, by simp [bval, bnum]⟩, Below.refl _ _⟩
  case round =>
    obtain ⟨k, c, out, hk, rfl, rfl, HZ, hbr⟩ := hrel
    have HOL : Hid (out.length = k) := HZ.out.2.1
    by_cases hkM : k < n0
    · have HX := Lib.hid (at_any a0 n0 c0 xs wr (k : Int) k rfl (brow_below (Nat.le_refl _) hbr H0.out) (by omega) (by omega))
      have HY := Lib.hid (at_any a1 n1 c1 ys wr (k : Int) k rfl (brow_below (Nat.le_refl _) hbr H1.out) (by omega) (by omega))
      obtain ⟨x, hx⟩ : ∃ x, x = xs.getD k false := ⟨_, rfl⟩
      obtain ⟨y, hy⟩ : ∃ y, y = ys.getD k false := ⟨_, rfl⟩
      rw [← hx] at HX
      rw [← hy] at HY
      have HXE := Lib.hid hx; clear hx
      have HYE := Lib.hid hy; clear hy
      cases x <;> cases y <;> cases c
      all_goals
        go_wp2_with fail
        refine HX.out.mono ?_
        rintro e w' ⟨rfl, rfl⟩
        go_wp2_with fail
        refine HY.out.mono ?_
        rintro e w' ⟨rfl, rfl⟩
        go_wp2_with (at_builtin; refine append_bool rfl _ _ rfl w.heap.size _ out rfl rfl HZ.out.1 hbr.size (by rw [HOL.out]; omega) ?_)
        intro v' w2 hown' hb2
        have HOW := Lib.hid hown'; clear hown'
        go_wp2
        go_roundw
        case rel => first | exact ⟨k + 1, false, _, by omega, by go_num, rfl, ⟨HOW.out, HZ.out.2.step HXE.out HYE.out (by decide)⟩, hbr.trans hb2⟩ | exact ⟨k + 1, true, _, by omega, by go_num, rfl, ⟨HOW.out, HZ.out.2.step HXE.out HYE.out (by decide)⟩, hbr.trans hb2⟩
        case measure => simp [intOf]; omega
    · obtain rfl : n0 = k := by omega
      have HD : Hid (bval out = bval xs - bval ys) := HZ.out.2.done (by rw [HL0.out]; omega) (by rw [HL1.out]; omega) HLE.out
      go_wp2_with fail
      refine (bcut_own2 w wr _ out _ HZ.out.1 HD.out (by rw [HOL.out]; omega) hbr).mono ?_
      rintro e w' ⟨a', m, c', rfl, hm, hrow, hb, hap⟩
      have HM' := Lib.hid hm; clear hm
      have HROW := Lib.hid hrow; clear hrow
      have HB := Lib.hid hb; clear hb
      have HAP := Lib.hid hap; clear hap
      go_wp2
      go_ret
      exact ⟨a', m, c', rfl, HM'.out, HROW.out, HB.out, HAP.out⟩

/-- quotient and rest of X by Y, as bits -/
def BQR (X Y : Nat) (w : World) (e : Ending) (w' : World) : Prop :=
  ∃ q mq cq r mr cr, e = .returned (.tuple #[.slice q mq cq, .slice r mr cr]) ∧ mq = (bitsOf (X / Y)).length ∧ mr = (bitsOf (X % Y)).length ∧ BRow w' q mq cq (bitsOf (X / Y)) ∧ BRow w' r mr cr (bitsOf (X % Y)) ∧ Below w.heap.size w w'

/-- n - k bits of the quotient are told -/
def BDivAt (X Y : Nat) (qs : List Bool) (k R : Nat) : Prop := qs.length = (bitsOf X).length ∧ R < Y ∧ R + Y * bval (qs.drop k) = bval ((bitsOf X).drop k) ∧ ∀ j, j < k → qs.getD j false = false

theorem BDivAt.start (X Y n : Nat) (hn : (bitsOf X).length = n) (hY : 0 < Y) : BDivAt X Y (List.replicate n false) n 0 := by
  refine ⟨by simp [hn], hY, ?_, fun j _ => by rw [List.getD_eq_getElem?_getD, List.getElem?_replicate]; split <;> rfl⟩
  rw [List.drop_eq_nil_of_le (by simp), List.drop_eq_nil_of_le (by omega)]
  simp [bval]

theorem drop_set_one (qs : List Bool) (k : Nat) (hk : 0 < k) (hl : k ≤ qs.length) : bval ((qs.set (k - 1) true).drop (k - 1)) = 1 + 2 * bval (qs.drop k) := by
  rw [bval_drop _ k hk (by simpa using hl)]
  obtain ⟨j, rfl⟩ : ∃ j, k = j + 1 := ⟨k - 1, by omega⟩
  have h1 : j < qs.length := by omega
  have h2 : (qs.set j true).drop (j + 1) = qs.drop (j + 1) := by rw [List.drop_set]; simp
  simp [h1, h2, bnum]

theorem BDivAt.less {X Y k R : Nat} {qs : List Bool} (h : BDivAt X Y qs k R) (hk : 0 < k) (hl : k ≤ (bitsOf X).length) (y : Bool) (hy : y = (bitsOf X).getD (k - 1) false) (hlt : bnum y + 2 * R < Y) : BDivAt X Y qs (k - 1) (bnum y + 2 * R) := by
  obtain ⟨h1, h2, h3, h4⟩ := h
  refine ⟨h1, hlt, ?_, fun j hj => h4 j (by omega)⟩
  rw [bval_drop (bitsOf X) k hk hl, ← hy, ← h3, bval_drop qs k hk (by omega), h4 (k - 1) (by omega)]
  have e : bnum false = 0 := rfl
  rw [e, Nat.zero_add, Nat.mul_left_comm]
  omega

theorem BDivAt.more {X Y k R : Nat} {qs : List Bool} (h : BDivAt X Y qs k R) (hk : 0 < k) (hl : k ≤ (bitsOf X).length) (y : Bool) (hy : y = (bitsOf X).getD (k - 1) false) (hge : Y ≤ bnum y + 2 * R) : BDivAt X Y (qs.set (k - 1) true) (k - 1) (bnum y + 2 * R - Y) := by
  obtain ⟨h1, h2, h3, h4⟩ := h
  have hb := bnum_le y
  refine ⟨by simpa using h1, by omega, ?_, fun j hj => ?_⟩
  · rw [bval_drop (bitsOf X) k hk hl, ← hy, ← h3, drop_set_one qs k hk (by omega), Nat.mul_add, Nat.mul_left_comm]
    omega
  · have := h4 j (by omega)
    rw [List.getD_eq_getElem?_getD] at this ⊢
    rw [List.getElem?_set_ne (by omega)]
    exact this

theorem BDivAt.done {X Y R : Nat} {qs : List Bool} (h : BDivAt X Y qs 0 R) : bval qs = X / Y ∧ R = X % Y := by
  obtain ⟨h1, h2, h3, h4⟩ := h
  rw [List.drop_zero, List.drop_zero, bval_bits] at h3
  exact quot_rest X (bval qs) Y R h2 (by rw [Nat.mul_comm]; omega)

set_option maxHeartbeats 4000000 in
theorem bdiv_any (a b : Option Addr) (n c m d : Nat) (X Y : Nat) (w : World) (h0 : BRow w a n c (bitsOf X)) (h1 : BRow w b m d (bitsOf Y)) (hn : n ≤ 1000000) (hm : m ≤ 1000000) (hY : 0 < Y) :
    Calls Try.prog 45 #[.slice a n c, .slice b m d] w (BQR X Y w) := by
  have HLX := Lib.hid h0.1
  have HLY := Lib.hid h1.1
  have H0 := Lib.hid h0
  have H1 := Lib.hid h1; clear h1
  have HY := Lib.hid hY; clear hY
  obtain ⟨-, -, -, -, b0, o0, hor0, hc0⟩ := h0
  have HCA := Lib.hid hc0; clear hc0
  rcases (show _ ∨ Hid _ from hor0) with rfl | hor0
  all_goals
    go_enter Try.func45, Try.ntmps45
    go_wp2_with (at_make; refine makeB rfl _ rfl _ n rfl rfl (by omega) ?_)
    intro g w1 hg hmem hb1
    have HM := Lib.hid hmem; clear hmem
    go_wp2
    go_loopw [7, 8] (fun v t wr => ∃ (k : Nat) (ao : Option Addr) (mo co R : Nat) (qs : List Bool), k ≤ n ∧ t = .int .i64 ((k : Int) - 1) ∧ v = .slice ao mo co ∧ mo ≤ m ∧ Hid (BRow wr ao mo co (bitsOf R) ∧ From ao (g + 1) ∧ MemB wr g qs ∧ BDivAt X Y qs k R) ∧ Below w.heap.size w wr) (fun _ t _ => (intOf t + 1).toNat)
    case atStart => exact ⟨n, none, 0, 0, 0, _, Nat.le_refl _, rfl, rfl, Nat.zero_le _, ⟨by rw [bits_zero]; exact brow_nil _, fun ad e => (by cases e), HM.out, BDivAt.start X Y n HLX.out HY.out⟩, hb1⟩
    case round =>
      obtain ⟨k, ao, mo, co, R, qs, hk, rfl, rfl, hmo, HZ, hbr⟩ := hrel
      by_cases hk0 : 0 < k
      · first
        | (exfalso; have := hor0.out; omega)
        | (have hs0 := HCA.out (k - 1) (by omega)
           have hcell : wr.cell? ⟨b0, o0 + (k - 1), none⟩ = some (.bool ((bitsOf X).getD (k - 1) false)) := by rw [hbr.cell (p := ⟨b0, o0 + (k - 1), none⟩) hs0.1]; exact hs0.2
           clear hs0
           obtain ⟨y, hy⟩ : ∃ y, y = (bitsOf X).getD (k - 1) false := ⟨_, rfl⟩
           rw [← hy] at hcell
           have HYE := Lib.hid hy; clear hy
           have e : ((k : Int) - 1).toNat = k - 1 := by omega
           have HGW : Hid (g < wr.heap.size) := HZ.out.2.2.1.lt
           go_wp2_with (at_builtin; refine append_bit rfl _ _ rfl ao mo co y (bitsOf R) rfl rfl HZ.out.1 (by omega) ?_)
           intro v' w5 hown' hb5
           have HOW := Lib.hid hown'; clear hown'
           have HB5 := Lib.hid hb5; clear hb5
           go_wp2_with fail
           refine (bcut_own2 wr w5 v' _ (bnum y + 2 * R) HOW.out (by simp only [bval, bval_bits]) (by rw [List.length_cons, HZ.out.1.1]; omega) HB5.out).mono ?_
           rintro e6 w6 ⟨v6, m6, c6, rfl, hm6, hr6, hb6, hf6⟩
           have HM6 := Lib.hid hm6
           have hm6b : m6 ≤ 1000002 := by
             have h2 := HZ.out.2.2.2.2.1
             have h3 := bnum_le y
             have h4 := bits_mono (a := bnum y + 2 * R) (b := Y + Y) (by omega)
             have h5 := bits_add (a := Y) (b := Y) (Nat.le_refl _) (Nat.le_refl _)
             have h6 := HLY.out
             omega
           clear hm6
           have HR6 := Lib.hid hr6; clear hr6
           have HF6 := Lib.hid hf6; clear hf6
           have HB6 := Lib.hid hb6; clear hb6
           have HBW6 := Lib.hid (hbr.trans (HB6.out.mono hbr.size))
           have HMB6 := Lib.hid (HZ.out.2.2.1.below HB6.out HGW.out)
           rcases Nat.lt_or_ge (bnum y + 2 * R) Y with hlt | hge
           · have HD := Lib.hid (HZ.out.2.2.2.less hk0 (by rw [HLX.out]; exact hk) y HYE.out hlt)
             have HCV : Hid (cmpv (bnum y + 2 * R) Y = -1) := by rw [cmpv, if_pos hlt]; exact rfl
             have HML : Hid (m6 ≤ m) := by rw [HM6.out, ← HLY.out]; exact bits_mono (Nat.le_of_lt hlt)
             clear hlt
             go_wp2_with fail
             refine (bcmp_any v6 b m6 c6 m d _ _ w6 HR6.out (brow_below (Nat.le_refl _) HBW6.out H1.out) (by omega) (by omega)).mono ?_
             rw [bval_bits, bval_bits, HCV.out]
             rintro e w' ⟨rfl, rfl⟩
             go_wp2
             go_roundw
             case rel => exact ⟨k - 1, v6, m6, c6, _, qs, by omega, by go_num, rfl, HML.out, ⟨HR6.out, fun ad ea => Nat.le_trans HGW.out (HF6.out ad ea), HMB6.out, HD.out⟩, HBW6.out⟩
             case measure => simp [intOf]; omega
           · have HD := Lib.hid (HZ.out.2.2.2.more hk0 (by rw [HLX.out]; exact hk) y HYE.out hge)
             have HCV : Hid (∃ r : Int, cmpv (bnum y + 2 * R) Y = r ∧ 0 ≤ r) := ⟨_, rfl, by rw [cmpv, if_neg (by omega)]; split <;> omega⟩
             have HGE := Lib.hid hge; clear hge
             obtain ⟨rr, hrr, hrr0⟩ := HCV.out
             have HRR := Lib.hid hrr; clear hrr
             go_wp2_with fail
             refine (bcmp_any v6 b m6 c6 m d _ _ w6 HR6.out (brow_below (Nat.le_refl _) HBW6.out H1.out) (by omega) (by omega)).mono ?_
             rw [bval_bits, bval_bits, HRR.out]
             rintro e w' ⟨rfl, rfl⟩
             go_wp2_with fail
             refine (bsub_own v6 b m6 c6 m d _ _ w6 HR6.out (brow_below (Nat.le_refl _) HBW6.out H1.out) (by omega) (by rw [HM6.out, ← HLY.out]; exact bits_mono HGE.out) (by rw [bval_bits, bval_bits]; exact HGE.out)).mono ?_
             rw [bval_bits, bval_bits]
             rintro e w7 ⟨v7, m7, c7, rfl, hm7, hr7, hb7, hf7⟩
             have HML : Hid (m7 ≤ m) := by rw [hm7, ← HLY.out]; exact bits_mono (Nat.le_of_lt HD.out.2.1)
             have HR7 := Lib.hid hr7; clear hr7 hm7
             have HF7 : Hid (From v7 (g + 1)) := fun ad ea => Nat.le_trans (Nat.le_trans HGW.out HB6.out.size) (hf7 ad ea)
             have HB7 := Lib.hid (HBW6.out.trans (hb7.mono HBW6.out.size))
             have HMB7 := Lib.hid (HMB6.out.below hb7 HMB6.out.lt)
             clear hb7 hf7
             have hold := HMB7.out.cell (k - 1) (by rw [HZ.out.2.2.2.1, HLX.out]; omega)
             have hfree := HMB7.out.free (k - 1)
             go_wp2
             go_roundw
             case rel => exact ⟨k - 1, v7, m7, c7, _, _, by omega, by go_num, rfl, HML.out, ⟨brow_set HR7.out HF7.out _ _, HF7.out, HMB7.out.set _ _, HD.out⟩, HB7.out.setCell (by exact hg) _⟩
             case measure => simp [intOf]; omega)
      · obtain rfl : k = 0 := by omega
        have HF := Lib.hid HZ.out.2.2.2.done
        have HQL : Hid (qs.length = n) := by rw [HZ.out.2.2.2.1]; exact HLX.out
        go_wp2_with fail
        refine (bcut_num (some ⟨g, 0, none⟩) n n qs wr (HZ.out.2.2.1.row n n HQL.out (Nat.le_refl _) (by unfold maxLen; omega)) (by omega)).mono ?_
        rw [HF.out.1]
        rintro e w4 ⟨mq, rfl, hmq, hmqn, hrq, rfl⟩
        have HMQ := Lib.hid hmq; clear hmq
        have HRQ := Lib.hid hrq; clear hrq
        go_wp2
        go_ret2
        refine ⟨_, mq, n, ao, mo, co, rfl, HMQ.out, ?_, HRQ.out, ?_, hbr⟩
        · rw [← HF.out.2]; exact HZ.out.1.1.symm
        · rw [← HF.out.2]; exact HZ.out.1
end Go.Proofs.Ytjpjibdcjmjcgaa
