/- What the bit rows of the document's answer are in memory; at, cut, cmp of them. -/
import Derived.Test.YtjpjibdcjmjcgaaCmp
import Derived.Test.YtjpjibdcjmjcgaaBitN
namespace Go.Proofs.Ytjpjibdcjmjcgaa
open Go.RowKit Nums

/-- A slice (a, n, c) reads as the row of bits bs. -/
def BRow (w : World) (a : Option Addr) (n c : Nat) (bs : List Bool) : Prop :=
  bs.length = n ∧ n ≤ c ∧ c ≤ maxLen ∧ (a = none → c = 0) ∧
  ∃ b off, (a = some ⟨b, off, none⟩ ∨ n ≤ 0) ∧ ∀ i, i < n → b < w.heap.size ∧ w.cell? ⟨b, off + i, none⟩ = some (.bool (bs.getD i false))

theorem brow_nil (w : World) : BRow w none 0 0 [] :=
  ⟨rfl, Nat.le_refl _, Nat.zero_le _, fun _ => rfl, 0, 0, Or.inr (Nat.le_refl _), fun i hi => by omega⟩

theorem brow_below {B : Nat} {w w' : World} {a : Option Addr} {n c : Nat} {bs : List Bool} (hB : w.heap.size ≤ B) (hb : Below B w w') (h : BRow w a n c bs) : BRow w' a n c bs := by
  obtain ⟨h1, h2, h3, h4, b, off, h6, h7⟩ := h
  refine ⟨h1, h2, h3, h4, b, off, h6, fun i hi => ⟨?_, ?_⟩⟩
  · exact Nat.lt_of_lt_of_le (h7 i hi).1 hb.size
  · rw [hb.cell (p := ⟨b, off + i, none⟩) (Nat.lt_of_lt_of_le (h7 i hi).1 hB)]; exact (h7 i hi).2

theorem brow_take {w : World} {a : Option Addr} {n c : Nat} {bs : List Bool} (h : BRow w a n c bs) (k : Nat) (hk : k ≤ n) : BRow w a k c (bs.take k) := by
  obtain ⟨h1, h2, h3, h4, b, off, h6, h7⟩ := h
  refine ⟨by simp; omega, by omega, h3, h4, b, off, ?_, fun i hi => ⟨(h7 i (by omega)).1, ?_⟩⟩
  · rcases h6 with h6 | h6
    · exact Or.inl h6
    · exact Or.inr (by omega)
  · rw [(h7 i (by omega)).2]
    congr 2
    simp [List.getElem?_take, hi]

/-- The call tells the bits of N. -/
def BNum (N : Nat) (w : World) (e : Ending) (w' : World) : Prop :=
  ∃ a' m c', e = .returned (.slice a' m c') ∧ m = (bitsOf N).length ∧ BRow w' a' m c' (bitsOf N) ∧ Below w.heap.size w w'

set_option maxHeartbeats 1000000 in
theorem at_any (a : Option Addr) (n c : Nat) (bs : List Bool) (w : World) (I : Int) (i : Nat) (hI : I = (i : Int)) (hr : BRow w a n c bs) (hn : n ≤ 1000000000) (hi : i ≤ 1000000000) :
    Calls Try.prog 52 #[.slice a n c, .int .i64 I] w fun e w' => e = .returned (.bool (bs.getD i false)) ∧ w = w' := by
  subst hI
  obtain ⟨hl, hnc, hcm, hnone, b, off, hor, hc⟩ := hr
  have HL := Lib.hid hl; clear hl
  have HC := Lib.hid hc; clear hc
  clear hnone
  unfold maxLen at hcm
  rcases (show _ ∨ Hid _ from hor) with rfl | hor
  all_goals
    by_cases hlt : i < n
    · first
      | (exfalso; have := hor.out; omega)
      | (have hcell := (HC.out i hlt).2
         go_enter Try.func52, Try.ntmps52
         go_wp2
         go_ret
         exact ⟨rfl, rfl⟩)
    · have HG : Hid (bs.getD i false = false) := bgetD_ge bs i (by rw [HL.out]; omega)
      go_enter Try.func52, Try.ntmps52
      go_wp2
      go_ret
      exact ⟨ret_bool (show false = bs.getD i false from HG.out.symm), rfl⟩

set_option maxHeartbeats 1000000 in
theorem bcut_any (a : Option Addr) (n c : Nat) (bs : List Bool) (w : World) (hr : BRow w a n c bs) (hn : n ≤ 1000000000) :
    Calls Try.prog 51 #[.slice a n c] w fun e w' => e = .returned (.slice a (btl bs) c) ∧ w = w' := by
  obtain ⟨hl, hnc, hcm, hnone, b, off, hor, hc⟩ := hr
  have HK : Hid (∀ k : Nat, k ≤ n → (∀ i, k ≤ i → bs.getD i false = false) → (k = 0 ∨ bs.getD (k - 1) false = true) → k = btl bs) := fun k h1 h2 h3 => (btl_unique bs k (by omega) h2 h3).symm
  have HZ : Hid (∀ i, n ≤ i → bs.getD i false = false) := fun i hi => bgetD_ge bs i (by omega)
  clear hl
  have HC := Lib.hid hc; clear hc
  have HN := Lib.hid hnone; clear hnone
  unfold maxLen at hcm
  rcases (show _ ∨ Hid _ from hor) with rfl | hor
  all_goals
    go_enter Try.func51, Try.ntmps51
    go_wp2
    go_loop [3] (fun t => ∃ k : Nat, k ≤ n ∧ t = .int .i64 k ∧ Hid (∀ i, k ≤ i → bs.getD i false = false)) (fun t => (intOf t).toNat)
    case atStart => exact ⟨n, Nat.le_refl _, rfl, HZ⟩
    case round =>
      obtain ⟨k, hk, rfl, hz⟩ := hrel
      by_cases hk0 : 0 < k
      · first
        | (exfalso; have := hor.out; omega)
        | (have hcell := (HC.out (k - 1) (by omega)).2
           have e : ((k : Int) - 1).toNat = k - 1 := by omega
           obtain ⟨x, hxe⟩ : ∃ x, x = bs.getD (k - 1) false := ⟨_, rfl⟩
           rw [← hxe] at hcell
           have HX := Lib.hid hxe; clear hxe
           cases x with
           | false =>
             go_wp2
             go_round
             case rel => exact ⟨k - 1, by omega, by go_num, fun i hi => if h : i = k - 1 then by rw [h]; exact HX.out.symm else hz.out i (by omega)⟩
             case measure => simp [intOf]; omega
           | true =>
             have HE : Hid (k = btl bs) := HK.out k hk hz.out (Or.inr HX.out.symm)
             go_wp2
             go_ret
             exact ⟨ret_slice HE.out rfl, rfl⟩)
      · obtain rfl : k = 0 := by omega
        have HE : Hid (0 = btl bs) := HK.out 0 hk hz.out (Or.inl rfl)
        go_wp2
        go_ret
        exact ⟨ret_slice HE.out rfl, rfl⟩

/-- cut, in the words of the number that is read. -/
theorem bcut_num (a : Option Addr) (n c : Nat) (bs : List Bool) (w : World) (hr : BRow w a n c bs) (hn : n ≤ 1000000000) :
    Calls Try.prog 51 #[.slice a n c] w fun e w' => ∃ m, e = .returned (.slice a m c) ∧ m = (bitsOf (bval bs)).length ∧ m ≤ n ∧ BRow w a m c (bitsOf (bval bs)) ∧ w = w' := by
  refine (bcut_any a n c bs w hr hn).mono ?_
  rintro e w' ⟨rfl, rfl⟩
  have h1 : btl bs ≤ n := by have := btl_le bs; have := hr.1; omega
  refine ⟨btl bs, rfl, btl_eq bs, h1, ?_, rfl⟩
  rw [bits_bval]
  exact brow_take hr _ h1

/-- two rows of bits agree from place k on -/
def BAgree (xs ys : List Bool) (k : Nat) : Prop := ∀ j, k ≤ j → xs.getD j false = ys.getD j false

theorem bagree_step {xs ys : List Bool} {k : Nat} (hk : 0 < k) (h : BAgree xs ys k) (h' : xs.getD (k - 1) false = ys.getD (k - 1) false) : BAgree xs ys (k - 1) := fun j hj => by
  by_cases e : j = k - 1
  · rw [e]; exact h'
  · exact h j (by omega)

set_option maxHeartbeats 2000000 in
theorem bcmp_any (a0 a1 : Option Addr) (n0 c0 n1 c1 : Nat) (xs ys : List Bool) (w : World) (h0 : BRow w a0 n0 c0 xs) (h1 : BRow w a1 n1 c1 ys) (hn0 : n0 ≤ 100000000) (hn1 : n1 ≤ 100000000) :
    Calls Try.prog 36 #[.slice a0 n0 c0, .slice a1 n1 c1] w fun e w' => e = .returned (.int .i64 (cmpv (bval xs) (bval ys))) ∧ w = w' := by
  have HL0 := Lib.hid h0.1
  have HL1 := Lib.hid h1.1
  have H0 := Lib.hid h0; clear h0
  have H1 := Lib.hid h1; clear h1
  obtain ⟨R, hR⟩ : ∃ R, R = cmpv (bval xs) (bval ys) := ⟨_, rfl⟩
  rw [← hR]
  have HR := Lib.hid hR; clear hR
  have HA : Hid (∀ m, n0 ≤ m → n1 ≤ m → BAgree xs ys m) := fun m h0 h1 j hj => by
    rw [bgetD_ge xs j (by rw [HL0.out]; omega), bgetD_ge ys j (by rw [HL1.out]; omega)]
  rcases Nat.le_total n0 n1 with hle | hle
  all_goals
    go_enter Try.func36, Try.ntmps36
    go_wp2_with fail
    all_goals
      go_loop [5] (fun t => ∃ k : Nat, k ≤ 100000000 ∧ t = .int .i64 ((k : Int) - 1) ∧ Hid (BAgree xs ys k)) (fun t => (intOf t + 1).toNat)
      case atStart => first | exact ⟨n1, hn1, rfl, HA.out n1 (by omega) (by omega)⟩ | exact ⟨n0, hn0, rfl, HA.out n0 (by omega) (by omega)⟩
      case round =>
        obtain ⟨k, hk, rfl, HG⟩ := hrel
        by_cases hk0 : 0 < k
        · have HX := Lib.hid (at_any a0 n0 c0 xs w ((k : Int) - 1) (k - 1) (by omega) H0.out (by omega) (by omega))
          have HY := Lib.hid (at_any a1 n1 c1 ys w ((k : Int) - 1) (k - 1) (by omega) H1.out (by omega) (by omega))
          obtain ⟨x, hx⟩ : ∃ x, x = xs.getD (k - 1) false := ⟨_, rfl⟩
          obtain ⟨y, hy⟩ : ∃ y, y = ys.getD (k - 1) false := ⟨_, rfl⟩
          rw [← hx] at HX
          rw [← hy] at HY
          have HXE := Lib.hid hx; clear hx
          have HYE := Lib.hid hy; clear hy
          cases x <;> cases y
          · go_wp2_with fail
            refine HX.out.mono ?_
            rintro e w' ⟨rfl, rfl⟩
            go_wp2_with fail
            refine HY.out.mono ?_
            rintro e w' ⟨rfl, rfl⟩
            go_wp2
            go_round
            case rel => exact ⟨k - 1, by omega, by go_num, bagree_step (by omega) HG.out (HXE.out.symm.trans HYE.out)⟩
            case measure => simp [intOf]; omega
          · have HE : Hid (R = -1) := by
              rw [HR.out, cmpv, if_pos (blt_at xs ys (k - 1) (fun j hj => HG.out j (by omega)) HXE.out.symm HYE.out.symm)]; exact rfl
            go_wp2_with fail
            refine HX.out.mono ?_
            rintro e w' ⟨rfl, rfl⟩
            go_wp2_with fail
            refine HY.out.mono ?_
            rintro e w' ⟨rfl, rfl⟩
            go_wp2_with fail
            refine HX.out.mono ?_
            rintro e w' ⟨rfl, rfl⟩
            go_wp2
            go_ret
            exact ⟨by rw [HE.out]; exact rfl, rfl⟩
          · have HE : Hid (R = 1) := by
              have h := blt_at ys xs (k - 1) (fun j hj => (HG.out j (by omega)).symm) HYE.out.symm HXE.out.symm
              rw [HR.out, cmpv, if_neg (by omega), if_pos h]; exact rfl
            go_wp2_with fail
            refine HX.out.mono ?_
            rintro e w' ⟨rfl, rfl⟩
            go_wp2_with fail
            refine HY.out.mono ?_
            rintro e w' ⟨rfl, rfl⟩
            go_wp2_with fail
            refine HX.out.mono ?_
            rintro e w' ⟨rfl, rfl⟩
            go_wp2
            go_ret
            exact ⟨by rw [HE.out]; exact rfl, rfl⟩
          · go_wp2_with fail
            refine HX.out.mono ?_
            rintro e w' ⟨rfl, rfl⟩
            go_wp2_with fail
            refine HY.out.mono ?_
            rintro e w' ⟨rfl, rfl⟩
            go_wp2
            go_round
            case rel => exact ⟨k - 1, by omega, by go_num, bagree_step (by omega) HG.out (HXE.out.symm.trans HYE.out)⟩
            case measure => simp [intOf]; omega
        · obtain rfl : k = 0 := by omega
          have HE : Hid (R = 0) := by
            have h := beq_at xs ys (fun j => HG.out j (Nat.zero_le _))
            rw [HR.out, cmpv, if_neg (by omega), if_neg (by omega)]; exact rfl
          go_wp2
          go_ret
          exact ⟨by rw [HE.out]; exact rfl, rfl⟩
end Go.Proofs.Ytjpjibdcjmjcgaa
