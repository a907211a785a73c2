/- What the document's answer's Mul tells; what Bits tells. -/
import Derived.Test.YtjpjibdcjmjcgaaRefO
import Derived.Test.YtjpjibdcjmjcgaaShelf
import Derived.Lib.ItoaNum
import Derived.Laws.AppendOwnNone
namespace Go.Proofs.Ytjpjibdcjmjcgaa
open Go.RowKit Nums

theorem append_front {w0 : World} {ops : Array Oper} {rest : List Oper} {o : Oper} {a : Act} {Q : Exit → Act → World → Prop} (hgd : o.guard = none) (s x : Operand)
    (ho : o.op = .call { callee := .builtin .append, args := #[s, x], argTypes := #[41, 41] }) (ao : Option Addr) (mo co : Nat) (bs : List Bool) (hs : a.eval s = .slice (some ⟨w0.heap.size, 0, none⟩) 1 1) (hx : a.eval x = .slice ao mo co)
    (hrow : BRow w0 ao mo co bs) (hn : mo ≤ 1000000000)
    (hK : ∀ v' w', OwnB w' w0.heap.size v' (false :: bs) → Below w0.heap.size w0 w' → wpList Try.prog ops Q rest (a.put o.dst v') w') :
    wpList Try.prog ops Q (o :: rest) a (w0.alloc (.cells #[.bool false] 4)) := by
  obtain ⟨i0, hi, hz0, hz1, hz2⟩ := info_parts Try.info4
  have hown : (w0.alloc (.cells #[.bool false] 4)).ownsRow w0.heap.size 4 1 (.slice (some ⟨w0.heap.size, 0, none⟩) 1 1) 1 [.bool false] := World.ownsRow_lit (base := w0.heap.size) (e := 4) (size := 1) w0 #[.bool false] 1 (Nat.le_refl _) (by unfold maxLen; omega) (by simp)
  obtain ⟨hl, hnc, hcm, hnone, b, off, hor, hc⟩ := hrow
  have h2 := (Below.refl w0.heap.size w0).alloc (Nat.le_refl _) (.cells #[.bool false] 4)
  cases ao with
  | none =>
    have hc0 := hnone rfl
    have hm0 : mo = 0 := by omega
    subst hc0; subst hm0
    have hbs : bs = [] := List.length_eq_zero_iff.1 hl
    subst hbs
    exact wpList_append_own_none hgd s x 41 ho w0.heap.size 4 i0 1 Try.underlying41 hi _ 1 [.bool false] hs hown hx (hK _ _ hown h2)
  | some ad =>
    refine wpList_append_own (w0.alloc (.cells #[.bool false] 4)) hgd s x 41 ho w0.heap.size 4 i0 (.bool false) 1 1 Try.underlying41 hi hz0 hz1 hz2 rfl (by decide) _ 1 [.bool false] hs hown ad mo co (bs.map Value.bool) hx ?_ ?_ ?_ ?_ ?_ ?_ ?_
    · simp; omega
    · intro j u hj
      have hjk : j < mo := by
        have := (List.getElem?_eq_some_iff.1 hj).1
        simp at this; omega
      rcases hor with h | h
      · obtain rfl : ad = ⟨b, off, none⟩ := by injection h
        have e : (⟨b, off, none⟩ : Addr).add j = ⟨b, off + j, none⟩ := by unfold Addr.add; split <;> simp_all
        have hjx : j < bs.length := by omega
        rw [e, h2.cell (p := ⟨b, off + j, none⟩) (hc j hjk).1, (hc j hjk).2, ← hj]
        simp [hjx]
      · omega
    · intro u hu; obtain ⟨y, _, rfl⟩ := List.mem_map.1 hu; rfl
    · unfold maxLen; omega
    · omega
    · simp
    · intro v' w' h1 h3 _
      refine hK v' w' ?_ ?_
      · unfold OwnB
        have e : (false :: bs).length = 1 + mo := by simp [hl]; omega
        rw [e]
        exact h1
      · exact h2.grown h3 (by simp) (fun k hk => by simp [Value.ownBlock] at hk; omega)

theorem bval_drop (ys : List Bool) (k : Nat) (hk : 0 < k) (hl : k ≤ ys.length) : bval (ys.drop (k - 1)) = bnum (ys.getD (k - 1) false) + 2 * bval (ys.drop k) := by
  obtain ⟨j, rfl⟩ : ∃ j, k = j + 1 := ⟨k - 1, by omega⟩
  have h1 : j < ys.length := by omega
  simp only [Nat.add_sub_cancel]
  rw [List.drop_eq_getElem_cons h1]
  simp only [bval]
  simp [h1]

theorem mul_bits (X Y j : Nat) : (bitsOf (X * bval ((bitsOf Y).drop j))).length ≤ (bitsOf X).length + (bitsOf Y).length := by
  apply bits_len
  have h1 := bval_lt (bitsOf X)
  rw [bval_bits] at h1
  have h2 := bval_lt ((bitsOf Y).drop j)
  have h3 : 2 ^ ((bitsOf Y).drop j).length ≤ 2 ^ (bitsOf Y).length := Nat.pow_le_pow_right (by omega) (by rw [List.length_drop]; omega)
  rw [Nat.pow_add]
  exact Nat.mul_lt_mul'' h1 (Nat.lt_of_lt_of_le h2 h3)

theorem bits_len_of {N k : Nat} (h : N < 2 ^ k) : (bitsOf N).length ≤ k := bits_len N k h

set_option maxHeartbeats 4000000 in
theorem rmul_any (a b : Option Addr) (n c m d : Nat) (xs ys : List Nat) (w : World) (h0 : Row w a n c xs) (h1 : Row w b m d ys) (hn : n ≤ 1000) (hm : m ≤ 1000) :
    Calls Try.prog 17 #[.slice a n c, .slice b m d] w (NumC (val xs * val ys) w) := by
  have LX := Lib.hid (bits_le h0)
  have LY := Lib.hid (bits_le h1)
  have H0 := Lib.hid h0; clear h0
  have H1 := Lib.hid h1; clear h1
  go_enter Try.func17, Try.ntmps17
  go_wp2_with fail
  refine (short_any a n c xs w H0.out (by omega)).mono ?_
  rintro e w' ⟨⟨u, p, rfl, hu, hp⟩, rfl⟩
  have HP := Lib.hid hp; clear hp
  go_wp2_with fail
  refine (short_any b m d ys w H1.out (by omega)).mono ?_
  rintro e w' ⟨⟨v, q, rfl, hv, hq⟩, rfl⟩
  have HQ := Lib.hid hq; clear hq
  by_cases hpq : p = true ∧ q = true
  · obtain ⟨rfl, rfl⟩ := hpq
    have HU := Lib.hid (HP.out rfl)
    have HV := Lib.hid (HQ.out rfl)
    have hroom := mul_room 0 u v 0 (by omega) hu hv (by omega)
    have hr1 : (u : Int) * (v : Int) ≤ 18446744065119617025 := by have := hroom.1; rw [← Int.natCast_mul]; omega
    have hr0 : 0 ≤ (u : Int) * (v : Int) := by rw [← Int.natCast_mul]; omega
    have HR := Lib.hid hroom.1; clear hroom
    go_wp2_with fail
    refine (rlimbs_any _ (u * v) w (by simp) (by have := HR.out; omega)).mono ?_
    rw [HU.out, HV.out]
    rintro e w4 ⟨vt, mt, ct, rfl, hmt, hrt, hb4⟩
    have HMT := Lib.hid hmt; clear hmt
    have HRT := Lib.hid hrt; clear hrt
    have HB4 := Lib.hid hb4; clear hb4
    go_wp2
    go_ret
    exact ⟨vt, mt, ct, rfl, HMT.out, HRT.out, HB4.out⟩
  · have hpq2 : p = false ∨ (p = true ∧ q = false) := by
      cases p <;> cases q <;> simp at hpq ⊢
    clear hpq
    obtain ⟨X, hX⟩ : ∃ X, X = val xs := ⟨_, rfl⟩
    obtain ⟨Y, hY⟩ : ∃ Y, Y = val ys := ⟨_, rfl⟩
    have HXY : Hid (X * Y = val xs * val ys) := by rw [hX, hY]; exact rfl
    rw [← hX] at LX
    rw [← hY] at LY
    have VX := Lib.hid hX; clear hX
    have VY := Lib.hid hY; clear hY
    rcases hpq2 with rfl | ⟨rfl, rfl⟩
    all_goals
      go_wp2_with fail
      refine (of_any a n c xs w H0.out (by omega)).mono ?_
      rw [← VX.out]
      rintro e w1 ⟨va, ma, ca, rfl, hma, hra, hb1⟩
      have HMA := Lib.hid hma
      have hmab : ma ≤ 32000 := by have := LX.out; omega
      have HRA := Lib.hid hra; clear hra hma
      have HB1 := Lib.hid hb1; clear hb1
      go_wp2_with fail
      refine (of_any b m d ys w1 (row_below (Nat.le_refl _) HB1.out H1.out) (by omega)).mono ?_
      rw [← VY.out]
      rintro e w2 ⟨vb, mb, cb, rfl, hmb, hrb, hb2⟩
      have HMB := Lib.hid hmb
      have hmbb : mb ≤ 32000 := by have := LY.out; omega
      have HRB := Lib.hid hrb; clear hrb hmb
      replace HRA := Lib.hid (brow_below (Nat.le_refl _) hb2 HRA.out)
      have HB2 := Lib.hid (HB1.out.trans (hb2.mono HB1.out.size)); clear hb2
      obtain ⟨hlb, -, -, -, b0, o0, hor0, hc0⟩ := HRB.out
      have HLB := Lib.hid hlb; clear hlb
      have HCB := Lib.hid hc0; clear hc0
      rcases (show _ ∨ Hid _ from hor0) with rfl | hor0
      all_goals
        go_wp2
        go_loopw [11, 12] (fun v t wr => ∃ (k : Nat) (ao : Option Addr) (mo co : Nat) (bs : List Bool), k ≤ mb ∧ t = .int .i64 ((k : Int) - 1) ∧ v = .slice ao mo co ∧ mo + k ≤ ma + mb + mb ∧ Hid (BRow wr ao mo co bs ∧ bval bs = X * bval ((bitsOf Y).drop k)) ∧ Below w2.heap.size w2 wr) (fun _ t _ => (intOf t + 1).toNat)
        case atStart => exact ⟨mb, none, 0, 0, [], Nat.le_refl _, rfl, rfl, by omega, ⟨brow_nil _, by rw [List.drop_eq_nil_of_le (by rw [HLB.out]; exact Nat.le_refl _)]; simp [bval]⟩, Below.refl _ _⟩
        case round =>
          obtain ⟨k, ao, mo, co, bs, hk, rfl, rfl, hmo, HZ, hbr⟩ := hrel
          by_cases hk0 : 0 < k
          · first
            | (exfalso; have := hor0.out; omega)
            | (go_wp2_with (at_builtin; refine append_front rfl _ _ rfl ao mo co bs rfl rfl HZ.out.1 (by omega) ?_)
               intro v' w5 hown' hb5
               obtain ⟨a5, c5, hve, hrow5, -⟩ := brow_own hown'
               have HLBS : Hid (bs.length = mo) := HZ.out.1.1
               have hl5 : (false :: bs).length = mo + 1 := by rw [List.length_cons, HLBS.out]
               rw [hl5] at hve hrow5
               subst hve
               have HR5 := Lib.hid hrow5; clear hrow5 hown' hl5
               have hv5 : bval (false :: bs) = 2 * (X * bval ((bitsOf Y).drop k)) := by simp only [bval, HZ.out.2]; simp [bnum]
               have HV5 := Lib.hid hv5; clear hv5
               have HB5 := Lib.hid (hbr.trans (hb5.mono hbr.size)); clear hb5
               have hs0 := HCB.out (k - 1) (by omega)
               have hcell : w5.cell? ⟨b0, o0 + (k - 1), none⟩ = some (.bool ((bitsOf Y).getD (k - 1) false)) := by rw [HB5.out.cell (p := ⟨b0, o0 + (k - 1), none⟩) hs0.1]; exact hs0.2
               clear hs0
               have HDR := Lib.hid (bval_drop (bitsOf Y) k hk0 (by rw [HLB.out]; exact hk))
               obtain ⟨y, hy⟩ : ∃ y, y = (bitsOf Y).getD (k - 1) false := ⟨_, rfl⟩
               rw [← hy] at hcell HDR
               clear hy
               have e : ((k : Int) - 1).toNat = k - 1 := by omega
               cases y
               · have HNEW : Hid (bval (false :: bs) = X * bval ((bitsOf Y).drop (k - 1))) := by
                   rw [HV5.out, HDR.out]
                   have e0 : bnum false = 0 := rfl
                   rw [e0, Nat.zero_add, Nat.mul_left_comm]; exact rfl
                 go_wp2
                 go_roundw
                 case rel => exact ⟨k - 1, a5, mo + 1, c5, false :: bs, by omega, by go_num, rfl, by omega, ⟨HR5.out, HNEW.out⟩, HB5.out⟩
                 case measure => simp [intOf]; omega
               · have HNEW : Hid (bval (false :: bs) + X = X * bval ((bitsOf Y).drop (k - 1))) := by
                   rw [HV5.out, HDR.out]
                   have e0 : bnum true = 1 := rfl
                   rw [e0, Nat.mul_add, Nat.mul_one, Nat.mul_left_comm X 2, Nat.add_comm]; exact rfl
                 have HRA5 := Lib.hid (brow_below (Nat.le_refl _) HB5.out HRA.out)
                 go_wp2_with fail
                 refine (badd_any a5 va (mo + 1) c5 ma ca _ _ w5 HR5.out HRA5.out (by omega) (by omega)).mono ?_
                 rw [bval_bits, HNEW.out]
                 rintro e6 w6 ⟨v6, m6, c6, rfl, hm6, hr6, hb6⟩
                 have hm6b : m6 + (k - 1) ≤ ma + mb + mb := by
                   have h1 : m6 ≤ ma + mb := by
                     rw [hm6, HMA.out, HMB.out]
                     exact mul_bits X Y (k - 1)
                   omega
                 have HR6 := Lib.hid hr6; clear hr6 hm6
                 have HB6 := Lib.hid (HB5.out.trans (hb6.mono HB5.out.size)); clear hb6
                 go_wp2
                 go_roundw
                 case rel => exact ⟨k - 1, v6, m6, c6, _, by omega, by go_num, rfl, hm6b, ⟨HR6.out, bval_bits _⟩, HB6.out⟩
                 case measure => simp [intOf]; omega)
          · obtain rfl : k = 0 := by omega
            have HF : Hid (bval bs = X * Y) := by rw [HZ.out.2, List.drop_zero, bval_bits]; exact rfl
            go_wp2_with fail
            refine (limbs_any ao mo co bs wr HZ.out.1 (by omega)).mono ?_
            rw [HF.out, HXY.out]
            rintro e w4 ⟨vt, mt, ct, rfl, hmt, hrt, hb4⟩
            have HMT := Lib.hid hmt; clear hmt
            have HRT := Lib.hid hrt; clear hrt
            have HB4 := Lib.hid ((HB2.out.trans (hbr.mono HB2.out.size)).trans (hb4.mono (Nat.le_trans HB2.out.size hbr.size))); clear hb4
            go_wp2
            go_ret
            exact ⟨vt, mt, ct, rfl, HMT.out, HRT.out, HB4.out⟩

theorem len_bits32 (x : Nat) (h0 : 0 < x) (hx : x < 4294967296) : 1 ≤ Lib.bitLen x ∧ Lib.bitLen x ≤ 32 ∧ 2 ^ (Lib.bitLen x - 1) ≤ x ∧ x < 2 ^ Lib.bitLen x := by
  have h := Lib.bitLenAux_bounds 64 x (by omega) (by omega)
  have h2 := Lib.bitLen_le x 32 (by omega) hx
  exact ⟨h.1, h2, h.2.1, h.2.2⟩

/-- how many bits a number of m + 1 limbs has, by its highest one -/
theorem bits_top (N m y : Nat) (hl : (limbs N).length = m + 1) (hy : y = (limbs N).getD m 0) (hy0 : 0 < y) : (bitsOf N).length = m * 32 + Lib.bitLen y := by
  have hyl : y < 4294967296 := by rw [hy]; exact getD_lt _ (small_limbs N) m
  obtain ⟨h1, h2, h3, h4⟩ := len_bits32 y hy0 hyl
  have e := val_take_succ (limbs N) m (by omega)
  rw [List.take_of_length_le (by omega), ← hy, val_limbs] at e
  have hlow := val_lt ((limbs N).take m) (small_take (small_limbs N) m)
  rw [List.length_take, Nat.min_eq_left (by omega)] at hlow
  rw [pow32] at e hlow
  have hup : N < 2 ^ (m * 32 + Lib.bitLen y) := by
    have h5 : 2 ^ (32 * m) * (y + 1) ≤ 2 ^ (32 * m) * 2 ^ Lib.bitLen y := Nat.mul_le_mul_left _ h4
    rw [← Nat.pow_add, Nat.mul_add] at h5
    rw [show m * 32 + Lib.bitLen y = 32 * m + Lib.bitLen y by omega]
    omega
  have hlo : 2 ^ (m * 32 + Lib.bitLen y - 1) ≤ N := by
    have h5 : 2 ^ (32 * m) * 2 ^ (Lib.bitLen y - 1) ≤ 2 ^ (32 * m) * y := Nat.mul_le_mul_left _ h3
    rw [← Nat.pow_add] at h5
    rw [show m * 32 + Lib.bitLen y - 1 = 32 * m + (Lib.bitLen y - 1) by omega]
    omega
  have h6 := bits_len N _ hup
  have h7 := bval_lt (bitsOf N)
  rw [bval_bits] at h7
  have h8 : 2 ^ (m * 32 + Lib.bitLen y - 1) < 2 ^ (bitsOf N).length := by omega
  have h9 := (Nat.pow_lt_pow_iff_right (a := 2) (by omega)).1 h8
  omega

set_option maxHeartbeats 1000000 in
theorem bits_any (a : Option Addr) (n c : Nat) (xs : List Nat) (w : World) (h0 : Row w a n c xs) (hn : n ≤ 100000000) :
    Calls Try.prog 20 #[.slice a n c] w fun e w' => e = .returned (.int .i64 ((bitsOf (val xs)).length : Nat)) ∧ w = w' := by
  have H0 := Lib.hid h0; clear h0
  go_enter Try.func20, Try.ntmps20
  go_wp2_with fail
  refine (cut_num a n c xs w H0.out (by omega)).mono ?_
  rintro e w' ⟨p, mp, rfl, hm0, hmn0, hrow0, -, rfl⟩
  obtain ⟨N, hN⟩ : ∃ N, N = val xs := ⟨_, rfl⟩
  rw [← hN] at hm0 hrow0
  have HN := Lib.hid hN; clear hN
  have HL := Lib.hid hm0; clear hm0
  rcases (by omega : mp = 0 ∨ 0 < mp) with rfl | hpos
  · have HZ : Hid ((bitsOf N).length = 0) := by rw [length_limbs_zero.1 HL.out.symm, bits_zero]; exact rfl
    go_wp2
    go_ret
    exact ⟨by rw [← HN.out, HZ.out]; exact rfl, rfl⟩
  · obtain ⟨m, rfl⟩ : ∃ m, mp = m + 1 := ⟨mp - 1, by omega⟩
    obtain ⟨-, -, -, -, -, b0, o0, hor0, hc0⟩ := hrow0
    rcases hor0 with rfl | hor0
    case inr => omega
    have hcell := (hc0 m (by omega)).2
    clear hc0
    have hyl := getD_lt (limbs N) (small_limbs N) m
    have hy0 : (limbs N).getD m 0 ≠ 0 := by
      intro h
      have e := val_take_succ (limbs N) m (by rw [← HL.out]; omega)
      rw [h, List.take_of_length_le (by rw [← HL.out]; exact Nat.le_refl _), val_limbs] at e
      have h2 := val_lt ((limbs N).take m) (small_take (small_limbs N) _)
      rw [List.length_take, Nat.min_eq_left (by rw [← HL.out]; omega)] at h2
      have h3 := limbs_len N m (by omega)
      have := HL.out
      omega
    obtain ⟨y, hy⟩ : ∃ y, y = (limbs N).getD m 0 := ⟨_, rfl⟩
    rw [← hy] at hcell hyl hy0
    have HT := Lib.hid (bits_top N m y HL.out.symm hy (by omega))
    clear hy
    have hbl : Lib.bitLen y ≤ 32 := (len_bits32 y (by omega) hyl).2.1
    obtain ⟨t, ht⟩ : ∃ t, t = Lib.bitLen y := ⟨_, rfl⟩
    rw [← ht] at hbl HT
    have hmz : (((m : Int) + 1) == 0) = false := by rw [beq_eq_false_iff_ne]; omega
    have HLEN : Hid (∀ wx, Calls Try.prog 42 #[.int .u32 (y : Int)] wx fun e w' => e = .returned (.int .i64 (t : Int)) ∧ wx = w') := by
      intro wx
      refine (Try.bits_Len32 (y : Int) wx (by omega) (by omega)).mono ?_
      rintro e w' ⟨rfl, rfl⟩
      exact ⟨by rw [Int.toNat_natCast, ht], rfl⟩
    clear ht hy0
    go_wp2_with fail
    refine (HLEN.out _).mono ?_
    rintro e w' ⟨rfl, rfl⟩
    go_wp2
    go_ret
    refine ⟨congrArg Ending.returned (congrArg (Value.int .i64) ?_), rfl⟩
    rw [← HN.out, HT.out]
    show ((m : Int) * 32 + (t : Int)) = _
    omega
end Go.Proofs.Ytjpjibdcjmjcgaa
