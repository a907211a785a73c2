/- What Limbs tells: the numbers of a row of bits. -/
import Derived.Test.YtjpjibdcjmjcgaaOf
import Derived.Test.YtjpjibdcjmjcgaaParse
namespace Go.Proofs.Ytjpjibdcjmjcgaa
open Go.RowKit Nums

/-- The call tells the number N; its slice may have room behind it. -/
def NumC (N : Nat) (w : World) (e : Ending) (w' : World) : Prop :=
  ∃ a' m c, e = .returned (.slice a' m c) ∧ m = (limbs N).length ∧ Row w' a' m c (limbs N) ∧ Below w.heap.size w w'

theorem bval_split (bs : List Bool) (a b : Nat) (ha : a ≤ bs.length) : bval (bs.take (a + b)) = bval (bs.take a) + 2 ^ a * bval ((bs.drop a).take b) := by
  have e : bs.take (a + b) = bs.take a ++ (bs.drop a).take b := by rw [List.take_add]
  rw [e, bval_append, List.length_take, Nat.min_eq_left ha]

theorem bits_ge {n : Nat} (h : n ≠ 0) : 2 ^ ((bitsOf n).length - 1) ≤ n := by
  apply Nat.le_of_not_lt
  intro hlt
  have h1 := bits_len n _ hlt
  have h2 : 0 < (bitsOf n).length := by rw [bits_pos h]; simp
  omega

/-- a row of numbers that says n, no longer than need be, is n's -/
theorem limbs_of {cs : List Nat} {N m : Nat} (hs : Small cs) (hv : val cs = N) (hm : m = (bitsOf N).length) (hl : cs.length * 32 < m + 32) : cs = limbs N := by
  have h := limbs_val cs hs
  rw [hv] at h
  have ht : tl cs = cs.length := by
    rcases Nat.lt_or_ge (tl cs) cs.length with hlt | hge
    · exfalso
      have h1 := tl_eq cs hs
      rw [hv] at h1
      have h2 := lt_pow_len N
      rw [← h1] at h2
      have h3 : N < 2 ^ (32 * tl cs) := by rw [← pow32]; exact h2
      have h4 := bits_len N _ h3
      omega
    · have := tl_le cs; omega
  rw [h, ht, List.take_length]

/-- one bit more of a limb -/
theorem or_bit (n k : Nat) (hn : n < 2 ^ k) (hk : k < 32) : bits BinOp.or IntKind.u32 (n : Int) ((2 : Int) ^ k % 4294967296) = ((n + 2 ^ k : Nat) : Int) := by
  have h1 : 2 ^ k ≤ 2147483648 := Nat.pow_le_pow_right (n := 2) (by omega) (show k ≤ 31 by omega)
  have e : ((2 : Int) ^ k % 4294967296) = ((2 ^ k : Nat) : Int) := by
    have : ((2 : Int) ^ k) = ((2 ^ k : Nat) : Int) := by simp
    rw [this]; omega
  rw [e, u32_or_nat _ _ (by omega) (by omega), Nat.or_comm, nat_join k (2 ^ k) n (Nat.mod_self _) hn, Nat.add_comm]

theorem limb_bit {N i k x : Nat} {b : Bool} (h1 : x < 2 ^ k) (h2 : x = bval (((bitsOf N).drop (32 * i)).take k)) (hb : b = (bitsOf N).getD (32 * i + k) false) : x + 2 ^ k * bnum b < 2 ^ (k + 1) ∧ x + 2 ^ k * bnum b = bval (((bitsOf N).drop (32 * i)).take (k + 1)) := by
  constructor
  · rw [Nat.pow_succ]
    cases b <;> simp [bnum] <;> omega
  · rw [bval_take_next, ← h2, hb]
    congr 3
    simp

theorem limb_bit0 {N i k x : Nat} (h : x + 2 ^ k * bnum false < 2 ^ (k + 1) ∧ x + 2 ^ k * bnum false = bval (((bitsOf N).drop (32 * i)).take (k + 1))) : x < 2 ^ (k + 1) ∧ x = bval (((bitsOf N).drop (32 * i)).take (k + 1)) := by
  have e : bnum false = 0 := rfl
  rw [e, Nat.mul_zero, Nat.add_zero] at h
  exact h

theorem limb_bit1 {N i k x : Nat} (h : x + 2 ^ k * bnum true < 2 ^ (k + 1) ∧ x + 2 ^ k * bnum true = bval (((bitsOf N).drop (32 * i)).take (k + 1))) : x + 2 ^ k < 2 ^ (k + 1) ∧ x + 2 ^ k = bval (((bitsOf N).drop (32 * i)).take (k + 1)) := by
  have e : bnum true = 1 := rfl
  rw [e, Nat.mul_one] at h
  exact h

theorem limb_end {N i k x : Nat} (hk : k ≤ 32) (h2 : x = bval (((bitsOf N).drop (32 * i)).take k)) (h : k = 32 ∨ 32 * i + k = (bitsOf N).length) : x = bval (((bitsOf N).drop (32 * i)).take 32) := by
  rcases h with h | h
  · rw [h2, h]
  · have hl : ((bitsOf N).drop (32 * i)).length = k := by rw [List.length_drop]; omega
    rw [h2, List.take_of_length_le (by omega), List.take_of_length_le (by omega)]

theorem append_own {w0 : World} {z : Int} {ops : Array Oper} {rest : List Oper} {o : Oper} {a : Act} {Q : Exit → Act → World → Prop} (hgd : o.guard = none) (s x : Operand)
    (ho : o.op = .call { callee := .builtin .append, args := #[s, x], argTypes := #[22, 22] }) (B : Nat) (v : Value) (cs : List Nat) (u : Nat) (hs : a.eval s = v) (hx : a.eval x = .slice (some ⟨w0.heap.size, 0, none⟩) 1 1)
    (hz : z = (u : Int)) (hown : Own w0 B v cs) (hB : B ≤ w0.heap.size) (hn : cs.length ≤ 1000000000)
    (hK : ∀ v' w', Own w' B v' (cs ++ [u]) → Below B w0 w' → wpList Try.prog ops Q rest (a.put o.dst v') w') :
    wpList Try.prog ops Q (o :: rest) a (w0.alloc (.cells #[.int .u32 z] 38)) :=
  append_u32 hgd s x ho B v cs u hs hx hz hown hB hn hK

theorem row_ownv {w : World} {B : Nat} {v : Value} {cs : List Nat} (h : w.ownsRow B 38 1 v cs.length (cs.map u32)) (hs : Small cs) : ∃ a c, v = .slice a cs.length c ∧ Row w a cs.length c cs := by
  rcases h.2 with ⟨rfl, h0⟩ | ⟨g, cap, cur, rfl, hBg, hgg, hnc, hcm, _⟩
  · have : cs = [] := List.length_eq_zero_iff.1 h0
    subst this
    exact ⟨none, 0, rfl, row_nil w⟩
  · exact ⟨_, cap, rfl, row_own h hs⟩

set_option maxHeartbeats 4000000 in
theorem limbs_any (a : Option Addr) (n c : Nat) (bs : List Bool) (w : World) (hr : BRow w a n c bs) (hn : n ≤ 10000000) :
    Calls Try.prog 37 #[.slice a n c] w (NumC (bval bs) w) := by
  have HR := Lib.hid hr; clear hr
  go_enter Try.func37, Try.ntmps37
  go_wp2_with fail
  refine (bcut_num a n c bs w HR.out (by omega)).mono ?_
  rintro e w' ⟨m, rfl, hm, hmn, hrow, rfl⟩
  obtain ⟨N, hN⟩ : ∃ N, N = bval bs := ⟨_, rfl⟩
  rw [← hN] at hm hrow
  have HN := Lib.hid hN; clear hN HR
  have HM := Lib.hid hm; clear hm
  obtain ⟨hl, hnc, hcm, -, b0, o0, hor0, hc0⟩ := hrow
  have HL := Lib.hid hl; clear hl
  have HC0 := Lib.hid hc0; clear hc0
  unfold maxLen at hcm
  rcases (show _ ∨ Hid _ from hor0) with rfl | hor0
  all_goals
    go_wp2
    go_loopw [3, 4] (fun v t wr => ∃ (i : Nat) (cs : List Nat), i * 32 < m + 32 ∧ t = .int .i64 (32 * (i : Int)) ∧ Hid (Own wr w.heap.size v cs ∧ cs.length = i ∧ Small cs ∧ val cs = bval ((bitsOf N).take (32 * i))) ∧ Below w.heap.size w wr) (fun _ t _ => (m + 32) - (intOf t).toNat)
    case atStart => exact ⟨0, [], by omega, rfl, ⟨World.ownsRow_nil _ _ _ _, rfl, (fun x hx => by cases hx), rfl⟩, Below.refl _ _⟩
    case round =>
      obtain ⟨i, cs, hi, rfl, HZ, hbr⟩ := hrel
      by_cases hi0 : 32 * i < m
      · first
        | (exfalso; have := hor0.out; omega)
        | (obtain ⟨wo, rfl⟩ : ∃ wo : World, wo = wr := ⟨_, rfl⟩
           go_wp2
           go_loop [5, 6] (fun v t => ∃ (k x : Nat), k ≤ 32 ∧ 32 * i + k ≤ m ∧ t = .int .i64 (k : Int) ∧ v = .int .u32 (x : Int) ∧ Hid (x < 2 ^ k ∧ x = bval (((bitsOf N).drop (32 * i)).take k))) (fun _ t => 32 - (intOf t).toNat)
           case atStart => exact ⟨0, 0, by omega, by omega, rfl, rfl, ⟨by decide, rfl⟩⟩
           case round =>
             obtain ⟨k, x, hk, hkm, rfl, rfl, HY⟩ := hrel
             by_cases hk0 : k < 32 ∧ 32 * i + k < m
             · obtain ⟨hk1, hk2⟩ := hk0
               have hs0 := HC0.out (32 * i + k) hk2
               have hcell : wo.cell? ⟨b0, o0 + (32 * i + k), none⟩ = some (.bool ((bitsOf N).getD (32 * i + k) false)) := by rw [hbr.cell (p := ⟨b0, o0 + (32 * i + k), none⟩) hs0.1]; exact hs0.2
               clear hs0
               obtain ⟨b, hb⟩ : ∃ b, b = (bitsOf N).getD (32 * i + k) false := ⟨_, rfl⟩
               rw [← hb] at hcell
               have HBE := Lib.hid hb; clear hb
               have hor := or_bit x k HY.out.1 hk1
               have e1 : (32 * (i : Int) + (k : Int)).toNat = 32 * i + k := by omega
               have si : (0 : Int) ≤ (k : Int) := by omega
               have sj : (k : Int) < 64 := by omega
               have HST := Lib.hid (limb_bit HY.out.1 HY.out.2 HBE.out)
               cases b
               · go_wp2
                 go_round
                 case rel => exact ⟨k + 1, by omega, by omega, by omega, x, rfl, limb_bit0 HST.out⟩
                 case measure => simp [intOf]; omega
               · go_wp2
                 go_round
                 case rel => exact ⟨k + 1, by omega, by omega, by omega, x + 2 ^ k, by simp, limb_bit1 HST.out⟩
                 case measure => simp [intOf]; omega
             · have HX := Lib.hid (limb_end hk HY.out.2 (by rw [HL.out]; omega : k = 32 ∨ 32 * i + k = (bitsOf N).length))
               have HXL : Hid (x < 4294967296) := Nat.lt_of_lt_of_le HY.out.1 (Nat.pow_le_pow_right (n := 2) (by omega) hk)
               have HCL : Hid (cs.length ≤ 1000000000) := by have := HZ.out.2.1; exact (by omega : cs.length ≤ 1000000000)
               have hnew : val (cs ++ [x]) = bval ((bitsOf N).take (32 * (i + 1))) := by
                 rw [show 32 * (i + 1) = 32 * i + 32 by omega, bval_split _ _ _ (by rw [HL.out]; omega), ← HX.out, val_append, HZ.out.2.2.2, HZ.out.2.1, pow32]
                 simp [val]
               have HNEW := Lib.hid hnew; clear hnew
               rcases (by omega : k = 32 ∨ (k < 32 ∧ 32 * i + k = m)) with h | ⟨h, h'⟩
               all_goals
                 have hkk : k = 32 ∨ ¬ (32 * (i : Int) + (k : Int) < (m : Int)) := by omega
                 first | (subst h) | (have hq : ¬ (32 * (i : Int) + (k : Int) < (m : Int)) := by omega)
                 clear hkk hk0
                 go_wp2_with (at_builtin; refine append_own rfl _ _ rfl w.heap.size _ cs x rfl rfl rfl HZ.out.1 hbr.size HCL.out ?_)
                 intro v' w2 hown' hb2
                 have HOW := Lib.hid hown'; clear hown'
                 go_wp2
                 go_roundw
                 case rel => exact ⟨i + 1, cs ++ [x], by omega, by go_num, ⟨HOW.out, by simp [HZ.out.2.1], small_append HZ.out.2.2.1 (by intro z hz; rw [List.mem_singleton] at hz; rw [hz]; exact HXL.out), HNEW.out⟩, hbr.trans hb2⟩
                 case measure => simp [intOf]; omega)
      · have HV : Hid (val cs = N) := by
          rw [HZ.out.2.2.2, List.take_of_length_le (by rw [HL.out]; omega), bval_bits]; exact rfl
        have HCE : Hid (cs = limbs N) := limbs_of HZ.out.2.2.1 HV.out HM.out (by rw [HZ.out.2.1]; exact hi)
        obtain ⟨ra, rc, hve, hrow⟩ := row_ownv HZ.out.1 HZ.out.2.2.1
        rw [HCE.out] at hve hrow
        subst hve
        have HROW := Lib.hid hrow; clear hrow
        go_wp2
        go_ret
        rw [← HN.out]
        exact ⟨ra, _, rc, rfl, rfl, HROW.out, hbr⟩
end Go.Proofs.Ytjpjibdcjmjcgaa
