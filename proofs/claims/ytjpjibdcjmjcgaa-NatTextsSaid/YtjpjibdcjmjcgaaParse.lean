/- What Parse tells, of any text: the number of its digits, or which error. -/
import Derived.Test.YtjpjibdcjmjcgaaFollow
namespace Go.Proofs.Ytjpjibdcjmjcgaa
open Go.RowKit Nums

def isDig (c : UInt8) : Prop := 48 ≤ c.toNat ∧ c.toNat ≤ 57
def numOf (l : List UInt8) : Nat := l.foldl (fun a c => a * 10 + (c.toNat - 48)) 0
def allDig (s : ByteArray) : Prop := ∀ i (h : i < s.size), isDig s[i]

theorem numOf_snoc (l : List UInt8) (c : UInt8) : numOf (l ++ [c]) = numOf l * 10 + (c.toNat - 48) := by simp [numOf, List.foldl_append]

theorem take_snoc (s : ByteArray) (k : Nat) (h : k < s.size) : s.data.toList.take (k + 1) = s.data.toList.take k ++ [s[k]] := by
  rw [List.take_succ_eq_append_getElem (by simpa using h)]; rfl

theorem row_own {w : World} {B g n cap : Nat} {cs : List Nat} (h : w.ownsRow B 38 1 (.slice (some ⟨g, 0, none⟩) n cap) n (cs.map u32)) (hs : Small cs) : Row w (some ⟨g, 0, none⟩) n cap cs := by
  have hl : cs.length = n := by have := h.1; simpa using this
  have hg := (h.lt g rfl).2
  rcases h.2 with ⟨h', _⟩ | ⟨g', cap', cur, h', _, hgg, hnc, hcm, _⟩
  · simp at h'
  · simp only [Value.slice.injEq, Option.some.injEq, Addr.mk.injEq, and_true, true_and] at h'
    obtain ⟨rfl, rfl⟩ := h'
    exact ⟨hl, hnc, hcm, by simp, hs, g, 0, Or.inl rfl, fun i hi => ⟨hg, by rw [Nat.zero_add]; exact cell_own h i hi⟩⟩

theorem cut_own (w0 w : World) (B : Nat) (v : Value) (cs : List Nat) (h : Own w B v cs) (hs : Small cs) (hn : cs.length ≤ 1000000000) (hb : Below w0.heap.size w0 w) : Calls Try.prog 33 #[v] w (Num (val cs) w0) := by
  rcases h.2 with ⟨rfl, h0⟩ | ⟨g, cap, cur, rfl, hBg, _⟩
  · have : cs = [] := List.length_eq_zero_iff.1 h0
    subst this
    refine (cut_num none 0 0 [] w (row_nil w) (by omega)).mono ?_
    rintro e w' ⟨a', m, rfl, hm, hmn, hrow, -, rfl⟩
    exact ⟨a', m, rfl, hm, hrow, hb⟩
  · refine (cut_num _ _ cap cs w (row_own h hs) hn).mono ?_
    rintro e w' ⟨a', m, rfl, hm, hmn, hrow, -, rfl⟩
    exact ⟨a', m, rfl, hm, hrow, hb⟩

set_option maxHeartbeats 1000000 in
theorem parse_bad (s : ByteArray) (w : World) (hs : s.size ≤ 1000000000) (h : s.size = 0 ∨ ¬ allDig s) :
    Calls Try.prog 29 #[.string s] w fun e w' => e = .returned (.tuple #[.slice none 0 0, .int .i64 4]) ∧ w = w' := by
  have H := Lib.hid h; clear h
  by_cases h0 : s.size = 0
  · have h1 : ((s.size : Int) == 0) = true := by rw [beq_iff_eq]; omega
    clear h0
    go_enter Try.func29, Try.ntmps29
    go_wp2
    go_ret2
    exact ⟨rfl, rfl⟩
  · have h1 : ((s.size : Int) == 0) = false := by rw [beq_eq_false_iff_ne]; omega
    have H0 := Lib.hid h0; clear h0
    go_enter Try.func29, Try.ntmps29
    go_wp2
    go_loop [12] (fun t => ∃ k : Nat, k ≤ s.size ∧ t = .int .i64 (k : Int) ∧ Hid (∀ i (h : i < s.size), i < k → isDig s[i])) (fun t => s.size - (intOf t).toNat)
    case atStart => exact ⟨0, Nat.zero_le _, rfl, fun i h hi => by omega⟩
    case round =>
      obtain ⟨k, hk, rfl, HK⟩ := hrel
      by_cases hk0 : k < s.size
      · by_cases hlo : (s[k].toNat : Int) < 48
        · go_wp2
          go_ret2
          exact ⟨rfl, rfl⟩
        · by_cases hhi : (57 : Int) < (s[k].toNat : Int)
          · go_wp2
            go_ret2
            exact ⟨rfl, rfl⟩
          · go_wp2
            go_round
            case rel => exact ⟨k + 1, by omega, by go_num, fun i h hi => by
              by_cases e : i = k
              · subst e; exact ⟨by omega, by omega⟩
              · exact HK.out i h (by omega)⟩
            case measure => simp [intOf]; omega
      · exfalso
        rcases H.out with h | h
        · exact H0.out h
        · exact h fun i hi => HK.out i hi (by omega)

set_option maxHeartbeats 1000000 in
theorem parse_long (s : ByteArray) (w : World) (hs : s.size ≤ 1000000000) (hd : allDig s) (hl : 300 < s.size) :
    Calls Try.prog 29 #[.string s] w fun e w' => e = .returned (.tuple #[.slice none 0 0, .int .i64 2]) ∧ w = w' := by
  have HD := Lib.hid hd; clear hd
  have h1 : ((s.size : Int) == 0) = false := by rw [beq_eq_false_iff_ne]; omega
  go_enter Try.func29, Try.ntmps29
  go_wp2
  go_loop [12] (fun t => ∃ k : Nat, k ≤ s.size ∧ t = .int .i64 (k : Int)) (fun t => s.size - (intOf t).toNat)
  case atStart => exact ⟨0, Nat.zero_le _, rfl⟩
  case round =>
    obtain ⟨k, hk, rfl⟩ := hrel
    by_cases hk0 : k < s.size
    · have hlo : ¬ (s[k].toNat : Int) < 48 := by have := (HD.out k hk0).1; omega
      have hhi : ¬ (57 : Int) < (s[k].toNat : Int) := by have := (HD.out k hk0).2; omega
      go_wp2
      go_round
      case rel => exact ⟨k + 1, by omega, by go_num⟩
      case measure => simp [intOf]; omega
    · go_wp2
      go_ret2
      exact ⟨rfl, rfl⟩

set_option maxHeartbeats 1000000 in
theorem parse_ok (s : ByteArray) (w : World) (hs : s.size ≤ 300) (h0 : 0 < s.size) (hd : allDig s) :
    Calls Try.prog 29 #[.string s] w (Num2 (numOf s.data.toList) w) := by
  have HD := Lib.hid hd; clear hd
  have h1 : ((s.size : Int) == 0) = false := by rw [beq_eq_false_iff_ne]; omega
  have HN : Hid (numOf (s.data.toList.take s.size) = numOf s.data.toList) := by
    have e : s.data.toList.take s.size = s.data.toList := List.take_of_length_le (by simp)
    rw [e]; exact rfl
  go_enter Try.func29, Try.ntmps29
  go_wp2
  go_loop [12] (fun t => ∃ k : Nat, k ≤ s.size ∧ t = .int .i64 (k : Int)) (fun t => s.size - (intOf t).toNat)
  case atStart => exact ⟨0, Nat.zero_le _, rfl⟩
  case round =>
    obtain ⟨k, hk, rfl⟩ := hrel
    by_cases hk0 : k < s.size
    · have hlo : ¬ (s[k].toNat : Int) < 48 := by have := (HD.out k hk0).1; omega
      have hhi : ¬ (57 : Int) < (s[k].toNat : Int) := by have := (HD.out k hk0).2; omega
      go_wp2
      go_round
      case rel => exact ⟨k + 1, by omega, by go_num⟩
      case measure => simp [intOf]; omega
    · obtain rfl : s.size = k := by omega
      clear hk hk0
      go_wp2
      go_loopw [5, 31] (fun v t wr => ∃ (j : Nat) (cs : List Nat), j ≤ s.size ∧ t = .int .i64 (j : Int) ∧ Hid (Own wr w.heap.size v cs ∧ Small cs ∧ val cs = numOf (s.data.toList.take j) ∧ cs.length ≤ j) ∧ Below w.heap.size w wr) (fun _ t _ => s.size - (intOf t).toNat)
      case atStart => exact ⟨0, [], Nat.zero_le _, rfl, ⟨World.ownsRow_nil _ _ _ _, (fun x hx => by cases hx), by simp [val, numOf], by simp⟩, Below.refl _ _⟩
      case round =>
        obtain ⟨j, cs, hj, rfl, HZ, hbr⟩ := hrel
        by_cases hj0 : j < s.size
        · have hlo : ¬ (s[j].toNat : Int) < 48 := by have := (HD.out j hj0).1; omega
          have hhi : (s[j].toNat : Int) ≤ 57 := by have := (HD.out j hj0).2; omega
          have HS : Hid (numOf (s.data.toList.take (j + 1)) = numOf (s.data.toList.take j) * 10 + (s[j].toNat - 48)) := by rw [take_snoc s j hj0]; exact numOf_snoc _ _
          go_wp2_with fail
          refine (follow_any w.heap.size _ cs _ (s[j].toNat - 48) wr (by omega) (by omega) HZ.out.1 HZ.out.2.1 (by have := HZ.out.2.2.2; omega) hbr.size).mono ?_
          rintro e w' ⟨v', cs', rfl, k1, k2, k3, k4, k5⟩
          have K1 := Lib.hid k1; clear k1
          have K2 := Lib.hid k2; clear k2
          have K3 := Lib.hid k3; clear k3
          have K4 := Lib.hid k4; clear k4
          have K5 := Lib.hid k5; clear k5
          go_wp2
          go_roundw
          case rel => exact ⟨j + 1, cs', by omega, by go_num, ⟨K1.out, K2.out, by rw [K3.out, HZ.out.2.2.1, HS.out], by have := K4.out; have := HZ.out.2.2.2; omega⟩, hbr.trans K5.out⟩
          case measure => simp [intOf]; omega
        · obtain rfl : s.size = j := by omega
          go_wp2_with fail
          refine (cut_own w wr w.heap.size _ cs HZ.out.1 HZ.out.2.1 (by have := HZ.out.2.2.2; omega) hbr).mono ?_
          rw [HZ.out.2.2.1, HN.out]
          rintro e w' ⟨a', m, rfl, hm, hrow, hb⟩
          have HM := Lib.hid hm; clear hm
          have HROW := Lib.hid hrow; clear hrow
          have HB := Lib.hid hb; clear hb
          go_wp2
          go_ret2
          exact ⟨a', m, rfl, HM.out, HROW.out, HB.out⟩
end Go.Proofs.Ytjpjibdcjmjcgaa
