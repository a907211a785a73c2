/- What the document's answer's Print tells. -/
import Derived.Test.YtjpjibdcjmjcgaaRefP
namespace Go.Proofs.Ytjpjibdcjmjcgaa
open Go.RowKit Nums

def decDig (n : Nat) : List UInt8 := if n = 0 then [48] else dig n

theorem decStr_dig (n : Nat) : decStr n = ⟨(decDig n).reverse.toArray⟩ := by
  unfold decStr decDig
  split
  · rfl
  · rfl

/-- the last digits of N have been told, x is what is left -/
def TextAt (N x : Nat) (t : ByteArray) : Prop := ∃ l : List UInt8, t = ⟨l.reverse.toArray⟩ ∧ ((l = [] ∧ x = N) ∨ (l ≠ [] ∧ decDig N = l ++ dig x))

theorem TextAt.start (N : Nat) : TextAt N N ⟨#[]⟩ := ⟨[], rfl, Or.inl ⟨rfl, rfl⟩⟩

theorem TextAt.step {N x : Nat} {t : ByteArray} (h : TextAt N x t) (hx : t.size = 0 ∨ 0 < x) : TextAt N (x / 10) (⟨[UInt8.ofNat (48 + x % 10)].toArray⟩ ++ t) := by
  obtain ⟨l, rfl, h⟩ := h
  refine ⟨l ++ [UInt8.ofNat (48 + x % 10)], ?_, Or.inr ⟨by simp, ?_⟩⟩
  · apply ByteArray.ext
    simp [ByteArray.data_append]
  · rcases h with ⟨rfl, rfl⟩ | ⟨hl, h⟩
    · unfold decDig
      split
      · rename_i h0; subst h0; rw [show 0 / 10 = 0 from rfl, dig_zero]; rfl
      · rename_i h0; rw [dig_pos h0]; rfl
    · have hx0 : x ≠ 0 := by
        rcases hx with hx | hx
        · exfalso; apply hl
          have : l.reverse.toArray.size = 0 := hx
          simpa using this
        · omega
      rw [h, dig_pos hx0, List.append_assoc]; rfl

theorem TextAt.done {N : Nat} {t : ByteArray} (h : TextAt N 0 t) (ht : 0 < t.size) : t = decStr N := by
  obtain ⟨l, rfl, h⟩ := h
  rcases h with ⟨rfl, rfl⟩ | ⟨hl, h⟩
  · exact absurd ht (by decide)
  · rw [decStr_dig, h, dig_zero, List.append_nil]

theorem TextAt.len {N x k : Nat} {t : ByteArray} (h : TextAt N x t) (hN : N < 10 ^ k) (hk : 0 < k) : t.size ≤ k := by
  obtain ⟨l, rfl, h⟩ := h
  have e : ByteArray.size ⟨l.reverse.toArray⟩ = l.length := by show l.reverse.toArray.size = _; simp
  rw [e]
  rcases h with ⟨rfl, rfl⟩ | ⟨hl, h⟩
  · exact Nat.zero_le _
  · have h1 := congrArg List.length h
    rw [List.length_append] at h1
    have h2 : (decDig N).length ≤ k := by
      unfold decDig
      split
      · exact hk
      · exact length_dig N k hN
    omega

def strLen : Value → Nat | .string s => s.size | _ => 0

theorem meas_step (s : ByteArray) (dg : UInt8) (h : s.size ≤ 400) : 1000 - ([dg] ++ s.data.toList).length < 1000 - s.size := by
  have e : s.data.toList.length = s.size := by simp
  rw [List.length_append, e, List.length_singleton]; omega

set_option maxHeartbeats 1000000 in
theorem rprint_short (a0 : Option Addr) (n0 c0 : Nat) (xs : List Nat) (w : World) (u : Nat) (hu : u < 4294967296) (hs : Calls Try.prog 39 #[.slice a0 n0 c0] w fun e w' => e = .returned (.tuple #[.int .u64 (u : Int), .bool true]) ∧ w = w') :
    Calls Try.prog 32 #[.slice a0 n0 c0] w fun e w' => e = .returned (.string (decStr u)) ∧ Below w.heap.size w w' := by
  have HS := Lib.hid hs; clear hs
  have HU : Hid (u < 10 ^ 10) := by exact (by omega : u < 10 ^ 10)
  go_enter Try.func32, Try.ntmps32
  go_wp2_with fail
  refine HS.out.mono ?_
  rintro e w' ⟨rfl, rfl⟩
  go_wp2
  go_loopw [3, 5] (fun v t wr => ∃ (x : Nat) (s : ByteArray), v = .int .u64 (x : Int) ∧ t = .string s ∧ x < 4294967296 ∧ Hid (TextAt u x s) ∧ Below w.heap.size w wr) (fun _ t _ => 1000 - strLen t)
  case atStart => exact ⟨u, ⟨#[]⟩, rfl, rfl, hu, TextAt.start u, Below.refl _ _⟩
  case round =>
    obtain ⟨x, s, rfl, rfl, hx, HT, hbr⟩ := hrel
    have hsz : s.size ≤ 10 := HT.out.len HU.out (by omega)
    have hcv := run_convert_bytes_back (P := Try.prog) (wr.alloc (.cells #[.int .u8 (48 + (x : Int) % 10)] 5)) 58 9 5 ⟨wr.heap.size, 0, none⟩ 1 [UInt8.ofNat (48 + x % 10)] Try.underlying58 Try.underlying5 Try.underlying9 (by
      intro j hj
      have hj0 : j = 0 := by simpa using hj
      subst hj0
      simp [Addr.add, toNat_dig]; omega)
    rw [show [UInt8.ofNat (48 + x % 10)].length = 1 from rfl] at hcv
    have HST := Lib.hid (fun hh => HT.out.step (N := u) (x := x) (t := s) hh)
    obtain ⟨dg, hdg⟩ : ∃ dg, dg = UInt8.ofNat (48 + x % 10) := ⟨_, rfl⟩
    rw [← hdg] at hcv HST
    clear hdg
    rcases Nat.eq_zero_or_pos s.size with h0 | h0
    · have h1 := str_empty h0
      go_wp2
      go_roundw
      case rel => exact ⟨x / 10, _, by go_num, rfl, by omega, HST.out (Or.inl h0), hbr.alloc hbr.size _⟩
      case measure => exact meas_step s dg (by omega)
    · have h1 := str_some h0
      by_cases hx0 : 0 < x
      · go_wp2
        go_roundw
        case rel => exact ⟨x / 10, _, by go_num, rfl, by omega, HST.out (Or.inr hx0), hbr.alloc hbr.size _⟩
        case measure => exact meas_step s dg (by omega)
      · obtain rfl : x = 0 := by omega
        have HD : Hid (s = decStr u) := HT.out.done h0
        go_wp2
        go_ret
        exact ⟨by rw [← HD.out]; exact rfl, hbr⟩
end Go.Proofs.Ytjpjibdcjmjcgaa
