/- What the document's answer's Parse tells, of any text. -/
import Derived.Test.YtjpjibdcjmjcgaaRefG
import Derived.Test.YtjpjibdcjmjcgaaNumsE
import Derived.Deep.RegionWith
namespace Go.Proofs.Ytjpjibdcjmjcgaa
open Go.RowKit Nums

theorem str_empty {s : ByteArray} (h : s.size = 0) : s.toList.isEmpty = true := by
  rw [ByteArray.toList_eq]
  have h1 : s.data.toList.length = 0 := by simpa using h
  rw [List.length_eq_zero_iff.1 h1]; rfl

theorem str_some {s : ByteArray} (h : 0 < s.size) : s.toList.isEmpty = false := by
  rw [ByteArray.toList_eq]
  have h1 : s.data.toList.length = s.size := by simp
  cases hl : s.data.toList with
  | nil => rw [hl] at h1; simp at h1; omega
  | cons _ _ => rfl

set_option maxHeartbeats 1000000 in
theorem rparse_bad (s : ByteArray) (w : World) (hs : s.size ≤ 1000000000) (h : s.size = 0 ∨ ¬ allDig s) :
    Calls Try.prog 30 #[.string s] w fun e w' => e = .returned (.tuple #[.slice none 0 0, .int .i64 4]) ∧ w = w' := by
  have H := Lib.hid h; clear h
  by_cases h0 : s.size = 0
  · have h1 := str_empty h0
    clear h0
    go_enter Try.func30, Try.ntmps30
    go_wp2
    go_ret2
    exact ⟨rfl, rfl⟩
  · have h1 := str_some (s := s) (by omega)
    have H0 := Lib.hid h0; clear h0
    go_enter Try.func30, Try.ntmps30
    go_wp2
    go_loop [4] (fun t => ∃ k : Nat, k ≤ s.size ∧ t = .int .i64 (k : Int) ∧ Hid (∀ i (h : i < s.size), i < k → isDig s[i])) (fun t => s.size - (intOf t).toNat)
    case atStart => exact ⟨0, Nat.zero_le _, rfl, fun i h hi => by omega⟩
    case round =>
      obtain ⟨k, hk, rfl, HK⟩ := hrel
      by_cases hk0 : k < s.size
      · by_cases hlo : (s[k].toNat : Int) < 48
        · go_wp2
          go_ret2
          exact ⟨rfl, rfl⟩
        · by_cases hhi : (57 : Int) < (s[k].toNat : Int)
          · go_wp2
            go_ret2
            exact ⟨rfl, rfl⟩
          · go_wp2
            go_round
            case rel => exact ⟨k + 1, by omega, by go_num, fun i h hi => by
              by_cases e : i = k
              · subst e; exact ⟨by omega, by omega⟩
              · exact HK.out i h (by omega)⟩
            case measure => simp [intOf]; omega
      · exfalso
        rcases H.out with h | h
        · exact H0.out h
        · exact h fun i hi => HK.out i hi (by omega)

set_option maxHeartbeats 1000000 in
theorem rparse_long (s : ByteArray) (w : World) (hs : s.size ≤ 1000000000) (hd : allDig s) (hl : 300 < s.size) :
    Calls Try.prog 30 #[.string s] w fun e w' => e = .returned (.tuple #[.slice none 0 0, .int .i64 2]) ∧ w = w' := by
  have HD := Lib.hid hd; clear hd
  have h1 := str_some (s := s) (by omega)
  go_enter Try.func30, Try.ntmps30
  go_wp2
  go_loop [4] (fun t => ∃ k : Nat, k ≤ s.size ∧ t = .int .i64 (k : Int)) (fun t => s.size - (intOf t).toNat)
  case atStart => exact ⟨0, Nat.zero_le _, rfl⟩
  case round =>
    obtain ⟨k, hk, rfl⟩ := hrel
    by_cases hk0 : k < s.size
    · have hlo : ¬ (s[k].toNat : Int) < 48 := by have := (HD.out k hk0).1; omega
      have hhi : ¬ (57 : Int) < (s[k].toNat : Int) := by have := (HD.out k hk0).2; omega
      go_wp2
      go_round
      case rel => exact ⟨k + 1, by omega, by go_num⟩
      case measure => simp [intOf]; omega
    · go_wp2
      go_ret2
      exact ⟨rfl, rfl⟩


/-- The number N, no error. -/
def NumC2 (N : Nat) (w : World) (e : Ending) (w' : World) : Prop :=
  ∃ a' m c, e = .returned (.tuple #[.slice a' m c, .int .i64 0]) ∧ m = (limbs N).length ∧ Row w' a' m c (limbs N) ∧ Below w.heap.size w w'

theorem row_one (w : World) (X : Int) (x : Nat) (hX : X = (x : Int)) (h : x < 4294967296) : Row (w.alloc (.cells #[.int .u32 X] 38)) (some ⟨w.heap.size, 0, none⟩) 1 1 [x] := by
  subst hX
  exact (mem_alloc w [x] _ rfl).row0 (by intro y hy; simp at hy; omega) 1 (by simp) (by unfold maxLen; omega)

theorem row_drew2 {w : World} {a : Option Addr} {n c : Nat} {xs : List Nat} (h : Row w a n c xs) : Row w.drew a n c xs := row_below (Nat.le_refl _) ((Below.refl _ _).drew) h

theorem len_ten (N j : Nat) (h : N < 10 ^ j) : (limbs N).length ≤ j := len_of (Nat.lt_of_lt_of_le h (Nat.pow_le_pow_left (by omega) j))

theorem ten_step {x d j : Nat} (h : x < 10 ^ j) (hd : d ≤ 9) : x * 10 + d < 10 ^ (j + 1) := by rw [Nat.pow_succ]; omega

set_option maxHeartbeats 2000000 in
theorem rparse_short (s : ByteArray) (w : World) (hs : s.size ≤ 18) (h0 : 0 < s.size) (hd : allDig s) :
    Calls Try.prog 30 #[.string s] w (NumC2 (numOf s.data.toList) w) := by
  have HD := Lib.hid hd; clear hd
  have h1 := str_some (s := s) (by omega)
  have HN : Hid (numOf (s.data.toList.take s.size) = numOf s.data.toList) := by
    have e : s.data.toList.take s.size = s.data.toList := List.take_of_length_le (by simp)
    rw [e]; exact rfl
  go_enter Try.func30, Try.ntmps30
  go_wp2
  go_loop [4] (fun t => ∃ k : Nat, k ≤ s.size ∧ t = .int .i64 (k : Int)) (fun t => s.size - (intOf t).toNat)
  case atStart => exact ⟨0, Nat.zero_le _, rfl⟩
  case round =>
    obtain ⟨k, hk, rfl⟩ := hrel
    by_cases hk0 : k < s.size
    · have hlo : ¬ (s[k].toNat : Int) < 48 := by have := (HD.out k hk0).1; omega
      have hhi : ¬ (57 : Int) < (s[k].toNat : Int) := by have := (HD.out k hk0).2; omega
      go_wp2
      go_round
      case rel => exact ⟨k + 1, by omega, by go_num⟩
      case measure => simp [intOf]; omega
    · obtain rfl : s.size = k := by omega
      clear hk hk0
      go_wp2
      go_loop [5, 6] (fun v t => ∃ (j x : Nat), j ≤ s.size ∧ t = .int .i64 (j : Int) ∧ v = .int .u64 (x : Int) ∧ Hid (x = numOf (s.data.toList.take j) ∧ x < 10 ^ j)) (fun _ t => s.size - (intOf t).toNat)
      case atStart => exact ⟨0, 0, Nat.zero_le _, rfl, rfl, ⟨by simp [numOf], by decide⟩⟩
      case round =>
        obtain ⟨j, x, hj, rfl, rfl, HZ⟩ := hrel
        by_cases hj0 : j < s.size
        · have hlo : ¬ (s[j].toNat : Int) < 48 := by have := (HD.out j hj0).1; omega
          have hhi : (s[j].toNat : Int) ≤ 57 := by have := (HD.out j hj0).2; omega
          have HS : Hid (numOf (s.data.toList.take (j + 1)) = numOf (s.data.toList.take j) * 10 + (s[j].toNat - 48)) := by rw [take_snoc s j hj0]; exact numOf_snoc _ _
          have HST := Lib.hid (ten_step HZ.out.2 (show s[j].toNat - 48 ≤ 9 by omega))
          have hx : x < 100000000000000000 := by
            have h2 : (10 : Nat) ^ j ≤ 10 ^ 17 := Nat.pow_le_pow_right (by omega) (by omega)
            have h3 := HZ.out.2
            omega
          go_wp2
          go_round
          case rel => exact ⟨j + 1, x * 10 + (s[j].toNat - 48), by omega, by go_num, by go_num, ⟨by rw [HS.out, ← HZ.out.1], HST.out⟩⟩
          case measure => simp [intOf]; omega
        · obtain rfl : s.size = j := by omega
          have hx : x < 1000000000000000000 := by
            have h2 : (10 : Nat) ^ s.size ≤ 10 ^ 18 := Nat.pow_le_pow_right (by omega) (by omega)
            have h3 := HZ.out.2
            omega
          have HX : Hid (x = numOf s.data.toList) := by rw [← HN.out]; exact HZ.out.1
          go_wp2_with fail
          refine (rlimbs_any _ x w rfl (by omega)).mono ?_
          rw [HX.out]
          rintro e w4 ⟨vt, mt, ct, rfl, hmt, hrt, hb4⟩
          have HMT := Lib.hid hmt; clear hmt
          have HRT := Lib.hid hrt; clear hrt
          have HB4 := Lib.hid hb4; clear hb4
          go_wp2
          go_ret2
          exact ⟨vt, mt, ct, rfl, HMT.out, HRT.out, HB4.out⟩

set_option maxHeartbeats 4000000 in
theorem rparse_ok (s : ByteArray) (w : World) (hs : s.size ≤ 300) (h0 : 18 < s.size) (hd : allDig s) :
    Calls Try.prog 30 #[.string s] w (NumC2 (numOf s.data.toList) w) := by
  have HD := Lib.hid hd; clear hd
  have h1 := str_some (s := s) (by omega)
  have HN : Hid (numOf (s.data.toList.take s.size) = numOf s.data.toList) := by
    have e : s.data.toList.take s.size = s.data.toList := List.take_of_length_le (by simp)
    rw [e]; exact rfl
  go_enter Try.func30, Try.ntmps30
  go_wp2
  go_loop [4] (fun t => ∃ k : Nat, k ≤ s.size ∧ t = .int .i64 (k : Int)) (fun t => s.size - (intOf t).toNat)
  case atStart => exact ⟨0, Nat.zero_le _, rfl⟩
  case round =>
    obtain ⟨k, hk, rfl⟩ := hrel
    by_cases hk0 : k < s.size
    · have hlo : ¬ (s[k].toNat : Int) < 48 := by have := (HD.out k hk0).1; omega
      have hhi : ¬ (57 : Int) < (s[k].toNat : Int) := by have := (HD.out k hk0).2; omega
      go_wp2
      go_round
      case rel => exact ⟨k + 1, by omega, by go_num⟩
      case measure => simp [intOf]; omega
    · obtain rfl : s.size = k := by omega
      clear hk hk0
      go_wp2
      go_loopw [7, 8] (fun v t wr => ∃ (j : Nat) (a : Option Addr) (m c : Nat), j ≤ s.size ∧ t = .int .i64 (j : Int) ∧ v = .slice a m c ∧ m ≤ j ∧ Hid (Row wr a m c (limbs (numOf (s.data.toList.take j))) ∧ numOf (s.data.toList.take j) < 10 ^ j) ∧ Below w.heap.size w wr) (fun _ t _ => s.size - (intOf t).toNat)
      case atStart => exact ⟨0, none, 0, 0, Nat.zero_le _, rfl, rfl, Nat.le_refl _, ⟨by simpa [numOf, limbs_zero] using row_nil w, by simp [numOf]⟩, Below.refl _ _⟩
      case round =>
        obtain ⟨j, a, m, c, hj, rfl, rfl, hm, HZ, hbr⟩ := hrel
        by_cases hj0 : j < s.size
        · have hlo : ¬ (s[j].toNat : Int) < 48 := by have := (HD.out j hj0).1; omega
          have hhi : (s[j].toNat : Int) ≤ 57 := by have := (HD.out j hj0).2; omega
          have HS : Hid (numOf (s.data.toList.take (j + 1)) = numOf (s.data.toList.take j) * 10 + (s[j].toNat - 48)) := by rw [take_snoc s j hj0]; exact numOf_snoc _ _
          have HST := Lib.hid (ten_step HZ.out.2 (show s[j].toNat - 48 ≤ 9 by omega))
          obtain ⟨N, hN⟩ : ∃ N, N = numOf (s.data.toList.take j) := ⟨_, rfl⟩
          rw [← hN] at HS HST HZ
          clear hN
          obtain ⟨wq, rfl⟩ : ∃ wq : World, wq = wr := ⟨_, rfl⟩
          have MUL : Hid (∀ (wx : World) (p : Option Addr), Below wq.heap.size wq wx → Row wx p 1 1 [10] → Calls Try.prog 17 #[.slice a m c, .slice p 1 1] wx fun e w' => ∃ a' m' c', e = .returned (.slice a' m' c') ∧ m' ≤ 1000 ∧ Row w' a' m' c' (limbs (N * 10)) ∧ Below wx.heap.size wx w') := by
            intro wx p hb h10
            refine (rmul_any a p m c 1 1 _ [10] wx (row_below (Nat.le_refl _) hb HZ.out.1) h10 (by omega) (by omega)).mono ?_
            rw [val_limbs, show val [10] = 10 from rfl]
            rintro e w' ⟨a', m', c', rfl, h1, h2, h3⟩
            refine ⟨a', m', c', rfl, ?_, h2, h3⟩
            rw [h1]
            have h4 := len_mul (X := N) (Y := 10) (len_ten N j HZ.out.2) (len_ten 10 2 (by decide))
            omega
          have DL : Hid (s[j].toNat - 48 ≤ 9) := by exact (show s[j].toNat - 48 ≤ 9 by omega)
          have WV : Hid (IntKind.u32.wrap (IntKind.u8.wrap ((s[j].toNat : Int) - 48)) = ((s[j].toNat - 48 : Nat) : Int)) := by
            have e1 : (s[j].toNat : Int) - 48 = ((s[j].toNat - 48 : Nat) : Int) := by omega
            have e2 : s[j].toNat - 48 < 256 := by omega
            rw [e1]
            obtain ⟨z, hz⟩ : ∃ z, z = s[j].toNat - 48 := ⟨_, rfl⟩
            rw [← hz] at e2 ⊢
            have e3 : IntKind.u8.wrap (z : Int) = (z : Int) := by rw [IntKind.wrap_u8]; omega
            have e4 : IntKind.u32.wrap (z : Int) = (z : Int) := by rw [IntKind.wrap_u32]; omega
            rw [e3, e4]; exact rfl
          obtain ⟨dz, hdz⟩ : ∃ dz, dz = IntKind.u32.wrap (IntKind.u8.wrap ((s[j].toNat : Int) - 48)) := ⟨_, rfl⟩
          have D32 : Hid (s[j].toNat - 48 < 4294967296) := by have := DL.out; exact (show s[j].toNat - 48 < 4294967296 by omega)
          have L11 : Hid ((1 : Nat) ≤ 1000) := by exact (show (1 : Nat) ≤ 1000 by omega)
          obtain ⟨w10, hw10⟩ : ∃ w10, w10 = wq.alloc (Obj.cells #[Value.int IntKind.u32 10] 38) := ⟨_, rfl⟩
          obtain ⟨wd, hwd⟩ : ∃ wd, wd = wq.alloc (Obj.cells #[Value.int IntKind.u32 (IntKind.u32.wrap (IntKind.u8.wrap ((s[j].toNat : Int) - 48)))] 38) := ⟨_, rfl⟩
          have B1 : Hid (Below wq.heap.size wq (wq.alloc (Obj.cells #[Value.int IntKind.u32 10] 38)).drew) := ((Below.refl _ _).alloc (Nat.le_refl _) _).drew
          have R10 : Hid (Row (wq.alloc (Obj.cells #[Value.int IntKind.u32 10] 38)).drew (some ⟨wq.heap.size, 0, none⟩) 1 1 [10]) := row_drew2 (row_one wq 10 10 rfl (by omega))
          have B2 : Hid (Below wq.heap.size wq ((wq.alloc (Obj.cells #[Value.int IntKind.u32 10] 38)).alloc (Obj.cells #[Value.int IntKind.u32 (IntKind.u32.wrap (IntKind.u8.wrap ((s[j].toNat : Int) - 48)))] 38)).drew) := (((Below.refl _ _).alloc (Nat.le_refl _) _).alloc (by simp) _).drew
          have RT2 : Hid (Row ((wq.alloc (Obj.cells #[Value.int IntKind.u32 10] 38)).alloc (Obj.cells #[Value.int IntKind.u32 (IntKind.u32.wrap (IntKind.u8.wrap ((s[j].toNat : Int) - 48)))] 38)).drew (some ⟨wq.heap.size, 0, none⟩) 1 1 [10]) := row_drew2 (row_below (Nat.le_refl _) ((Below.refl _ _).alloc (Nat.le_refl _) _) (row_one wq 10 10 rfl (by omega)))
          have RD2 : Hid (Row ((wq.alloc (Obj.cells #[Value.int IntKind.u32 10] 38)).alloc (Obj.cells #[Value.int IntKind.u32 (IntKind.u32.wrap (IntKind.u8.wrap ((s[j].toNat : Int) - 48)))] 38)).drew (some ⟨wq.heap.size + 1, 0, none⟩) 1 1 [s[j].toNat - 48]) := by
            have h := row_drew2 (row_one (wq.alloc (Obj.cells #[Value.int IntKind.u32 10] 38)) _ _ WV.out D32.out)
            have e : (wq.alloc (Obj.cells #[Value.int IntKind.u32 10] 38)).heap.size = wq.heap.size + 1 := by simp
            rw [e] at h
            exact h
          have B3 : Hid (Below wq.heap.size wq ((wq.alloc (Obj.cells #[Value.int IntKind.u32 (IntKind.u32.wrap (IntKind.u8.wrap ((s[j].toNat : Int) - 48)))] 38)).alloc (Obj.cells #[Value.int IntKind.u32 10] 38)).drew) := (((Below.refl _ _).alloc (Nat.le_refl _) _).alloc (by simp) _).drew
          have RD3 : Hid (Row ((wq.alloc (Obj.cells #[Value.int IntKind.u32 (IntKind.u32.wrap (IntKind.u8.wrap ((s[j].toNat : Int) - 48)))] 38)).alloc (Obj.cells #[Value.int IntKind.u32 10] 38)).drew (some ⟨wq.heap.size, 0, none⟩) 1 1 [s[j].toNat - 48]) := row_drew2 (row_below (Nat.le_refl _) ((Below.refl _ _).alloc (Nat.le_refl _) _) (row_one wq _ _ WV.out D32.out))
          have RT3 : Hid (Row ((wq.alloc (Obj.cells #[Value.int IntKind.u32 (IntKind.u32.wrap (IntKind.u8.wrap ((s[j].toNat : Int) - 48)))] 38)).alloc (Obj.cells #[Value.int IntKind.u32 10] 38)).drew (some ⟨wq.heap.size + 1, 0, none⟩) 1 1 [10]) := by
            have h := row_drew2 (row_one (wq.alloc (Obj.cells #[Value.int IntKind.u32 (IntKind.u32.wrap (IntKind.u8.wrap ((s[j].toNat : Int) - 48)))] 38)) 10 10 rfl (by omega))
            have e : (wq.alloc (Obj.cells #[Value.int IntKind.u32 (IntKind.u32.wrap (IntKind.u8.wrap ((s[j].toNat : Int) - 48)))] 38)).heap.size = wq.heap.size + 1 := by simp
            rw [e] at h
            exact h
          have ADD2 : Hid (∀ (wz : World) (p v1 : Option Addr) (m1 c1 : Nat), Row wz v1 m1 c1 (limbs (N * 10)) → Row wz p 1 1 [s[j].toNat - 48] → m1 ≤ 1000 → Below wq.heap.size wq wz → Calls Try.prog 15 #[.slice v1 m1 c1, .slice p 1 1] wz fun e w' => ∃ v2 m2 c2, e = .returned (.slice v2 m2 c2) ∧ m2 ≤ j + 1 ∧ Row w' v2 m2 c2 (limbs (numOf (s.data.toList.take (j + 1)))) ∧ Below wq.heap.size wq w') := by
            intro wz p v1 m1 c1 hr hd hm hb
            refine (radd_any v1 p m1 c1 1 1 _ [s[j].toNat - 48] wz hr hd hm L11.out).mono ?_
            have HVV : val (limbs (N * 10)) + val [s[j].toNat - 48] = numOf (s.data.toList.take (j + 1)) := by rw [val_limbs, HS.out]; simp [val]
            rw [HVV]
            rintro e w' ⟨v2, m2, c2, rfl, h1, h2, h3⟩
            exact ⟨v2, m2, c2, rfl, by rw [h1, HS.out]; exact len_ten _ _ HST.out, h2, hb.trans (h3.mono hb.size)⟩
          have ADD : Hid (∀ (wz : World) (v1 : Option Addr) (m1 c1 : Nat), Row wz v1 m1 c1 (limbs (N * 10)) → m1 ≤ 1000 → Below wq.heap.size wq wz → Calls Try.prog 15 #[.slice v1 m1 c1, .slice (some ⟨wz.heap.size, 0, none⟩) 1 1] (wz.alloc (Obj.cells #[Value.int IntKind.u32 (IntKind.u32.wrap (IntKind.u8.wrap ((s[j].toNat : Int) - 48)))] 38)) fun e w' => ∃ v2 m2 c2, e = .returned (.slice v2 m2 c2) ∧ m2 ≤ j + 1 ∧ Row w' v2 m2 c2 (limbs (numOf (s.data.toList.take (j + 1)))) ∧ Below wq.heap.size wq w') := by
            intro wz v1 m1 c1 hr hm hb
            exact ADD2.out _ _ v1 m1 c1 (row_below (Nat.le_refl _) ((Below.refl _ _).alloc (Nat.le_refl _) _) hr) (row_one wz _ _ WV.out D32.out) hm (hb.alloc hb.size _)
          clear hdz hw10 hwd
          clear dz w10 wd
          go_wp2
          go_region_with (first
            | (go_at_call 17; with_reducible refine (MUL.out _ _ B1.out R10.out).mono ?_; rintro e wz ⟨v1, m1, c1, rfl, hm1, hr1, hb1⟩; have HR1 := Lib.hid hr1; clear hr1; have HQ1 := Lib.hid (B1.out.trans (hb1.mono B1.out.size)); have HM1 := Lib.hid hm1; clear hb1 hm1)
            | (go_at_call 17; with_reducible refine (MUL.out _ _ B2.out RT2.out).mono ?_; rintro e wz ⟨v1, m1, c1, rfl, hm1, hr1, hb1⟩; have HR1 := Lib.hid hr1; clear hr1; have HQ1 := Lib.hid (B2.out.trans (hb1.mono B2.out.size)); have HM1 := Lib.hid hm1; have RDZ := Lib.hid (row_below (Nat.le_refl _) hb1 RD2.out); clear hb1 hm1)
            | (go_at_call 17; with_reducible refine (MUL.out _ _ B3.out RT3.out).mono ?_; rintro e wz ⟨v1, m1, c1, rfl, hm1, hr1, hb1⟩; have HR1 := Lib.hid hr1; clear hr1; have HQ1 := Lib.hid (B3.out.trans (hb1.mono B3.out.size)); have HM1 := Lib.hid hm1; have RDZ := Lib.hid (row_below (Nat.le_refl _) hb1 RD3.out); clear hb1 hm1)
            | (go_at_call 15; with_reducible refine (ADD2.out wz _ v1 m1 c1 HR1.out RDZ.out HM1.out HQ1.out).mono ?_; rintro e wy ⟨v2, m2, c2, rfl, hm2, hr2, hb2⟩; have HR2 := Lib.hid hr2; clear hr2; have HM2 := Lib.hid hm2; clear hm2; have HBZ := Lib.hid hb2; clear hb2)
            | (go_at_call 15; with_reducible refine (ADD.out wz v1 m1 c1 HR1.out HM1.out HQ1.out).mono ?_; rintro e wy ⟨v2, m2, c2, rfl, hm2, hr2, hb2⟩; have HR2 := Lib.hid hr2; clear hr2; have HM2 := Lib.hid hm2; clear hm2; have HBZ := Lib.hid hb2; clear hb2))
          all_goals
            have HB3 : Hid (Below w.heap.size w wy) := hbr.trans (HBZ.out.mono hbr.size)
            go_wp2
            go_roundw
            case rel => exact ⟨j + 1, v2, m2, c2, by omega, by go_num, rfl, HM2.out, ⟨HR2.out, by rw [HS.out]; exact HST.out⟩, HB3.out⟩
            case measure => simp [intOf]; omega
        · obtain rfl : s.size = j := by omega
          go_wp2
          go_ret2
          refine ⟨a, m, c, rfl, ?_, ?_, hbr⟩
          · rw [← HN.out]; exact HZ.out.1.1.symm
          · rw [← HN.out]; exact HZ.out.1
end Go.Proofs.Ytjpjibdcjmjcgaa
