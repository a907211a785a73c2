/- The document's digits. -/
import Derived.Test.YtkcgikoploohkaaGreatDoorZScPToScX
import Derived.Test.YtkcgikoploohkaaGreatDoorRC
namespace Go.Proofs.YtkcgikoploohkaaGreatDoor
set_option linter.unusedVariables false
set_option linter.unusedSimpArgs false
set_option maxRecDepth 100000
open Go.RowKit Go.Shelf Nums

theorem dd_dig2 (u : Nat) : u ≠ 0 → Lib.decDigits u = (dig u).reverse := by
  induction u using Nat.strongRecOn with
  | _ u ih =>
    intro h0
    rw [dig_pos h0, List.reverse_cons]
    by_cases h : u < 10
    · rw [Lib.decDigits, dif_pos h, show u / 10 = 0 by omega, dig_zero, show u % 10 = u by omega]
      rfl
    · rw [Lib.decDigits, dif_neg h, ih (u / 10) (by omega) (by omega)]
/-- the two ways of writing a count are one -/
theorem dec_itoa (n : Nat) : decStr n = bsL (Lib.itoa (n : Int)) := by
  unfold decStr
  rw [Lib.itoa_nonneg]
  by_cases h : n = 0
  · subst h
    rw [if_pos rfl, Lib.decDigits_one (by decide)]
    rfl
  · rw [if_neg h, dd_dig2 n h]
    rfl
theorem row_lit1 (w : World) (n : Nat) (h : n < 4294967296) : Row (w.alloc (.cells #[.int .u32 (n : Int)] 89)) (some ⟨w.heap.size, 0, none⟩) 1 1 [n] := by
  have hk := Blk.new w 89 #[.int .u32 (n : Int)]
  refine ⟨rfl, Nat.le_refl _, by unfold maxLen; decide, (fun h => by cases h), (fun x hx => by rw [List.mem_singleton] at hx; omega), w.heap.size, 0, .inl rfl, fun i hi => ⟨hk.lt, ?_⟩⟩
  obtain rfl : i = 0 := by omega
  exact hk.cell 0 rfl
set_option maxHeartbeats 4000000 in
theorem digits50_t (n : Int) (w : World) (h0 : 0 ≤ n) (h1 : n ≤ 999999) : Calls Tryz.prog 50 #[.int .i64 n] w fun e w' => e = .returned (.string (bsL (Lib.itoa n))) ∧ Below w.heap.size w w' := by
  obtain ⟨m, rfl⟩ : ∃ m : Nat, n = m := ⟨n.toNat, by omega⟩
  have hw : IntKind.u32.wrap (m : Int) = (m : Int) := by
    unfold IntKind.wrap
    simp [IntKind.signed, IntKind.bits]
    omega
  have hm : m < 4294967296 := by omega
  have HC := Lib.hid (rprintN (bsL (Lib.itoa (m : Int))) (row_lit1 w m hm) (by decide) (by rw [show val [m] = m by simp [val], dec_itoa]))
  have HB := Lib.hid (below_one w (.cells #[.int .u32 (m : Int)] 89))
  clear hm
  obtain ⟨T, hT⟩ : ∃ T, bsL (Lib.itoa (m : Int)) = T := ⟨_, rfl⟩
  rw [hT] at HC ⊢
  clear hT
  go_enter Tryz.func50, Tryz.ntmps50
  go_wp2_with (go_at_call 74; (with_reducible refine HC.out.mono ?_); rintro e w2 ⟨rfl, hb⟩; replace HB := Lib.hid (bthen HB.out hb); clear hb)
  go_ret
  exact ⟨rfl, HB.out⟩

end Go.Proofs.YtkcgikoploohkaaGreatDoor
