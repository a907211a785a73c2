/- The document's In and Name. -/
import Derived.Test.YtkcgikoploohkaaGreatDoorZScPToScX
import Derived.BigQuiet
import Derived.Deep.QuietTactic
namespace Go.Proofs.YtkcgikoploohkaaGreatDoor
set_option linter.unusedVariables false
set_option linter.unusedSimpArgs false
set_option maxRecDepth 100000
open Go.RowKit Go.Shelf Nums

theorem ba_eq {x y : ByteArray} (h : x.toList = y.toList) : x = y := by
  rw [ByteArray.toList_eq, ByteArray.toList_eq] at h
  cases x; cases y
  congr 1
  exact Array.toList_inj.1 h
theorem in_t {a : Option Addr} {n c : Nat} {ins : List ByteArray} {w : World} {x : ByteArray} (h : SRow w a n c ins) : Calls Tryz.prog 95 #[.string x, .slice a n c] w fun e w' => e = .returned (.bool (Lib.containsS ins x)) ∧ w' = w := by
  have h1 := h.1
  have hcm : c ≤ 9223372036854775807 := by have := h.2.2.1; unfold maxLen at this; omega
  have hnc := h.2.1
  have HR := Lib.hid h
  clear h
  go_enter Tryz.func95, Tryz.ntmps95
  go_wp2
  go_loop [5] (fun t => ∃ k : Nat, k ≤ n ∧ t = .int .i64 (k : Int) ∧ Hid (∀ i y, i < k → ins[i]? = some y → y ≠ x)) (fun t => n - (intOf t).toNat)
  case atStart => exact ⟨0, Nat.zero_le _, rfl, Lib.hid (fun i y hi => by omega)⟩
  case round =>
    obtain ⟨k, hk, rfl, HO⟩ := hrel
    by_cases hlt : k < n
    · obtain ⟨y, hy⟩ : ∃ y, ins[k]? = some y := ⟨_, List.getElem?_eq_getElem (by omega)⟩
      obtain ⟨b, off, ha, hbB, hc⟩ := HR.out.at_ hy
      subst ha
      have HY := Lib.hid hy
      clear hy hbB
      by_cases hyx : y = x
      · subst hyx
        go_wp2
        go_ret
        refine ⟨?_, rfl⟩
        rw [(Lib.containsS_iff _ _).2 (List.mem_of_getElem? HY.out)]
        rfl
      · have e1 : (y.toList == x.toList) = false := beq_eq_false_iff_ne.2 fun e => hyx (ba_eq e)
        have e2 : ¬ y.toList = x.toList := fun e => hyx (ba_eq e)
        have HO2 := Lib.hid (show ∀ i z, i < k + 1 → ins[i]? = some z → z ≠ x from fun i z hi hz => by
          rcases Nat.lt_or_ge i k with q | q
          · exact HO.out i z q hz
          · obtain rfl : k = i := by omega
            rw [HY.out] at hz
            injection hz with hz
            subst hz
            exact hyx)
        clear hyx
        go_wp2
        go_round
        case rel => exact ⟨k + 1, by omega, by go_num, HO2⟩
        case measure => simp [intOf]; omega
    · obtain rfl : k = n := by omega
      go_wp2
      go_ret
      refine ⟨?_, rfl⟩
      rw [show Lib.containsS ins x = false from Bool.eq_false_iff.2 fun hm => by
        obtain ⟨i, hi, e⟩ := List.getElem_of_mem ((Lib.containsS_iff _ _).1 hm)
        exact HO.out i _ (by omega) (by rw [List.getElem?_eq_getElem hi]) e]
      rfl

end Go.Proofs.YtkcgikoploohkaaGreatDoor
