import Derived.Test.YtkcgikoploohkaaGreatDoorZScPToScX
import Derived.BigQuiet
import Derived.Deep.QuietTactic
namespace Go.Proofs.YtkcgikoploohkaaGreatDoor
set_option linter.unusedVariables false
set_option linter.unusedSimpArgs false
set_option maxRecDepth 100000
open Go.RowKit Go.Shelf Nums
end Go.Proofs.YtkcgikoploohkaaGreatDoor
namespace Go.Proofs.YtkcgikoploohkaaGreatDoor
set_option linter.unusedVariables false
set_option linter.unusedSimpArgs false
set_option maxRecDepth 100000
open Go.RowKit Go.Shelf Nums
def nmOk (l : List UInt8) (i : Nat) : Prop := ∀ j c,j < i→l[j]? = some c→smallN c.toNat = true∨(j≠0∧oddN c.toNat = false)
theorem small_odd {x : Nat} (h : smallN x = true) : oddN x = false := by unfold oddN;rw [h];rfl
theorem name_yes {l : List UInt8} (h0 : l≠[]) (h : nmOk l l.length) : nameB l = true := by
  cases l with
  | nil => exact absurd rfl h0
  | cons c r =>
    show (smallN c.toNat && !((c :: r).any fun x => oddN x.toNat)) = true
    have h1 : smallN c.toNat = true := (h 0 c (by simp) rfl).resolve_right fun h => h.1 rfl
    have h2 : ((c :: r).any fun x => oddN x.toNat) = false := by
      rw [List.any_eq_false]
      intro x hx
      obtain ⟨j,hj,e⟩ := List.getElem_of_mem hx
      rcases h j x hj (by rw [List.getElem?_eq_getElem hj,e]) with h | h
      · rw [small_odd h];decide
      · rw [h.2];decide
    rw [h1,h2];rfl
theorem name_no {l : List UInt8} {k : Nat} {c : UInt8} (hc : l[k]? = some c) (h1 : smallN c.toNat = false) (h2 : k = 0∨oddN c.toNat = true) : nameB l = false := by
  cases l with
  | nil => cases hc
  | cons b r =>
    show (smallN b.toNat && !((b :: r).any fun x => oddN x.toNat)) = false
    rcases h2 with rfl | h2
    · have e : b = c := Option.some.inj hc
      rw [e,h1];rfl
    · rw [show ((b :: r).any fun x => oddN x.toNat) = true from List.any_eq_true.2 ⟨c,List.mem_of_getElem? hc,h2⟩]
      simp
theorem nm_next {l : List UInt8} {k : Nat} {c : UInt8} (h : nmOk l k) (hc : l[k]? = some c) (h1 : smallN c.toNat = true∨(k≠0∧oddN c.toNat = false)) : nmOk l (k + 1) := by
  intro j d hj hd
  rcases Nat.lt_or_ge j k with q | q
  · exact h j d q hd
  · obtain rfl : k = j := by omega
    rw [hc] at hd
    injection hd with hd
    subst hd
    exact h1
theorem byte_ways (x : Nat) : (97≤x∧x≤122)∨x = 95∨(65≤x∧x≤90)∨(48≤x∧x≤57)∨122 < x∨(90 < x∧x < 97∧x≠95)∨(57 < x∧x < 65)∨x < 48 := by omega
theorem get_q (s : ByteArray) (k : Nat) (h : k < s.size) : s.data.toList[k]? = some s[k] := by
  rw [List.getElem?_eq_getElem (by simpa using h)];rfl
set_option maxHeartbeats 4000000 in
theorem name_t (s : ByteArray) (w : World) (hs : s.size≤1000000) : Calls Tryz.prog 51 #[.string s] w fun e w' => e = .returned (.bool (nameB s.data.toList))∧w' = w := by
  go_enter Tryz.func51,Tryz.ntmps51
  go_wp2
  go_loop [3] (fun t => ∃ k : Nat,k≤s.size∧t = .int .i64 (k : Int)∧Hid (nmOk s.data.toList k)) (fun t => s.size - (intOf t).toNat)
  case atStart => exact ⟨0,Nat.zero_le _,rfl,Lib.hid (fun i y hi => by omega)⟩
  case round =>
    obtain ⟨k,hk,rfl,HO⟩ := hrel
    by_cases hlt : k < s.size
    · have HC := Lib.hid (get_q s k hlt)
      have HW := Lib.hid (byte_ways s[k].toNat)
      have HZ := Lib.hid (show s[k].toNat < 256 from UInt8.toNat_lt _)
      rcases HW.out with ha | hb | hc | hd | he | hf | hg | hh
      · have HQ := Lib.hid ha
        clear ha
        have f97 : (97 : Int)≤(s[k].toNat : Int) := by have := HQ.out;omega
        have f122 : (s[k].toNat : Int)≤122 := by have := HQ.out;omega
        have HN := Lib.hid (nm_next HO.out HC.out (.inl (by unfold smallN;have := HQ.out;simp only [Bool.or_eq_true,Bool.and_eq_true,decide_eq_true_eq];omega)))
        go_wp2
        go_round
        case rel => exact ⟨k + 1,by omega,by go_num,HN⟩
        case measure => simp [intOf];omega
      · have HQ := Lib.hid hb
        clear hb
        have f97 : ¬ (97 : Int)≤(s[k].toNat : Int) := by have := HQ.out;omega
        have f95 : ((s[k].toNat : Int) == 95) = true := by rw [beq_iff_eq];have := HQ.out;omega
        have HN := Lib.hid (nm_next HO.out HC.out (.inl (by unfold smallN;have := HQ.out;simp only [Bool.or_eq_true,Bool.and_eq_true,decide_eq_true_eq];omega)))
        go_wp2
        go_round
        case rel => exact ⟨k + 1,by omega,by go_num,HN⟩
        case measure => simp [intOf];omega
      · have HQ := Lib.hid hc
        clear hc
        have f97 : ¬ (97 : Int)≤(s[k].toNat : Int) := by have := HQ.out;omega
        have f95 : ((s[k].toNat : Int) == 95) = false := by rw [beq_eq_false_iff_ne];have := HQ.out;omega
        have f65 : (65 : Int)≤(s[k].toNat : Int) := by have := HQ.out;omega
        have f90 : (s[k].toNat : Int)≤90 := by have := HQ.out;omega
        rcases Nat.eq_zero_or_pos k with h0 | h0
        · have z0 : ((k : Int) == 0) = true := by rw [beq_iff_eq];omega
          have HN := Lib.hid (name_no HC.out (by unfold smallN;have := HQ.out;simp only [Bool.or_eq_false_iff,Bool.and_eq_false_iff,decide_eq_false_iff_not];omega) (.inl h0))
          clear h0
          go_wp2
          go_ret
          rw [HN.out]
          exact ⟨rfl,rfl⟩
        · have z0 : ((k : Int) == 0) = false := by rw [beq_eq_false_iff_ne];omega
          have HN := Lib.hid (nm_next HO.out HC.out (.inr ⟨by omega,by unfold oddN smallN largeN digN;have := HQ.out;simp only [Bool.and_eq_false_iff,Bool.not_eq_false',Bool.or_eq_true,Bool.and_eq_true,decide_eq_true_eq];omega⟩))
          clear h0
          go_wp2
          go_round
          case rel => exact ⟨k + 1,by omega,by go_num,HN⟩
          case measure => simp [intOf];omega
      · have HQ := Lib.hid hd
        clear hd
        have f97 : ¬ (97 : Int)≤(s[k].toNat : Int) := by have := HQ.out;omega
        have f95 : ((s[k].toNat : Int) == 95) = false := by rw [beq_eq_false_iff_ne];have := HQ.out;omega
        have f65 : ¬ (65 : Int)≤(s[k].toNat : Int) := by have := HQ.out;omega
        have f48 : (48 : Int)≤(s[k].toNat : Int) := by have := HQ.out;omega
        have f57 : (s[k].toNat : Int)≤57 := by have := HQ.out;omega
        rcases Nat.eq_zero_or_pos k with h0 | h0
        · have z0 : ((k : Int) == 0) = true := by rw [beq_iff_eq];omega
          have HN := Lib.hid (name_no HC.out (by unfold smallN;have := HQ.out;simp only [Bool.or_eq_false_iff,Bool.and_eq_false_iff,decide_eq_false_iff_not];omega) (.inl h0))
          clear h0
          go_wp2
          go_ret
          rw [HN.out]
          exact ⟨rfl,rfl⟩
        · have z0 : ((k : Int) == 0) = false := by rw [beq_eq_false_iff_ne];omega
          have HN := Lib.hid (nm_next HO.out HC.out (.inr ⟨by omega,by unfold oddN smallN largeN digN;have := HQ.out;simp only [Bool.and_eq_false_iff,Bool.not_eq_false',Bool.or_eq_true,Bool.and_eq_true,decide_eq_true_eq];omega⟩))
          clear h0
          go_wp2
          go_round
          case rel => exact ⟨k + 1,by omega,by go_num,HN⟩
          case measure => simp [intOf];omega
      · have HQ := Lib.hid he
        clear he
        have f97 : (97 : Int)≤(s[k].toNat : Int) := by have := HQ.out;omega
        have f122 : ¬ (s[k].toNat : Int)≤122 := by have := HQ.out;omega
        have f95 : ((s[k].toNat : Int) == 95) = false := by rw [beq_eq_false_iff_ne];have := HQ.out;omega
        have f65 : (65 : Int)≤(s[k].toNat : Int) := by have := HQ.out;omega
        have f90 : ¬ (s[k].toNat : Int)≤90 := by have := HQ.out;omega
        have f48 : (48 : Int)≤(s[k].toNat : Int) := by have := HQ.out;omega
        have f57 : ¬ (s[k].toNat : Int)≤57 := by have := HQ.out;omega
        rcases Nat.eq_zero_or_pos k with h0 | h0
        · have z0 : ((k : Int) == 0) = true := by rw [beq_iff_eq];omega
          have HN := Lib.hid (name_no HC.out (by unfold smallN;have := HQ.out;simp only [Bool.or_eq_false_iff,Bool.and_eq_false_iff,decide_eq_false_iff_not];omega) (.inl h0))
          clear h0
          go_wp2
          go_ret
          rw [HN.out]
          exact ⟨rfl,rfl⟩
        · have z0 : ((k : Int) == 0) = false := by rw [beq_eq_false_iff_ne];omega
          have HN := Lib.hid (name_no HC.out (by unfold smallN;have := HQ.out;simp only [Bool.or_eq_false_iff,Bool.and_eq_false_iff,decide_eq_false_iff_not];omega) (.inr (by unfold oddN smallN largeN digN;have := HQ.out;simp only [Bool.and_eq_true,Bool.not_eq_true',Bool.or_eq_false_iff,Bool.and_eq_false_iff,decide_eq_false_iff_not];omega)))
          clear h0
          go_wp2
          go_ret
          rw [HN.out]
          exact ⟨rfl,rfl⟩
      · have HQ := Lib.hid hf
        clear hf
        have f97 : ¬ (97 : Int)≤(s[k].toNat : Int) := by have := HQ.out;omega
        have f95 : ((s[k].toNat : Int) == 95) = false := by rw [beq_eq_false_iff_ne];have := HQ.out;omega
        have f65 : (65 : Int)≤(s[k].toNat : Int) := by have := HQ.out;omega
        have f90 : ¬ (s[k].toNat : Int)≤90 := by have := HQ.out;omega
        have f48 : (48 : Int)≤(s[k].toNat : Int) := by have := HQ.out;omega
        have f57 : ¬ (s[k].toNat : Int)≤57 := by have := HQ.out;omega
        rcases Nat.eq_zero_or_pos k with h0 | h0
        · have z0 : ((k : Int) == 0) = true := by rw [beq_iff_eq];omega
          have HN := Lib.hid (name_no HC.out (by unfold smallN;have := HQ.out;simp only [Bool.or_eq_false_iff,Bool.and_eq_false_iff,decide_eq_false_iff_not];omega) (.inl h0))
          clear h0
          go_wp2
          go_ret
          rw [HN.out]
          exact ⟨rfl,rfl⟩
        · have z0 : ((k : Int) == 0) = false := by rw [beq_eq_false_iff_ne];omega
          have HN := Lib.hid (name_no HC.out (by unfold smallN;have := HQ.out;simp only [Bool.or_eq_false_iff,Bool.and_eq_false_iff,decide_eq_false_iff_not];omega) (.inr (by unfold oddN smallN largeN digN;have := HQ.out;simp only [Bool.and_eq_true,Bool.not_eq_true',Bool.or_eq_false_iff,Bool.and_eq_false_iff,decide_eq_false_iff_not];omega)))
          clear h0
          go_wp2
          go_ret
          rw [HN.out]
          exact ⟨rfl,rfl⟩
      · have HQ := Lib.hid hg
        clear hg
        have f97 : ¬ (97 : Int)≤(s[k].toNat : Int) := by have := HQ.out;omega
        have f95 : ((s[k].toNat : Int) == 95) = false := by rw [beq_eq_false_iff_ne];have := HQ.out;omega
        have f65 : ¬ (65 : Int)≤(s[k].toNat : Int) := by have := HQ.out;omega
        have f48 : (48 : Int)≤(s[k].toNat : Int) := by have := HQ.out;omega
        have f57 : ¬ (s[k].toNat : Int)≤57 := by have := HQ.out;omega
        rcases Nat.eq_zero_or_pos k with h0 | h0
        · have z0 : ((k : Int) == 0) = true := by rw [beq_iff_eq];omega
          have HN := Lib.hid (name_no HC.out (by unfold smallN;have := HQ.out;simp only [Bool.or_eq_false_iff,Bool.and_eq_false_iff,decide_eq_false_iff_not];omega) (.inl h0))
          clear h0
          go_wp2
          go_ret
          rw [HN.out]
          exact ⟨rfl,rfl⟩
        · have z0 : ((k : Int) == 0) = false := by rw [beq_eq_false_iff_ne];omega
          have HN := Lib.hid (name_no HC.out (by unfold smallN;have := HQ.out;simp only [Bool.or_eq_false_iff,Bool.and_eq_false_iff,decide_eq_false_iff_not];omega) (.inr (by unfold oddN smallN largeN digN;have := HQ.out;simp only [Bool.and_eq_true,Bool.not_eq_true',Bool.or_eq_false_iff,Bool.and_eq_false_iff,decide_eq_false_iff_not];omega)))
          clear h0
          go_wp2
          go_ret
          rw [HN.out]
          exact ⟨rfl,rfl⟩
      · have HQ := Lib.hid hh
        clear hh
        have f97 : ¬ (97 : Int)≤(s[k].toNat : Int) := by have := HQ.out;omega
        have f95 : ((s[k].toNat : Int) == 95) = false := by rw [beq_eq_false_iff_ne];have := HQ.out;omega
        have f65 : ¬ (65 : Int)≤(s[k].toNat : Int) := by have := HQ.out;omega
        have f48 : ¬ (48 : Int)≤(s[k].toNat : Int) := by have := HQ.out;omega
        rcases Nat.eq_zero_or_pos k with h0 | h0
        · have z0 : ((k : Int) == 0) = true := by rw [beq_iff_eq];omega
          have HN := Lib.hid (name_no HC.out (by unfold smallN;have := HQ.out;simp only [Bool.or_eq_false_iff,Bool.and_eq_false_iff,decide_eq_false_iff_not];omega) (.inl h0))
          clear h0
          go_wp2
          go_ret
          rw [HN.out]
          exact ⟨rfl,rfl⟩
        · have z0 : ((k : Int) == 0) = false := by rw [beq_eq_false_iff_ne];omega
          have HN := Lib.hid (name_no HC.out (by unfold smallN;have := HQ.out;simp only [Bool.or_eq_false_iff,Bool.and_eq_false_iff,decide_eq_false_iff_not];omega) (.inr (by unfold oddN smallN largeN digN;have := HQ.out;simp only [Bool.and_eq_true,Bool.not_eq_true',Bool.or_eq_false_iff,Bool.and_eq_false_iff,decide_eq_false_iff_not];omega)))
          clear h0
          go_wp2
          go_ret
          rw [HN.out]
          exact ⟨rfl,rfl⟩
    · obtain rfl : k = s.size := by omega
      have hz := Lib.size_eq s
      rcases (show s.data.toList = []∨s.data.toList≠[] by cases s.data.toList <;> simp) with hl | hl
      · have e1 : s.toList = [] := by rw [ByteArray.toList_eq];exact hl
        have e2 : s.toList.isEmpty = true := by rw [e1];rfl
        have HN := Lib.hid (show nameB s.data.toList = false by rw [hl];rfl)
        clear hl hz
        go_wp2
        go_ret
        rw [HN.out]
        exact ⟨rfl,rfl⟩
      · have e1 : ¬ s.toList = [] := by rw [ByteArray.toList_eq];exact hl
        have e2 : s.toList.isEmpty = false := by cases hx : s.toList with | nil => exact absurd hx e1 | cons _ _ => rfl
        have HN := Lib.hid (show nameB s.data.toList = true from name_yes hl (by rw [←hz];exact HO.out))
        clear hl hz
        go_wp2
        go_ret
        rw [HN.out]
        exact ⟨rfl,rfl⟩
end Go.Proofs.YtkcgikoploohkaaGreatDoor
