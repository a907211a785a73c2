import Derived.Test.YtkcgikoploohkaaGreatDoorQH
import Derived.Test.YtkcgikoploohkaaGreatDoorQM
import Derived.Deep.RegionHeld3
import Derived.Deep.QuietTactic
import Derived.BigQuiet
import Derived.Test.YtkcgikoploohkaaGreatDoorQE
import Derived.Test.YtkcgikoploohkaaGreatDoorIG
import Derived.Test.YtkcgikoploohkaaGreatDoorQF
import Derived.Test.YtkcgikoploohkaaGreatDoorQG
import Derived.Deep.DeepCutAuto
import Derived.ProofKit
import Derived.OpenShut
import Derived.ShutString
import Derived.ChangeOld
import Derived.ChangeMaps5
namespace Go.Proofs.YtkcgikoploohkaaGreatDoor
set_option linter.unusedVariables false
set_option linter.unusedSimpArgs false
set_option maxRecDepth 100000
open Go.RowKit Nums
theorem below_drewN {B : Nat} {a w : World} (h : Below B a w) (n : Nat) : Below B a (w.drewN n) := ⟨h.os,h.tape,h.output,h.size,h.block⟩
end Go.Proofs.YtkcgikoploohkaaGreatDoor
/- What the answer's Whole tells. -/
namespace Go.Proofs.YtkcgikoploohkaaGreatDoor
set_option linter.unusedVariables false
set_option linter.unusedSimpArgs false
set_option maxRecDepth 100000
open Go.RowKit Nums
end Go.Proofs.YtkcgikoploohkaaGreatDoor
/- What the answer's find and worse tell, and Of. -/
namespace Go.Proofs.YtkcgikoploohkaaGreatDoor
set_option linter.unusedVariables false
set_option linter.unusedSimpArgs false
set_option maxRecDepth 100000
open Go.RowKit Nums
theorem byte_ne {s : ByteArray} {c : UInt8} {C : Int} {k n : Nat} (hC : (c.toNat : Int) = C) {l r : List UInt8} (hs : s.data.toList = l ++ r) (hl : l.length = n) (H : c ∉ l) (hk : k < n) (h : k < s.size) : ((s[k].toNat : Int) == C) = false := by
  rw [beq_eq_false_iff_ne]
  intro e
  apply H
  have e1 : s[k] = s.data.toList[k]'(by simpa using h) := by simp [ByteArray.getElem_eq_getElem_data]
  have e2 : s[k] = c := by apply UInt8.toNat_inj.1;omega
  have hk' : k < l.length := by omega
  have e3 : s.data.toList[k]'(by simpa using h) = l[k] := by
    have e4 : (l ++ r)[k]? = some l[k] := by rw [List.getElem?_append_left hk',List.getElem?_eq_getElem hk']
    rw [←hs] at e4
    exact (List.getElem?_eq_some_iff.1 e4).2
  rw [←e2,e1,e3]
  exact List.getElem_mem _
theorem byte_eq {s h t : ByteArray} {c : UInt8} {C : Int} (hC : (c.toNat : Int) = C) (H : Split s c h t) (hk : h.size < s.size) : ((s[h.size].toNat : Int) == C) = true := by
  have e1 : s[h.size] = s.data.toList[h.size]'(by simpa using hk) := by simp [ByteArray.getElem_eq_getElem_data]
  have e3 : s.data.toList[h.size]'(by simpa using hk) = c := by
    have e4 : (h.data.toList ++ c :: t.data.toList)[h.size]? = some c := by
      rw [List.getElem?_append_right (by rw [Lib.size_eq h];exact Nat.le_refl _),Lib.size_eq h,Nat.sub_self]
      rfl
    rw [←H.1] at e4
    exact (List.getElem?_eq_some_iff.1 e4).2
  rw [e1,e3,hC];simp
set_option maxHeartbeats 1000000 in
theorem find_miss (C : Int) (c : UInt8) (s : ByteArray) (w : World) (hC : (c.toNat : Int) = C) (H : c ∉ s.data.toList) (hs : s.size≤1000000) :
    Calls Tryz.prog 68 #[.string s,.int .u8 C] w fun e w' => e = .returned (.int .i64 (-1))∧w = w' := by
  have HM := Lib.hid (fun (k : Nat) (h : k < s.size) => byte_ne (n := s.size) hC (l := s.data.toList) (r := []) (by simp) (by simp) H h h)
  clear H hC
  go_enter Tryz.func68,Tryz.ntmps68
  go_wp2
  go_loop [5] (fun i => ∃ k : Nat,k≤s.size∧i = .int .i64 (k : Int)) (fun i => s.size - (intOf i).toNat)
  case atStart => exact ⟨0,Nat.zero_le _,rfl⟩
  case round =>
    obtain ⟨k,hk,rfl⟩ := hrel
    by_cases hlt : k < s.size
    · have hne := HM.out k hlt
      go_wp2
      go_round
      case rel => exact ⟨k + 1,by omega,by go_num⟩
      case measure => simp [intOf];omega
    · go_wp2
      go_ret
      exact ⟨rfl,rfl⟩
set_option maxHeartbeats 1000000 in
theorem find_hit (C : Int) (c : UInt8) (s h t : ByteArray) (w : World) (hC : (c.toNat : Int) = C) (H : Split s c h t) (hs : s.size≤1000000) :
    Calls Tryz.prog 68 #[.string s,.int .u8 C] w fun e w' => e = .returned (.int .i64 (h.size : Int))∧w = w' := by
  have HM := Lib.hid (fun (k : Nat) (hk : k < h.size) (h' : k < s.size) => byte_ne (n := h.size) hC (l := h.data.toList) (r := c :: t.data.toList) H.1 (Lib.size_eq h).symm H.2 hk h')
  have hz := H.size
  have HE := Lib.hid (fun hk : h.size < s.size => byte_eq hC H hk)
  obtain ⟨i,hi⟩ : ∃ i,h.size = i := ⟨_,rfl⟩
  rw [hi] at hz ⊢
  simp only [hi] at HM HE
  have hlt : i < s.size := by omega
  have heq0 : ((s[i].toNat : Int) == C) = true := HE.out hlt
  have HEQ := Lib.hid heq0
  clear heq0 H hC HE hz
  go_enter Tryz.func68,Tryz.ntmps68
  go_wp2
  go_loop [5] (fun j => ∃ k : Nat,k≤i∧j = .int .i64 (k : Int)) (fun j => s.size - (intOf j).toNat)
  case atStart => exact ⟨0,Nat.zero_le _,rfl⟩
  case round =>
    obtain ⟨k,hk,rfl⟩ := hrel
    by_cases hki : k < i
    · have hlk : k < s.size := by omega
      have hne := HM.out k hki hlk
      go_wp2
      go_round
      case rel => exact ⟨k + 1,by omega,by go_num⟩
      case measure => simp [intOf];omega
    · obtain rfl : k = i := by omega
      have heq := HEQ.out
      go_wp2
      go_ret
      exact ⟨rfl,rfl⟩
theorem find_any (C : Int) (c : UInt8) (s : ByteArray) (hC : (c.toNat : Int) = C) (hs : s.size≤1000000) :
    ∃ v : Int,∀ w,Calls Tryz.prog 68 #[.string s,.int .u8 C] w fun e w' => e = .returned (.int .i64 v)∧w = w' := by
  rcases splits_any s c with h | ⟨h,t,H⟩
  · exact ⟨-1,fun w => find_miss C c s w hC h hs⟩
  · exact ⟨_,fun w => find_hit C c s h t w hC H hs⟩
set_option maxHeartbeats 1000000 in
theorem worse_00 (w : World) : Calls Tryz.prog 71 #[.int .i64 0,.int .i64 0] w fun e w' => e = .returned (.int .i64 0)∧w = w' := by
  go_enter Tryz.func71,Tryz.ntmps71
  go_wp2
  go_ret
  exact ⟨rfl,rfl⟩
set_option maxHeartbeats 1000000 in
theorem worse_40 (w : World) : Calls Tryz.prog 71 #[.int .i64 4,.int .i64 0] w fun e w' => e = .returned (.int .i64 4)∧w = w' := by
  go_enter Tryz.func71,Tryz.ntmps71
  go_wp2
  go_ret
  exact ⟨rfl,rfl⟩
set_option maxHeartbeats 1000000 in
theorem worse_04 (w : World) : Calls Tryz.prog 71 #[.int .i64 0,.int .i64 4] w fun e w' => e = .returned (.int .i64 4)∧w = w' := by
  go_enter Tryz.func71,Tryz.ntmps71
  go_wp2
  go_ret
  exact ⟨rfl,rfl⟩
set_option maxHeartbeats 1000000 in
theorem worse_44 (w : World) : Calls Tryz.prog 71 #[.int .i64 4,.int .i64 4] w fun e w' => e = .returned (.int .i64 4)∧w = w' := by
  go_enter Tryz.func71,Tryz.ntmps71
  go_wp2
  go_ret
  exact ⟨rfl,rfl⟩
end Go.Proofs.YtkcgikoploohkaaGreatDoor
/- What the answer's Print tells. -/
namespace Go.Proofs.YtkcgikoploohkaaGreatDoor
set_option linter.unusedVariables false
set_option linter.unusedSimpArgs false
set_option maxRecDepth 100000
open Go.RowKit Nums
end Go.Proofs.YtkcgikoploohkaaGreatDoor
/- What the answer's Parse tells: a quotient, an integer. -/
namespace Go.Proofs.YtkcgikoploohkaaGreatDoor
set_option linter.unusedVariables false
set_option linter.unusedSimpArgs false
set_option maxRecDepth 100000
open Go.RowKit Nums
def RNatK (k N : Nat) (w : World) (e : Ending) (w' : World) : Prop := ∃ a m c,e = .returned (.tuple #[.slice a m c,.int .i64 0])∧m≤k∧Row w' a m c (limbs N)∧Below w.heap.size w w'
theorem first_byte {s h t u : ByteArray} {neg : Bool} (H : Split s 46 h t) (hs : Signed h neg u) (hu : 0 < u.size) (h0 : 0 < s.size) : ((s[0].toNat : Int) == 45) = neg := by
  have e1 : s[0] = s.data.toList[0]'(by simpa using h0) := by simp [ByteArray.getElem_eq_getElem_data]
  rcases hs with ⟨rfl,e⟩ | ⟨rfl,rfl,e⟩
  · have e2 : s.data.toList[0]'(by simpa using h0) = 45 := by simp only [H.1,e,List.cons_append,List.getElem_cons_zero]
    rw [e1,e2];rfl
  · have hl : 0 < h.data.toList.length := by rw [←Lib.size_eq h];exact hu
    have e2 : s.data.toList[0]'(by simpa using h0) = h.data.toList[0] := by
      simp only [H.1];exact List.getElem_append_left hl
    rw [e1,e2,beq_eq_false_iff_ne]
    intro hh
    apply e
    rw [List.head?_eq_getElem?,List.getElem?_eq_getElem hl]
    congr 1
    apply UInt8.toNat_inj.1
    have : ((45 : UInt8).toNat : Int) = 45 := rfl
    omega
theorem pow_limbs (k T K : Nat) (hk : k≤T) (hT : T≤6 * K) (hK : 0 < K) : (limbs (10 ^ k)).length≤K := by
  apply limbs_len
  exact Nat.lt_of_le_of_lt (Nat.pow_le_pow_right (by omega) hk) (pow_room T K hK hT)
set_option maxHeartbeats 8000000 in
theorem rslash_ok (K : Nat) (q : Rat) (X : Int) (N : Nat) (s h t : ByteArray) (w : World) (H : Split s 47 h t) (hs : s.size≤1000000) (hH : ∀ w,Calls Tryz.prog 69 #[.string h] w (ParseK K X w)) (hT : ∀ w,Calls Tryz.prog 70 #[.string t] w (RNatK K N w)) (hK : K≤70) (hK2 : 2≤K) (hN : 0 < N) (hr : mkRat X N = q) :
    Calls Tryz.prog 34 #[.string s] w (RatRes 0 (ToldAs K K q) w) := by
  have H1 := H.head
  have H2 := H.tail
  have hz := H.size
  have HF := Lib.hid (fun w => find_hit 47 47 s h t w rfl H hs)
  obtain ⟨v,hv⟩ := find_any 46 46 s rfl hs
  have HP := Lib.hid hv;clear hv
  obtain ⟨i,hi⟩ : ∃ i,h.size = i := ⟨_,rfl⟩
  rw [hi] at H1 H2 HF hz
  rw [←H1] at hH
  rw [←H2] at hT
  have HH := Lib.hid hH;clear hH
  have HT := Lib.hid hT;clear hT
  have hle : i + 1≤s.size := by omega
  have hle2 : (i : Int) + 1≤(s.size : Int) := by omega
  have hle3 : (i : Int)≤(s.size : Int) := by omega
  have hle4 : (0 : Int)≤(i : Int) := by omega
  clear H1 H2 hz H hi
  have HR := Lib.hid (show mkRat (sv (decide (X < 0)) (val (limbs X.natAbs))) (val (limbs N)) = q by rw [sv_limbs,val_limbs];exact hr);clear hr
  have HB := Lib.hid (below_one w (.cells #[.bool false,.slice none 0 0,.slice none 0 0] 27))
  have Z : Hid (Tri (w.alloc (.cells #[.bool false,.slice none 0 0,.slice none 0 0] 27)) w.heap.size (.bool false) (.slice none 0 0) (.slice none 0 0)) := tri_new w _ _ _
  go_enter Tryz.func34,Tryz.ntmps34
  go_wp2_with fail
  refine (HF.out _).mono ?_
  rintro e w1 ⟨rfl,rfl⟩
  go_wp2_with fail
  refine (HP.out _).mono ?_
  rintro e w1 ⟨rfl,rfl⟩
  go_wp2_with fail
  refine (HH.out _).mono ?_
  rintro e w11 ⟨a,n,c,rfl,hn,hr,hb⟩
  replace Z := Lib.hid (Z.out.later hb)
  replace HB := Lib.hid (bthen HB.out hb)
  clear hb
  have RA := Lib.hid hr;clear hr
  have hb1 := below_one w11 (.cells #[.bool (decide (X < 0)),.slice a n c] 25)
  have XN : Hid (Box (w11.alloc (.cells #[.bool (decide (X < 0)),.slice a n c] 25)) w11.heap.size (.bool (decide (X < 0))) (.slice a n c)) := box_new w11 _ _
  replace RA := Lib.hid (RA.out.later hb1)
  replace Z := Lib.hid (Z.out.later hb1)
  replace HB := Lib.hid (bthen HB.out hb1)
  clear hb1
  go_wp2_with fail
  refine (HT.out _).mono ?_
  rintro e w12 ⟨b,m,d,rfl,hm,hr,hb⟩
  replace RA := Lib.hid (RA.out.later hb)
  replace XN := Lib.hid (XN.out.later hb)
  replace Z := Lib.hid (Z.out.later hb)
  replace HB := Lib.hid (bthen HB.out hb)
  clear hb
  have RB := Lib.hid hr;clear hr
  have hm0 : ((m : Int) == 0) = false := by
    rw [beq_eq_false_iff_ne];have := RB.out.1
    have : (limbs N).length≠0 := fun h => by have := length_limbs_zero.1 h;omega
    omega
  go_wp2_with fail
  refine (worse_00 _).mono ?_
  rintro e wz ⟨rfl,rfl⟩
  obtain ⟨kXN0,kXN1,-,-,-⟩ := XN.out
  go_wp2_with fail
  refine (rnormR K K q RA.out RB.out HR.out hn hm hK hK2 hK2 hK).mono ?_
  rintro e w13 ⟨a1,n1,c1,b1,m1,d1,rfl,hn1,hm1,hr,hr2,hb⟩
  replace RA := Lib.hid (RA.out.later hb)
  replace RB := Lib.hid (RB.out.later hb)
  replace XN := Lib.hid (XN.out.later hb)
  replace Z := Lib.hid (Z.out.later hb)
  replace HB := Lib.hid (bthen HB.out hb)
  clear hb
  clear kXN0 kXN1
  have RX := Lib.hid hr;clear hr
  have RY := Lib.hid hr2;clear hr2
  obtain ⟨kZ0,kZ1,kZ2,kZ3,kZ4,kZ5,kZ6⟩ := Z.out
  go_wp2
  exact bodyPost_ret (v := .tuple #[.agg #[.bool (decide (q.num < 0)),.slice a1 n1 c1,.slice b1 m1 d1],.int .i64 0]) (by simp [results,Tryz.results34,go_sem, *]) rfl
    (ratRes_sink rfl ⟨rfl,hn1,hm1,rfl,rfl⟩ (RX.out.put3 Z.out _ _ _) (RY.out.put3 Z.out _ _ _) (below_put3 HB.out (by omega) _ _ _))
set_option maxHeartbeats 8000000 in
theorem rslash_zero (K : Nat) (X : Int) (N : Nat) (s h t : ByteArray) (w : World) (H : Split s 47 h t) (hs : s.size≤1000000) (hH : ∀ w,Calls Tryz.prog 69 #[.string h] w (ParseK K X w)) (hT : ∀ w,Calls Tryz.prog 70 #[.string t] w (RNatK K N w)) (hK : K≤70) (hK2 : 2≤K) (hN : N = 0) :
    Calls Tryz.prog 34 #[.string s] w (RatRes 4 NoneAs w) := by
  have H1 := H.head
  have H2 := H.tail
  have hz := H.size
  have HF := Lib.hid (fun w => find_hit 47 47 s h t w rfl H hs)
  obtain ⟨v,hv⟩ := find_any 46 46 s rfl hs
  have HP := Lib.hid hv;clear hv
  obtain ⟨i,hi⟩ : ∃ i,h.size = i := ⟨_,rfl⟩
  rw [hi] at H1 H2 HF hz
  rw [←H1] at hH
  rw [←H2] at hT
  have HH := Lib.hid hH;clear hH
  have HT := Lib.hid hT;clear hT
  have hle : i + 1≤s.size := by omega
  have hle2 : (i : Int) + 1≤(s.size : Int) := by omega
  have hle3 : (i : Int)≤(s.size : Int) := by omega
  have hle4 : (0 : Int)≤(i : Int) := by omega
  clear H1 H2 hz H hi
  have HB := Lib.hid (below_one w (.cells #[.bool false,.slice none 0 0,.slice none 0 0] 27))
  have Z : Hid (Tri (w.alloc (.cells #[.bool false,.slice none 0 0,.slice none 0 0] 27)) w.heap.size (.bool false) (.slice none 0 0) (.slice none 0 0)) := tri_new w _ _ _
  go_enter Tryz.func34,Tryz.ntmps34
  go_wp2_with fail
  refine (HF.out _).mono ?_
  rintro e w1 ⟨rfl,rfl⟩
  go_wp2_with fail
  refine (HP.out _).mono ?_
  rintro e w1 ⟨rfl,rfl⟩
  go_wp2_with fail
  refine (HH.out _).mono ?_
  rintro e w11 ⟨a,n,c,rfl,hn,hr,hb⟩
  replace Z := Lib.hid (Z.out.later hb)
  replace HB := Lib.hid (bthen HB.out hb)
  clear hb
  have RA := Lib.hid hr;clear hr
  have hb1 := below_one w11 (.cells #[.bool (decide (X < 0)),.slice a n c] 25)
  have XN : Hid (Box (w11.alloc (.cells #[.bool (decide (X < 0)),.slice a n c] 25)) w11.heap.size (.bool (decide (X < 0))) (.slice a n c)) := box_new w11 _ _
  replace RA := Lib.hid (RA.out.later hb1)
  replace Z := Lib.hid (Z.out.later hb1)
  replace HB := Lib.hid (bthen HB.out hb1)
  clear hb1
  go_wp2_with fail
  refine (HT.out _).mono ?_
  rintro e w12 ⟨b,m,d,rfl,hm,hr,hb⟩
  replace RA := Lib.hid (RA.out.later hb)
  replace XN := Lib.hid (XN.out.later hb)
  replace Z := Lib.hid (Z.out.later hb)
  replace HB := Lib.hid (bthen HB.out hb)
  clear hb
  have RB := Lib.hid hr;clear hr
  have hm0 : m = 0 := by have h := RB.out.1;rw [hN,limbs_zero] at h;simpa using h.symm
  subst hm0
  go_wp2_with fail
  refine (worse_00 _).mono ?_
  rintro e wz ⟨rfl,rfl⟩
  obtain ⟨kZ0,kZ1,kZ2,kZ3,kZ4,kZ5,kZ6⟩ := Z.out
  have RN := Lib.hid (row_nil w12)
  go_wp2
  exact bodyPost_ret (v := .tuple #[.agg #[.bool false,.slice none 0 0,.slice none 0 0],.int .i64 4]) (by simp [results,Tryz.results34,go_sem, *]) rfl
    (ratRes_sink rfl ⟨rfl,rfl,rfl,rfl,rfl⟩ (RN.out.put3 Z.out _ _ _) (RN.out.put3 Z.out _ _ _) (below_put3 HB.out (by omega) _ _ _))
set_option maxHeartbeats 8000000 in
theorem rslash_bad (E F : Int) (s h t : ByteArray) (w : World) (H : Split s 47 h t) (hs : s.size≤1000000) (hH : ∀ w,Calls Tryz.prog 69 #[.string h] w (AnyI E w)) (hT : ∀ w,Calls Tryz.prog 70 #[.string t] w (AnyN F w)) (hW : ∀ w,Calls Tryz.prog 71 #[.int .i64 E,.int .i64 F] w fun e w' => e = .returned (.int .i64 4)∧w = w') :
    Calls Tryz.prog 34 #[.string s] w (RatRes 4 NoneAs w) := by
  have H1 := H.head
  have H2 := H.tail
  have hz := H.size
  have HF := Lib.hid (fun w => find_hit 47 47 s h t w rfl H hs)
  obtain ⟨v,hv⟩ := find_any 46 46 s rfl hs
  have HP := Lib.hid hv;clear hv
  obtain ⟨i,hi⟩ : ∃ i,h.size = i := ⟨_,rfl⟩
  rw [hi] at H1 H2 HF hz
  rw [←H1] at hH
  rw [←H2] at hT
  have HH := Lib.hid hH;clear hH
  have HT := Lib.hid hT;clear hT
  have hle : i + 1≤s.size := by omega
  have hle2 : (i : Int) + 1≤(s.size : Int) := by omega
  have hle3 : (i : Int)≤(s.size : Int) := by omega
  have hle4 : (0 : Int)≤(i : Int) := by omega
  clear H1 H2 hz H hi
  have HW := Lib.hid hW;clear hW
  have HB := Lib.hid (below_one w (.cells #[.bool false,.slice none 0 0,.slice none 0 0] 27))
  have Z : Hid (Tri (w.alloc (.cells #[.bool false,.slice none 0 0,.slice none 0 0] 27)) w.heap.size (.bool false) (.slice none 0 0) (.slice none 0 0)) := tri_new w _ _ _
  go_enter Tryz.func34,Tryz.ntmps34
  go_wp2_with fail
  refine (HF.out _).mono ?_
  rintro e w1 ⟨rfl,rfl⟩
  go_wp2_with fail
  refine (HP.out _).mono ?_
  rintro e w1 ⟨rfl,rfl⟩
  go_wp2_with fail
  refine (HH.out _).mono ?_
  rintro e w11 ⟨sx,a,n,c,rfl,hb⟩
  replace Z := Lib.hid (Z.out.later hb)
  replace HB := Lib.hid (bthen HB.out hb)
  clear hb
  have hb1 := below_one w11 (.cells #[.bool sx,.slice a n c] 25)
  have XN : Hid (Box (w11.alloc (.cells #[.bool sx,.slice a n c] 25)) w11.heap.size (.bool sx) (.slice a n c)) := box_new w11 _ _
  replace Z := Lib.hid (Z.out.later hb1)
  replace HB := Lib.hid (bthen HB.out hb1)
  clear hb1
  go_wp2_with fail
  refine (HT.out _).mono ?_
  rintro e w12 ⟨b,m,d,rfl,hb⟩
  replace XN := Lib.hid (XN.out.later hb)
  replace Z := Lib.hid (Z.out.later hb)
  replace HB := Lib.hid (bthen HB.out hb)
  clear hb
  go_wp2_with fail
  refine (HW.out _).mono ?_
  rintro e wz ⟨rfl,rfl⟩
  obtain ⟨kZ0,kZ1,kZ2,kZ3,kZ4,kZ5,kZ6⟩ := Z.out
  have RN := Lib.hid (row_nil w12)
  go_wp2
  exact bodyPost_ret (v := .tuple #[.agg #[.bool false,.slice none 0 0,.slice none 0 0],.int .i64 4]) (by simp [results,Tryz.results34,go_sem, *]) rfl
    (ratRes_sink rfl ⟨rfl,rfl,rfl,rfl,rfl⟩ (RN.out.put3 Z.out _ _ _) (RN.out.put3 Z.out _ _ _) (below_put3 HB.out (by omega) _ _ _))
set_option maxHeartbeats 8000000 in
theorem rint_ok (K J : Nat) (X : Int) (s : ByteArray) (w : World) (hn1 : (47 : UInt8) ∉ s.data.toList) (hn2 : (46 : UInt8) ∉ s.data.toList) (hs : s.size≤1000000) (hJ : 1≤J) (hH : ∀ w,Calls Tryz.prog 69 #[.string s] w (ParseK K X w)) :
    Calls Tryz.prog 34 #[.string s] w (RatRes 0 (ToldAs K J (X : Rat)) w) := by
  have HF := Lib.hid (fun w => find_miss 47 47 s w rfl hn1 hs)
  have HP := Lib.hid (fun w => find_miss 46 46 s w rfl hn2 hs)
  have HH := Lib.hid hH;clear hH hn1 hn2
  have HB := Lib.hid (below_one w (.cells #[.bool false,.slice none 0 0,.slice none 0 0] 27))
  have Z : Hid (Tri (w.alloc (.cells #[.bool false,.slice none 0 0,.slice none 0 0] 27)) w.heap.size (.bool false) (.slice none 0 0) (.slice none 0 0)) := tri_new w _ _ _
  go_enter Tryz.func34,Tryz.ntmps34
  go_wp2_with fail
  refine (HF.out _).mono ?_
  rintro e w1 ⟨rfl,rfl⟩
  go_wp2_with fail
  refine (HP.out _).mono ?_
  rintro e w1 ⟨rfl,rfl⟩
  go_wp2_with fail
  refine (HH.out _).mono ?_
  rintro e w11 ⟨a,n,c,rfl,hn,hr,hb⟩
  replace Z := Lib.hid (Z.out.later hb)
  replace HB := Lib.hid (bthen HB.out hb)
  clear hb
  have RA := Lib.hid hr;clear hr
  have hb1 := below_one w11 (.cells #[.bool (decide (X < 0)),.slice a n c] 25)
  replace RA := Lib.hid (RA.out.later hb1)
  replace Z := Lib.hid (Z.out.later hb1)
  replace HB := Lib.hid (bthen HB.out hb1)
  clear hb1
  have b2 := below_one (w11.alloc (.cells #[.bool (decide (X < 0)),.slice a n c] 25)) (.cells #[.int .u32 1] 89)
  have RL := Lib.hid (row_lit (w11.alloc (.cells #[.bool (decide (X < 0)),.slice a n c] 25)) 1 1 rfl (by omega) (by omega))
  rw [show (w11.alloc (.cells #[.bool (decide (X < 0)),.slice a n c] 25)).heap.size = w11.heap.size + 1 from by simp] at RL
  replace RA := Lib.hid (RA.out.later b2)
  replace Z := Lib.hid (Z.out.later b2)
  replace HB := Lib.hid (bthen HB.out b2)
  clear b2
  obtain ⟨kZ0,kZ1,kZ2,kZ3,kZ4,kZ5,kZ6⟩ := Z.out
  go_wp2
  exact bodyPost_ret (v := .tuple #[.agg #[.bool (decide (X < 0)),.slice a n c,.slice (some ⟨w11.heap.size + 1,0,none⟩) 1 1],.int .i64 0]) (by simp [results,Tryz.results34,go_sem, *]) rfl
    (ratRes_sink rfl ⟨by rw [Rat.num_intCast],hn,hJ,by rw [Rat.num_intCast],by rw [Rat.den_intCast]⟩ (RA.out.put3 Z.out _ _ _) (RL.out.put3 Z.out _ _ _) (below_put3 HB.out (by omega) _ _ _))
set_option maxHeartbeats 8000000 in
theorem rint_bad  (s : ByteArray) (w : World) (hn1 : (47 : UInt8) ∉ s.data.toList) (hn2 : (46 : UInt8) ∉ s.data.toList) (hs : s.size≤1000000) (hH : ∀ w,Calls Tryz.prog 69 #[.string s] w (AnyI 4 w)) :
    Calls Tryz.prog 34 #[.string s] w (RatRes 4 NoneAs w) := by
  have HF := Lib.hid (fun w => find_miss 47 47 s w rfl hn1 hs)
  have HP := Lib.hid (fun w => find_miss 46 46 s w rfl hn2 hs)
  have HH := Lib.hid hH;clear hH hn1 hn2
  have HB := Lib.hid (below_one w (.cells #[.bool false,.slice none 0 0,.slice none 0 0] 27))
  have Z : Hid (Tri (w.alloc (.cells #[.bool false,.slice none 0 0,.slice none 0 0] 27)) w.heap.size (.bool false) (.slice none 0 0) (.slice none 0 0)) := tri_new w _ _ _
  go_enter Tryz.func34,Tryz.ntmps34
  go_wp2_with fail
  refine (HF.out _).mono ?_
  rintro e w1 ⟨rfl,rfl⟩
  go_wp2_with fail
  refine (HP.out _).mono ?_
  rintro e w1 ⟨rfl,rfl⟩
  go_wp2_with fail
  refine (HH.out _).mono ?_
  rintro e w11 ⟨sx,a,n,c,rfl,hb⟩
  replace Z := Lib.hid (Z.out.later hb)
  replace HB := Lib.hid (bthen HB.out hb)
  clear hb
  have hb1 := below_one w11 (.cells #[.bool sx,.slice a n c] 25)
  replace Z := Lib.hid (Z.out.later hb1)
  replace HB := Lib.hid (bthen HB.out hb1)
  clear hb1
  obtain ⟨kZ0,kZ1,kZ2,kZ3,kZ4,kZ5,kZ6⟩ := Z.out
  have RN := Lib.hid (row_nil (w11.alloc (.cells #[.bool sx,.slice a n c] 25)))
  go_wp2
  exact bodyPost_ret (v := .tuple #[.agg #[.bool false,.slice none 0 0,.slice none 0 0],.int .i64 4]) (by simp [results,Tryz.results34,go_sem, *]) rfl
    (ratRes_sink rfl ⟨rfl,rfl,rfl,rfl,rfl⟩ (RN.out.put3 Z.out _ _ _) (RN.out.put3 Z.out _ _ _) (below_put3 HB.out (by omega) _ _ _))
end Go.Proofs.YtkcgikoploohkaaGreatDoor
/- What the answer's Parse tells: a decimal. -/
namespace Go.Proofs.YtkcgikoploohkaaGreatDoor
set_option linter.unusedVariables false
set_option linter.unusedSimpArgs false
set_option maxRecDepth 100000
open Go.RowKit Nums
set_option maxHeartbeats 16000000 in
theorem rpoint_bad (E F : Int) (s h t : ByteArray) (w : World) (hno : (47 : UInt8) ∉ s.data.toList) (H : Split s 46 h t) (hs : s.size≤1000000) (hH : ∀ w,Calls Tryz.prog 69 #[.string h] w (AnyI E w)) (hT : ∀ w,Calls Tryz.prog 70 #[.string t] w (AnyN F w)) (hW : ∀ w,Calls Tryz.prog 71 #[.int .i64 E,.int .i64 F] w fun e w' => e = .returned (.int .i64 4)∧w = w') :
    Calls Tryz.prog 34 #[.string s] w (RatRes 4 NoneAs w) := by
  have H1 := H.head
  have H2 := H.tail
  have hz := H.size
  have HF := Lib.hid (fun w => find_miss 47 47 s w rfl hno hs)
  have HP := Lib.hid (fun w => find_hit 46 46 s h t w rfl H hs)
  obtain ⟨i,hi⟩ : ∃ i,h.size = i := ⟨_,rfl⟩
  rw [hi] at H1 H2 HP hz
  rw [←H1] at hH
  rw [←H2] at hT
  have HH := Lib.hid hH;clear hH
  have HT := Lib.hid hT;clear hT
  have hle : i + 1≤s.size := by omega
  have hle2 : (i : Int) + 1≤(s.size : Int) := by omega
  have hle3 : (i : Int)≤(s.size : Int) := by omega
  have hle4 : (0 : Int)≤(i : Int) := by omega
  have hle5 : ¬ (i : Int) < 0 := by omega
  clear H1 H2 H hi hno hz
  have HW := Lib.hid hW;clear hW
  have HB := Lib.hid (below_one w (.cells #[.bool false,.slice none 0 0,.slice none 0 0] 27))
  have Z : Hid (Tri (w.alloc (.cells #[.bool false,.slice none 0 0,.slice none 0 0] 27)) w.heap.size (.bool false) (.slice none 0 0) (.slice none 0 0)) := tri_new w _ _ _
  go_enter Tryz.func34,Tryz.ntmps34
  go_wp2_with fail
  refine (HF.out _).mono ?_
  rintro e w1 ⟨rfl,rfl⟩
  go_wp2_with fail
  refine (HP.out _).mono ?_
  rintro e w1 ⟨rfl,rfl⟩
  go_wp2_with fail
  refine (HH.out _).mono ?_
  rintro e w11 ⟨sx,a,n,c,rfl,hb⟩
  replace Z := Lib.hid (Z.out.later hb)
  replace HB := Lib.hid (bthen HB.out hb)
  clear hb
  have hb1 := below_one w11 (.cells #[.bool sx,.slice a n c] 25)
  have XN : Hid (Box (w11.alloc (.cells #[.bool sx,.slice a n c] 25)) w11.heap.size (.bool sx) (.slice a n c)) := box_new w11 _ _
  replace Z := Lib.hid (Z.out.later hb1)
  replace HB := Lib.hid (bthen HB.out hb1)
  clear hb1
  go_wp2_with fail
  refine (HT.out _).mono ?_
  rintro e w12 ⟨b,m,d,rfl,hb⟩
  replace XN := Lib.hid (XN.out.later hb)
  replace Z := Lib.hid (Z.out.later hb)
  replace HB := Lib.hid (bthen HB.out hb)
  clear hb
  go_wp2_with fail
  refine (HW.out _).mono ?_
  rintro e wz ⟨rfl,rfl⟩
  obtain ⟨kZ0,kZ1,kZ2,kZ3,kZ4,kZ5,kZ6⟩ := Z.out
  have RN := Lib.hid (row_nil w12)
  go_wp2
  exact bodyPost_ret (v := .tuple #[.agg #[.bool false,.slice none 0 0,.slice none 0 0],.int .i64 4]) (by simp [results,Tryz.results34,go_sem, *]) rfl
    (ratRes_sink rfl ⟨rfl,rfl,rfl,rfl,rfl⟩ (RN.out.put3 Z.out _ _ _) (RN.out.put3 Z.out _ _ _) (below_put3 HB.out (by omega) _ _ _))
end Go.Proofs.YtkcgikoploohkaaGreatDoor
/- What the answer's Parse tells: a decimal that is one. -/
namespace Go.Proofs.YtkcgikoploohkaaGreatDoor
set_option linter.unusedVariables false
set_option linter.unusedSimpArgs false
set_option maxRecDepth 100000
open Go.RowKit Nums
set_option maxHeartbeats 16000000 in
theorem rpoint_ok (K : Nat) (q : Rat) (neg : Bool) (M N : Nat) (u : ByteArray) (s h t : ByteArray) (w : World) (hno : (47 : UInt8) ∉ s.data.toList) (H : Split s 46 h t) (hs : s.size≤1000000) (hH : ∀ w,Calls Tryz.prog 69 #[.string h] w (ParseK K (sv neg M) w)) (hT : ∀ w,Calls Tryz.prog 70 #[.string t] w (RNatK K N w)) (hK : K≤70) (hK2 : 2≤K) (hsg : Signed h neg u) (hu : 0 < u.size) (htK : t.size≤6 * K) (hL : (limbs (M * 10 ^ t.size + N)).length≤K) (hL2 : (limbs (M * 10 ^ t.size)).length≤K) (hr : mkRat (sv neg (M * 10 ^ t.size + N)) (10 ^ t.size) = q) :
    Calls Tryz.prog 34 #[.string s] w (RatRes 0 (ToldAs K K q) w) := by
  have hs0 : 0 < s.size := by have := H.size;omega
  have hneg := first_byte H hsg hu hs0
  have H1 := H.head
  have H2 := H.tail
  have hz := H.size
  have HF := Lib.hid (fun w => find_miss 47 47 s w rfl hno hs)
  have HP := Lib.hid (fun w => find_hit 46 46 s h t w rfl H hs)
  obtain ⟨i,hi⟩ : ∃ i,h.size = i := ⟨_,rfl⟩
  rw [hi] at H1 H2 HP hz
  rw [←H1] at hH
  rw [←H2] at hT
  have HH := Lib.hid hH;clear hH
  have HT := Lib.hid hT;clear hT
  have hle : i + 1≤s.size := by omega
  have hle2 : (i : Int) + 1≤(s.size : Int) := by omega
  have hle3 : (i : Int)≤(s.size : Int) := by omega
  have hle4 : (0 : Int)≤(i : Int) := by omega
  have hle5 : ¬ (i : Int) < 0 := by omega
  obtain ⟨T,hT⟩ : ∃ T,t.size = T := ⟨_,rfl⟩
  rw [hT] at hz htK hL hL2 hr
  have hz1 : i + 1 + T≤s.size := by omega
  have hz2 : s.size≤i + 1 + T := by omega
  have HNEG := Lib.hid hneg;clear hneg
  obtain ⟨V,hV⟩ : ∃ V,sv neg M = V := ⟨_,rfl⟩
  rw [hV] at HH
  have HVN := Lib.hid (show V.natAbs = M by rw [←hV,natAbs_sv])
  have HL := Lib.hid hL;clear hL
  have HL2 := Lib.hid hL2;clear hL2
  have HR := Lib.hid (show mkRat (sv neg (val (limbs (M * 10 ^ T + N)))) (val (limbs (10 ^ T))) = q by rw [val_limbs,val_limbs];exact hr);clear hr hV hT hsg hz
  have HLP := Lib.hid (fun k (hk : k≤T) => pow_limbs k T K hk htK (by omega))
  clear H1 H2 H hi hno
  have HB := Lib.hid (below_one w (.cells #[.bool false,.slice none 0 0,.slice none 0 0] 27))
  have Z : Hid (Tri (w.alloc (.cells #[.bool false,.slice none 0 0,.slice none 0 0] 27)) w.heap.size (.bool false) (.slice none 0 0) (.slice none 0 0)) := tri_new w _ _ _
  go_enter Tryz.func34,Tryz.ntmps34
  go_wp2_with fail
  refine (HF.out _).mono ?_
  rintro e w1 ⟨rfl,rfl⟩
  go_wp2_with fail
  refine (HP.out _).mono ?_
  rintro e w1 ⟨rfl,rfl⟩
  go_wp2_with fail
  refine (HH.out _).mono ?_
  rintro e w11 ⟨a,n,c,rfl,hn,hr,hb⟩
  replace Z := Lib.hid (Z.out.later hb)
  replace HB := Lib.hid (bthen HB.out hb)
  clear hb
  have RA := Lib.hid hr;clear hr
  have hb1 := below_one w11 (.cells #[.bool (decide (V < 0)),.slice a n c] 25)
  have XN : Hid (Box (w11.alloc (.cells #[.bool (decide (V < 0)),.slice a n c] 25)) w11.heap.size (.bool (decide (V < 0))) (.slice a n c)) := box_new w11 _ _
  replace RA := Lib.hid (RA.out.later hb1)
  replace Z := Lib.hid (Z.out.later hb1)
  replace HB := Lib.hid (bthen HB.out hb1)
  clear hb1
  go_wp2_with fail
  refine (HT.out _).mono ?_
  rintro e w12 ⟨b,m,d,rfl,hm,hr,hb⟩
  replace RA := Lib.hid (RA.out.later hb)
  replace XN := Lib.hid (XN.out.later hb)
  replace Z := Lib.hid (Z.out.later hb)
  replace HB := Lib.hid (bthen HB.out hb)
  clear hb
  have RB := Lib.hid hr;clear hr
  go_wp2_with fail
  refine (worse_00 _).mono ?_
  rintro e wz ⟨rfl,rfl⟩
  have hb1 := below_one w12 (.cells #[.int .u32 1] 89)
  have RS := Lib.hid (row_lit w12 1 1 rfl (by omega) (by omega))
  replace RA := Lib.hid (RA.out.later hb1)
  replace RB := Lib.hid (RB.out.later hb1)
  replace XN := Lib.hid (XN.out.later hb1)
  replace Z := Lib.hid (Z.out.later hb1)
  replace HB := Lib.hid (bthen HB.out hb1)
  clear hb1
  go_wp2_with fail
  go_loopw [18,19] (fun v t wr => ∃ (k : Nat) (ao : Option Addr) (mo co : Nat),k≤T∧t = .int .i64 ((i + 1 + k : Nat) : Int)∧v = .slice ao mo co∧mo≤K∧Hid (Row wr ao mo co (limbs (10 ^ k))∧Row wr a n c (limbs V.natAbs)∧Row wr b m d (limbs N)∧Box wr w11.heap.size (.bool (decide (V < 0))) (.slice a n c)∧Tri wr w.heap.size (.bool false) (.slice none 0 0) (.slice none 0 0))∧Below w.heap.size w wr) (fun _ t _ => s.size - (intOf t).toNat)
  case atStart => exact ⟨0,_,1,1,Nat.zero_le _,by go_num,rfl,by omega,⟨RS.out,RA.out,RB.out,XN.out,Z.out⟩,HB.out⟩
  case round =>
    obtain ⟨k,ao,mo,co,hk,rfl,rfl,hmo,hh,hbr⟩ := hrel
    clear RA RB RS XN Z HB
    obtain ⟨wq,rfl⟩ : ∃ wq : World,wq = wr := ⟨_,rfl⟩
    obtain ⟨rs,ra,rb,xn,z⟩ := hh.out
    clear hh
    have RS := Lib.hid rs;clear rs
    have RA := Lib.hid ra;clear ra
    have RB := Lib.hid rb;clear rb
    have XN := Lib.hid xn;clear xn
    have Z := Lib.hid z;clear z
    have HB := Lib.hid hbr;clear hbr
    by_cases hkT : k < T
    · have hlt : i + 1 + k < s.size := by omega
      have hltI : ((i + 1 + k : Nat) : Int) < (s.size : Int) := by omega
      have b1 := below_one wq (.cells #[.int .u32 10] 89)
      have R10 := Lib.hid (row_lit wq 10 10 rfl (by omega) (by omega))
      replace RS := Lib.hid (RS.out.later b1)
      replace RA := Lib.hid (RA.out.later b1)
      replace RB := Lib.hid (RB.out.later b1)
      replace XN := Lib.hid (XN.out.later b1)
      replace Z := Lib.hid (Z.out.later b1)
      replace HB := Lib.hid (bthen HB.out b1)
      clear b1
      have LP := Lib.hid (HLP.out (k + 1) (by omega))
      go_wp2_with fail
      refine (rmulN K (10 ^ (k + 1)) RS.out R10.out (val_limbs _) (val_limbs _) (by omega) (by omega) (by rw [Nat.pow_succ]) LP.out).mono ?_
      rintro e wv ⟨ap,mp,cp,rfl,hmp,hr,hb⟩
      have RP := Lib.hid hr;clear hr RS R10
      replace RA := Lib.hid (RA.out.later hb)
      replace RB := Lib.hid (RB.out.later hb)
      replace XN := Lib.hid (XN.out.later hb)
      replace Z := Lib.hid (Z.out.later hb)
      replace HB := Lib.hid (bthen HB.out hb)
      clear hb
      go_wp2
      go_roundw
      case rel => exact ⟨k + 1,ap,mp,cp,by omega,by first | rfl | (congr 1;push_cast;omega) | (congr 2;omega) | go_num,rfl,hmp,⟨RP.out,RA.out,RB.out,XN.out,Z.out⟩,HB.out⟩
      case measure => simp [intOf];omega
    · obtain rfl : k = T := by omega
      have hnlt : ¬ ((i + 1 + k : Nat) : Int) < (s.size : Int) := by omega
      obtain ⟨kXN0,kXN1,-,-,-⟩ := XN.out
      go_wp2_with fail
      refine (rmulN K (M * 10 ^ k) RA.out RS.out (val_limbs _) (val_limbs _) (by omega) (by omega) (by rw [HVN.out]) HL2.out).mono ?_
      rintro e wv ⟨ap,mp,cp,rfl,hmp,hr,hb⟩
      have RP := Lib.hid hr;clear hr
      replace RS := Lib.hid (RS.out.later hb)
      replace RB := Lib.hid (RB.out.later hb)
      replace Z := Lib.hid (Z.out.later hb)
      replace HB := Lib.hid (bthen HB.out hb)
      clear hb kXN0 kXN1 RA XN
      go_wp2_with fail
      refine (raddN K (M * 10 ^ k + N) RP.out RB.out (val_limbs _) (val_limbs _) (by omega) (by omega) rfl HL.out).mono ?_
      rintro e wu ⟨at',mt,ct,rfl,hmt,hr,hb⟩
      have RT := Lib.hid hr;clear hr RP RB
      replace RS := Lib.hid (RS.out.later hb)
      replace Z := Lib.hid (Z.out.later hb)
      replace HB := Lib.hid (bthen HB.out hb)
      clear hb
      have hneg := HNEG.out
      go_wp2_with fail
      first | rw [hneg] | skip
      clear hneg
      refine (rnormR K K q RT.out RS.out HR.out hmt hmo hK hK2 hK2 hK).mono ?_
      rintro e wt ⟨a1,n1,c1,b1,m1,d1,rfl,hn1,hm1,hr,hr2,hb⟩
      have RX := Lib.hid hr;clear hr
      have RY := Lib.hid hr2;clear hr2 RT RS
      replace Z := Lib.hid (Z.out.later hb)
      replace HB := Lib.hid (bthen HB.out hb)
      clear hb
      obtain ⟨kZ0,kZ1,kZ2,kZ3,kZ4,kZ5,kZ6⟩ := Z.out
      go_wp2
      exact bodyPost_ret (v := .tuple #[.agg #[.bool (decide (q.num < 0)),.slice a1 n1 c1,.slice b1 m1 d1],.int .i64 0]) (by simp [results,Tryz.results34,go_sem, *]) rfl
        (ratRes_sink rfl ⟨rfl,hn1,hm1,rfl,rfl⟩ (RX.out.put3 Z.out _ _ _) (RY.out.put3 Z.out _ _ _) (below_put3 HB.out (by omega) _ _ _))
end Go.Proofs.YtkcgikoploohkaaGreatDoor
/- RatioTexts: where a number or a text is long; the two parsers tell the same. -/
namespace Go.Proofs.YtkcgikoploohkaaGreatDoor
set_option linter.unusedVariables false
set_option linter.unusedSimpArgs false
set_option maxRecDepth 100000
open Go.RowKit Nums
theorem anyI_of {k : Nat} {Z : Int} {w : World} {e : Ending} {w' : World} (h : ParseK k Z w e w') : AnyI 0 w e w' := by
  obtain ⟨a,m,c,rfl,-,-,hb⟩ := h
  exact ⟨_,a,m,c,rfl,hb⟩
theorem anyI_err {E : Int} {w : World} {e : Ending} {w' : World} (h : ParseErr E w e w') : AnyI E w e w' := ⟨_,_,_,_,h.1,h.2⟩
theorem anyN_ofR {k N : Nat} {w : World} {e : Ending} {w' : World} (h : RNatK k N w e w') : AnyN 0 w e w' := by
  obtain ⟨a,m,c,rfl,-,-,hb⟩ := h
  exact ⟨a,m,c,rfl,hb⟩
theorem int_fine (K : Nat) (h u : ByteArray) (neg : Bool) (HS : Signed h neg u) (h3 : u.size≤300) (hd : 0 < u.size∧allDig u) (hK0 : 0 < K) (hK : K≤95) (huK : u.size≤6 * K) :
    (∀ w,Calls Tryz.prog 110 #[.string h] w (ParseK K (sv neg (numOf u.data.toList)) w))∧(∀ w,Calls Tryz.prog 69 #[.string h] w (ParseK K (sv neg (numOf u.data.toList)) w)) :=
  ⟨int_call K neg h u HS hd.1 h3 hd.2 hK0 huK,fun w => rparseI_ok K _ h u neg _ w HS h3 hd.1 hd.2 rfl rfl (len_numOf u K hd.2 hK0 huK) (by omega)⟩
theorem nat_fine (K : Nat) (t : ByteArray) (h3 : t.size≤300) (hd : 0 < t.size∧allDig t) (hK0 : 0 < K) (htK : t.size≤6 * K) :
    (∀ w,Calls Tryz.prog 155 #[.string t] w (ParseNK K (numOf t.data.toList) w))∧(∀ w,Calls Tryz.prog 70 #[.string t] w (RNatK K (numOf t.data.toList) w)) :=
  ⟨nat_call K t hd.1 h3 hd.2 hK0 htK,fun w => rparseN K t w _ h3 hd.1 hd.2 rfl (len_numOf t K hd.2 hK0 htK)⟩
end Go.Proofs.YtkcgikoploohkaaGreatDoor
/- RatioTexts: a text that is a number, a text that is none. -/
namespace Go.Proofs.YtkcgikoploohkaaGreatDoor
set_option linter.unusedVariables false
set_option linter.unusedSimpArgs false
set_option maxRecDepth 100000
open Go.RowKit Nums
end Go.Proofs.YtkcgikoploohkaaGreatDoor
/- RatioTexts holds: a number's text, a text's number, and an int64's number are the document's. No condition. -/
namespace Go.Proofs.YtkcgikoploohkaaGreatDoor
set_option linter.unusedVariables false
set_option linter.unusedSimpArgs false
set_option maxRecDepth 100000
open Go.ChangeShapes Go.WideShapes Go.ChangeAt Go.RowKit Nums Go.Joins
open Go.ChangeMaps (open_string shut_string)
end Go.Proofs.YtkcgikoploohkaaGreatDoor
