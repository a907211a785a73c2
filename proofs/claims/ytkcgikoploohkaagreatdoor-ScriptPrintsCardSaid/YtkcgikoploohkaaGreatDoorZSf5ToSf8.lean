/- What is printed is read. · ScriptBack. · How scripts that came in read. · What the library's variables hold; the wrap. -/
import Derived.Test.YtkcgikoploohkaaGreatDoorZSf4
import Derived.Lib.ItoaLen
import Derived.Deep.DeepCutAuto
import Derived.Laws.EntriesVeiled
import Derived.ProofKit
import Derived.OpenShut
import Derived.ShutString
import Derived.ChangeOld
import Derived.Deep.Slices
import Derived.Deep.Fields
import Derived.Deep.Matrix
import Derived.Lib.SmallJoins
import Derived.SizedLaws
import Derived.Shelf.Vars
import Derived.Stop.LaidErr
import Derived.Lib.LaidTab
import Derived.Lib.LaidU8
import Derived.MakeChecks
import Derived.HandedShaped
import Derived.Lay
namespace Go.Proofs.YtkcgikoploohkaaGreatDoor
set_option linter.unusedVariables false
set_option linter.unusedSimpArgs false
set_option maxRecDepth 100000
open Go.RowKit Go.Shelf Nums

def NoB (l : List UInt8) : Prop := ∀ c ∈ l, c ≠ 32 ∧ c ≠ 10
theorem cutL_app {c : UInt8} : ∀ (l rest : List UInt8), (∀ b ∈ l, b ≠ c) → cutL c (l ++ c :: rest) = some (l, rest)
  | [], rest, _ => cutL_hit rest rfl
  | b :: l, rest, h => by
    rw [List.cons_append, cutL_miss _ (h b (List.mem_cons_self ..)), cutL_app l rest (fun x hx => h x (List.mem_cons_of_mem _ hx))]
    rfl
theorem cutL_free {c : UInt8} : ∀ (l : List UInt8), (∀ b ∈ l, b ≠ c) → cutL c l = none
  | [], _ => rfl
  | b :: l, h => by
    rw [cutL_miss _ (h b (List.mem_cons_self ..)), cutL_free l (fun x hx => h x (List.mem_cons_of_mem _ hx))]
    rfl
theorem join_two (x y : List UInt8) (r : List (List UInt8)) : Lib.join (x :: y :: r) [32] = x ++ 32 :: Lib.join (y :: r) [32] := by
  rw [Lib.join_cons, Lib.join_cons]
  simp [Lib.joinTail]
theorem spl_join : ∀ (ws : List (List UInt8)), ws ≠ [] → (∀ w ∈ ws, NoB w) → spl 32 (Lib.join ws [32]) = ws
  | [], h, _ => absurd rfl h
  | [x], _, hf => by rw [Lib.join_one]; exact spl_none (cutL_free x (fun b hb => (hf x (List.mem_cons_self ..) b hb).1))
  | x :: y :: r, _, hf => by
    rw [join_two, spl_cut (cutL_app x _ (fun b hb => (hf x (List.mem_cons_self ..) b hb).1)), spl_join (y :: r) (by simp) (fun w hw => hf w (List.mem_cons_of_mem _ hw))]
theorem join_free : ∀ (ws : List (List UInt8)), (∀ w ∈ ws, NoB w) → ∀ b ∈ Lib.join ws [32], b ≠ 10
  | [], _ => by intro b hb; cases hb
  | [x], hf => by rw [Lib.join_one]; exact fun b hb => (hf x (List.mem_cons_self ..) b hb).2
  | x :: y :: r, hf => by
    rw [join_two]
    intro b hb
    rcases List.mem_append.1 hb with hb | hb
    · exact (hf x (List.mem_cons_self ..) b hb).2
    · rcases List.mem_cons.1 hb with hb | hb
      · subst hb; decide
      · exact join_free (y :: r) (fun w hw => hf w (List.mem_cons_of_mem _ hw)) b hb
theorem takeM_line (ws : List (List UInt8)) (hne : ws ≠ []) (hf : ∀ w ∈ ws, NoB w) (rest : List UInt8) : takeM (lineP ws ++ rest) = some (ws.map bsL, rest) := by
  unfold takeM lineP
  rw [List.append_assoc]
  show ((cutL 10 (Lib.join ws [32] ++ 10 :: rest)).map _) = _
  rw [cutL_app _ _ (join_free ws hf), Option.map_some]
  rw [spl_join ws hne hf]

theorem dd_dig (u : Nat) : ∀ b ∈ Lib.decDigits u, 48 ≤ b.toNat ∧ b.toNat ≤ 57 := by
  induction u using Nat.strongRecOn with
  | _ u ih =>
    have e : ∀ n, n < 10 → 48 ≤ (UInt8.ofNat (48 + n)).toNat ∧ (UInt8.ofNat (48 + n)).toNat ≤ 57 := fun n hn => by
      rw [UInt8.toNat_ofNat']; omega
    by_cases h : u < 10
    · rw [Lib.decDigits, dif_pos h]
      intro b hb
      rw [List.mem_singleton] at hb; subst hb
      exact e u h
    · rw [Lib.decDigits, dif_neg h]
      intro b hb
      rcases List.mem_append.1 hb with hb | hb
      · exact ih (u / 10) (by omega) b hb
      · rw [List.mem_singleton] at hb; subst hb
        exact e _ (Nat.mod_lt _ (by decide))
theorem nd_le : ∀ (k u : Nat), u < 10 ^ (k + 1) → Lib.nDigits u ≤ k + 1
  | 0, u, h => by rw [Lib.nDigits_small (by simpa using h)]; exact Nat.le_refl _
  | k + 1, u, h => by
    by_cases hs : u < 10
    · rw [Lib.nDigits_small hs]; omega
    · rw [Lib.nDigits_big hs]
      have := nd_le k (u / 10) (by rw [Nat.pow_succ] at h; omega)
      omega
theorem decFrom_app (r : List UInt8) : ∀ (l : List UInt8) (acc : Nat), Lib.decFrom acc (l ++ r) = (Lib.decFrom acc l).bind fun a => Lib.decFrom a r
  | [], acc => rfl
  | b :: l, acc => by
    rw [List.cons_append, Lib.decFrom, Lib.decFrom]
    cases Lib.digitVal b with
    | none => rfl
    | some d => exact decFrom_app r l _
theorem digitVal_of {n : Nat} (h : n < 10) : Lib.digitVal (UInt8.ofNat (48 + n)) = some n := by
  have e : (UInt8.ofNat (48 + n)).toNat = 48 + n := by rw [UInt8.toNat_ofNat']; omega
  unfold Lib.digitVal
  rw [e, if_pos (by omega)]
  congr 1
  omega
theorem decFrom_dd (u : Nat) : Lib.decFrom 0 (Lib.decDigits u) = some u := by
  induction u using Nat.strongRecOn with
  | _ u ih =>
    by_cases h : u < 10
    · rw [Lib.decDigits, dif_pos h, Lib.decFrom, digitVal_of h]
      show Lib.decFrom (0 * 10 + u) [] = _
      rw [Lib.decFrom]; congr 1; omega
    · rw [Lib.decDigits, dif_neg h, decFrom_app, ih (u / 10) (by omega), Option.bind_some, Lib.decFrom, digitVal_of (Nat.mod_lt _ (by decide))]
      show Lib.decFrom (u / 10 * 10 + u % 10) [] = _
      rw [Lib.decFrom]; congr 1; omega
theorem cnt_back {n : Int} (h : cntB n = true) : cntS (bsL (Lib.itoa n)) = some n := by
  unfold cntB at h
  rw [Bool.and_eq_true] at h
  have h0 := of_decide_eq_true h.1
  have h1 := of_decide_eq_true h.2
  obtain ⟨u, rfl⟩ : ∃ u : Nat, n = u := ⟨n.toNat, by omega⟩
  show cntO (bsL (Lib.itoa (u : Int))).data.toList = _
  rw [bsL_list, Lib.itoa_nonneg]
  have hd := dd_dig u
  have hl : (Lib.decDigits u).length ≤ 6 := by rw [Lib.decDigits_length]; exact nd_le 5 u (by omega)
  have hp : 1 ≤ (Lib.decDigits u).length := by rw [Lib.decDigits_length]; exact Lib.nDigits_pos u
  have hf := decFrom_dd u
  generalize Lib.decDigits u = l at hd hl hp hf ⊢
  unfold cntO
  rw [if_pos ⟨hl, by
    rw [List.any_eq_false]
    intro b hb
    have := hd b hb
    unfold nodN digN
    simp [this.1, this.2]⟩]
  cases l with
  | nil => simp at hp
  | cons b r =>
    have hb := hd b (List.mem_cons_self ..)
    have n1 : (b == 45) = false := by rw [beq_eq_false_iff_ne]; rintro rfl; exact absurd hb.1 (by decide)
    have n2 : (b == 43) = false := by rw [beq_eq_false_iff_ne]; rintro rfl; exact absurd hb.1 (by decide)
    simp only [Lib.atoi, n1, n2, Bool.false_eq_true, if_false]
    unfold Lib.decNat
    rw [show (b :: r).isEmpty = false from rfl, if_neg (by decide), hf]
    rfl

theorem dig_noB {t : ByteArray} (hd : allDig t) : NoB t.data.toList := by
  intro c h
  have h2 := digs_list t hd c h
  refine ⟨?_, ?_⟩ <;> (rintro rfl; exact absurd h2.1 (by decide))
theorem noB_app {a b : List UInt8} (h : NoB a) (k : NoB b) : NoB (a ++ b) := fun c hc => by
  rcases List.mem_append.1 hc with hc | hc
  · exact h c hc
  · exact k c hc
theorem decI_noB (Z : Int) : NoB (decI Z).data.toList := by
  unfold decI
  split
  · rw [ByteArray.data_append, Array.toList_append]
    exact noB_app (fun c hc => by have : c = 45 := by simpa using hc
                                  subst this; decide) (dig_noB (allDig_dec _))
  · exact dig_noB (allDig_dec _)
theorem rat_noB (q : Rat) : NoB (ratStr q).data.toList := by
  unfold ratStr
  split
  · exact decI_noB _
  · rw [ByteArray.data_append, Array.toList_append, ByteArray.data_append, Array.toList_append]
    exact noB_app (decI_noB _) (noB_app (fun c hc => by have : c = 47 := by simpa using hc
                                                        subst this; decide) (dig_noB (allDig_dec _)))
theorem itoa_noB {n : Int} (h : cntB n = true) : NoB (Lib.itoa n) := by
  unfold cntB at h
  rw [Bool.and_eq_true] at h
  have h0 := of_decide_eq_true h.1
  obtain ⟨u, rfl⟩ : ∃ u : Nat, n = u := ⟨n.toNat, by omega⟩
  rw [Lib.itoa_nonneg]
  intro c hc
  have := dd_dig u c hc
  refine ⟨?_, ?_⟩ <;> (rintro rfl; exact absurd this.1 (by decide))
theorem name_noB {l : List UInt8} (h : nameB l = true) : NoB l := by
  cases l with
  | nil => intro c hc; cases hc
  | cons x r =>
    have h' : (smallN x.toNat && !((x :: r).any fun x => oddN x.toNat)) = true := h
    rw [Bool.and_eq_true, Bool.not_eq_true', List.any_eq_false] at h'
    intro c hc
    have := h'.2 c hc
    refine ⟨?_, ?_⟩ <;> (rintro rfl; exact absurd rfl this)
theorem bsL_data (b : ByteArray) : bsL b.data.toList = b := by cases b; unfold bsL; simp
theorem noB_of {l : List UInt8} (h : (l.all fun c => decide (c ≠ 32 ∧ c ≠ 10)) = true) : NoB l := fun c hc => of_decide_eq_true (List.all_eq_true.1 h c hc)
theorem ch_line {x : Rat × ByteArray × Rat} (h : chB x = true) (h1 : numS (ratStr x.1) = some x.1) (h2 : numS (ratStr x.2.2) = some x.2.2) (rest : List UInt8) : lineM (changeM numS) (chP x ++ rest) = some (x, rest) := by
  unfold chB at h
  rw [Bool.and_eq_true, Bool.and_eq_true] at h
  have hn := h.1.1
  have t := takeM_line [[97, 116], numL x.1, x.2.1.data.toList, [61], numL x.2.2] (by simp) (by
    intro w hw
    simp only [List.mem_cons, List.not_mem_nil, or_false] at hw
    rcases hw with rfl | rfl | rfl | rfl | rfl
    · exact noB_of (by decide)
    · exact rat_noB _
    · exact name_noB hn
    · exact noB_of (by decide)
    · exact rat_noB _) rest
  refine lineM_yes t ?_
  show changeM numS [bsL [97, 116], bsL (ratStr x.1).data.toList, bsL x.2.1.data.toList, bsL [61], bsL (ratStr x.2.2).data.toList] = some x
  rw [bsL_data, bsL_data, bsL_data]
  show (if bsL [97, 116] = bAT ∧ nameB x.2.1.data.toList = true ∧ bsL [61] = bEQ then pairM x.2.1 (numS (ratStr x.1)) (numS (ratStr x.2.2)) else none) = some x
  rw [if_pos ⟨rfl, hn, rfl⟩, h1, h2]
  rfl
theorem chP_ne (x : Rat × ByteArray × Rat) : 1 ≤ (chP x).length := by unfold chP; rw [lineP_len]; omega
theorem loop_back : ∀ (L : List (Rat × ByteArray × Rat)) (f k : Nat) (acc : List (Rat × ByteArray × Rat)), L.length < f → (∀ x ∈ L, chB x = true ∧ numS (ratStr x.1) = some x.1 ∧ numS (ratStr x.2.2) = some x.2.2) → loopM numS f ((L.map chP).flatten) k acc = .inr (acc ++ L)
  | [], f, k, acc, hf, _ => by rw [List.append_nil]; exact loopM_end hf
  | x :: L, f, k, acc, hf, h => by
    obtain ⟨f', rfl⟩ : ∃ f', f = f' + 1 := ⟨f - 1, by simp at hf; omega⟩
    obtain ⟨h1, h2, h3⟩ := h x (List.mem_cons_self ..)
    have hne : ((x :: L).map chP).flatten ≠ [] := by
      intro e
      rw [List.map_cons, List.flatten_cons] at e
      have e1 := (List.append_eq_nil_iff.1 e).1
      have h9 := chP_ne x
      rw [e1] at h9
      simp at h9
    rw [loopM_yes hne (by rw [List.map_cons, List.flatten_cons]; exact ch_line h1 h2 h3 _), loop_back L f' (k + 1) (acc ++ [x]) (by simp at hf; omega) (fun y hy => h y (List.mem_cons_of_mem _ hy)), List.append_assoc]
    rfl
theorem flat_len (L : List (Rat × ByteArray × Rat)) : L.length ≤ ((L.map chP).flatten).length := by
  induction L with
  | nil => exact Nat.zero_le _
  | cons x L ih =>
    rw [List.map_cons, List.flatten_cons, List.length_append, List.length_cons]
    have := chP_ne x
    omega
/-- what is printed is parsed as the same -/
theorem parse_print {S : ScT} (ho : okP S = true) (h : numS (ratStr S.h) = some S.h) (hc : ∀ x ∈ S.ch, numS (ratStr x.1) = some x.1 ∧ numS (ratStr x.2.2) = some x.2.2) : parseM numS (printM S) = .inr S := by
  unfold okP at ho
  rw [Bool.and_eq_true, Bool.and_eq_true, Bool.and_eq_true, List.all_eq_true] at ho
  obtain ⟨⟨⟨o1, o2⟩, o3⟩, o4⟩ := ho
  have two : ∀ (a b : List UInt8), NoB a → NoB b → ∀ w ∈ [a, b], NoB w := by
    intro a b ha hb w hw
    simp only [List.mem_cons, List.not_mem_nil, or_false] at hw
    rcases hw with rfl | rfl
    · exact ha
    · exact hb
  have e : printM S = lineP [bHOR.data.toList, numL S.h] ++ (lineP [bCAS.data.toList, Lib.itoa S.cas] ++ (lineP [bBITS.data.toList, Lib.itoa S.bits] ++ (S.ch.map chP).flatten)) := by unfold printM; rw [List.append_assoc, List.append_assoc]
  have t1 := takeM_line [bHOR.data.toList, numL S.h] (by simp) (two _ _ (noB_of (by decide)) (rat_noB _)) (lineP [bCAS.data.toList, Lib.itoa S.cas] ++ (lineP [bBITS.data.toList, Lib.itoa S.bits] ++ (S.ch.map chP).flatten))
  have t2 := takeM_line [bCAS.data.toList, Lib.itoa S.cas] (by simp) (two _ _ (noB_of (by decide)) (itoa_noB o2)) (lineP [bBITS.data.toList, Lib.itoa S.bits] ++ (S.ch.map chP).flatten)
  have t3 := takeM_line [bBITS.data.toList, Lib.itoa S.bits] (by simp) (two _ _ (noB_of (by decide)) (itoa_noB o3)) ((S.ch.map chP).flatten)
  rw [e, parse_3 (lineM_yes t1 (x := S.h) ?_) (lineM_yes t2 (x := S.cas) ?_) (lineM_yes t3 (x := S.bits) ?_), loop_back S.ch _ 3 [] (by have := flat_len S.ch; omega) (fun x hx => ⟨o4 x hx, hc x hx⟩), List.nil_append]
  · rfl
  · show (if bsL bHOR.data.toList = bHOR then numS (bsL (ratStr S.h).data.toList) else none) = _
    rw [if_pos (bsL_data _), bsL_data, h]
  · show (if bsL bCAS.data.toList = bCAS then cntS (bsL (Lib.itoa S.cas)) else none) = _
    rw [if_pos (bsL_data _), cnt_back o2]
  · show (if bsL bBITS.data.toList = bBITS then cntS (bsL (Lib.itoa S.bits)) else none) = _
    rw [if_pos (bsL_data _), cnt_back o3]
theorem num_back {q : Rat} {w : World} (hg : Gl w) (h1 : (limbs q.num.natAbs).length ≤ 12) (h2 : (limbs q.den).length ≤ 12) : numS (ratStr q) = some q :=
  numS_eq hg (number_small (ratStr q) q 20 20 (fun w => backR q h1 h2 w) h1 h2)
theorem chP_len {x : Rat × ByteArray × Rat} (h1 : (ratStr x.1).size ≤ 234) (h2 : (ratStr x.2.2).size ≤ 234) (h3 : x.2.1.size ≤ 200) : (chP x).length ≤ 700 := by
  unfold chP numL
  rw [lineP_len, join5_len]
  have e1 := Lib.size_eq (ratStr x.1)
  have e2 := Lib.size_eq (ratStr x.2.2)
  have e3 := Lib.size_eq x.2.1
  have : ([97, 116] : List UInt8).length = 2 := rfl
  have : ([61] : List UInt8).length = 1 := rfl
  omega
theorem flat_le {L : List (Rat × ByteArray × Rat)} (h : ∀ x ∈ L, (ratStr x.1).size ≤ 234 ∧ (ratStr x.2.2).size ≤ 234 ∧ x.2.1.size ≤ 200) : ((L.map chP).flatten).length ≤ 700 * L.length := by
  induction L with
  | nil => exact Nat.zero_le _
  | cons x L ih =>
    rw [List.map_cons, List.flatten_cons, List.length_append, List.length_cons]
    obtain ⟨a, b, c⟩ := h x (List.mem_cons_self ..)
    have := chP_len a b c
    have := ih (fun y hy => h y (List.mem_cons_of_mem _ hy))
    omega
theorem print_len {S : ScT} (ho : okP S = true) (h : (ratStr S.h).size ≤ 234) (hc : ∀ x ∈ S.ch, (ratStr x.1).size ≤ 234 ∧ (ratStr x.2.2).size ≤ 234 ∧ x.2.1.size ≤ 200) (hl : S.ch.length ≤ 30) : (printM S).length ≤ 65536 := by
  unfold okP cntB at ho
  rw [Bool.and_eq_true, Bool.and_eq_true, Bool.and_eq_true, Bool.and_eq_true, Bool.and_eq_true] at ho
  obtain ⟨⟨⟨o1, o2⟩, o3⟩, o4⟩ := ho
  have a1 := of_decide_eq_true o2.1
  have a2 := of_decide_eq_true o2.2
  have a3 := of_decide_eq_true o3.1
  have a4 := of_decide_eq_true o3.2
  have b1 := Lib.itoa_length_le S.cas (by omega) (by omega)
  have b2 := Lib.itoa_length_le S.bits (by omega) (by omega)
  have b3 := flat_le hc
  have e1 := Lib.size_eq (ratStr S.h)
  unfold printM numL
  rw [List.length_append, List.length_append, List.length_append, lineP_len, lineP_len, lineP_len, join2_len, join2_len, join2_len]
  have : bHOR.data.toList.length = 7 := rfl
  have : bCAS.data.toList.length = 7 := rfl
  have : bBITS.data.toList.length = 4 := rfl
  have : 700 * S.ch.length ≤ 21000 := by omega
  omega

end Go.Proofs.YtkcgikoploohkaaGreatDoor

namespace Go.Proofs.YtkcgikoploohkaaGreatDoor
set_option linter.unusedVariables false
set_option linter.unusedSimpArgs false
set_option maxRecDepth 100000
open Go.RowKit Go.Shelf Nums

theorem is_len12 {r : RV} {k j : Nat} {q : Rat} {w : World} (h : r.Is k j q w) (hk : k ≤ 12) (hj : j ≤ 12) : (limbs q.num.natAbs).length ≤ 12 ∧ (limbs q.den).length ≤ 12 := by
  obtain ⟨xs, ys, h1, h2, h3, h4, h5⟩ := h
  obtain ⟨e, w', a, n, c, b, m, d, -, hn, hm, g1, g2, -⟩ := calls_ex (normR 12 12 q h1 h2 h3 (by omega) (by omega) (by omega) (by omega) (by omega))
  exact ⟨by rw [g1.1]; exact hn, by rw [g2.1]; exact hm⟩
/-- what came in: its numbers are bounded, its counts are numbers of 64 bits -/
structure CameS (v : SV) (L : List CM) : Prop where
  h : v.h.Came
  c : ∀ x ∈ L, x.t.Came ∧ x.v.Came
  n : -9223372036854775808 ≤ v.cas ∧ v.cas ≤ 9223372036854775807 ∧ -9223372036854775808 ≤ v.bits ∧ v.bits ≤ 9223372036854775807
def LimsOk (h : Rat) (L : List CM) : Prop := ((limbs h.num.natAbs).length ≤ 12 ∧ (limbs h.den).length ≤ 12) ∧ ∀ x ∈ L, ((limbs x.p.num.natAbs).length ≤ 12 ∧ (limbs x.p.den).length ≤ 12) ∧ ((limbs x.q.num.natAbs).length ≤ 12 ∧ (limbs x.q.den).length ≤ 12)
theorem CRow.mem {w : World} {a : Option Addr} {n c : Nat} {L : List CM} (h : CRow w a n c L) {x : CM} (hx : x ∈ L) : x.t.Is x.t.n x.t.m x.p w ∧ x.v.Is x.v.n x.v.m x.q w := by
  obtain ⟨i, hi, e⟩ := List.getElem_of_mem hx
  obtain ⟨_, _, _, _, hc⟩ := h.at_ (i := i) (x := x) (by rw [List.getElem?_eq_getElem hi, e])
  exact ⟨hc.v, hc.z⟩
theorem lims_ok {v : SV} {h : Rat} {L : List CM} {w : World} (hv : v.Is h L w) (hf : FewP v L) : LimsOk h L := by
  obtain ⟨f1, f2, f3⟩ := hf
  unfold RV.Sh at f2
  refine ⟨is_len12 hv.h (by omega) (by omega), fun x hx => ?_⟩
  obtain ⟨a, b⟩ := hv.c.mem hx
  obtain ⟨g1, g2, -⟩ := f3 x hx
  unfold RV.Sh at g1 g2
  exact ⟨is_len12 a (by omega) (by omega), is_len12 b (by omega) (by omega)⟩
theorem back_parse {v : SV} {h : Rat} {L : List CM} {w : World} (hg : Gl w) (hl : LimsOk h L) (ho : okP ⟨h, v.cas, v.bits, L.map CM.told⟩ = true) : parseM numS (printM ⟨h, v.cas, v.bits, L.map CM.told⟩) = .inr ⟨h, v.cas, v.bits, L.map CM.told⟩ := by
  refine parse_print ho (num_back hg hl.1.1 hl.1.2) (fun y hy => ?_)
  obtain ⟨x, hx, rfl⟩ := List.mem_map.1 hy
  exact ⟨num_back hg (hl.2 x hx).1.1 (hl.2 x hx).1.2, num_back hg (hl.2 x hx).2.1 (hl.2 x hx).2.2⟩
theorem back_len {v : SV} {h : Rat} {L : List CM} (hl : LimsOk h L) (hf : FewP v L) (hn : L.length = v.n) (ho : okP ⟨h, v.cas, v.bits, L.map CM.told⟩ = true) : (printM ⟨h, v.cas, v.bits, L.map CM.told⟩).length ≤ 65536 := by
  refine print_len ho (ratStr_size hl.1.1 hl.1.2) (fun y hy => ?_) (by show (L.map CM.told).length ≤ 30; rw [List.length_map, hn]; exact hf.1)
  obtain ⟨x, hx, rfl⟩ := List.mem_map.1 hy
  exact ⟨ratStr_size (hl.2 x hx).1.1 (hl.2 x hx).1.2, ratStr_size (hl.2 x hx).2.1 (hl.2 x hx).2.2, (hf.2.2 x hx).2.2⟩
/-- as told: no number has more limbs than the law's -/
theorem told_lims {h : Rat} {L M : List CM} (hl : LimsOk h L) (e : M.map CM.told = L.map CM.told) (hf : ∀ x ∈ M, x.Fit) : ∀ x ∈ M, x.t.n ≤ 34 ∧ x.t.m ≤ 34 ∧ x.v.n ≤ 34 ∧ x.v.m ≤ 34 := by
  intro x hx
  have hm : x.told ∈ L.map CM.told := by rw [← e]; exact List.mem_map_of_mem hx
  obtain ⟨y, hy, ey⟩ := List.mem_map.1 hm
  have e1 : y.p = x.p := congrArg Prod.fst ey
  have e3 : y.q = x.q := congrArg (fun z => z.2.2) ey
  obtain ⟨⟨f1, f2⟩, f3, f4⟩ := hf x hx
  obtain ⟨⟨g1, g2⟩, g3, g4⟩ := hl.2 y hy
  rw [e1] at g1 g2
  rw [e3] at g3 g4
  omega
set_option maxHeartbeats 8000000 in
/-- ScriptBack -/
theorem scriptBack_walk (v : SV) (h : Rat) (L : List CM) (w : World) (hg : Gl w) (hv : v.Is h L w) (hc : CameS v L) : Calls Tryz.prog 5 #[.agg #[.bool v.h.s, .slice v.h.a v.h.n v.h.c, .slice v.h.b v.h.m v.h.d, .int .i64 v.cas, .int .i64 v.bits, .slice v.a v.n v.c]] w (fun e w' => e = .returned (.bool true) ∧ Below w.heap.size w w') := by
  obtain ⟨W1, hW1⟩ : ∃ W1, W1 = w.alloc (.cells #[.bool v.h.s, .slice v.h.a v.h.n v.h.c, .slice v.h.b v.h.m v.h.d, .int .i64 v.cas, .int .i64 v.bits, .slice v.a v.n v.c] 30) := ⟨_, rfl⟩
  have hb1 : Below w.heap.size w W1 := by rw [hW1]; exact below_one _ _
  have HS := Lib.hid (show SBlk W1 w.heap.size v by rw [hW1]; exact Blk.new _ _ _)
  have HI := Lib.hid (hv.later hb1)
  have HG := Lib.hid (hg.later hb1)
  have HB := Lib.hid hb1
  have HC := Lib.hid hc
  have HV := Lib.hid hv
  have HN := Lib.hid hv.c.1
  have HW1 := Lib.hid hW1
  clear hW1 hb1 hg hv hc
  obtain ⟨p0, p1, p2, p3, p4, p5⟩ := HS.out.cells
  go_enter Tryz.func5, Tryz.ntmps5
  go_upto_region 1 with fail
  rw [← HW1.out]; clear HW1
  go_wp2_with (go_at_call 12; (with_reducible refine (few_t v h L _ HI.out HC.out.h HC.out.c).mono ?_); rintro e w1 ⟨⟨b, rfl, hf⟩, hb⟩; replace HS := Lib.hid (SBlk.later HS.out hb); replace HI := Lib.hid (SV.Is.later HI.out hb); replace HG := Lib.hid (Gl.later HG.out hb); replace HB := Lib.hid (bthen HB.out hb); clear p0 p1 p2 p3 p4 p5; obtain ⟨p0, p1, p2, p3, p4, p5⟩ := HS.out.cells; have HF := Lib.hid hf; clear hf hb; cases b)
  · go_ret
    exact ⟨rfl, HB.out⟩
  · have HFW := Lib.hid (HF.out (by first | rfl | trivial))
    clear HF
    have HL := Lib.hid (lims_ok HV.out HFW.out)
    have HM := Lib.hid (show (v.h.n ≤ 8 ∧ v.h.m ≤ 8) ∧ ∀ x ∈ L, x.t.n ≤ 8 ∧ x.t.m ≤ 8 ∧ x.v.n ≤ 8 ∧ x.v.m ≤ 8 ∧ x.nm.size ≤ 200 from by
      obtain ⟨f1, f2, f3⟩ := HFW.out
      unfold RV.Sh at f2
      refine ⟨⟨by omega, by omega⟩, fun x hx => ?_⟩
      obtain ⟨g1, g2, g3⟩ := f3 x hx
      unfold RV.Sh at g1 g2
      omega)
    have HPR := Lib.hid (print_run v h L _ HG.out HI.out ⟨by have := HM.out.1; omega, by have := HM.out.1; omega⟩ (fun x hx => by have := HM.out.2 x hx; omega) (by have := HFW.out.1; have := HN.out; omega) HC.out.n)
    cases ho : okP ⟨h, v.cas, v.bits, L.map CM.told⟩ with
    | false =>
      have HO := Lib.hid ho
      clear ho
      refine HPR.out.mono ?_
      rintro e w2 ⟨-, h2, hb⟩
      obtain rfl := h2 HO.out
      replace HS := Lib.hid (SBlk.later HS.out hb); replace HI := Lib.hid (SV.Is.later HI.out hb); replace HG := Lib.hid (Gl.later HG.out hb); replace HB := Lib.hid (bthen HB.out hb)
      clear hb h2
      go_wp2_with (go_at_call 11; (with_reducible refine (awake_t _ HG.out).mono ?_); rintro e w3 ⟨rfl, hb⟩; replace HB := Lib.hid (bthen HB.out hb); clear hb)
      go_ret
      exact ⟨rfl, HB.out⟩
    | true =>
      have HO := Lib.hid ho
      clear ho
      refine HPR.out.mono ?_
      rintro e w2 ⟨h1, -, hb⟩
      obtain ⟨a, n, c, rfl, ht⟩ := h1 HO.out
      replace HS := Lib.hid (SBlk.later HS.out hb); replace HI := Lib.hid (SV.Is.later HI.out hb); replace HG := Lib.hid (Gl.later HG.out hb); replace HB := Lib.hid (bthen HB.out hb)
      clear p0 p1 p2 p3 p4 p5; obtain ⟨p0, p1, p2, p3, p4, p5⟩ := HS.out.cells
      have hn : n ≤ 65536 := by rw [← ht.1]; exact back_len HL.out HFW.out HN.out HO.out
      have hpp := parse_run a n c _ _ HG.out ht hn
      rw [back_parse HG.out HL.out HO.out] at hpp
      have HP := Lib.hid hpp
      clear hpp h1 ht hb HPR
      have hni : ¬ (65536 : Int) < (n : Int) := by omega
      clear hn
      go_upto_region 7 with (go_at_call 8; (with_reducible refine HP.out.mono ?_); rintro e w3 ⟨u, xs, rfl, hu, hf, hx, e1, e2, e3, hb⟩; replace HS := Lib.hid (SBlk.later HS.out hb); replace HI := Lib.hid (SV.Is.later HI.out hb); replace HG := Lib.hid (Gl.later HG.out hb); replace HB := Lib.hid (bthen HB.out hb); have HU := Lib.hid hu; have HE := Lib.hid (show u.cas = v.cas ∧ u.bits = v.bits ∧ xs.map CM.told = L.map CM.told from ⟨e1, e2, e3⟩); have HU1 := Lib.hid (show u.h.n ≤ 34 ∧ u.h.m ≤ 34 from by have hq := HL.out.1; have hf' : u.h.Fit h := hf; rw [hf'.1, hf'.2]; omega); have HU2 := Lib.hid (told_lims HL.out (show xs.map CM.told = L.map CM.told from e3) hx); clear hu hf hx e1 e2 e3 hb)
      obtain ⟨W5, hW5⟩ : ∃ W5, W5 = w3.alloc (.cells #[.bool u.h.s, .slice u.h.a u.h.n u.h.c, .slice u.h.b u.h.m u.h.d, .int .i64 u.cas, .int .i64 u.bits, .slice u.a u.n u.c] 30) := ⟨_, rfl⟩
      rw [← hW5]
      have hb : Below w3.heap.size w3 W5 := by rw [hW5]; exact below_one _ _
      have HS2 := Lib.hid (show SBlk W5 w3.heap.size u by rw [hW5]; exact Blk.new _ _ _)
      replace HU := Lib.hid (SV.Is.later HU.out hb)
      replace HS := Lib.hid (SBlk.later HS.out hb); replace HI := Lib.hid (SV.Is.later HI.out hb); replace HG := Lib.hid (Gl.later HG.out hb); replace HB := Lib.hid (bthen HB.out hb)
      clear hW5 hb HP
      clear p0 p1 p2 p3 p4 p5; obtain ⟨p0, p1, p2, p3, p4, p5⟩ := HS.out.cells
      obtain ⟨s0, s1, s2, s3, s4, s5⟩ := HS2.out.cells
      go_wp2_with (first
        | (go_at_call 10; (with_reducible refine (same_yes v u h L xs _ HI.out HU.out HE.out.1.symm HE.out.2.1.symm HE.out.2.2.symm ⟨Nat.le_trans HM.out.1.1 (by decide), Nat.le_trans HM.out.1.2 (by decide)⟩ HU1.out (fun x hx => by have := HM.out.2 x hx; omega) HU2.out).mono ?_); rintro e w6 ⟨rfl, hb⟩; replace HG := Lib.hid (Gl.later HG.out hb); replace HB := Lib.hid (bthen HB.out hb); clear hb)
        | (go_at_call 11; (with_reducible refine (awake_t _ HG.out).mono ?_); rintro e w7 ⟨rfl, hb⟩; replace HB := Lib.hid (bthen HB.out hb); clear hb))
      go_ret
      exact ⟨rfl, HB.out⟩

end Go.Proofs.YtkcgikoploohkaaGreatDoor

namespace Go.Proofs.YtkcgikoploohkaaGreatDoor
set_option linter.unusedVariables false
set_option linter.unusedSimpArgs false
set_option maxRecDepth 100000
open Go.ChangeShapes Go.WideShapes Go.ChangeAt Go.RowKit Nums Go.Joins

/-- cells that read as a value of a type -/
def Tr (w : World) (t : TypeId) (cs : List Value) : Prop :=
  ∃ (H : Type) (enc : TypeId × Value → H) (base : Nat) (spare : Nat → Bool) (held : Bool) (fuel : Nat) (x : DataW H × List MemPlace), DataW.trod enc Tryz.prog w base spare held fuel t cs = some x ∧ ∀ n ∈ x.1.weights Tryz.prog t, n ≤ reachBytes
theorem weights_all {H : Type} {P : Program} {e : TypeId} : ∀ {l : List (DataW H)} {d : DataW H}, d ∈ l → ∀ n ∈ d.weights P e, n ∈ DataW.weightsAll P e l
  | x :: l, d, h, n, hn => by
    simp only [DataW.weightsAll, List.mem_append]
    rcases List.mem_cons.1 h with rfl | h
    · exact Or.inl hn
    · exact Or.inr (weights_all h n hn)

theorem Tr.int {w : World} {t : TypeId} {k : IntKind} {cs : List Value} (ht : Tryz.prog.underlying t = some (.int k)) (h : Tr w t cs) : ∃ n, cs = [.int k n] ∧ (Lit.int k n).wf = true := by
  obtain ⟨H, enc, base, spare, held, fuel, x, h, _⟩ := h
  obtain ⟨n, h1, _, h2⟩ := DataW.trod_int ht h
  exact ⟨n, h1, h2⟩
theorem Tr.i64 {w : World} {t : TypeId} {cs : List Value} (ht : Tryz.prog.underlying t = some (.int .i64)) (h : Tr w t cs) : ∃ n : Int, cs = [.int .i64 n] ∧ -9223372036854775808 ≤ n ∧ n ≤ 9223372036854775807 := by
  obtain ⟨n, h1, w1⟩ := h.int ht
  refine ⟨n, h1, ?_⟩
  simp only [Lit.wf, IntKind.min, IntKind.max, IntKind.signed, IntKind.bits, Bool.and_eq_true, decide_eq_true_eq, if_true] at w1
  omega
theorem Tr.u32 {w : World} {t : TypeId} {cs : List Value} (ht : Tryz.prog.underlying t = some (.int .u32)) (h : Tr w t cs) : ∃ n : Nat, cs = [.int .u32 (n : Int)] ∧ n < 4294967296 := by
  obtain ⟨n, h1, w1⟩ := h.int ht
  simp [Lit.wf, IntKind.min, IntKind.max, IntKind.signed, IntKind.bits, Bool.and_eq_true, decide_eq_true_eq] at w1
  exact ⟨n.toNat, by rw [h1, Int.toNat_of_nonneg w1.1], by omega⟩
theorem Tr.bool {w : World} {t : TypeId} {cs : List Value} (ht : Tryz.prog.underlying t = some .bool) (h : Tr w t cs) : ∃ b, cs = [.bool b] := by
  obtain ⟨H, enc, base, spare, held, fuel, x, h, _⟩ := h
  obtain ⟨b, h1, _⟩ := DataW.trod_bool ht h
  exact ⟨b, h1⟩
theorem Tr.str {w : World} {t : TypeId} {cs : List Value} (ht : Tryz.prog.underlying t = some .string) (h : Tr w t cs) : ∃ s : ByteArray, cs = [.string s] ∧ s.size ≤ maxLen := by
  obtain ⟨H, enc, base, spare, held, fuel, x, h, _⟩ := h
  obtain ⟨b, h1, _, h2⟩ := DataW.trod_string ht h
  exact ⟨b, h1, h2⟩
/-- a struct: its cells, and each field -/
theorem Tr.struct {w : World} {t : TypeId} {fs : Array Field} {cs : List Value} (ht : Tryz.prog.underlying t = some (.struct fs)) (h : Tr w t cs) :
    cs.length = Tryz.prog.cellsOf t ∧ ∀ (i : Nat) (f : Field), fs[i]? = some f → Tr w f.type ((cs.drop f.offset).take (Tryz.prog.cellsOf f.type)) := by
  obtain ⟨H, enc, base, spare, held, fuel, x, h, hz⟩ := h
  obtain ⟨xs, n, _, rfl, h1, h2, h3⟩ := DataW.trod_struct ht h
  refine ⟨h1, fun i f hf => ?_⟩
  have hi : i < xs.length := by rw [h2]; exact (Array.getElem?_eq_some_iff.1 hf).1
  refine ⟨H, enc, base, spare, held, n, _, (h3 i f hf).trans (List.getElem?_eq_getElem hi), fun k hk => hz k ?_⟩
  have hm := DataW.weights_mem_each (P := Tryz.prog) (ts := fs.toList.map (·.type)) (ds := xs.map (·.1)) (j := i) (t := f.type) (d := xs[i].1) (by rw [List.getElem?_map, Array.getElem?_toList, hf]; rfl) (by rw [List.getElem?_map, List.getElem?_eq_getElem hi]; rfl) k hk
  simp only [DataW.weights, ht]
  exact hm
theorem pick {α : Type} (n : Nat) (Q : Nat → α → Prop) (h : ∀ i, i < n → ∃ x, Q i x) : ∃ xs : List α, xs.length = n ∧ ∀ i x, xs[i]? = some x → Q i x := by
  induction n with
  | zero => exact ⟨[], rfl, fun i x h => by simp at h⟩
  | succ n ih =>
    obtain ⟨xs, h1, h2⟩ := ih fun i hi => h i (by omega)
    obtain ⟨x, hx⟩ := h n (by omega)
    refine ⟨xs ++ [x], by simp [h1], fun i y hy => ?_⟩
    rcases Nat.lt_or_ge i n with q | q
    · rw [List.getElem?_append_left (by omega)] at hy; exact h2 i y hy
    · rw [List.getElem?_append_right (by omega), h1] at hy
      have : i = n := by
        rcases Nat.lt_or_ge n i with r | r
        · rw [List.getElem?_eq_none (by simp; omega)] at hy; cases hy
        · omega
      subst this
      simp at hy; subst hy; exact hx
/-- a slice: a row of cells, each element so many -/
theorem Tr.slice {w : World} {t e : TypeId} {cs : List Value} (sz : Nat) (ht : Tryz.prog.underlying t = some (.slice e)) (hsz : Tryz.prog.cellsOf e = sz) (h0 : 0 < sz) (h : Tr w t cs) :
    ∃ (a : Option Addr) (n c : Nat), cs = [.slice a n c] ∧ n ≤ c ∧ c ≤ maxLen ∧ (a = none → c = 0) ∧ n * Tryz.prog.bytesOf e ≤ reachBytes ∧ ∃ b off, (a = some ⟨b, off, none⟩ ∨ n ≤ 0) ∧ ∀ i, i < n → b < w.heap.size ∧ ∃ ds, (∀ j, j < sz → w.cell? ⟨b, off + i * sz + j, none⟩ = ds[j]?) ∧ ds.length = sz ∧ Tr w e ds := by
  obtain ⟨H, enc, base, spare, held, fuel, x, h, hz⟩ := h
  subst hsz
  rcases Go.Deep.open_slice ht h with ⟨h1, _⟩ | ⟨a, len, cap, m, k, D, Pl, hcs, hb, hl, hm, hmm, hx, hi⟩
  · exact ⟨none, 0, 0, h1, Nat.le_refl _, Nat.zero_le _, fun _ => rfl, by simp, 0, 0, .inr (Nat.le_refl _), fun i hi => by omega⟩
  · subst hx
    simp only [DataW.weights, ht, List.mem_cons, List.mem_append, forall_eq_or_imp] at hz
    obtain ⟨hz0, hz1⟩ := hz
    have hzb : len * Tryz.prog.bytesOf e ≤ reachBytes := Nat.le_trans (Nat.mul_le_mul_right _ (by simp)) hz0
    refine ⟨some a, len, cap, hcs, hl, hm, (fun h => by cases h), hzb, ?_⟩
    have hlm : len ≤ m := by rw [hmm]; split <;> omega
    by_cases h0' : 0 < len
    · obtain ⟨b, off, spot⟩ := a
      have hspot : spot = none := by
        obtain ⟨ds, h1, h2⟩ := hi 0 (by omega)
        obtain ⟨_, hl1, hc⟩ := World.cells?_some h1
        have := hc 0 h0
        have hd : ds[0]? = some (ds[0]'(by omega)) := List.getElem?_eq_getElem (by omega)
        rw [hd] at this
        simpa [Addr.add] using World.cell?_spot this
      subst hspot
      refine ⟨b, off, .inl rfl, fun i hil => ?_⟩
      obtain ⟨ds, h1, h2⟩ := hi i (by omega)
      obtain ⟨_, hl1, hc⟩ := World.cells?_some h1
      have hc' : ∀ j, j < Tryz.prog.cellsOf e → w.cell? ⟨b, off + i * Tryz.prog.cellsOf e + j, none⟩ = ds[j]? := fun j hj => by
        have := hc j hj
        rw [Go.Deep.add_add, Go.WideShapes.add_plain, ← Nat.add_assoc] at this
        exact this
      refine ⟨?_, ds, hc', hl1, H, enc, base, spare, held, k, _, h2, fun q hq => hz1 q (Or.inl (weights_all (List.mem_map.2 ⟨i, List.mem_range.2 hil, rfl⟩) q hq))⟩
      have := hc' 0 h0
      rw [List.getElem?_eq_getElem (by omega : 0 < ds.length)] at this
      exact World.block_lt_of_cell? w ⟨b, _, none⟩ this
    · exact ⟨0, 0, .inr (by omega), fun i hi => by omega⟩
/-- a row of limbs that came in -/
theorem row_of_tr {w : World} {v : Value} (h : Tr w 23 [v]) : ∃ a n c xs, v = .slice a n c ∧ Row w a n c xs ∧ n ≤ 1000000000000000 := by
  obtain ⟨a, n, c, hv, h1, h2, h2', hzb, b, off, h3, h4⟩ := h.slice 1 Tryz.underlying23 (by kernel_rfl) (by decide)
  obtain ⟨xs, hl, hx⟩ := pick n (fun i (x : Nat) => b < w.heap.size ∧ w.cell? ⟨b, off + i, none⟩ = some (.int .u32 (x : Int)) ∧ x < 4294967296) fun i hi => by
    obtain ⟨hb, ds, q1, q2, q3⟩ := h4 i hi
    obtain ⟨x, rfl, hx⟩ := q3.u32 Tryz.underlying89
    refine ⟨x, hb, ?_, hx⟩
    have := q1 0 (by decide)
    simpa using this
  refine ⟨a, n, c, xs, by simpa using hv, ⟨hl, h1, h2, h2', ?_, b, off, h3, fun i hi => ?_⟩, (by rw [show Tryz.prog.bytesOf 89 = 4 by kernel_rfl] at hzb; unfold reachBytes at hzb; omega)⟩
  · intro x hx'
    obtain ⟨i, hi, e⟩ := List.getElem_of_mem hx'
    exact (hx i x (by rw [List.getElem?_eq_getElem hi, e])).2.2
  · have e : xs[i]? = some (xs.getD i 0) := by rw [List.getD_eq_getElem?_getD, List.getElem?_eq_getElem (by omega)]; rfl
    exact ⟨(hx i _ e).1, (hx i _ e).2.1⟩
theorem cells1 {cs : List Value} (h : cs.length = 1) : ∃ v, cs = [v] := by
  match cs, h with
  | [v], _ => exact ⟨v, rfl⟩
theorem cells3 {cs : List Value} (h : cs.length = 3) : ∃ a b c, cs = [a, b, c] := by
  match cs, h with
  | [a, b, c], _ => exact ⟨a, b, c, rfl⟩
theorem cells7 {cs : List Value} (h : cs.length = 7) : ∃ a b c d e f g, cs = [a, b, c, d, e, f, g] := by
  match cs, h with
  | [a, b, c, d, e, f, g], _ => exact ⟨a, b, c, d, e, f, g, rfl⟩
theorem cells6 {cs : List Value} (h : cs.length = 6) : ∃ a b c d e f, cs = [a, b, c, d, e, f] := by
  match cs, h with
  | [a, b, c, d, e, f], _ => exact ⟨a, b, c, d, e, f, rfl⟩
/-- a number that came in -/
theorem rv_of_tr {w : World} {cs : List Value} (h : Tr w 27 cs) : ∃ (r : RV) (q : Rat), cs = [.bool r.s, .slice r.a r.n r.c, .slice r.b r.m r.d] ∧ r.Is r.n r.m q w ∧ r.Came := by
  obtain ⟨hl, hs⟩ := h.struct Tryz.underlying27
  rw [show Tryz.prog.cellsOf 27 = 3 by kernel_rfl] at hl
  obtain ⟨a, b, c, rfl⟩ := cells3 hl
  have k0 : Tr w 25 [a, b] := hs 0 _ rfl
  have k1 : Tr w 23 [c] := hs 1 _ rfl
  obtain ⟨-, ht⟩ := k0.struct Tryz.underlying25
  have k2 : Tr w 4 [a] := ht 0 _ rfl
  have k3 : Tr w 23 [b] := ht 1 _ rfl
  obtain ⟨s, hs⟩ := k2.bool Tryz.underlying4
  obtain rfl : a = .bool s := by simpa using hs
  obtain ⟨a1, n1, c1, xs, rfl, h1, m1⟩ := row_of_tr k3
  obtain ⟨a2, n2, c2, ys, rfl, h2, m2⟩ := row_of_tr k1
  exact ⟨⟨s, a1, n1, c1, a2, n2, c2⟩, _, rfl, ⟨xs, ys, h1, h2, rfl, Nat.le_refl _, Nat.le_refl _⟩, m1, m2⟩
/-- a change that came in -/
theorem change_of_tr {w : World} {cs : List Value} (h : Tr w 43 cs) : ∃ x : CM, cs = [.bool x.t.s, .slice x.t.a x.t.n x.t.c, .slice x.t.b x.t.m x.t.d, .string x.nm, .bool x.v.s, .slice x.v.a x.v.n x.v.c, .slice x.v.b x.v.m x.v.d] ∧ x.t.Is x.t.n x.t.m x.p w ∧ x.v.Is x.v.n x.v.m x.q w ∧ x.t.Came ∧ x.v.Came := by
  obtain ⟨hl, hs⟩ := h.struct Tryz.underlying43
  rw [show Tryz.prog.cellsOf 43 = 7 by kernel_rfl] at hl
  obtain ⟨a, b, c, d, e, f, g, rfl⟩ := cells7 hl
  have k0 : Tr w 27 [a, b, c] := hs 0 _ rfl
  have k1 : Tr w 9 [d] := hs 1 _ rfl
  have k2 : Tr w 27 [e, f, g] := hs 2 _ rfl
  obtain ⟨s, ho, -⟩ := k1.str Tryz.underlying9
  obtain rfl : d = .string s := by simpa using ho
  obtain ⟨t, p, hv, h1, m1⟩ := rv_of_tr k0
  obtain ⟨z, q, hz, h2, m2⟩ := rv_of_tr k2
  refine ⟨⟨t, s, z, p, q⟩, ?_, h1, h2, m1, m2⟩
  simp only [List.cons.injEq, and_true] at hv hz
  obtain ⟨rfl, rfl, rfl⟩ := hv
  obtain ⟨rfl, rfl, rfl⟩ := hz
  rfl
/-- rows of changes that came in -/
theorem crow_of_tr {w : World} {v : Value} (h : Tr w 28 [v]) : ∃ a n c L, v = .slice a n c ∧ CRow w a n c L ∧ ∀ x ∈ L, x.t.Came ∧ x.v.Came := by
  obtain ⟨a, n, c, hv, h1, h2, h2', -, b, off, h3, h4⟩ := h.slice 7 Tryz.underlying28 (by kernel_rfl) (by decide)
  obtain ⟨L, hl, hx⟩ := pick n (fun i (x : CM) => (b < w.heap.size ∧ CAt w b (off + i * 7) x) ∧ x.t.Came ∧ x.v.Came) fun i hi => by
    obtain ⟨hb, ds, q1, q2, q3⟩ := h4 i hi
    obtain ⟨x, rfl, hv, hz, m1, m2⟩ := change_of_tr q3
    exact ⟨x, ⟨hb, q1 0 (by decide), q1 1 (by decide), q1 2 (by decide), q1 3 (by decide), q1 4 (by decide), q1 5 (by decide), q1 6 (by decide), hv, hz⟩, m1, m2⟩
  refine ⟨a, n, c, L, by simpa using hv, ⟨hl, h1, h2, b, off, h3, fun i x e => (hx i x e).1⟩, fun x hm => ?_⟩
  obtain ⟨i, hi, e⟩ := List.getElem_of_mem hm
  exact (hx i x (by rw [List.getElem?_eq_getElem hi, e])).2
/-- rows of strings that came in -/
theorem strs_of_tr {w : World} {v : Value} (h : Tr w 37 [v]) : ∃ a n c L, v = .slice a n c ∧ SRow w a n c L := by
  obtain ⟨a, n, c, hv, h1, h2, h2', -, b, off, h3, h4⟩ := h.slice 1 Tryz.underlying37 (by kernel_rfl) (by decide)
  obtain ⟨L, hl, hx⟩ := pick n (fun i (x : ByteArray) => b < w.heap.size ∧ w.cell? ⟨b, off + i, none⟩ = some (.string x)) fun i hi => by
    obtain ⟨hb, ds, q1, q2, q3⟩ := h4 i hi
    obtain ⟨s, rfl, -⟩ := q3.str Tryz.underlying9
    have := q1 0 (by decide)
    exact ⟨s, hb, by simpa using this⟩
  exact ⟨a, n, c, L, by simpa using hv, hl, h1, h2, b, off, h3, hx⟩
/-- a script that came in -/
theorem script_of_tr {w : World} {cs : List Value} (h : Tr w 30 cs) : ∃ (v : SV) (q : Rat) (L : List CM), cs = [.bool v.h.s, .slice v.h.a v.h.n v.h.c, .slice v.h.b v.h.m v.h.d, .int .i64 v.cas, .int .i64 v.bits, .slice v.a v.n v.c] ∧ v.Is q L w ∧ CameS v L := by
  obtain ⟨hl, hs⟩ := h.struct Tryz.underlying30
  rw [show Tryz.prog.cellsOf 30 = 6 by kernel_rfl] at hl
  obtain ⟨a, b, c, d, e, f, rfl⟩ := cells6 hl
  have k0 : Tr w 27 [a, b, c] := hs 0 _ rfl
  have k1 : Tr w 3 [d] := hs 1 _ rfl
  have k2 : Tr w 3 [e] := hs 2 _ rfl
  have k3 : Tr w 28 [f] := hs 3 _ rfl
  obtain ⟨r, q, hv, h1, m1⟩ := rv_of_tr k0
  obtain ⟨n1, e1, b1, b2⟩ := k1.i64 Tryz.underlying3
  obtain ⟨n2, e2, b3, b4⟩ := k2.i64 Tryz.underlying3
  obtain ⟨a4, n4, c4, L, rfl, hL, mL⟩ := crow_of_tr k3
  obtain rfl : d = .int .i64 n1 := by simpa using e1
  obtain rfl : e = .int .i64 n2 := by simpa using e2
  refine ⟨⟨r, n1, n2, a4, n4, c4⟩, q, L, ?_, ⟨h1, hL⟩, m1, mL, b1, b2, b3, b4⟩
  simp only [List.cons.injEq, and_true] at hv
  obtain ⟨rfl, rfl, rfl⟩ := hv
  rfl

end Go.Proofs.YtkcgikoploohkaaGreatDoor

namespace Go.Proofs.YtkcgikoploohkaaGreatDoor
set_option linter.unusedVariables false
set_option linter.unusedSimpArgs false
set_option maxRecDepth 100000
open Go.ChangeShapes Go.WideShapes Go.ChangeAt Go.RowKit Nums Go.Joins

theorem star : "*" ++ "errors.errorString" = "*errors.errorString" := by decide
theorem esName (u : TypeId) (h : Tryz.prog.typeName? 3 u = some "*errors.errorString") : u = 209 :=
  typeName_ptr_named (nm := "errors.errorString") (by rw [star]; kernel_rfl) (by kernel_rfl) (by decide) u (by rw [star]; exact h)
theorem block_of_var {P : Program} {w : World} {n : String} {g : Nat} {cs : Array Value} (hg : P.globalNamed n = some g) (h : w.var? P n = some cs) : g < w.heap.size := by
  unfold World.var? at h
  simp only [hg, Option.bind_some] at h
  rcases Nat.lt_or_ge g w.heap.size with h' | h'
  · exact h'
  · simp [Array.getElem?_eq_none h'] at h
/-- what the library's variables hold: from the row's own condition, and from the world's shape -/
theorem gl_of {w : World} (hs : w.ShapedOpen Tryz.prog) (hL : laidMet Tryz.prog Rows.scriptBackRow.laid w) : Gl w := by
  have h3 := hL.tail.tail
  have h6 := hL.tail.tail.tail.tail.tail
  have i0 : ((begin Tryz.prog (fun _ _ => 0) default).world.heap[1]?).bind Obj.row? = some (#[.int .i64 0], 3) := by kernel_rfl
  have i1 : Tryz.prog.cellTypes Tryz.prog.depth 3 = some [3] := by kernel_rfl
  have i2 : Tryz.prog.buildable 3 = true := by kernel_rfl
  have i3 : 1 < Tryz.prog.globals.size := of_decide_eq_true (by kernel_rfl)
  refine ⟨?_, ?_, ?_, ?_⟩
  · exact cell_of_shapedOpen_int (g := 1) (t := 3) (zero := #[.int .i64 0]) (k := .i64) hs i3 i0 rfl i2 i1 Tryz.underlying3
  · obtain ⟨a0, s0, hv0, -, -, -⟩ := laid_sentinel (ti := 71) (tp := 209) (te := 211) (ts := 9) h6 (g := 2) (by kernel_rfl) (by kernel_rfl) Tryz.underlying71 esName Tryz.underlying209 Tryz.underlying211 rfl rfl Tryz.underlying9 (by kernel_rfl) (by kernel_rfl)
    have hg : Tryz.prog.globalNamed "strconv.ErrSyntax" = some 2 := by kernel_rfl
    exact ⟨_, _, by simpa using World.var?_cell hg hv0 0⟩
  · exact Lib.tabIs_of_head (g := 4) (t := 199) (e := 87) (n := 20) (k := .u64) (zs := Lib.pow10Tab) (by kernel_rfl) (by kernel_rfl) (by kernel_rfl) (by kernel_rfl) (by kernel_rfl) (by kernel_rfl) h3
  · obtain ⟨g, t, cs, fuel, p, hg, -, hv, -⟩ := Lib.laidMet.reads hL (n := "math/bits.deBruijn64tab") (d := Rows.laid_math_bits_deBruijn64tab) (by simp [Rows.scriptBackRow])
    have hg' : Tryz.prog.globalNamed "math/bits.deBruijn64tab" = some 8 := by kernel_rfl
    exact block_of_var hg' hv
theorem laids_same : Rows.scriptParsesRow.laid = Rows.scriptBackRow.laid ∧ Rows.scriptPrintsRow.laid = Rows.scriptBackRow.laid ∧ Rows.scriptOnceRow.laid = Rows.scriptBackRow.laid ∧ Rows.scriptRightRow.laid = Rows.scriptBackRow.laid := ⟨rfl, rfl, rfl, rfl⟩
/-- the wrap of a law whose row lists variables: the world's shape kept -/
theorem handed_laid {H : Type} {enc : TypeId × Value → H} {a : Assume} {C : Checked} {os : Os} {f : FuncId} {fn : Func} {s : ChangeSpec} {conds : List PathCond} {apart fresh handsOn again : Bool} {X : World → Array Value → Prop}
    (hX : ∀ (w w' : World) (args : Array Value), w.heap = w'.heap → X w args → X w' args)
    (own : ownKnob C.prog.godebug = none) (started : os.Started) (noInit : C.prog.inits.idxOf? f = none) (hfn : C.prog.funcs[f]? = some fn)
    (witness : ∃ (w : World) (tape : Tape) (i : Input), w.os = os ∧ (w.forCall tape i).Shaped C.prog ∧ i.vars = [] ∧ Input.okWide C.prog (w.forCall tape i) .any w.heap.size f i ∧
      ((s.pre enc C.prog fn conds apart (w.forCall tape i).memory i.args ∧ X (w.forCall tape i).memory i.args) ∧ sizedMet enc C.prog fn (OpenSpec.ofChange s) apart (w.forCall tape i).memory i.args) ∧ a.holds C.prog (lone (Frame.enter C.prog f i.args .normal) [] (w.forCall tape i)))
    (contract : ∀ (W : World) (base : Nat) (args : Array Value) (ds gs : List (DataW H)) (before : List MemPlace),
      (∀ (j : Nat) t v, fn.params[j]? = some t → args[j]? = some v → Value.okWide C.prog W .any base t v) →
      DataW.Whole enc C.prog fn.params.toList s.vars apart W args.toList ds gs before →
      (DataW.weightsEach C.prog (fn.params.toList ++ s.plain.varTypes C.prog) (ds ++ gs)).all (· ≤ reachBytes) = true → W.ShapedOpen C.prog → X W args →
      Calls C.prog f args W fun e W' => ∃ v, e = .returned v ∧ s.post enc C.prog fn apart fresh handsOn again W args v W') :
    ReturnsInHanded a C os f .any (fun w args => (s.pre enc C.prog fn conds apart w args ∧ X w args) ∧ sizedMet enc C.prog fn (OpenSpec.ofChange s) apart w args) (s.post enc C.prog fn apart fresh handsOn again) := by
  refine returnsInHanded_of_calls own started noInit witness ?_
  intro w tape i _ hsh _ hok hpre hholds
  obtain ⟨_, _, _, fn', hfn', _, _, _, _, hval⟩ := hok
  have e : fn' = fn := Option.some.inj (hfn'.symm.trans hfn)
  subst e
  obtain ⟨⟨⟨ds, gs, before, hw, hc⟩, hx⟩, hz⟩ := hpre
  have hw' := DataW.Whole.of_heap (w' := w.forCall tape i) (by rfl) hw
  refine (contract (w.forCall tape i) w.heap.size i.args ds gs before hval hw' (hz.weights hw) hsh (hX _ _ _ (by rfl) hx)).mono fun e W' ⟨v, he, hp⟩ => ?_
  subst he
  exact ChangeSpec.post_blind hp

end Go.Proofs.YtkcgikoploohkaaGreatDoor
