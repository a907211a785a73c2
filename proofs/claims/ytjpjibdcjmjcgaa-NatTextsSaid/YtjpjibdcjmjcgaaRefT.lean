/- What the document's answer's Trim, short and limbs tell. -/
import Derived.Test.YtjpjibdcjmjcgaaLimb
namespace Go.Proofs.Ytjpjibdcjmjcgaa
open Go.RowKit Nums

theorem append_copy {w0 : World} {ops : Array Oper} {rest : List Oper} {o : Oper} {a : Act} {Q : Exit → Act → World → Prop} (hgd : o.guard = none) (s x : Operand)
    (ho : o.op = .call { callee := .builtin .append, args := #[s, x], argTypes := #[22, 22] }) (b off k c : Nat) (xs : List Nat) (hs : a.eval s = .slice (some ⟨w0.heap.size, 0, none⟩) 0 0) (hx : a.eval x = .slice (some ⟨b, off, none⟩) k c)
    (hcells : ∀ i, i < k → b < w0.heap.size ∧ w0.cell? ⟨b, off + i, none⟩ = some (.int .u32 (xs.getD i 0 : Nat))) (hk : k ≤ xs.length) (hn : k ≤ 1000000000)
    (hK : ∀ v' w', Own w' w0.heap.size v' (xs.take k) → Below w0.heap.size w0 w' → wpList Try.prog ops Q rest (a.put o.dst v') w') :
    wpList Try.prog ops Q (o :: rest) a (w0.alloc (.cells #[] 38)) := by
  obtain ⟨i0, hi, hz0, hz1, hz2⟩ := info_parts Try.info38
  have hown : (w0.alloc (.cells #[] 38)).ownsRow w0.heap.size 38 1 (.slice (some ⟨w0.heap.size, 0, none⟩) 0 0) 0 [] := World.ownsRow_lit (base := w0.heap.size) (e := 38) (size := 1) w0 #[] 0 (Nat.le_refl _) (Nat.zero_le _) (by simp)
  have hl : (xs.take k).length = k := by simp; omega
  refine wpList_append_own (w0.alloc (.cells #[] 38)) hgd s x 22 ho w0.heap.size 38 i0 (.int .u32 0) 1 4 Try.underlying22 hi hz0 hz1 hz2 rfl (by decide) _ 0 [] hs hown ⟨b, off, none⟩ k c ((xs.take k).map u32) hx ?_ ?_ ?_ ?_ ?_ ?_ ?_
  · simp; omega
  · intro j u hj
    have hjk : j < k := by
      have := (List.getElem?_eq_some_iff.1 hj).1
      simp at this; omega
    have e : (⟨b, off, none⟩ : Addr).add j = ⟨b, off + j, none⟩ := by unfold Addr.add; split <;> simp_all
    have hjx : j < xs.length := by omega
    have h2 := (Below.refl w0.heap.size w0).alloc (Nat.le_refl _) (.cells #[] 38)
    rw [e, h2.cell (p := ⟨b, off + j, none⟩) (hcells j hjk).1, (hcells j hjk).2, ← hj]
    simp [List.getElem?_take, hjk, hjx, u32]
  · intro u hu; obtain ⟨y, _, rfl⟩ := List.mem_map.1 hu; rfl
  · unfold maxLen; omega
  · omega
  · simp
  · intro v' w' h1 h2 _
    refine hK v' w' ?_ ?_
    · unfold Own; rw [hl]; simpa using h1
    · exact ((Below.refl _ w0).alloc (Nat.le_refl _) _).grown h2 (by simp) (fun k hk => by simp [Value.ownBlock] at hk; omega)

theorem numC_own {w0 w : World} {v : Value} {cs : List Nat} {N : Nat} (h : Own w w0.heap.size v cs) (he : cs = limbs N) (hb : Below w0.heap.size w0 w) : NumC N w0 (.returned v) w := by
  have hs : Small cs := by rw [he]; exact small_limbs N
  obtain ⟨a, c, rfl, hr⟩ := row_ownv h hs
  rw [he] at hr ⊢
  exact ⟨a, _, c, rfl, rfl, hr, hb⟩

theorem numC_zero {w0 : World} {N : Nat} (h : N = 0) : NumC N w0 (.returned (.slice (some ⟨w0.heap.size, 0, none⟩) 0 0)) (w0.alloc (.cells #[] 38)) := by
  subst h
  refine ⟨some ⟨w0.heap.size, 0, none⟩, 0, 0, rfl, by rw [limbs_zero]; rfl, ?_, (Below.refl _ _).alloc (Nat.le_refl _) _⟩
  rw [limbs_zero]
  exact ⟨rfl, Nat.le_refl _, Nat.zero_le _, by simp, (fun x hx => by cases hx), 0, 0, Or.inr (Nat.le_refl _), fun i hi => by omega⟩

set_option maxHeartbeats 2000000 in
theorem rtrim_any (a : Option Addr) (n c : Nat) (xs : List Nat) (w : World) (hr : Row w a n c xs) (hn : n ≤ 100000000) :
    Calls Try.prog 23 #[.slice a n c] w (NumC (val xs) w) := by
  have hr0 := hr
  obtain ⟨hl, hnc, hcm, hnone, hsm, b, off, hor, hc⟩ := hr
  have HR := Lib.hid hr0; clear hr0
  have H1 := Lib.hid hl; clear hl
  have hK : ∀ k : Nat, k ≤ n → (∀ i, k ≤ i → xs.getD i 0 = 0) → (k = 0 ∨ xs.getD (k - 1) 0 ≠ 0) → k = tl xs := fun k h1 h2 h3 => (tl_unique xs k (by rw [H1.out]; exact h1) h2 h3).symm
  have hZ : ∀ i, n ≤ i → xs.getD i 0 = 0 := fun i hi => getD_ge xs i (by rw [H1.out]; exact hi)
  have HK := Lib.hid hK; clear hK
  have HZ := Lib.hid hZ; clear hZ
  have HC := Lib.hid hc; clear hc
  have HN := Lib.hid hnone; clear hnone
  unfold maxLen at hcm
  rcases (show _ ∨ Hid _ from hor) with rfl | hor
  all_goals
    go_enter Try.func23, Try.ntmps23
    go_wp2
    go_loop [3] (fun t => ∃ k : Nat, k ≤ n ∧ t = .int .i64 k ∧ Hid (∀ i, k ≤ i → xs.getD i 0 = 0)) (fun t => (intOf t).toNat)
    case atStart => exact ⟨n, Nat.le_refl _, rfl, HZ⟩
    case round =>
      obtain ⟨k, hk, rfl, hz⟩ := hrel
      by_cases hk0 : 0 < k
      · first
        | (exfalso; have := hor.out; omega)
        | (have hcell := (HC.out (k - 1) (by omega)).2
           have e : ((k : Int) - 1).toNat = k - 1 := by omega
           obtain ⟨x, hxe⟩ : ∃ x, x = xs.getD (k - 1) 0 := ⟨_, rfl⟩
           rw [← hxe] at hcell
           have HX := Lib.hid hxe; clear hxe
           by_cases hx : x = 0
           · have hx' : ((x : Int) == 0) = true := by rw [beq_iff_eq]; omega
             have HXZ := Lib.hid hx; clear hx
             go_wp2
             go_round
             case rel => exact ⟨k - 1, by omega, by go_num, fun i hi => if h : i = k - 1 then by rw [h, ← HX.out]; exact HXZ.out else hz.out i (by omega)⟩
             case measure => simp [intOf]; omega
           · have hx' : ((x : Int) == 0) = false := by rw [beq_eq_false_iff_ne]; omega
             have HXZ := Lib.hid hx; clear hx
             have HE : Hid (k = tl xs) := HK.out k hk hz.out (Or.inr (by rw [← HX.out]; exact HXZ.out))
             have HLX : Hid (xs.take k = limbs (val xs)) := by rw [HE.out]; exact limbs_take xs hsm
             have HKL : Hid (k ≤ xs.length) := by rw [H1.out]; exact hk
             go_wp2_with (at_builtin; refine append_copy rfl _ _ rfl b off k c xs rfl rfl (fun i hi => HC.out i (by omega)) HKL.out (by omega) ?_)
             intro v' w' hown hb
             have HOW := Lib.hid hown; clear hown
             go_wp2
             go_ret
             exact numC_own HOW.out HLX.out hb)
      · obtain rfl : k = 0 := by omega
        have HE : Hid (val xs = 0) := (val_zero_tl xs).2 (HK.out 0 hk hz.out (Or.inl rfl)).symm
        first
        | (rcases a with _ | x
           · have hc0 : c = 0 := HN.out rfl
             subst hc0
             go_wp2
             go_ret
             exact numC_zero HE.out
           · go_wp2
             go_ret
             exact numC_zero HE.out)
        | (go_wp2
           go_ret
           exact numC_zero HE.out)

theorem rtrim_pair (w : World) (A B : Int) (a b : Nat) (hA : A = (a : Int)) (hB : B = (b : Int)) (ha : a < 4294967296) (hb : b < 4294967296) :
    Calls Try.prog 23 #[.slice (some ⟨w.heap.size, 0, none⟩) 2 2] (w.alloc (.cells #[.int .u32 A, .int .u32 B] 38)) (NumC (a + 4294967296 * b) w) := by
  subst hA; subst hB
  have hs : Small [a, b] := by intro x hx; simp at hx; omega
  have hr := (mem_alloc w [a, b] _ rfl).row0 hs 2 (by simp) (by unfold maxLen; omega)
  have hbel : Below w.heap.size w (w.alloc (.cells #[.int .u32 (a : Int), .int .u32 (b : Int)] 38)) := (Below.refl _ _).alloc (Nat.le_refl _) _
  refine (rtrim_any _ 2 2 [a, b] _ hr (by omega)).mono ?_
  rintro e w' ⟨a', m, c, rfl, hm, hrow, hb⟩
  have e : val [a, b] = a + 4294967296 * b := by simp [val]
  rw [e] at hm hrow
  exact ⟨a', m, c, rfl, hm, hrow, hbel.trans (hb.mono hbel.size)⟩

set_option maxHeartbeats 1000000 in
theorem rlimbs_any (X : Int) (x : Nat) (w : World) (hX : X = (x : Int)) (hx : x < 18446744073709551616) :
    Calls Try.prog 40 #[.int .u64 X] w (NumC x w) := by
  subst hX
  have h1 : x / 4294967296 < 4294967296 := by omega
  obtain ⟨lo, hlo⟩ : ∃ lo, lo = x % 4294967296 := ⟨_, rfl⟩
  obtain ⟨hi, hhi⟩ : ∃ hi, hi = x / 4294967296 := ⟨_, rfl⟩
  have hloI : (x : Int) % 4294967296 = (lo : Int) := by omega
  have hhiI : (x : Int) / 4294967296 = (hi : Int) := by omega
  have hl : lo < 4294967296 := by omega
  have hh : hi < 4294967296 := by omega
  have hs : lo + 4294967296 * hi = x := by omega
  have HLO := Lib.hid hloI; clear hloI hlo
  have HHI := Lib.hid hhiI; clear hhiI hhi
  have HS := Lib.hid hs; clear hs
  go_enter Try.func40, Try.ntmps40
  go_wp2_with fail
  refine (rtrim_pair w _ _ lo hi HLO.out (by first | exact HHI.out | (rw [HHI.out]; omega)) hl hh).mono ?_
  rw [HS.out]
  rintro e w' ⟨a', m, c, rfl, hm, hrow, hb⟩
  have HM := Lib.hid hm; clear hm
  have HROW := Lib.hid hrow; clear hrow
  have HB := Lib.hid hb; clear hb
  go_wp2
  go_ret
  exact ⟨a', m, c, rfl, HM.out, HROW.out, HB.out⟩

def ShortPost (xs : List Nat) (w : World) (e : Ending) (w' : World) : Prop := (∃ (u : Nat) (p : Bool), e = .returned (.tuple #[.int .u64 (u : Int), .bool p]) ∧ u < 4294967296 ∧ (p = true → u = val xs)) ∧ w = w'

set_option maxHeartbeats 1000000 in
theorem short_any (a : Option Addr) (n c : Nat) (xs : List Nat) (w : World) (hr : Row w a n c xs) (hn : n ≤ 100000000) :
    Calls Try.prog 39 #[.slice a n c] w (ShortPost xs w) := by
  obtain ⟨hl, -, -, -, hs, b, off, hor, hc⟩ := hr
  have HL := Lib.hid hl; clear hl
  have HC := Lib.hid hc; clear hc
  rcases (show _ ∨ Hid _ from hor) with rfl | hor
  all_goals
    by_cases h0 : 0 < n
    · first
      | (exfalso; have := hor.out; omega)
      | (have hcell := (HC.out 0 h0).2
         rw [Nat.add_zero] at hcell
         have hx := getD_lt xs hs 0
         obtain ⟨x, hxe⟩ : ∃ x, x = xs.getD 0 0 := ⟨_, rfl⟩
         rw [← hxe] at hcell hx
         have HX := Lib.hid hxe; clear hxe
         have hz : ((n : Int) == 0) = false := by rw [beq_eq_false_iff_ne]; omega
         go_enter Try.func39, Try.ntmps39
         go_wp2
         go_ret2
         refine ⟨⟨x, (n : Int) == 1, rfl, hx, fun h => ?_⟩, rfl⟩
         have h1 : n = 1 := by have := beq_iff_eq.1 h; omega
         have h2 := HL.out
         rw [h1] at h2
         match xs, h2 with
         | [y], _ => rw [HX.out]; simp [val])
    · obtain rfl : n = 0 := by omega
      have hxs : xs = [] := List.length_eq_zero_iff.1 HL.out
      go_enter Try.func39, Try.ntmps39
      go_wp2
      go_ret2
      exact ⟨⟨0, true, rfl, by omega, fun _ => by first | rfl | (rw [hxs]; rfl)⟩, rfl⟩
end Go.Proofs.Ytjpjibdcjmjcgaa
