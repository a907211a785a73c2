/- What isEachOnce and areSlots tell. No condition but bounds. -/
import Derived.Test.YtioebjjnadgdjaaZOfA
import Derived.Test.YtioebjjnadgdjaaZPlD
import Derived.Deep.DeepCutAuto
namespace Go.Proofs.Ytioebjjnadgdjaa
set_option linter.unusedVariables false
set_option linter.unusedSimpArgs false
set_option maxRecDepth 100000
open Go.RowKit

/-- a call that tells whether P holds, and leaves what was -/
def TellsIf (P : Prop) (w : World) (e : Ending) (w' : World) : Prop := (∃ b, e = .returned (.bool b) ∧ (b = true ↔ P)) ∧ Below w.heap.size w w'
theorem TellsIf.no {P : Prop} {w w' : World} (h : ¬ P) (hb : Below w.heap.size w w') : TellsIf P w (.returned (.bool false)) w' := ⟨⟨false, rfl, by simp [h]⟩, hb⟩
theorem TellsIf.yes {P : Prop} {w w' : World} (h : P) (hb : Below w.heap.size w w') : TellsIf P w (.returned (.bool true)) w' := ⟨⟨true, rfl, by simp [h]⟩, hb⟩
theorem TellsIf.dec {P Q : Prop} [Decidable Q] {w w' : World} (h : Q ↔ P) (hb : Below w.heap.size w w') : TellsIf P w (.returned (.bool (decide Q))) w' := ⟨⟨_, rfl, by rw [decide_eq_true_eq]; exact h⟩, hb⟩
theorem get_of_lt {l : List Int} {k : Nat} (h : k < l.length) : l[k]? = some (l.getD k 0) := by simp [h]
theorem nd_snoc {l : List Int} {x : Int} (h : l.Nodup) (hx : x ∉ l) : (l ++ [x]).Nodup :=
  List.nodup_append.2 ⟨h, by simp, fun a ha b hb e => by simp at hb; subst hb; subst e; exact hx ha⟩

set_option maxHeartbeats 1000000 in
theorem once_t (A : Option Addr) (m c B n : Nat) (o : List Int) (w : World) (h : IRow w B A m c o) (hB : B ≤ w.heap.size) (hn : n ≤ 1000000) :
    Calls Try.prog 28 #[.slice A m c, .int .i64 (n : Int)] w (TellsIf (Once o n) w) := by
  have hm := h.len_le
  unfold maxLen at hm
  have HL : Hid (o.length = m) := Lib.hid h.1
  have HR := Lib.hid h
  clear h
  go_enter Try.func28, Try.ntmps28
  go_wp2_with (at_make; refine makeB rfl _ rfl _ n rfl rfl (by omega) ?_)
  intro w1 hm1 hb1
  obtain ⟨g, hg⟩ : ∃ g, g = w.heap.size := ⟨_, rfl⟩
  rw [← hg] at hm1 hb1 ⊢
  have HM1 := Lib.hid hm1
  have HB1 := Lib.hid hb1
  have HBg : Hid (B ≤ g) := Lib.hid (by omega)
  have HG := Lib.hid hg
  clear hm1 hb1 hg
  go_wp2_with fail
  go_loopw [12] (fun t wr => ∃ k : Nat, k ≤ m ∧ t = .int .i64 k ∧ Hid (∃ bs, BMem wr g bs ∧ EMarks n o k bs ∧ (∀ x ∈ o.take k, 0 ≤ x ∧ x < (n : Int)) ∧ (o.take k).Nodup) ∧ Hid (Below g w wr)) (fun t _ => m - (intOf t).toNat)
  case atStart => exact ⟨0, Nat.zero_le _, rfl, Lib.hid ⟨_, HM1.out, EMarks.start n o, by simp, by simp⟩, HB1⟩
  case round =>
    obtain ⟨k, hk, rfl, hz, hbr⟩ := hrel
    obtain ⟨bs, hbs, hem, hpl, hnd⟩ := hz.out
    have HBS := Lib.hid hbs
    have HEM := Lib.hid hem
    have HPN := Lib.hid (And.intro hpl hnd)
    clear hbs hem hpl hnd hz
    by_cases hlt : k < m
    · obtain ⟨b, off, rfl, hlb, hcell⟩ := (HR.out.below (hbr.out.mono HBg.out)).at_ hlt
      have hkl : k < o.length := by rw [HL.out]; exact hlt
      obtain ⟨X, hX⟩ : ∃ X, X = o.getD k 0 := ⟨_, rfl⟩
      rw [← hX] at hcell
      have HX : Hid (o[k]? = some X) := Lib.hid (by rw [hX]; exact get_of_lt hkl)
      have HXM : Hid (X ∈ o) := Lib.hid (by rw [hX]; exact getD_mem hkl)
      have HTK : Hid (o.take (k + 1) = o.take k ++ [X]) := Lib.hid (by rw [List.take_add_one, HX.out]; rfl)
      clear hX
      by_cases hX0 : X < 0
      · go_wp2
        go_ret
        exact TellsIf.no (fun q => by have := q.pl X HXM.out; omega) (by rw [← HG.out]; exact hbr.out)
      · by_cases hX1 : (n : Int) ≤ X
        · go_wp2
          go_ret
          exact TellsIf.no (fun q => by have := q.pl X HXM.out; omega) (by rw [← HG.out]; exact hbr.out)
        · obtain ⟨j, rfl⟩ : ∃ j : Nat, X = (j : Int) := ⟨X.toNat, by omega⟩
          have hj : j < n := by omega
          have kc := HBS.out.cell j (by rw [HEM.out.1]; exact hj)
          have kf := HBS.out.free j
          rw [HEM.out.2 j hj] at kc
          have hjI : (j : Int) < (n : Int) := by omega
          by_cases hmem : (j : Int) ∈ o.take k
          · have hd : decide ((j : Int) ∈ o.take k) = true := by simpa using hmem
            rw [hd] at kc
            have HMM := Lib.hid hmem
            clear hmem hd
            go_wp2
            go_ret
            refine TellsIf.no (fun q => ?_) (by rw [← HG.out]; exact hbr.out)
            have := q.nd.sublist (List.take_sublist (k + 1) o)
            rw [HTK.out] at this
            exact (List.nodup_append.1 this).2.2 _ HMM.out _ (by simp) rfl
          · have hd : decide ((j : Int) ∈ o.take k) = false := by simpa using hmem
            rw [hd] at kc
            have HMM := Lib.hid hmem
            clear hmem hd
            go_wp2
            go_roundw
            case rel => exact ⟨k + 1, by omega, by go_num, Lib.hid ⟨_, HBS.out.set j true, HEM.out.step HX.out j rfl, by
              rw [HTK.out]
              intro x hx
              rcases List.mem_append.1 hx with q | q
              · exact HPN.out.1 x q
              · simp at q; subst q; omega, by rw [HTK.out]; exact nd_snoc HPN.out.2 HMM.out⟩, Lib.hid (hbr.out.setCell (p := ⟨g, j, none⟩) (Nat.le_refl _) _)⟩
            case measure => simp [intOf]; omega
    · obtain rfl : k = m := by omega
      have HD : Hid (((k : Int) == (n : Int)) = decide (k = n)) := Lib.hid (by
        by_cases e : k = n
        · subst e; simp
        · have : ¬ (k : Int) = (n : Int) := by omega
          simp [e, this])
      have HT : Hid (k = n ↔ Once o n) := Lib.hid (by
        have h1 := HPN.out.1
        have h2 := HPN.out.2
        rw [List.take_of_length_le (by rw [HL.out]; exact Nat.le_refl _)] at h1 h2
        exact ⟨fun e => ⟨HL.out.trans e, h1, h2⟩, fun q => HL.out.symm.trans q.len⟩)
      go_wp2
      go_ret
      have := TellsIf.dec (w := w) (w' := wr) HT.out (by rw [← HG.out]; exact hbr.out)
      rw [← HD.out] at this
      exact this

set_option maxHeartbeats 1000000 in
theorem areSlots_t (A A2 : Option Addr) (m c m2 c2 B n : Nat) (S : Int) (l : List Int) (w : World) (h : IRow w B A2 m2 c2 l) (hB : B ≤ w.heap.size) :
    Calls Try.prog 29 #[planV A m c A2 m2 c2 S, .int .i64 (n : Int)] w (TellsIf (l.length = n ∧ ∀ x ∈ l, 0 ≤ x ∧ x < S) w) := by
  have hm := h.len_le
  unfold maxLen at hm
  have HL : Hid (l.length = m2) := Lib.hid h.1
  obtain ⟨W1, hW1⟩ : ∃ W1, W1 = w.alloc (.cells #[.slice A m c, .slice A2 m2 c2, .int .i64 S] 32) := ⟨_, rfl⟩
  have HB1 : Hid (Below w.heap.size w W1) := Lib.hid (by rw [hW1]; exact (Below.refl _ _).alloc (Nat.le_refl _) _)
  have HK : Hid (Blk W1 w.heap.size 32 #[.slice A m c, .slice A2 m2 c2, .int .i64 S]) := Lib.hid (by rw [hW1]; exact Blk.new _ _ _)
  have HR := Lib.hid (h.below (HB1.out.mono hB))
  clear h
  have r0 := HK.out.cell 0 rfl
  have r1 := HK.out.cell 1 rfl
  have r2 := HK.out.cell 2 rfl
  unfold planV
  go_enter Try.func29, Try.ntmps29
  go_upto_region 1 with fail
  rw [← hW1]
  clear hW1
  go_wp2_with fail
  go_loop [10] (fun t => ∃ k : Nat, k ≤ m2 ∧ t = .int .i64 k ∧ Hid (∀ x ∈ l.take k, 0 ≤ x ∧ x < S)) (fun t => m2 - (intOf t).toNat)
  case atStart => exact ⟨0, Nat.zero_le _, rfl, Lib.hid (by simp)⟩
  case round =>
    obtain ⟨k, hk, rfl, hz⟩ := hrel
    by_cases hlt : k < m2
    · obtain ⟨b, off, rfl, hlb, hcell⟩ := HR.out.at_ hlt
      have hkl : k < l.length := by rw [HL.out]; exact hlt
      obtain ⟨X, hX⟩ : ∃ X, X = l.getD k 0 := ⟨_, rfl⟩
      rw [← hX] at hcell
      have HXM : Hid (X ∈ l) := Lib.hid (by rw [hX]; exact getD_mem hkl)
      have HTK : Hid (l.take (k + 1) = l.take k ++ [X]) := Lib.hid (by rw [List.take_add_one, get_of_lt hkl, ← hX]; rfl)
      clear hX
      by_cases hX0 : X < 0
      · go_wp2
        go_ret
        exact TellsIf.no (fun q => by have := q.2 X HXM.out; omega) HB1.out
      · by_cases hX1 : S ≤ X
        · go_wp2
          go_ret
          exact TellsIf.no (fun q => by have := q.2 X HXM.out; omega) HB1.out
        · have hX2 : X < S := by omega
          have hX3 : 0 ≤ X := by omega
          go_wp2
          go_round
          case rel => exact ⟨k + 1, by omega, by go_num, Lib.hid (by
            rw [HTK.out]
            intro x hx
            rcases List.mem_append.1 hx with q | q
            · exact hz.out x q
            · simp at q; subst q; exact ⟨hX3, hX2⟩)⟩
          case measure => simp [intOf]; omega
    · obtain rfl : k = m2 := by omega
      have HD : Hid (((k : Int) == (n : Int)) = decide (k = n)) := Lib.hid (by
        by_cases e : k = n
        · subst e; simp
        · have : ¬ (k : Int) = (n : Int) := by omega
          simp [e, this])
      have HT : Hid (k = n ↔ l.length = n ∧ ∀ x ∈ l, 0 ≤ x ∧ x < S) := Lib.hid (by
        have h1 := hz.out
        rw [List.take_of_length_le (by rw [HL.out]; exact Nat.le_refl _)] at h1
        rw [HL.out]
        exact ⟨fun e => ⟨e, h1⟩, fun q => q.1⟩)
      go_wp2
      go_ret
      have := TellsIf.dec (w := w) HT.out HB1.out
      rw [← HD.out] at this
      exact this

end Go.Proofs.Ytioebjjnadgdjaa
