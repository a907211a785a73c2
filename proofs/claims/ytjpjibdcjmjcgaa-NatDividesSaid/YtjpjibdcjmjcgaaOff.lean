/- What takeOff does: a limb of the quotient, and the rest where it lay. -/
import Derived.Test.YtjpjibdcjmjcgaaGuess
namespace Go.Proofs.Ytjpjibdcjmjcgaa
open Go.RowKit Nums

theorem grown_trans {w w1 w2 : World} {row : Option Nat} (h1 : w.grownBy w1 none) (h2 : w1.grownBy w2 row) : w.grownBy w2 row :=
  ⟨h2.os.trans h1.os, h2.tape.trans h1.tape, h2.output.trans h1.output, Nat.le_trans h1.size h2.size, fun k hk hne => (h2.block k (Nat.lt_of_lt_of_le hk h1.size) hne).trans (h1.block k hk (by simp))⟩

theorem grown_trans2 {w w1 w2 : World} {row : Option Nat} (h1 : w.grownBy w1 row) (h2 : w1.grownBy w2 row) : w.grownBy w2 row :=
  ⟨h2.os.trans h1.os, h2.tape.trans h1.tape, h2.output.trans h1.output, Nat.le_trans h1.size h2.size, fun k hk hne => (h2.block k (Nat.lt_of_lt_of_le hk h1.size) hne).trans (h1.block k hk hne)⟩

theorem Mem.still {w w' : World} {g : Nat} {cs : List Nat} (h : Mem w g cs) (hg : w.grownBy w' none) : Mem w' g cs := h.keep (hg.block g h.lt (by simp))

set_option maxHeartbeats 2000000 in
theorem takeOff_any (g i m cap gb capb : Nat) (A D : Nat) (us ds es : List Nat) (cs : List Nat) (w : World)
    (hm : Mem w g (win cs i us)) (hA : us.length = m + 3) (hAs : Small us) (hi : i + (m + 3) ≤ cs.length) (hb : Mem w gb es) (hes : Small es) (hnd : m + 2 ≤ es.length) (hds : ds = es.take (m + 2)) (hne : gb ≠ g)
    (hmm : m ≤ 100000000) (hil : i ≤ 1000000000) (hAv : A = val us) (hDv : D = val ds) (hhigh : 2147483648 ≤ ds.getD (m + 1) 0) (hq : A < 4294967296 * D) :
    Calls Try.prog 56 #[.slice (some ⟨g, i, none⟩) (m + 3) cap, .slice (some ⟨gb, 0, none⟩) (m + 2) capb] w fun e w' =>
      (∃ zs : List Nat, e = .returned (.int .u32 (A / D : Nat)) ∧ zs.length = m + 3 ∧ Small zs ∧ Mem w' g (win cs i zs) ∧ val zs = A - A / D * D) ∧ w.grownBy w' (some g) := by
  have HD0 : Hid (0 < D) := by
    rcases Nat.eq_zero_or_pos D with h | h
    · rw [h] at hq; omega
    · exact h
  have HAM : Hid (A < 4294967296 ^ (m + 3)) := by have := val_lt us hAs; rw [hA, ← hAv] at this; exact this
  have HDM : Hid (D ≤ 4294967296 ^ (m + 3)) := by
    have h1 := val_lt ds (by rw [hds]; exact small_take hes _)
    rw [← hDv, hds, List.length_take, Nat.min_eq_left hnd] at h1
    have h2 : 4294967296 ^ (m + 2) ≤ 4294967296 ^ (m + 3) := Nat.pow_le_pow_right (by omega) (by omega)
    exact Nat.le_of_lt (Nat.lt_of_lt_of_le h1 h2)
  have HG := Lib.hid (guess_any g i m cap gb capb A D us ds es cs w hm hA hAs hi hb hes hnd hds (by omega) hil hAv hDv hhigh hq)
  have HM := Lib.hid hm; clear hm
  have HA := Lib.hid hA; clear hA
  have HAS := Lib.hid hAs; clear hAs
  have HB := Lib.hid hb; clear hb
  have HES := Lib.hid hes; clear hes
  have HDS := Lib.hid hds; clear hds
  have HAV := Lib.hid hAv; clear hAv
  have HDV := Lib.hid hDv; clear hDv
  have HNE := Lib.hid hne; clear hne hhigh hq
  go_enter Try.func56, Try.ntmps56
  go_wp2_with fail
  refine (HG.out).mono ?_
  rintro e w1 ⟨⟨t, rfl, ht, hq1, hq2⟩, hg1⟩
  have HQ1 := Lib.hid hq1; clear hq1
  have HQ2 := Lib.hid hq2; clear hq2
  have HG1 := Lib.hid hg1; clear hg1
  go_wp2_with fail
  refine (takeTimes_any g i (m + 2) cap gb capb t cs us es w1 _ rfl ht (HM.out.still HG1.out) HA.out HAS.out (by omega) (HB.out.still HG1.out) HES.out hnd HNE.out (by omega) hil).mono ?_
  rintro e w2 ⟨⟨zs, b', rfl, hb1, hzl, hzs, hzm, hzv⟩, hg2⟩
  rw [← HDS.out, ← HDV.out, ← HAV.out] at hzv
  have HZL := Lib.hid hzl; clear hzl
  have HZS := Lib.hid hzs; clear hzs
  have HZM := Lib.hid hzm; clear hzm
  have HZV := Lib.hid hzv; clear hzv
  have HG2 := Lib.hid (grown_trans HG1.out hg2)
  have HB2 := Lib.hid ((HB.out.still HG1.out).grown hg2 HNE.out); clear hg2
  rcases (by omega : b' = 0 ∨ b' = 1) with rfl | rfl
  · go_wp2
    go_ret
    have h := off_plain HZV.out rfl HQ1.out HD0.out
    exact ⟨⟨zs, congrArg Ending.returned (congrArg (Value.int .u32) (congrArg Int.ofNat h.2)), HZL.out, HZS.out, HZM.out, h.1⟩, HG2.out⟩
  · go_wp2_with fail
    refine (giveBack_any g i (m + 2) cap gb capb cs zs es w2 HZM.out HZL.out HZS.out (by omega) HB2.out HES.out hnd HNE.out (by omega) hil).mono ?_
    rintro e w3 ⟨⟨ys, c', rfl, hyl, hys, hym, hyv⟩, hg3⟩
    rw [← HDS.out, ← HDV.out] at hyv
    have HV1 : Hid (val zs < 4294967296 ^ (m + 3)) := by have := val_lt zs HZS.out; rw [HZL.out] at this; exact this
    have HV2 : Hid (val ys < 4294967296 ^ (m + 3)) := by have := val_lt ys hys; rw [hyl] at this; exact this
    have HOFF := Lib.hid (off_back HV1.out HV2.out HDM.out HZV.out rfl hyv HQ2.out HD0.out)
    have HYL := Lib.hid hyl; clear hyl
    have HYS := Lib.hid hys; clear hys
    have HYM := Lib.hid hym; clear hym hyv
    have HG3 := Lib.hid (grown_trans2 HG2.out hg3); clear hg3
    have ht0 : 0 < t := HOFF.out.1
    go_wp2
    go_ret
    refine ⟨⟨ys, congrArg Ending.returned (congrArg (Value.int .u32) ?_), HYL.out, HYS.out, HYM.out, HOFF.out.2.2⟩, HG3.out⟩
    rw [← HOFF.out.2.1]
    show ((t : Int) - 1) = _
    omega
end Go.Proofs.Ytjpjibdcjmjcgaa
