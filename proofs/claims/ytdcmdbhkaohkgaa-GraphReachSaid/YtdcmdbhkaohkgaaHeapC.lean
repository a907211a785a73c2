/- What heap's up, down, Push and Pop tell of a heap of numbers: what lies in it, as often. No condition but bounds. -/
import Derived.Test.YtdcmdbhkaohkgaaHeapB
import Derived.IntWalk
namespace Go.Proofs.Ytdcmdbhkaohkgaa
open Go.RowKit

def hv (gh : Nat) : Value := .iface 36 (.pointer (some ⟨gh, 0, none⟩))

/-- the heap's numbers have changed their places -/
def MixPost (B gh : Nat) (v : Value) (hs : List Int) (w : World) (e : Ending) (w' : World) : Prop :=
  (∃ u, e = .returned u) ∧ (∃ hs', hs'.Perm hs ∧ HB w' B gh v hs') ∧ HStep gh v v w w'

theorem HB.swapped {w w' : World} {B gh : Nat} {v : Value} {hs hs' : List Int} (h : HB w B gh v hs) (ho : Own w' B v hs') (hb : Only [v.ownBlock] w w') : HB w' B gh v hs' ∧ HStep gh v v w w' :=
  ⟨⟨(hb.block gh h.lt (by simp; exact fun e => h.ne e.symm)).trans h.1, ho⟩, hb.weak (by intro j hj; simp at hj ⊢; exact Or.inr hj), fun k hk => Or.inl hk⟩

theorem HB.only0 {w w' : World} {B gh : Nat} {v : Value} {hs : List Int} (h : HB w B gh v hs) (hb : Only [] w w') : HB w' B gh v hs ∧ HStep gh v v w w' :=
  ⟨h.keep hb (by simp) (by simp), hb.weak (by simp), fun k hk => Or.inl hk⟩

theorem less_at (B gh : Nat) (v : Value) (hs : List Int) (I J : Int) (i j : Nat) (w : World) (h : HB w B gh v hs) (hI : I = (i : Int)) (hJ : J = (j : Int)) (hi : i < hs.length) (hj : j < hs.length) (hl : hs.length ≤ 1000000000) :
    Calls Try.prog 46 #[v, .int .i64 I, .int .i64 J] w fun e w' => (∃ b, e = .returned (.bool b)) ∧ HB w' B gh v hs ∧ HStep gh v v w w' := by
  subst hI hJ
  exact (less_any B v hs i j w h.2 hi hj hl).mono fun e w' ⟨h1, h2⟩ => ⟨h1, h.only0 h2⟩

theorem swap_at (B gh : Nat) (v : Value) (hs : List Int) (I J : Int) (i j : Nat) (w : World) (h : HB w B gh v hs) (hI : I = (i : Int)) (hJ : J = (j : Int)) (hi : i < hs.length) (hj : j < hs.length) (hl : hs.length ≤ 1000000000) :
    Calls Try.prog 47 #[v, .int .i64 I, .int .i64 J] w fun e w' => e = .returned (.tuple #[]) ∧ (∃ hs', hs'.Perm hs ∧ HB w' B gh v hs') ∧ HStep gh v v w w' := by
  subst hI hJ
  refine (swap_any B v hs i j w h.2 hi hj hl).mono fun e w' ⟨h1, ⟨hs', hp, ho⟩, hb⟩ => ?_
  have := h.swapped ho hb
  exact ⟨h1, ⟨hs', hp, this.1⟩, this.2⟩

set_option maxHeartbeats 2000000 in
theorem up_any (B gh : Nat) (v : Value) (hs : List Int) (j : Nat) (w : World) (h : HB w B gh v hs) (hj : j < hs.length) (hl : hs.length ≤ 1000000) :
    Calls Try.prog 24 #[.iface 36 (.pointer (some ⟨gh, 0, none⟩)), .int .i64 (j : Int)] w (MixPost B gh v hs w) := by
  obtain ⟨n, hn⟩ : ∃ n, n = hs.length := ⟨_, rfl⟩
  rw [← hn] at hj hl
  have HN := Lib.hid hn; clear hn
  have HH := Lib.hid h; clear h
  go_enter Try.func24, Try.ntmps24
  go_wp2
  go_loopw [1] (fun t wr => ∃ k : Nat, k < n ∧ t = .int .i64 (k : Int) ∧ Hid ((∃ hs', hs'.Perm hs ∧ HB wr B gh v hs') ∧ HStep gh v v w wr)) (fun t _ => (intOf t).toNat)
  case atStart => exact ⟨j, hj, rfl, ⟨hs, List.Perm.refl _, HH.out⟩, HStep.refl _ _ _⟩
  case round =>
    obtain ⟨k, hk, rfl, HZ⟩ := hrel
    obtain ⟨⟨hs1, hp1, hb1⟩, hst1⟩ := HZ.out
    clear HZ
    have hn1 : hs1.length = n := by rw [hp1.length_eq, HN.out]
    have HN1 := Lib.hid hn1; clear hn1
    have HP1 := Lib.hid hp1; clear hp1
    have HB1 := Lib.hid hb1; clear hb1
    have HS1 := Lib.hid hst1; clear hst1
    rcases Nat.eq_zero_or_pos k with rfl | hk0
    · go_wp2
      go_end0
      exact ⟨⟨_, rfl⟩, ⟨hs1, HP1.out, HB1.out⟩, HS1.out⟩
    · obtain ⟨p, rfl⟩ : ∃ p, k = p + 1 := ⟨k - 1, by omega⟩
      have e1 : ((p + 1 : Nat) : Int) - 1 = (p : Int) := by omega
      have e2 : (p : Int) / 2 = ((p / 2 : Nat) : Int) := by omega
      obtain ⟨i, hi⟩ : ∃ i, i = p / 2 := ⟨_, rfl⟩
      rw [← hi] at e2
      have hip : i ≤ p := by omega
      have hne : (((i : Nat) : Int) == ((p + 1 : Nat) : Int)) = false := by rw [beq_eq_false_iff_ne]; omega
      have HI := Lib.hid hi; clear hi
      have hm1 := meth_less gh v wr HB1.out.cell HB1.out.isSlice
      go_wp2_with fail
      refine (less_at B gh v hs1 _ _ (p + 1) i wr HB1.out (by omega) rfl (by have := HN1.out; omega) (by have := HN1.out; omega) (by have := HN1.out; omega)).mono ?_
      rintro e w1 ⟨⟨b, rfl⟩, hb2, hst2⟩
      have HB2 := Lib.hid hb2; clear hb2
      have HS2 := Lib.hid hst2; clear hst2
      clear hm1
      cases b with
      | false =>
        go_wp2
        go_end0
        exact ⟨⟨_, rfl⟩, ⟨hs1, HP1.out, HB2.out⟩, HS1.out.trans HS2.out⟩
      | true =>
        have hm2 := meth_swap gh v w1 HB2.out.cell HB2.out.isSlice
        go_wp2_with fail
        refine (swap_at B gh v hs1 _ _ i (p + 1) w1 HB2.out rfl (by omega) (by have := HN1.out; omega) (by have := HN1.out; omega) (by have := HN1.out; omega)).mono ?_
        rintro e w2 ⟨rfl, ⟨hs3, hp3, hb3⟩, hst3⟩
        have HB3 := Lib.hid hb3; clear hb3
        have HS3 := Lib.hid hst3; clear hst3
        have HP3 := Lib.hid hp3; clear hp3
        clear hm2
        go_wp2
        go_roundw
        case rel => exact ⟨i, by omega, rfl, ⟨hs3, HP3.out.trans HP1.out, HB3.out⟩, (HS1.out.trans HS2.out).trans HS3.out⟩
        case measure => simp [intOf]; omega

set_option maxHeartbeats 2000000 in
/-- down, from place 0, over the first m of them -/
theorem down_any (B gh : Nat) (v : Value) (hs : List Int) (m : Nat) (w : World) (h : HB w B gh v hs) (hm : m < hs.length) (hl : hs.length ≤ 1000000) :
    Calls Try.prog 25 #[.iface 36 (.pointer (some ⟨gh, 0, none⟩)), .int .i64 0, .int .i64 (m : Int)] w (MixPost B gh v hs w) := by
  obtain ⟨n, hn⟩ : ∃ n, n = hs.length := ⟨_, rfl⟩
  rw [← hn] at hm hl
  have HN := Lib.hid hn; clear hn
  have HH := Lib.hid h; clear h
  go_enter Try.func25, Try.ntmps25
  go_wp2
  go_loopw [7] (fun t wr => ∃ k : Nat, k < n ∧ t = .int .i64 (k : Int) ∧ Hid ((∃ hs', hs'.Perm hs ∧ HB wr B gh v hs') ∧ HStep gh v v w wr)) (fun t _ => n - (intOf t).toNat)
  case atStart => exact ⟨0, by omega, rfl, ⟨hs, List.Perm.refl _, HH.out⟩, HStep.refl _ _ _⟩
  case round =>
    obtain ⟨k, hk, rfl, HZ⟩ := hrel
    obtain ⟨⟨hs1, hp1, hb1⟩, hst1⟩ := HZ.out
    clear HZ
    have hn1 : hs1.length = n := by rw [hp1.length_eq, HN.out]
    have HN1 := Lib.hid hn1; clear hn1
    have HP1 := Lib.hid hp1; clear hp1
    have HB1 := Lib.hid hb1; clear hb1
    have HS1 := Lib.hid hst1; clear hst1
    by_cases hend : m ≤ 2 * k + 1
    · go_wp2
      go_ret
      exact ⟨⟨_, rfl⟩, ⟨hs1, HP1.out, HB1.out⟩, HS1.out⟩
    · by_cases hj2 : 2 * k + 1 + 1 < m
      · have hm1 := meth_less gh v wr HB1.out.cell HB1.out.isSlice
        go_wp2_with fail
        refine (less_at B gh v hs1 _ _ (2 * k + 1 + 1) (2 * k + 1) wr HB1.out (by omega) (by omega) (by have := HN1.out; omega) (by have := HN1.out; omega) (by have := HN1.out; omega)).mono ?_
        rintro e w1 ⟨⟨b, rfl⟩, hb2, hst2⟩
        have HB2 := Lib.hid hb2; clear hb2
        have HS2 := Lib.hid hst2; clear hst2
        clear hm1
        have hm2 := meth_less gh v w1 HB2.out.cell HB2.out.isSlice
        cases b with
        | false =>
          go_wp2_with fail
          refine (less_at B gh v hs1 _ _ (2 * k + 1) k w1 HB2.out (by omega) rfl (by have := HN1.out; omega) (by have := HN1.out; omega) (by have := HN1.out; omega)).mono ?_
          rintro e w2 ⟨⟨b, rfl⟩, hb3, hst3⟩
          have HB3 := Lib.hid hb3; clear hb3
          have HS3 := Lib.hid hst3; clear hst3
          clear hm2
          cases b with
          | false =>
            go_wp2
            go_ret
            exact ⟨⟨_, rfl⟩, ⟨hs1, HP1.out, HB3.out⟩, (HS1.out.trans HS2.out).trans HS3.out⟩
          | true =>
            have hm3 := meth_swap gh v w2 HB3.out.cell HB3.out.isSlice
            go_wp2_with fail
            refine (swap_at B gh v hs1 _ _ k (2 * k + 1) w2 HB3.out rfl (by omega) (by have := HN1.out; omega) (by have := HN1.out; omega) (by have := HN1.out; omega)).mono ?_
            rintro e w3 ⟨rfl, ⟨hs3, hp3, hb4⟩, hst4⟩
            have HB4 := Lib.hid hb4; clear hb4
            have HS4 := Lib.hid hst4; clear hst4
            have HP3 := Lib.hid hp3; clear hp3
            clear hm3
            go_wp2
            go_roundw
            case rel => exact ⟨2 * k + 1, by omega, by go_num, ⟨hs3, HP3.out.trans HP1.out, HB4.out⟩, ((HS1.out.trans HS2.out).trans HS3.out).trans HS4.out⟩
            case measure => simp [intOf]; omega
        | true =>
          go_wp2_with fail
          refine (less_at B gh v hs1 _ _ (2 * k + 1 + 1) k w1 HB2.out (by omega) rfl (by have := HN1.out; omega) (by have := HN1.out; omega) (by have := HN1.out; omega)).mono ?_
          rintro e w2 ⟨⟨b, rfl⟩, hb3, hst3⟩
          have HB3 := Lib.hid hb3; clear hb3
          have HS3 := Lib.hid hst3; clear hst3
          clear hm2
          cases b with
          | false =>
            go_wp2
            go_ret
            exact ⟨⟨_, rfl⟩, ⟨hs1, HP1.out, HB3.out⟩, (HS1.out.trans HS2.out).trans HS3.out⟩
          | true =>
            have hm3 := meth_swap gh v w2 HB3.out.cell HB3.out.isSlice
            go_wp2_with fail
            refine (swap_at B gh v hs1 _ _ k (2 * k + 1 + 1) w2 HB3.out rfl (by omega) (by have := HN1.out; omega) (by have := HN1.out; omega) (by have := HN1.out; omega)).mono ?_
            rintro e w3 ⟨rfl, ⟨hs3, hp3, hb4⟩, hst4⟩
            have HB4 := Lib.hid hb4; clear hb4
            have HS4 := Lib.hid hst4; clear hst4
            have HP3 := Lib.hid hp3; clear hp3
            clear hm3
            go_wp2
            go_roundw
            case rel => exact ⟨2 * k + 1 + 1, by omega, by go_num, ⟨hs3, HP3.out.trans HP1.out, HB4.out⟩, ((HS1.out.trans HS2.out).trans HS3.out).trans HS4.out⟩
            case measure => simp [intOf]; omega
      · have hm2 := meth_less gh v wr HB1.out.cell HB1.out.isSlice
        go_wp2_with fail
        refine (less_at B gh v hs1 _ _ (2 * k + 1) k wr HB1.out (by omega) rfl (by have := HN1.out; omega) (by have := HN1.out; omega) (by have := HN1.out; omega)).mono ?_
        rintro e w2 ⟨⟨b, rfl⟩, hb3, hst3⟩
        have HB3 := Lib.hid hb3; clear hb3
        have HS3 := Lib.hid hst3; clear hst3
        clear hm2
        cases b with
        | false =>
          go_wp2
          go_ret
          exact ⟨⟨_, rfl⟩, ⟨hs1, HP1.out, HB3.out⟩, HS1.out.trans HS3.out⟩
        | true =>
          have hm3 := meth_swap gh v w2 HB3.out.cell HB3.out.isSlice
          go_wp2_with fail
          refine (swap_at B gh v hs1 _ _ k (2 * k + 1) w2 HB3.out rfl (by omega) (by have := HN1.out; omega) (by have := HN1.out; omega) (by have := HN1.out; omega)).mono ?_
          rintro e w3 ⟨rfl, ⟨hs3, hp3, hb4⟩, hst4⟩
          have HB4 := Lib.hid hb4; clear hb4
          have HS4 := Lib.hid hst4; clear hst4
          have HP3 := Lib.hid hp3; clear hp3
          clear hm3
          go_wp2
          go_roundw
          case rel => exact ⟨2 * k + 1, by omega, by go_num, ⟨hs3, HP3.out.trans HP1.out, HB4.out⟩, (HS1.out.trans HS3.out).trans HS4.out⟩
          case measure => simp [intOf]; omega

end Go.Proofs.Ytdcmdbhkaohkgaa
