/- The law GraphOrder tells true. No condition. -/
import Derived.Test.YtdcmdbhkaohkgaaLaw
namespace Go.Proofs.Ytdcmdbhkaohkgaa
open Go.RowKit Gr

theorem bset_true' (bs : List Bool) (j k : Nat) (hj : j < bs.length) : (bs.set j true).getD k false = true ↔ bs.getD k false = true ∨ k = j := bset_true bs j k hj

theorem split_at (out : List Nat) (i : Nat) (h : i < out.length) : out = out.take i ++ out.getD i 0 :: out.drop (i + 1) := by
  have e : out.getD i 0 = out[i] := by simp [h]
  rw [e, ← List.drop_eq_getElem_cons h, List.take_append_drop]

set_option maxHeartbeats 4000000 in
theorem graphOrder_walk (a : Option Addr) (n c : Nat) (G : List (List Int)) (w : World) (hg : GRow w w.heap.size a n c G) :
    Calls Try.prog 3 #[.slice a n c] w fun e w' => e = .returned (.bool true) ∧ Below w.heap.size w w' := by
  have HL : Hid (G.length = n) := hg.1
  have hm := hg.len_le
  unfold maxLen at hm
  have HG := Lib.hid hg; clear hg
  go_enter Try.func3, Try.ntmps3
  go_wp2_with fail
  refine (few_any a n c _ G w HG.out).mono ?_
  rintro e w' ⟨⟨b, rfl, hfew⟩, rfl⟩
  cases b with
  | false =>
    clear hfew
    go_wp2
    go_ret
    exact ⟨rfl, Below.refl _ _⟩
  | true =>
    have hF := hfew rfl
    have hn20 : n ≤ 20 := by have := hF.1; have h2 := HL.out; omega
    have htot := tot_few hF
    have HTO := Lib.hid htot; clear htot hF hfew
    go_wp2_with fail
    refine (order_any a n c _ G w HG.out (Nat.le_refl _) (by omega) HTO.out).mono ?_
    rintro e w1 ⟨h, hb1⟩
    have HB1 := Lib.hid hb1; clear hb1
    rcases h with ⟨a1, c1, out, rfl, hr, ho⟩ | ⟨rfl, hs⟩
    · obtain ⟨L, hL⟩ : ∃ L, L = out.length := ⟨_, rfl⟩
      rw [← hL] at hr ⊢
      have hLn : L = n := by rw [hL, ho.1, HL.out]
      subst hLn
      have HLL := Lib.hid hL; clear hL
      have HR := Lib.hid hr; clear hr
      have HO := Lib.hid ho; clear ho
      have HG1 := Lib.hid (HG.out.below HB1.out)
      go_wp2_with (at_make; refine makeB rfl _ rfl _ L rfl rfl (by omega) ?_)
      intro w2 hm2 hb2
      obtain ⟨gd, hgd⟩ : ∃ gd, gd = w1.heap.size := ⟨_, rfl⟩
      rw [← hgd] at hm2 ⊢
      have hgw : w1.heap.size ≤ gd := by omega
      have HM2 := Lib.hid hm2; clear hm2
      have HGD := Lib.hid hgd; clear hgd
      go_wp2
      go_loopw [6] (fun t wr => ∃ (i : Nat) (bs : List Bool), i ≤ L ∧ t = .int .i64 (i : Int) ∧ Hid (BMem wr gd bs ∧ bs.length = L ∧ ∀ k, k < L → (bs.getD k false = true ↔ k ∈ out.take i)) ∧ Below w1.heap.size w1 wr) (fun t _ => L - (intOf t).toNat)
      case atStart => exact ⟨0, _, Nat.zero_le _, rfl, ⟨HM2.out, by simp, fun k hk => by simp [hk]⟩, hb2⟩
      case round =>
        obtain ⟨i, bs, hi, rfl, HZ, hbr⟩ := hrel
        by_cases hi0 : i < L
        · obtain ⟨wo, rfl⟩ : ∃ wo : World, wo = wr := ⟨_, rfl⟩
          obtain ⟨b3, o3, rfl, hb3, hc3⟩ := (HR.out.below hbr).at_ hi0
          rw [ints_getD] at hc3
          obtain ⟨x, hx⟩ : ∃ x, x = out.getD i 0 := ⟨_, rfl⟩
          rw [← hx] at hc3
          have hio : i < out.length := by rw [← HLL.out]; exact hi0
          have hxm : x ∈ out := by
            have e : out.getD i 0 = out[i] := by simp only [List.getD, List.getElem?_eq_getElem hio, Option.getD_some]
            rw [hx, e]; exact List.getElem_mem hio
          have hxn : x < L := by have := HO.out.2.2.1 x hxm; rw [HL.out] at this; exact this
          have hsp := split_at out i hio
          rw [← hx] at hsp
          have hnot : x ∉ out.take i := by
            intro q
            have hnd := HO.out.2.1
            rw [hsp] at hnd
            exact (List.nodup_append.1 hnd).2.2 x q x (by simp) rfl
          have hcx := HZ.out.1.cell x (by rw [HZ.out.2.1]; exact hxn)
          have hfx := HZ.out.1.free x
          have hbx : bs.getD x false = false := by
            cases hq : bs.getD x false with
            | false => rfl
            | true => exact (hnot ((HZ.out.2.2 x hxn).1 hq)).elim
          rw [hbx] at hcx
          have hordx := HO.out.2.2.2 _ _ _ hsp
          have HX := Lib.hid (And.intro hx (And.intro hordx (And.intro hio hsp))); clear hx hordx hio hsp hxm hnot hbx
          have hxI : (x : Int) < (L : Int) := by omega
          have hx0 : ¬ (x : Int) < 0 := by omega
          have HBO := Lib.hid hbr; clear hbr
          go_wp2
          go_loop [7] (fun t => ∃ k : Nat, k ≤ L ∧ t = .int .i64 (k : Int)) (fun t => L - (intOf t).toNat)
          case atStart => exact ⟨0, Nat.zero_le _, rfl⟩
          case round =>
            obtain ⟨k, hk, rfl⟩ := hrel
            by_cases hk0 : k < L
            · have hck := HZ.out.1.cell k (by rw [HZ.out.2.1]; exact hk0)
              have HN := Lib.hid (needs_any a L c _ G (x : Int) (k : Int) wo ((HG1.out.more HB1.out.size).below HBO.out))
              have hkI : (k : Int) < (L : Int) := by omega
              cases hnd : ndB G (x : Int) (k : Int) with
              | false =>
                rw [hnd] at HN
                have HND := Lib.hid hnd; clear hnd
                go_wp2_with fail
                refine HN.out.mono ?_
                rintro e w' ⟨rfl, rfl⟩
                go_wp2
                go_round
                case rel => exact ⟨k + 1, by omega, by go_num⟩
                case measure => simp [intOf]; omega
              | true =>
                have hbk : bs.getD k false = true := (HZ.out.2.2 k hk0).2 (HX.out.2.1 k ((ndB_iff G x k).1 hnd))
                rw [hnd] at HN
                rw [hbk] at hck
                clear hnd hbk
                go_wp2_with fail
                refine HN.out.mono ?_
                rintro e w' ⟨rfl, rfl⟩
                go_wp2
                go_round
                case rel => exact ⟨k + 1, by omega, by go_num⟩
                case measure => simp [intOf]; omega
            · obtain rfl : k = L := by omega
              go_wp2
              go_roundw
              case rel =>
                refine ⟨i + 1, bs.set x true, by omega, by go_num, ⟨HZ.out.1.set x true, by simp [HZ.out.2.1], fun j hj => ?_⟩, HBO.out.setCell (p := ⟨gd, x, none⟩) hgw _⟩
                rw [bset_true bs x j (by rw [HZ.out.2.1]; exact hxn), HZ.out.2.2 j hj, take_snocN out i HX.out.2.2.1, ← HX.out.1]
                simp
              case measure => simp [intOf]; omega
        · obtain rfl : i = L := by omega
          go_wp2_with fail
          refine (awake_any wr).mono ?_
          rintro e w9 ⟨rfl, hb9⟩
          have HB9 : Hid (Below w.heap.size w w9) := HB1.out.trans ((hbr.trans (hb9.mono hbr.size)).mono HB1.out.size)
          clear hb9
          go_wp2
          go_ret
          exact ⟨rfl, HB9.out⟩
    · clear hs
      go_wp2_with fail
      refine (awake_any w1).mono ?_
      rintro e w9 ⟨rfl, hb9⟩
      have HB9 : Hid (Below w.heap.size w w9) := HB1.out.trans (hb9.mono HB1.out.size)
      clear hb9
      go_wp2
      go_ret
      exact ⟨rfl, HB9.out⟩
end Go.Proofs.Ytdcmdbhkaohkgaa
