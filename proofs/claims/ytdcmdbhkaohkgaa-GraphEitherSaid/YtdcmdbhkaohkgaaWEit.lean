/- The law GraphEither tells true. No condition. -/
import Derived.Test.YtdcmdbhkaohkgaaLaw
import Derived.Deep.QuietTactic
namespace Go.Proofs.Ytdcmdbhkaohkgaa
open Go.RowKit Gr

theorem order_ok (a : Option Addr) (n c B : Nat) (G : List (List Int)) (w : World) (hg : GRow w B a n c G) (hB : B ≤ w.heap.size) (hn : n ≤ 100000) (ht : Gr.tot G ≤ 1000000) :
    Calls Try.prog 8 #[.slice a n c] w fun e w' => (∃ v b, e = .returned (.tuple #[v, .bool b]) ∧ (b = true ↔ ∀ j, ¬ Gr.Way G j j)) ∧ Below w.heap.size w w' := by
  refine (order_any a n c B G w hg hB hn ht).mono ?_
  rintro e w' ⟨h, hb⟩
  refine ⟨?_, hb⟩
  rcases h with ⟨a1, c1, out, rfl, hr, ho⟩ | ⟨rfl, hs⟩
  · exact ⟨_, true, rfl, fun _ => ho.noWay, fun _ => rfl⟩
  · refine ⟨_, false, rfl, fun h => (by cases h), fun h => ?_⟩
    obtain ⟨j, hj⟩ := hs.way
    exact (h j hj).elim

theorem cyc_len {G : List (List Int)} {c : List Nat} (h : Cyc G c) : (c.length = 0 ↔ ∀ j, ¬ Gr.Way G j j) ∧ c.length ≤ G.length := by
  rcases h with ⟨rfl, h⟩ | ⟨h1, h2, h3, h4, h5, h6⟩
  · exact ⟨⟨fun _ => h, fun _ => rfl⟩, Nat.zero_le _⟩
  · refine ⟨⟨fun e => by omega, fun h => ?_⟩, nodup_len G.length c h3 h2⟩
    exfalso
    -- the walk round the cycle
    have key : ∀ m, m < c.length → Pth G (c.getD 0 0) (c.getD m 0) := by
      intro m
      induction m with
      | zero => intro _; exact Pth.refl _ _
      | succ m ih =>
        intro hm
        have := h4 m (by omega)
        rw [Nat.mod_eq_of_lt hm] at this
        exact (ih (by omega)).trans (Pth.one this)
    have hl := h4 (c.length - 1) (by omega)
    have e : c.length - 1 + 1 = c.length := by omega
    rw [e, Nat.mod_self] at hl
    exact h _ ((key (c.length - 1) (by omega)).way hl)

set_option maxHeartbeats 4000000 in
theorem graphEither_walk (a : Option Addr) (n c : Nat) (G : List (List Int)) (w : World) (hg : GRow w w.heap.size a n c G) :
    Calls Try.prog 4 #[.slice a n c] w fun e w' => e = .returned (.bool true) ∧ Below w.heap.size w w' := by
  have HL : Hid (G.length = n) := hg.1
  have hm := hg.len_le
  unfold maxLen at hm
  have HG := Lib.hid hg; clear hg
  go_enter Try.func4, Try.ntmps4
  go_wp2_with fail
  refine (few_any a n c _ G w HG.out).mono ?_
  rintro e w' ⟨⟨b, rfl, hfew⟩, rfl⟩
  cases b with
  | false =>
    clear hfew
    go_wp2
    go_ret
    exact ⟨rfl, Below.refl _ _⟩
  | true =>
    have hF := hfew rfl
    have hn20 : n ≤ 20 := by have := hF.1; have h2 := HL.out; omega
    have htot := tot_few hF
    have HTO := Lib.hid htot; clear htot hF hfew
    go_wp2_with fail
    refine (order_ok a n c _ G w HG.out (Nat.le_refl _) (by omega) HTO.out).mono ?_
    rintro e w1 ⟨⟨v1, ok, rfl, hok⟩, hb1⟩
    have HOK := Lib.hid hok; clear hok
    have HB1 := Lib.hid hb1; clear hb1
    have HG1 := Lib.hid ((HG.out.below HB1.out).more HB1.out.size)
    go_wp2_with fail
    refine (cycle_any a n c _ G w1 HG1.out (Nat.le_refl _) (by omega) HTO.out).mono ?_
    rintro e w2 ⟨a2, c2, cy, rfl, hr2, hcy, hb2⟩
    have hcl := cyc_len hcy
    obtain ⟨L, hL⟩ : ∃ L, L = cy.length := ⟨_, rfl⟩
    rw [← hL] at hr2 hcl ⊢
    rw [HL.out] at hcl
    have hL20 : L ≤ 20 := by omega
    have HLL := Lib.hid hL; clear hL
    have HCL := Lib.hid hcl.1; clear hcl
    have HR := Lib.hid hr2; clear hr2
    have HCY := Lib.hid hcy; clear hcy
    have HB2 : Hid (Below w.heap.size w w2) := HB1.out.trans (hb2.mono HB1.out.size)
    have HG2 := Lib.hid ((HG1.out.below hb2).more hb2.size)
    clear hb2
    go_wp2
    go_loopw [6] (fun t wr => ∃ i : Nat, i ≤ L ∧ t = .int .i64 (i : Int) ∧ Hid (Only [] w2 wr)) (fun t _ => L - (intOf t).toNat)
    case atStart => exact ⟨0, Nat.zero_le _, rfl, Only.refl _ _⟩
    case round =>
      obtain ⟨i, hi, rfl, hq⟩ := hrel
      have HR1 := Lib.hid (HR.out.only hq.out (Nat.le_refl _) (by simp))
      have hbq : Below w2.heap.size w2 wr := hq.out.below (Nat.le_refl _) (by simp)
      have HBQ := Lib.hid hbq; clear hbq
      by_cases hi0 : i < L
      · obtain ⟨b3, o3, rfl, hb3, hc3⟩ := HR1.out.at_ hi0
        have hmod : (i + 1) % L < L := Nat.mod_lt _ (by omega)
        obtain ⟨b4, o4, e4, hb4, hc4⟩ := HR1.out.at_ hmod
        injection e4 with e4
        injection e4 with e4 e5
        subst e4 e5
        rw [ints_getD] at hc3 hc4
        obtain ⟨x, hx⟩ : ∃ x, x = cy.getD i 0 := ⟨_, rfl⟩
        obtain ⟨y, hy⟩ : ∃ y, y = cy.getD ((i + 1) % L) 0 := ⟨_, rfl⟩
        obtain ⟨j, hj⟩ : ∃ j, j = (i + 1) % L := ⟨_, rfl⟩
        rw [← hx] at hc3
        rw [← hy] at hc4
        rw [← hj] at hc4 hmod hy
        have hE : E G x y := by
          rcases HCY.out with ⟨e, _⟩ | ⟨_, _, _, h4, _, _⟩
          · have := HLL.out; rw [e] at this; simp at this; omega
          · have := h4 i (by rw [← HLL.out]; exact hi0)
            rw [← HLL.out, ← hj, ← hx, ← hy] at this
            exact this
        have hnd := (ndB_iff G x y).2 hE
        have HN : Hid (∀ k, Calls Try.prog 10 #[.slice a n c, .int .i64 (x : Int), .int .i64 (y : Int)] (wr.drewN k) fun e w' => e = .returned (.bool true) ∧ w' = wr.drewN k) := fun k => by
          have h := needs_any a n c _ G (x : Int) (y : Int) (wr.drewN k) ((HG2.out.below HBQ.out).keep (fun _ _ => rfl))
          rw [hnd] at h
          exact h.mono (fun e w' ⟨h1, h2⟩ => ⟨h1, h2.symm⟩)
        have hjI : ((i : Int) + 1) % (L : Int) = (j : Int) := by rw [hj]; push_cast; rfl
        have HX := Lib.hid (And.intro hx (And.intro hy hj)); clear hx hy hj hE hnd
        have hiI : (i : Int) < (L : Int) := by omega
        have hjlt : (j : Int) < (L : Int) := by omega
        have hL0 : (0 : Int) < (L : Int) := by omega
        have hw1 : IntKind.i64.wrap ((i : Int) + 1) = (i : Int) + 1 := IntWalk.i64_in _ (by omega)
        have hw2 : ((i : Int) + 1).tmod (L : Int) = (j : Int) := by rw [Int.tmod_eq_emod_of_nonneg (by omega)]; exact hjI
        have hw3 : IntKind.i64.wrap (j : Int) = (j : Int) := IntWalk.i64_in _ (by omega)
        have hw4 : (0 : Int) ≤ (i : Int) + 1 := by omega
        have hw5 : (0 : Int) ≤ (j : Int) := by omega
        go_wp2
        go_quiet ((go_at_call 10; exact Calls.quiet_of_same (HN.out _)))
        obtain ⟨wo, hwo⟩ : ∃ wo, wo = wr.drewN nq := ⟨_, rfl⟩
        have hoo : Only [] w2 wo := by rw [hwo]; exact ⟨hq.out.os, hq.out.tape, hq.out.output, hq.out.size, hq.out.block⟩
        rw [← hwo]
        have HOO := Lib.hid hoo; clear hoo hwo
        clear hw1 hw2 hw3 hjI hc3 hc4
        go_wp2
        go_loopw [7] (fun t wr => ∃ k : Nat, k ≤ i ∧ t = .int .i64 (k : Int) ∧ Hid (Only [] w2 wr)) (fun t _ => i - (intOf t).toNat)
        case atStart => exact ⟨0, Nat.zero_le _, rfl, HOO.out⟩
        case round =>
          clear HR1 HN HBQ hq
          obtain ⟨k, hk, rfl, hq⟩ := hrel
          by_cases hk0 : k < i
          · have HR2 := Lib.hid (HR.out.only hq.out (Nat.le_refl _) (by simp))
            obtain ⟨b5, o5, e5, hb5, hc5⟩ := HR2.out.at_ hi0
            injection e5 with e5
            injection e5 with e5 e6
            subst e5 e6
            obtain ⟨b6, o6, e5, hb6, hc6⟩ := HR2.out.at_ (show k < L by omega)
            injection e5 with e5
            injection e5 with e5 e6
            subst e5 e6
            rw [ints_getD] at hc5 hc6
            rw [← HX.out.1] at hc5
            obtain ⟨z, hz⟩ : ∃ z, z = cy.getD k 0 := ⟨_, rfl⟩
            rw [← hz] at hc6
            have hne : ((z : Int) == (x : Int)) = false := by
              rw [beq_eq_false_iff_ne]
              intro e
              have e' : cy.getD k 0 = cy.getD i 0 := by rw [← hz, ← HX.out.1]; omega
              rcases HCY.out with ⟨e0, _⟩ | ⟨_, _, h3, _, _, _⟩
              · have := HLL.out; rw [e0] at this; simp at this; omega
              · have hkc : k < cy.length := by rw [← HLL.out]; omega
                have hic : i < cy.length := by rw [← HLL.out]; omega
                have g1 : cy.getD k 0 = cy[k] := by simp [hkc]
                have g2 : cy.getD i 0 = cy[i] := by simp [hic]
                rw [g1, g2] at e'
                exact List.pairwise_iff_getElem.1 h3 k i hkc hic hk0 e'
            have HZ := Lib.hid hz; clear hz
            have hkI : (k : Int) < (L : Int) := by omega
            go_wp2
            go_region
            go_wp2
            go_roundw
            case rel => exact ⟨k + 1, by omega, by go_num, ⟨hq.out.os, hq.out.tape, hq.out.output, hq.out.size, hq.out.block⟩⟩
            case measure => simp [intOf]; omega
          · obtain rfl : k = i := by omega
            go_wp2
            go_roundw
            case rel => exact ⟨k + 1, by omega, by go_num, hq.out⟩
            case measure => simp [intOf]; omega
      · obtain rfl : i = L := by omega
        have HAW := Lib.hid (awake_any wr)
        cases ok with
        | true =>
          have h0 : i = 0 := HCL.out.2 (HOK.out.1 rfl)
          subst h0
          go_wp2_with fail
          refine HAW.out.mono ?_
          rintro e w9 ⟨rfl, hb9⟩
          have HB9 : Hid (Below w.heap.size w w9) := HB2.out.trans ((HBQ.out.trans (hb9.mono HBQ.out.size)).mono HB2.out.size)
          clear hb9
          go_wp2
          go_ret
          exact ⟨rfl, HB9.out⟩
        | false =>
          have h0 : i ≠ 0 := fun e => by have := HOK.out.2 (HCL.out.1 e); cases this
          have h1 : ((i : Int) == 0) = false := by rw [beq_eq_false_iff_ne]; omega
          have H0 := Lib.hid h0; clear h0
          go_wp2_with fail
          refine HAW.out.mono ?_
          rintro e w9 ⟨rfl, hb9⟩
          have HB9 : Hid (Below w.heap.size w w9) := HB2.out.trans ((HBQ.out.trans (hb9.mono HBQ.out.size)).mono HB2.out.size)
          clear hb9
          go_wp2
          go_ret
          exact ⟨rfl, HB9.out⟩
end Go.Proofs.Ytdcmdbhkaohkgaa
