/- The law GraphReach tells true. No condition. -/
import Derived.Test.YtdcmdbhkaohkgaaLaw
namespace Go.Proofs.Ytdcmdbhkaohkgaa
open Go.RowKit Gr

/-- what is wanted, when the places ahead of k have been asked -/
def WantA (G : List (List Int)) (i n k : Nat) (wt : List Bool) : Prop :=
  wt.length = n ∧ ∀ b, b < n → (wt.getD b false = true ↔ ∃ k', k' < k ∧ E G i k' ∧ (b = k' ∨ Gr.Way G k' b))

/-- and of place k itself, and the places ahead of x -/
def WantB (G : List (List Int)) (i n k x : Nat) (wt : List Bool) : Prop :=
  wt.length = n ∧ ∀ b, b < n → (wt.getD b false = true ↔ (∃ k', k' < k ∧ E G i k' ∧ (b = k' ∨ Gr.Way G k' b)) ∨ b = k ∨ (b < x ∧ Gr.Way G k b))

theorem bset_anyR (bs : List Bool) (j k : Nat) (v : Bool) (hj : j < bs.length) : (bs.set j v).getD k false = if k = j then v else bs.getD k false := by
  by_cases e : j = k
  · subst e; simp [hj]
  · have e' : ¬ k = j := fun h => e h.symm
    simp [e, e']

theorem WantA.start (G : List (List Int)) (i n : Nat) : WantA G i n 0 (List.replicate n false) :=
  ⟨by simp, fun b hb => by simp [hb]⟩

theorem WantA.skip {G : List (List Int)} {i n k : Nat} {wt : List Bool} (h : WantA G i n k wt) (hE : ¬ E G i k) : WantA G i n (k + 1) wt := by
  refine ⟨h.1, fun b hb => ?_⟩
  rw [h.2 b hb]
  constructor
  · rintro ⟨k', h1, h2, h3⟩; exact ⟨k', by omega, h2, h3⟩
  · rintro ⟨k', h1, h2, h3⟩
    by_cases e : k' = k
    · subst e; exact (hE h2).elim
    · exact ⟨k', by omega, h2, h3⟩

theorem WantA.mark {G : List (List Int)} {i n k : Nat} {wt : List Bool} (h : WantA G i n k wt) (hk : k < n) : WantB G i n k 0 (wt.set k true) := by
  refine ⟨by simp [h.1], fun b hb => ?_⟩
  rw [bset_anyR wt k b true (by rw [h.1]; exact hk)]
  by_cases e : b = k
  · subst e; simp
  · rw [if_neg e, h.2 b hb]
    constructor
    · intro q; exact Or.inl q
    · rintro (q | q | ⟨q, _⟩)
      · exact q
      · exact (e q).elim
      · omega

theorem WantB.step {G : List (List Int)} {i n k x : Nat} {wt : List Bool} (h : WantB G i n k x wt) (hx : x < n) (v : Bool) (hv : v = true ↔ wt.getD x false = true ∨ Gr.Way G k x) : WantB G i n k (x + 1) (wt.set x v) := by
  refine ⟨by simp [h.1], fun b hb => ?_⟩
  rw [bset_anyR wt x b v (by rw [h.1]; exact hx)]
  by_cases e : b = x
  · subst e
    rw [if_pos rfl, hv, h.2 b hb]
    constructor
    · rintro ((q | q | ⟨q, _⟩) | q)
      · exact Or.inl q
      · exact Or.inr (Or.inl q)
      · omega
      · exact Or.inr (Or.inr ⟨by omega, q⟩)
    · rintro (q | q | ⟨_, q⟩)
      · exact Or.inl (Or.inl q)
      · exact Or.inl (Or.inr (Or.inl q))
      · exact Or.inr q
  · rw [if_neg e, h.2 b hb]
    constructor
    · rintro (q | q | ⟨q, q2⟩)
      · exact Or.inl q
      · exact Or.inr (Or.inl q)
      · exact Or.inr (Or.inr ⟨by omega, q2⟩)
    · rintro (q | q | ⟨q, q2⟩)
      · exact Or.inl q
      · exact Or.inr (Or.inl q)
      · exact Or.inr (Or.inr ⟨by omega, q2⟩)

theorem WantB.done {G : List (List Int)} {i n k : Nat} {wt : List Bool} (h : WantB G i n k n wt) (hE : E G i k) : WantA G i n (k + 1) wt := by
  refine ⟨h.1, fun b hb => ?_⟩
  rw [h.2 b hb]
  constructor
  · rintro (⟨k', h1, h2, h3⟩ | q | ⟨_, q⟩)
    · exact ⟨k', by omega, h2, h3⟩
    · exact ⟨k, by omega, hE, Or.inl q⟩
    · exact ⟨k, by omega, hE, Or.inr q⟩
  · rintro ⟨k', h1, h2, h3⟩
    by_cases e : k' = k
    · subst e
      rcases h3 with q | q
      · exact Or.inr (Or.inl q)
      · exact Or.inr (Or.inr ⟨hb, q⟩)
    · exact Or.inl ⟨k', by omega, h2, h3⟩

theorem WantA.end_ {G : List (List Int)} {i n : Nat} {wt : List Bool} (h : WantA G i n n wt) (hG : G.length = n) : ∀ b, b < n → (wt.getD b false = true ↔ Gr.Way G i b) := by
  intro b hb
  rw [h.2 b hb]
  constructor
  · rintro ⟨k', _, h2, rfl | q⟩
    · exact Gr.Way.one h2
    · exact (Gr.Way.one h2).trans_pth q.pth
  · rintro ⟨m, hw⟩
    obtain ⟨k', hE, hw'⟩ := Gr.Walk.head hw
    refine ⟨k', by have := hE.2.1; omega, hE, ?_⟩
    cases m with
    | zero => exact Or.inl (by simpa [Gr.Walk, eq_comm] using hw')
    | succ m => exact Or.inr ⟨m, hw'⟩

set_option maxHeartbeats 4000000 in
theorem graphReach_walk (a : Option Addr) (n c : Nat) (G : List (List Int)) (I : Int) (w : World) (hg : GRow w w.heap.size a n c G) (hI0 : -9223372036854775808 ≤ I) (hI1 : I ≤ 9223372036854775807) :
    Calls Try.prog 6 #[.slice a n c, .int .i64 I] w fun e w' => e = .returned (.bool true) ∧ Below w.heap.size w w' := by
  have HL : Hid (G.length = n) := hg.1
  have hm := hg.len_le
  unfold maxLen at hm
  have HG := Lib.hid hg; clear hg
  go_enter Try.func6, Try.ntmps6
  go_wp2_with fail
  refine (few_any a n c _ G w HG.out).mono ?_
  rintro e w' ⟨⟨b, rfl, hfew⟩, rfl⟩
  cases b with
  | false =>
    clear hfew
    go_wp2
    go_ret
    exact ⟨rfl, Below.refl _ _⟩
  | true =>
    have hF := hfew rfl
    have hn20 : n ≤ 20 := by have := hF.1; have h2 := HL.out; omega
    clear hF hfew
    by_cases hn0 : n = 0
    · subst hn0
      go_wp2
      go_ret
      exact ⟨rfl, Below.refl _ _⟩
    · have hnz : ((n : Int) == 0) = false := by rw [beq_eq_false_iff_ne]; omega
      have hnp : 0 < n := by omega
      have hnn : ¬ (n : Int) = 0 := by omega
      obtain ⟨J, hJ⟩ : ∃ J, J = I.tmod (n : Int) := ⟨_, rfl⟩
      have hJ1 : J < (n : Int) := by rw [hJ]; exact Int.tmod_lt_of_pos I (by omega)
      have hJ2 : -(n : Int) < J := by rw [hJ]; have h1 := Int.natAbs_tmod I (n : Int); have h2 := Nat.mod_lt I.natAbs (show 0 < (n : Int).natAbs by omega); omega
      obtain ⟨i, hi⟩ : ∃ i : Nat, (i : Int) = (J + (n : Int)).tmod (n : Int) := ⟨((J + (n : Int)).tmod (n : Int)).toNat, by
        have : 0 ≤ (J + (n : Int)).tmod (n : Int) := Int.tmod_nonneg _ (by omega)
        omega⟩
      have hin : i < n := by
        have := Int.tmod_lt_of_pos (J + (n : Int)) (b := (n : Int)) (by omega)
        omega
      have hW : (wrap64 (I.tmod (n : Int) + (n : Int))).tmod (n : Int) = (i : Int) := by
        rw [← hJ, hi]
        have : wrap64 (J + (n : Int)) = J + (n : Int) := by unfold wrap64; omega
        rw [this]
      clear hJ hi hJ1 hJ2
      have hiI : (i : Int) < (n : Int) := by omega
      have hnI : (0 : Int) < (n : Int) := by omega
      have HW := Lib.hid hW; clear hW
      go_wp2_with fail
      rw [HW.out]
      refine (reach_any a n c _ G i w HG.out (Nat.le_refl _) hin (by omega)).mono ?_
      rintro e w1 ⟨g1, bs, rfl, hg1, hbm, hbl, hbs, hb1⟩
      rw [HL.out] at hbl hbs ⊢
      have HBM := Lib.hid hbm; clear hbm
      have HBS := Lib.hid (And.intro hbl hbs); clear hbl hbs
      have HB1 := Lib.hid hb1; clear hb1
      go_wp2_with (at_make; refine makeB rfl _ rfl _ n rfl rfl (by omega) ?_)
      intro w2 hm2 hb2
      obtain ⟨g2, hg2⟩ : ∃ g2, g2 = w1.heap.size := ⟨_, rfl⟩
      rw [← hg2] at hm2 ⊢
      have hg12 : g1 < g2 := by rw [hg2]; exact HBM.out.lt
      have hg2w : w.heap.size ≤ g2 := by omega
      have HG2 := Lib.hid hg2; clear hg2
      have H2 : Hid (BMem w2 g1 bs ∧ BMem w2 g2 (List.replicate n false) ∧ Below w.heap.size w w2) := ⟨HBM.out.below hb2 HBM.out.lt, hm2, HB1.out.trans (hb2.mono HB1.out.size)⟩
      clear hm2 hb2
      go_wp2
      go_loopw [7] (fun t wr => ∃ (k : Nat) (wt : List Bool), k ≤ n ∧ t = .int .i64 (k : Int) ∧ Hid (BMem wr g1 bs ∧ BMem wr g2 wt ∧ WantA G i n k wt) ∧ Below w.heap.size w wr) (fun t _ => n - (intOf t).toNat)
      case atStart => exact ⟨0, _, Nat.zero_le _, rfl, ⟨H2.out.1, H2.out.2.1, WantA.start G i n⟩, H2.out.2.2⟩
      case round =>
        clear H2 HB1 HBM
        obtain ⟨k, wt, hk, rfl, HX, hbx⟩ := hrel
        by_cases hk0 : k < n
        · have hkI : (k : Int) < (n : Int) := by omega
          have HN := Lib.hid (needs_any a n c _ G (i : Int) (k : Int) wr (HG.out.below hbx))
          have hiff := ndB_iff G i k
          have hg2L : g2 < wr.heap.size := HX.out.2.1.lt
          have hfw := HX.out.2.1.free k
          have HBX := Lib.hid hbx; clear hbx
          cases hnd : ndB G (i : Int) (k : Int) with
          | false =>
            rw [hnd] at HN hiff
            have hE : ¬ E G i k := fun q => by have := hiff.2 q; cases this
            have HE := Lib.hid hE; clear hE hiff hnd
            go_wp2_with fail
            refine HN.out.mono ?_
            rintro e w' ⟨rfl, rfl⟩
            go_wp2
            go_roundw
            case rel => exact ⟨k + 1, wt, by omega, by go_num, ⟨HX.out.1, HX.out.2.1, HX.out.2.2.skip HE.out⟩, HBX.out⟩
            case measure => simp [intOf]; omega
          | true =>
            rw [hnd] at HN hiff
            have HE : Hid (E G i k) := hiff.1 rfl
            clear hiff hnd
            have hcw := HX.out.2.1.cell k (by rw [HX.out.2.2.1]; exact hk0)
            obtain ⟨v0, hv0⟩ : ∃ v0, v0 = wt.getD k false := ⟨_, rfl⟩
            rw [← hv0] at hcw
            clear hv0
            have H3 : Hid (BMem (wr.setCell ⟨g2, k, none⟩ (.bool true)) g1 bs ∧ BMem (wr.setCell ⟨g2, k, none⟩ (.bool true)) g2 (wt.set k true) ∧ WantB G i n k 0 (wt.set k true) ∧ Below w.heap.size w (wr.setCell ⟨g2, k, none⟩ (.bool true))) :=
              ⟨HX.out.1.setOther (p := ⟨g2, k, none⟩) (show g1 ≠ g2 by omega) _, HX.out.2.1.set k true, HX.out.2.2.mark hk0, HBX.out.setCell (p := ⟨g2, k, none⟩) hg2w _⟩
            go_wp2_with fail
            refine HN.out.mono ?_
            rintro e w' ⟨rfl, rfl⟩
            go_wp2_with fail
            refine (reach_any a n c w.heap.size G k _ (HG.out.below H3.out.2.2.2) H3.out.2.2.2.size hk0 (by omega)).mono ?_
            rintro e w4 ⟨g3, ss, rfl, hg3, hsm, hsl, hss, hb4⟩
            rw [HL.out] at hsl hss ⊢
            have hs3 : g1 < g3 ∧ g2 < g3 := ⟨Nat.lt_of_lt_of_le H3.out.1.lt hg3, Nat.lt_of_lt_of_le H3.out.2.1.lt hg3⟩
            have hs31 := hs3.1
            have hs32 := hs3.2
            have H4 : Hid (BMem w4 g1 bs ∧ BMem w4 g2 (wt.set k true) ∧ BMem w4 g3 ss ∧ WantB G i n k 0 (wt.set k true) ∧ Below w.heap.size w w4) :=
              ⟨H3.out.1.below hb4 H3.out.1.lt, H3.out.2.1.below hb4 H3.out.2.1.lt, hsm, H3.out.2.2.1, H3.out.2.2.2.trans (hb4.mono H3.out.2.2.2.size)⟩
            have HS := Lib.hid (And.intro hsl hss); clear hsl hss hsm hb4 H3 HN HBX hcw hfw hg3 hs3
            obtain ⟨wt1, hwt1⟩ : ∃ wt1, wt1 = wt.set k true := ⟨_, rfl⟩
            rw [← hwt1] at H4
            clear hwt1 HX wt hg2L
            go_wp2
            go_loopw [9] (fun t wr => ∃ (x : Nat) (wt : List Bool), x ≤ n ∧ t = .int .i64 (x : Int) ∧ Hid (BMem wr g1 bs ∧ BMem wr g2 wt ∧ BMem wr g3 ss ∧ WantB G i n k x wt) ∧ Below w.heap.size w wr) (fun t _ => n - (intOf t).toNat)
            case atStart => exact ⟨0, wt1, Nat.zero_le _, rfl, ⟨H4.out.1, H4.out.2.1, H4.out.2.2.1, H4.out.2.2.2.1⟩, H4.out.2.2.2.2⟩
            case round =>
              clear H4
              obtain ⟨x, wt, hx, rfl, HY, hby⟩ := hrel
              by_cases hx0 : x < n
              · have hxI : (x : Int) < (n : Int) := by omega
                have hcw := HY.out.2.1.cell x (by rw [HY.out.2.2.2.1]; exact hx0)
                have hfw := HY.out.2.1.free x
                have hcs := HY.out.2.2.1.cell x (by rw [HS.out.1]; exact hx0)
                have HBY := Lib.hid hby; clear hby
                obtain ⟨v1, hv1⟩ : ∃ v1, v1 = wt.getD x false := ⟨_, rfl⟩
                obtain ⟨v2, hv2⟩ : ∃ v2, v2 = ss.getD x false := ⟨_, rfl⟩
                rw [← hv1] at hcw
                rw [← hv2] at hcs
                have hset : ∀ v : Bool, v = (v1 || v2) → BMem (wr.setCell ⟨g2, x, none⟩ (.bool v)) g1 bs ∧ BMem (wr.setCell ⟨g2, x, none⟩ (.bool v)) g2 (wt.set x v) ∧ BMem (wr.setCell ⟨g2, x, none⟩ (.bool v)) g3 ss ∧ WantB G i n k (x + 1) (wt.set x v) := fun v hv =>
                  ⟨HY.out.1.setOther (p := ⟨g2, x, none⟩) (show g1 ≠ g2 by omega) _, HY.out.2.1.set x v, HY.out.2.2.1.setOther (p := ⟨g2, x, none⟩) (show g3 ≠ g2 by omega) _, HY.out.2.2.2.step hx0 v (by rw [hv, hv1, hv2, Bool.or_eq_true, HS.out.2 x hx0])⟩
                have HT := Lib.hid hset; clear hset hv1 hv2
                cases v1 with
                | true =>
                  go_wp2
                  go_roundw
                  case rel => exact ⟨x + 1, _, by omega, by go_num, HT.out true (by simp), HBY.out.setCell (p := ⟨g2, x, none⟩) hg2w _⟩
                  case measure => simp [intOf]; omega
                | false =>
                  cases v2 with
                  | true =>
                    go_wp2
                    go_roundw
                    case rel => exact ⟨x + 1, _, by omega, by go_num, HT.out true (by simp), HBY.out.setCell (p := ⟨g2, x, none⟩) hg2w _⟩
                    case measure => simp [intOf]; omega
                  | false =>
                    go_wp2
                    go_roundw
                    case rel => exact ⟨x + 1, _, by omega, by go_num, HT.out false (by simp), HBY.out.setCell (p := ⟨g2, x, none⟩) hg2w _⟩
                    case measure => simp [intOf]; omega
              · obtain rfl : x = n := by omega
                have HBY := Lib.hid hby; clear hby
                go_wp2
                go_roundw
                case rel => exact ⟨k + 1, wt, by omega, by go_num, ⟨HY.out.1, HY.out.2.1, HY.out.2.2.2.done HE.out⟩, HBY.out⟩
                case measure => simp [intOf]; omega
        · obtain rfl : k = n := by omega
          have hend := HX.out.2.2.end_ HL.out
          have H5 : Hid (∀ b, b < k → bs.getD b false = wt.getD b false) := fun b hb => by
            rw [Bool.eq_iff_iff, hend b hb, HBS.out.2 b hb]
          have HLN : Hid (wt.length = k) := HX.out.2.2.1
          clear hend
          have HX2 : Hid (BMem wr g1 bs ∧ BMem wr g2 wt ∧ Below w.heap.size w wr) := ⟨HX.out.1, HX.out.2.1, hbx⟩
          clear HX hbx
          obtain ⟨wo, hwo⟩ : ∃ wo : World, wo = wr := ⟨_, rfl⟩
          rw [← hwo] at HX2 ⊢
          clear hwo
          go_wp2
          go_loopw [10] (fun t wr => ∃ (x : Nat), x ≤ k ∧ t = .int .i64 (x : Int) ∧ Hid (BMem wr g1 bs ∧ BMem wr g2 wt) ∧ Below w.heap.size w wr) (fun t _ => k - (intOf t).toNat)
          case atStart => exact ⟨0, Nat.zero_le _, rfl, ⟨HX2.out.1, HX2.out.2.1⟩, HX2.out.2.2⟩
          case round =>
            clear HX2
            obtain ⟨x, hx, rfl, HY, hby⟩ := hrel
            by_cases hx0 : x < k
            · have hxI : (x : Int) < (k : Int) := by omega
              have hc1 := HY.out.1.cell x (by rw [HBS.out.1]; exact hx0)
              have hc2 := HY.out.2.cell x (by rw [HLN.out]; exact hx0)
              rw [← H5.out x hx0] at hc2
              obtain ⟨v, hv⟩ : ∃ v, v = bs.getD x false := ⟨_, rfl⟩
              rw [← hv] at hc1 hc2
              clear hv
              have HBY := Lib.hid hby; clear hby
              have hvv : (v != v) = false := by simp
              go_wp2
              go_region
              go_wp2
              go_roundw
              case rel => exact ⟨x + 1, by omega, by go_num, ⟨HY.out.1.keep rfl, HY.out.2.keep rfl⟩, HBY.out.drew⟩
              case measure => simp [intOf]; omega
            · have HBY := Lib.hid hby; clear hby
              obtain rfl : x = k := by omega
              go_wp2_with fail
              refine (awake_any wr).mono ?_
              rintro e w9 ⟨rfl, hb9⟩
              have HB9 : Hid (Below w.heap.size w w9) := HBY.out.trans (hb9.mono HBY.out.size)
              clear hb9
              go_wp2
              go_ret
              exact ⟨rfl, HB9.out⟩
end Go.Proofs.Ytdcmdbhkaohkgaa
