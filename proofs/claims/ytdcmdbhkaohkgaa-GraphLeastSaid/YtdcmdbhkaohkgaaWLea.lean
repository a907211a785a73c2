/- The law GraphLeast tells true. No condition. -/
import Derived.Test.YtdcmdbhkaohkgaaLaw
namespace Go.Proofs.Ytdcmdbhkaohkgaa
open Go.RowKit Gr

theorem bset_any (bs : List Bool) (j k : Nat) (v : Bool) (hj : j < bs.length) : (bs.set j v).getD k false = if k = j then v else bs.getD k false := by
  by_cases e : j = k
  · subst e; simp [hj]
  · have e' : ¬ k = j := fun h => e h.symm
    simp [e, e']

/-- next, when the rows ahead of x have been told, and the places ahead of y from x -/
def NextAt (G : List (List Int)) (at_ : List Bool) (n x y : Nat) (nx : List Bool) : Prop :=
  nx.length = n ∧ ∀ b, b < n → (nx.getD b false = true ↔ ∃ x', x' < n ∧ at_.getD x' false = true ∧ E G x' b ∧ (x' < x ∨ (x' = x ∧ b < y)))

theorem NextAt.start (G : List (List Int)) (at_ : List Bool) (n : Nat) : NextAt G at_ n 0 0 (List.replicate n false) :=
  ⟨by simp, fun b hb => by simp [hb]⟩

theorem NextAt.step {G : List (List Int)} {at_ nx : List Bool} {n x y : Nat} (h : NextAt G at_ n x y nx) (hx : x < n) (hy : y < n) (v : Bool) (hv : v = true ↔ nx.getD y false = true ∨ (at_.getD x false = true ∧ E G x y)) : NextAt G at_ n x (y + 1) (nx.set y v) := by
  refine ⟨by simp [h.1], fun b hb => ?_⟩
  rw [bset_any nx y b v (by rw [h.1]; exact hy)]
  by_cases e : b = y
  · subst e
    rw [if_pos rfl, hv, h.2 b hb]
    constructor
    · rintro (⟨x', h1, h2, h3, h4 | ⟨h4, h5⟩⟩ | ⟨h1, h2⟩)
      · exact ⟨x', h1, h2, h3, Or.inl h4⟩
      · omega
      · exact ⟨x, hx, h1, h2, Or.inr ⟨rfl, by omega⟩⟩
    · rintro ⟨x', h1, h2, h3, h4 | ⟨h4, h5⟩⟩
      · exact Or.inl ⟨x', h1, h2, h3, Or.inl h4⟩
      · subst h4; exact Or.inr ⟨h2, h3⟩
  · rw [if_neg e, h.2 b hb]
    constructor
    · rintro ⟨x', h1, h2, h3, h4 | ⟨h4, h5⟩⟩
      · exact ⟨x', h1, h2, h3, Or.inl h4⟩
      · exact ⟨x', h1, h2, h3, Or.inr ⟨h4, by omega⟩⟩
    · rintro ⟨x', h1, h2, h3, h4 | ⟨h4, h5⟩⟩
      · exact ⟨x', h1, h2, h3, Or.inl h4⟩
      · exact ⟨x', h1, h2, h3, Or.inr ⟨h4, by omega⟩⟩

theorem NextAt.next {G : List (List Int)} {at_ nx : List Bool} {n x : Nat} (h : NextAt G at_ n x n nx) (hG : G.length = n) : NextAt G at_ n (x + 1) 0 nx := by
  refine ⟨h.1, fun b hb => ?_⟩
  rw [h.2 b hb]
  constructor
  · rintro ⟨x', h1, h2, h3, h4 | ⟨h4, h5⟩⟩
    · exact ⟨x', h1, h2, h3, Or.inl (by omega)⟩
    · exact ⟨x', h1, h2, h3, Or.inl (by omega)⟩
  · rintro ⟨x', h1, h2, h3, h4 | ⟨h4, h5⟩⟩
    · by_cases e : x' = x
      · exact ⟨x', h1, h2, h3, Or.inr ⟨e, hb⟩⟩
      · exact ⟨x', h1, h2, h3, Or.inl (by omega)⟩
    · omega

/-- at_ tells whereto so many steps lead from s -/
def Steps_ (G : List (List Int)) (s n m : Nat) (at_ : List Bool) : Prop := at_.length = n ∧ ∀ b, b < n → (at_.getD b false = true ↔ Walk G m s b)

theorem Steps_.next {G : List (List Int)} {s n m : Nat} {at_ nx : List Bool} (h : Steps_ G s n m at_) (h' : NextAt G at_ n n 0 nx) (hG : G.length = n) : Steps_ G s n (m + 1) nx := by
  refine ⟨h'.1, fun b hb => ?_⟩
  rw [h'.2 b hb]
  constructor
  · rintro ⟨x', h1, h2, h3, _⟩
    exact ⟨x', (h.2 x' h1).1 h2, h3⟩
  · rintro ⟨x', h1, h2⟩
    have hx' : x' < n := by have := h2.1; omega
    exact ⟨x', hx', (h.2 x' hx').2 h1, h2, Or.inl hx'⟩

set_option maxHeartbeats 4000000 in
theorem graphLeast_walk (a : Option Addr) (n c : Nat) (G : List (List Int)) (w : World) (hg : GRow w w.heap.size a n c G) :
    Calls Try.prog 5 #[.slice a n c] w fun e w' => e = .returned (.bool true) ∧ Below w.heap.size w w' := by
  have HL : Hid (G.length = n) := hg.1
  have hm := hg.len_le
  unfold maxLen at hm
  have HG := Lib.hid hg; clear hg
  go_enter Try.func5, Try.ntmps5
  go_wp2_with fail
  refine (few_any a n c _ G w HG.out).mono ?_
  rintro e w' ⟨⟨b, rfl, hfew⟩, rfl⟩
  cases b with
  | false =>
    clear hfew
    go_wp2
    go_ret
    exact ⟨rfl, Below.refl _ _⟩
  | true =>
    have hF := hfew rfl
    have hn20 : n ≤ 20 := by have := hF.1; have h2 := HL.out; omega
    have htot := tot_few hF
    have HTO := Lib.hid htot; clear htot hF hfew
    go_wp2_with fail
    refine (cycle_any a n c _ G w HG.out (Nat.le_refl _) (by omega) HTO.out).mono ?_
    rintro e w1 ⟨a1, c1, cy, rfl, hr, hcy, hb1⟩
    obtain ⟨L, hL⟩ : ∃ L, L = cy.length := ⟨_, rfl⟩
    rw [← hL] at hr ⊢
    have HB1 := Lib.hid hb1; clear hb1
    have HG1 := Lib.hid ((HG.out.below HB1.out).more HB1.out.size)
    by_cases hL0 : L = 0
    · subst hL0
      clear hL hr hcy
      go_wp2_with fail
      refine (awake_any w1).mono ?_
      rintro e w9 ⟨rfl, hb9⟩
      have HB9 : Hid (Below w.heap.size w w9) := HB1.out.trans (hb9.mono HB1.out.size)
      clear hb9
      go_wp2
      go_ret
      exact ⟨rfl, HB9.out⟩
    · have hLz : ((L : Int) == 0) = false := by rw [beq_eq_false_iff_ne]; omega
      have hLp : 0 < L := by omega
      have hcy2 : (∀ x ∈ cy, x < n) ∧ cy.Nodup ∧ (∀ j, Gr.Way G j j → cy.getD 0 0 ≤ j) ∧ ∀ m, 0 < m → m < L → ¬ Walk G m (cy.getD 0 0) (cy.getD 0 0) := by
        rcases hcy with ⟨e, _⟩ | ⟨_, h2, h3, _, h5, h6⟩
        · rw [e] at hL; simp at hL; omega
        · rw [← hL] at h6; exact ⟨fun x hx => by have := h2 x hx; rw [HL.out] at this; exact this, h3, h5, h6⟩
      have hL20 : L ≤ 20 := by
        have := nodup_len n cy hcy2.2.1 hcy2.1
        omega
      obtain ⟨s, hs⟩ : ∃ s, s = cy.getD 0 0 := ⟨_, rfl⟩
      have hsn : s < n := by
        have h0 : 0 < cy.length := by omega
        have e : cy.getD 0 0 = cy[0] := by simp only [List.getD, List.getElem?_eq_getElem h0, Option.getD_some]
        rw [hs, e]; exact hcy2.1 _ (List.getElem_mem h0)
      rw [← hs] at hcy2
      obtain ⟨b1, o1, rfl, hb1, hc1⟩ := hr.at_ hLp
      rw [ints_getD, ← hs] at hc1
      have HC1 : Hid (w1.cell? ⟨b1, o1 + 0, none⟩ = some (.int .i64 (s : Int)) ∧ b1 < w1.heap.size) := ⟨hc1, hb1⟩
      have HCY := Lib.hid (And.intro hcy2.2.2.1 hcy2.2.2.2); clear hcy hcy2 hs hL hr hc1 hb1 hL0
      go_wp2
      go_loopw [4] (fun t wr => ∃ i : Nat, i ≤ s ∧ t = .int .i64 (i : Int) ∧ Below w1.heap.size w1 wr) (fun t _ => s - (intOf t).toNat)
      case atStart => exact ⟨0, Nat.zero_le _, rfl, Below.refl _ _⟩
      case round =>
        obtain ⟨i, hi, rfl, hbr⟩ := hrel
        have hcs := (hbr.cell (p := ⟨b1, o1 + 0, none⟩) HC1.out.2).trans HC1.out.1
        rw [Nat.add_zero] at hcs
        have hLI : (0 : Int) < (L : Int) := by omega
        by_cases hi0 : i < s
        · have hin : i < n := by omega
          have HBR := Lib.hid hbr; clear hbr
          go_wp2_with fail
          refine (reach_any a n c _ G i wr (HG1.out.below HBR.out) HBR.out.size hin (by omega)).mono ?_
          rintro e w2 ⟨g2, bs, rfl, hg2, hbm, hbl, hbs, hb2⟩
          rw [HL.out] at hbl hbs ⊢
          have hci := hbm.cell i (by rw [hbl]; exact hin)
          have hf : bs.getD i false = false := by
            cases hq : bs.getD i false with
            | false => rfl
            | true => have := HCY.out.1 i ((hbs i hin).1 hq); omega
          rw [hf] at hci
          have HB2 := Lib.hid (HBR.out.trans (hb2.mono HBR.out.size)); clear hb2 hbs hbl hbm hf
          have hinI : (i : Int) < (n : Int) := by omega
          go_wp2
          go_roundw
          case rel => exact ⟨i + 1, by omega, by go_num, HB2.out⟩
          case measure => simp [intOf]; omega
        · obtain rfl : i = s := by omega
          have HBR := Lib.hid hbr; clear hbr
          have hsI : (i : Int) < (n : Int) := by omega
          go_wp2_with (at_make; refine makeB rfl _ rfl _ n rfl rfl (by omega) ?_)
          intro w3 hm3 hb3
          have HB3 : Hid (Below w1.heap.size w1 w3) := HBR.out.trans (hb3.mono HBR.out.size)
          have hc3 : w3.cell? ⟨b1, o1, none⟩ = some (.int .i64 (i : Int)) := by
            have := (HB3.out.cell (p := ⟨b1, o1 + 0, none⟩) HC1.out.2).trans HC1.out.1
            rw [Nat.add_zero] at this; exact this
          obtain ⟨g3, hg3⟩ : ∃ g3, g3 = wr.heap.size := ⟨_, rfl⟩
          rw [← hg3] at hm3 ⊢
          have hg3w : w1.heap.size ≤ g3 := by have := HBR.out.size; omega
          have hcc := hm3.cell i (by simp; exact hsn)
          have hff := hm3.free i
          have HM3 := Lib.hid hm3; clear hm3
          have HG3 := Lib.hid hg3; clear hg3
          clear hb3
          go_wp2
          have hst0 : Steps_ G i n 0 ((List.replicate n false).set i true) := by
            refine ⟨by simp, fun b hb => ?_⟩
            rw [bset_true _ i b (by simp; exact hsn)]
            simp [hb, Walk]
            exact eq_comm
          have HST0 := Lib.hid hst0; clear hst0
          clear hcs hc3
          have hB4 : Below w1.heap.size w1 (w3.setCell ⟨g3, i, none⟩ (.bool true)) := HB3.out.setCell (p := ⟨g3, i, none⟩) hg3w _
          have HM4 := Lib.hid (HM3.out.set i true)
          have HB4 := Lib.hid hB4; clear hB4
          clear hcc hff HB3 HM3 HBR
          go_loopw [5, 6] (fun v t wr => ∃ (m ga : Nat) (ats : List Bool), m + 1 ≤ L ∧ v = .slice (some ⟨ga, 0, none⟩) n n ∧ t = .int .i64 ((m : Int) + 1) ∧ w1.heap.size ≤ ga ∧ Hid (BMem wr ga ats ∧ Steps_ G i n m ats) ∧ Below w1.heap.size w1 wr) (fun _ t _ => L - (intOf t).toNat)
          case atStart => exact ⟨0, g3, _, by omega, rfl, rfl, hg3w, ⟨HM4.out, HST0.out⟩, HB4.out⟩
          case round =>
            clear HM4 HB4 HST0 HG3
            obtain ⟨m, ga, ats, hmL, rfl, rfl, hga, HZ, hbr⟩ := hrel
            by_cases hm1 : m + 1 < L
            · have hmI : (m : Int) + 1 < (L : Int) := by omega
              have HBR := Lib.hid hbr; clear hbr
              go_wp2_with (at_make; refine makeB rfl _ rfl _ n rfl rfl (by omega) ?_)
              intro w5 hm5 hb5
              obtain ⟨gn, hgn⟩ : ∃ gn, gn = wr.heap.size := ⟨_, rfl⟩
              rw [← hgn] at hm5 ⊢
              have hgaL : ga < gn := by rw [hgn]; exact HZ.out.1.lt
              have hgnw : w1.heap.size ≤ gn := by omega
              have H5 : Hid (BMem w5 gn (List.replicate n false) ∧ BMem w5 ga ats ∧ Below w1.heap.size w1 w5) := ⟨hm5, HZ.out.1.below hb5 HZ.out.1.lt, HBR.out.trans (hb5.mono HBR.out.size)⟩
              have HGN := Lib.hid hgn; clear hgn hm5 hb5
              go_wp2
              go_loopw [8] (fun t wr => ∃ (x : Nat) (nx : List Bool), x ≤ n ∧ t = .int .i64 (x : Int) ∧ Hid (BMem wr gn nx ∧ BMem wr ga ats ∧ NextAt G ats n x 0 nx) ∧ Below w1.heap.size w1 wr) (fun t _ => n - (intOf t).toNat)
              case atStart => exact ⟨0, _, Nat.zero_le _, rfl, ⟨H5.out.1, H5.out.2.1, NextAt.start G ats n⟩, H5.out.2.2⟩
              case round =>
                clear H5 HBR
                obtain ⟨x, nx0, hx, rfl, HX, hbx⟩ := hrel
                by_cases hx0 : x < n
                · obtain ⟨wo, rfl⟩ : ∃ wo : World, wo = wr := ⟨_, rfl⟩
                  have hxI : (x : Int) < (n : Int) := by omega
                  have HBX := Lib.hid hbx; clear hbx
                  go_wp2
                  go_loopw [9] (fun t wr => ∃ (y : Nat) (nx : List Bool), y ≤ n ∧ t = .int .i64 (y : Int) ∧ Hid (BMem wr gn nx ∧ BMem wr ga ats ∧ NextAt G ats n x y nx) ∧ Below w1.heap.size w1 wr) (fun t _ => n - (intOf t).toNat)
                  case atStart => exact ⟨0, nx0, Nat.zero_le _, rfl, HX.out, HBX.out⟩
                  case round =>
                    clear HX HBX
                    obtain ⟨y, nx, hy, rfl, HY, hby⟩ := hrel
                    by_cases hy0 : y < n
                    · have hyI : (y : Int) < (n : Int) := by omega
                      have hcn := HY.out.1.cell y (by rw [HY.out.2.2.1]; exact hy0)
                      have hfn := HY.out.1.free y
                      have hca := HY.out.2.1.cell x (by rw [HZ.out.2.1]; exact hx0)
                      have HBY := Lib.hid hby; clear hby
                      obtain ⟨v1, hv1⟩ : ∃ v1, v1 = nx.getD y false := ⟨_, rfl⟩
                      obtain ⟨v2, hv2⟩ : ∃ v2, v2 = ats.getD x false := ⟨_, rfl⟩
                      rw [← hv1] at hcn
                      rw [← hv2] at hca
                      have hset : ∀ v : Bool, (v = true ↔ v1 = true ∨ (v2 = true ∧ E G x y)) → BMem (wr.setCell ⟨gn, y, none⟩ (.bool v)) gn (nx.set y v) ∧ BMem (wr.setCell ⟨gn, y, none⟩ (.bool v)) ga ats ∧ NextAt G ats n x (y + 1) (nx.set y v) := fun v hv =>
                        ⟨HY.out.1.set y v, HY.out.2.1.setOther (p := ⟨gn, y, none⟩) (show ga ≠ gn by omega) _, HY.out.2.2.step hx0 hy0 v (by rw [← hv1, ← hv2]; exact hv)⟩
                      have HS := Lib.hid hset; clear hset hv1 hv2
                      have HN := Lib.hid (needs_any a n c _ G (x : Int) (y : Int) wr (HG1.out.below HBY.out))
                      have hiff := ndB_iff G x y
                      cases v1 with
                      | true =>
                        clear hiff
                        go_wp2
                        go_roundw
                        case rel => exact ⟨y + 1, _, by omega, by go_num, HS.out true (by simp), HBY.out.setCell (p := ⟨gn, y, none⟩) hgnw _⟩
                        case measure => simp [intOf]; omega
                      | false =>
                        cases v2 with
                        | false =>
                          clear hiff
                          go_wp2
                          go_roundw
                          case rel => exact ⟨y + 1, _, by omega, by go_num, HS.out false (by simp), HBY.out.setCell (p := ⟨gn, y, none⟩) hgnw _⟩
                          case measure => simp [intOf]; omega
                        | true =>
                          cases hnd : ndB G (x : Int) (y : Int) with
                          | false =>
                            rw [hnd] at HN hiff
                            have hE : ¬ E G x y := fun q => by have := hiff.2 q; cases this
                            have HE := Lib.hid hE; clear hE hiff hnd
                            go_wp2_with fail
                            refine HN.out.mono ?_
                            rintro e w' ⟨rfl, rfl⟩
                            go_wp2
                            go_roundw
                            case rel => exact ⟨y + 1, _, by omega, by go_num, HS.out false (by have := HE.out; simp [this]), HBY.out.setCell (p := ⟨gn, y, none⟩) hgnw _⟩
                            case measure => simp [intOf]; omega
                          | true =>
                            rw [hnd] at HN hiff
                            have hE : E G x y := hiff.1 rfl
                            have HE := Lib.hid hE; clear hE hiff hnd
                            go_wp2_with fail
                            refine HN.out.mono ?_
                            rintro e w' ⟨rfl, rfl⟩
                            go_wp2
                            go_roundw
                            case rel => exact ⟨y + 1, _, by omega, by go_num, HS.out true (by have := HE.out; simp [this]), HBY.out.setCell (p := ⟨gn, y, none⟩) hgnw _⟩
                            case measure => simp [intOf]; omega
                    · obtain rfl : y = n := by omega
                      go_wp2
                      go_roundw
                      case rel => exact ⟨x + 1, nx, by omega, by go_num, ⟨HY.out.1, HY.out.2.1, HY.out.2.2.next HL.out⟩, hby⟩
                      case measure => simp [intOf]; omega
                · obtain rfl : x = n := by omega
                  have hstep : Steps_ G i x (m + 1) nx0 := HZ.out.2.next HX.out.2.2 HL.out
                  have hcs := (hbx.cell (p := ⟨b1, o1 + 0, none⟩) HC1.out.2).trans HC1.out.1
                  rw [Nat.add_zero] at hcs
                  have hcn := HX.out.1.cell i (by rw [HX.out.2.2.1]; exact hsn)
                  have hf : nx0.getD i false = false := by
                    cases hq : nx0.getD i false with
                    | false => rfl
                    | true => exact (HCY.out.2 (m + 1) (by omega) hm1 ((hstep.2 i hsn).1 hq)).elim
                  rw [hf] at hcn
                  have HST := Lib.hid hstep; clear hstep hf
                  have HBX := Lib.hid hbx; clear hbx
                  go_wp2
                  go_roundw
                  case rel => exact ⟨m + 1, gn, nx0, by omega, rfl, by go_num, hgnw, ⟨HX.out.1, HST.out⟩, HBX.out⟩
                  case measure => simp [intOf]; omega
            · have hmI : ¬ (m : Int) + 1 < (L : Int) := by omega
              have HBR := Lib.hid hbr; clear hbr
              go_wp2_with fail
              refine (awake_any wr).mono ?_
              rintro e w9 ⟨rfl, hb9⟩
              have HB9 : Hid (Below w.heap.size w w9) := HB1.out.trans ((HBR.out.trans (hb9.mono HBR.out.size)).mono HB1.out.size)
              clear hb9
              go_wp2
              go_ret
              exact ⟨rfl, HB9.out⟩
end Go.Proofs.Ytdcmdbhkaohkgaa
