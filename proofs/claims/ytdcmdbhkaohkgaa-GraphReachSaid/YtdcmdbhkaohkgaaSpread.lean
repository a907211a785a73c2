/- What spread tells, and Reach. No condition but bounds. -/
import Derived.Test.YtdcmdbhkaohkgaaHeapA
import Derived.Test.YtdcmdbhkaohkgaaGrB
namespace Go.Proofs.Ytdcmdbhkaohkgaa
open Go.RowKit Gr

/-- what spread tells: all that was found behind the start; from has turned, and nothing else -/
def SpreadPost (G : List (List Int)) (s : Nat) (F0 : List Int) (gf : Nat) (w : World) (e : Ending) (w' : World) : Prop :=
  ∃ a c row D F, e = .returned (.slice a (row.length - 1) c) ∧ IRow w' w'.heap.size a (row.length - 1) c (ints row.tail) ∧ Sp G s F0 row D row.length 0 F ∧ IMem w' gf F ∧ Only [some gf] w w' ∧ ∀ ad, a = some ad → w.heap.size ≤ ad.block

theorem Own.one (w : World) (B : Nat) (X : Int) (hB : B ≤ w.heap.size) : Own (w.alloc (.cells #[.int .i64 X] 3)) B (.slice (some ⟨w.heap.size, 0, none⟩) 1 1) [X] :=
  ⟨rfl, Or.inr ⟨w.heap.size, 1, #[.int .i64 X], rfl, hB, heap_alloc_new w _, Nat.le_refl _, by unfold maxLen; omega, rfl, rfl⟩⟩

theorem tail_irow {w : World} {B g cap : Nat} {row : List Nat} (h : Own w B (.slice (some ⟨g, 0, none⟩) row.length cap) (ints row)) (h0 : 0 < row.length) : 
    IRow w w.heap.size (if cap = 1 then some ⟨g, 0, none⟩ else some ⟨g, 1, none⟩) (row.length - 1) (cap - 1) (ints row.tail) := by
  rcases h.2 with ⟨h1, _⟩ | ⟨g', cap', cur, h1, hb, hg, hnc, hcm, _⟩
  · cases h1
  · injection h1 with h1 h2 h3
    injection h1 with h1
    injection h1 with h1
    subst h1 h3
    refine ⟨by simp [ints], ?_, by omega, g, 1, ?_, fun i hi => ⟨(Array.getElem?_eq_some_iff.1 hg).1, ?_⟩⟩
    · rw [ints_len] at hnc; omega
    · by_cases e : cap = 1
      · right; rw [ints_len] at hnc; omega
      · left; rw [if_neg e]
    · have hc := h.cells (g := g) rfl (i + 1) (.int .i64 ((ints row).getD (i + 1) 0)) (by
        have : i + 1 < row.length := by omega
        simp [ints, this])
      have e : (⟨g, 0, none⟩ : Addr).add (i + 1) = ⟨g, 1 + i, none⟩ := by unfold Addr.add; simp; omega
      rw [e] at hc
      rw [hc, ints_getD, ints_getD]
      congr 3
      have : i + 1 < row.length := by omega
      simp [List.getElem?_tail]

set_option maxHeartbeats 4000000 in
theorem spread_any (a : Option Addr) (n c B : Nat) (G : List (List Int)) (s gf cf : Nat) (F0 : List Int) (w : World) (hg : GRow w B a n c G) (hB : B ≤ w.heap.size) (hgf : B ≤ gf) (hF : IMem w gf F0) (hFl : F0.length = n) (hs : s < n) (hn : n ≤ 1000000) :
    Calls Try.prog 22 #[.slice a n c, .int .i64 (s : Int), .slice (some ⟨gf, 0, none⟩) n cf] w (SpreadPost G s F0 gf w) := by
  have HL : Hid (G.length = n) := hg.1
  have HG := Lib.hid hg; clear hg
  have HF := Lib.hid hF; clear hF
  have HFL := Lib.hid hFl; clear hFl
  have hgl : gf < w.heap.size := HF.out.lt
  have HO1 := Lib.hid (Own.one w B (s : Int) hB)
  go_enter Try.func22, Try.ntmps22
  go_wp2
  go_loopw [7, 8] (fun v t wr => ∃ (m gr cap r : Nat) (row D : List Nat) (F : List Int), m ≤ r ∧ r ≤ n + 1 ∧ 0 < r ∧ v = .slice (some ⟨gr, 0, none⟩) r cap ∧ t = .int .i64 (m : Int) ∧
    Hid (row.length = r ∧ Sp G s F0 row D m 0 F ∧ IMem wr gf F ∧ Own wr w.heap.size (.slice (some ⟨gr, 0, none⟩) r cap) (ints row) ∧ Only [some gf] w wr)) (fun _ t _ => (n + 1) - (intOf t).toNat)
  case atStart => exact ⟨0, w.heap.size, 1, 1, [s], [0], F0, by simp, by omega, by simp, rfl, rfl, rfl, Sp.start (by rw [HL.out]; exact hs) (by rw [HFL.out, HL.out]), HF.out.alloc _, by have := Own.one w w.heap.size (s : Int) (Nat.le_refl _); exact this, (Only.refl _ _).alloc _⟩
  case round =>
    obtain ⟨m, gr, cap, r, row, D, F, hm, hrl, hr0, rfl, rfl, HZ⟩ := hrel
    by_cases hm0 : m < r
    · obtain ⟨wo, rfl⟩ : ∃ wo : World, wo = wr := ⟨_, rfl⟩
      obtain ⟨g', c', e', hgB, hcr, hfr, hnc, hcm⟩ := Own.cellAt HZ.out.2.2.2.1 (i := m) (by rw [ints_len, HZ.out.1]; exact hm0)
      injection e' with e1 e2 e3
      injection e1 with e1
      injection e1 with e1
      subst e1 e3
      clear e2
      rw [ints_getD] at hcr
      obtain ⟨x, hx⟩ : ∃ x, x = row.getD m 0 := ⟨_, rfl⟩
      rw [← hx] at hcr
      have hxn : x < n := by have := HZ.out.2.1.place (q := m) (by rw [HZ.out.1]; exact hm0); rw [hx]; have h2 := HL.out; omega
      have HX := Lib.hid hx; clear hx
      have hGo : GRow wo B a n c G := HG.out.keep (fun p hp => HZ.out.2.2.2.2.cell (by omega) (by simp; omega))
      obtain ⟨b, off, A, L, C, rfl, hb, hcell, hrow⟩ := hGo.at_ hxn
      have hL := hrow.len_le
      unfold maxLen at hL
      have HLr : Hid ((G.getD x []).length = L) := hrow.1
      have HR : Hid (IRow wo B A L C (G.getD x [])) := hrow
      have HGO := Lib.hid hGo
      clear hrow hGo hnc hcm hfr hgB
      go_wp2
      go_loopw [7, 27] (fun v t wr => ∃ (p gr cap r : Nat) (row D : List Nat) (F : List Int), p ≤ L ∧ m < r ∧ r ≤ n + 1 ∧ v = .slice (some ⟨gr, 0, none⟩) r cap ∧ t = .int .i64 (p : Int) ∧
        Hid (row.length = r ∧ row.getD m 0 = x ∧ Sp G s F0 row D m p F ∧ IMem wr gf F ∧ Own wr w.heap.size (.slice (some ⟨gr, 0, none⟩) r cap) (ints row) ∧ Only [some gf] w wr) ∧ Hid (Below B wo wr)) (fun _ t _ => L - (intOf t).toNat)
      case atStart => exact ⟨0, gr, cap, r, row, D, F, Nat.zero_le _, hm0, hrl, rfl, rfl, ⟨HZ.out.1, HX.out.symm, HZ.out.2.1, HZ.out.2.2.1, HZ.out.2.2.2.1, HZ.out.2.2.2.2⟩, Below.refl _ _⟩
      case round =>
        clear HZ hcell hcr
        clear hrl hr0 hm0 hm
        obtain ⟨p, gr, cap, r, row, D, F, hp, hm0, hrl, rfl, rfl, HZ, HBr⟩ := hrel
        by_cases hp0 : p < L
        · obtain ⟨b2, off2, rfl, hb2, hcell2⟩ := (HR.out.below HBr.out).at_ hp0
          obtain ⟨X, hX⟩ : ∃ X, X = (G.getD x []).getD p 0 := ⟨_, rfl⟩
          rw [← hX] at hcell2
          have HXX := Lib.hid hX; clear hX
          by_cases hval : 0 ≤ X ∧ X < n
          · obtain ⟨hv0, hv1⟩ := hval
            obtain ⟨k, rfl⟩ : ∃ k : Nat, X = (k : Int) := ⟨X.toNat, by omega⟩
            have hk : k < n := by omega
            have hFk := HZ.out.2.2.2.1.cell k (by rw [HZ.out.2.2.1.lenF, HL.out]; exact hk)
            have hFf := HZ.out.2.2.2.1.free k
            obtain ⟨Y, hY⟩ : ∃ Y, Y = F.getD k 0 := ⟨_, rfl⟩
            rw [← hY] at hFk
            have HY := Lib.hid hY; clear hY
            go_wp2_with fail
            refine (isPlace_yes _ n c (k : Int) wr HG.out.len_le hv0 hv1).mono ?_
            rintro e w' ⟨rfl, rfl⟩
            by_cases hY1 : Y = -1
            · subst hY1
              obtain ⟨g', c', e', hgB, hcr, hfr, hnc, hcm⟩ := Own.cellAt HZ.out.2.2.2.2.1 (i := m) (by rw [ints_len, HZ.out.1]; exact hm0)
              injection e' with e1 e2 e3
              injection e1 with e1
              injection e1 with e1
              subst e1 e3
              clear e2 hnc hcm hfr
              rw [ints_getD, HZ.out.2.1] at hcr
              have hown2 : Own (wr.setCell ⟨gf, k, none⟩ (.int .i64 (x : Int))) w.heap.size (.slice (some ⟨gr, 0, none⟩) r cap) (ints row) := HZ.out.2.2.2.2.1.keep fun q hq => Below.heap_setCell wr _ _ q (by have := HZ.out.2.2.2.2.1.lt hq; simp; omega)
              have HO2 := Lib.hid hown2; clear hown2
              have HRL : Hid ((ints row).length ≤ 1000000000) := by show _ ≤ _; rw [ints_len, HZ.out.1]; omega
              go_wp2_with (at_builtin; refine appendH rfl _ _ 24 Try.underlying24 rfl w.heap.size (.slice (some ⟨gr, 0, none⟩) r cap) (ints row) (k : Int) _ wr.heap.size rfl rfl (by simp) HO2.out HZ.out.2.2.2.2.2.size HRL.out ?_)
              intro v' w2 hown' honly hfr
              obtain ⟨g4, c4, rfl⟩ : ∃ g4 c4, v' = .slice (some ⟨g4, 0, none⟩) (r + 1) c4 := by
                obtain ⟨g4, c4, e, _⟩ := Own.cellAt hown' (i := 0) (by simp)
                refine ⟨g4, c4, ?_⟩
                rw [e, List.length_append, ints_len, HZ.out.1]
                rfl
              have hgr : w.heap.size ≤ gr := (HZ.out.2.2.2.2.1.lt rfl).1
              have honly2 : Only [some gf] w w2 := (HZ.out.2.2.2.2.2.trans (Only.set (by simp) _ _ _)).andThen honly (by
                intro q hq hlt
                simp [Value.ownBlock] at hq
                omega)
              have HON := Lib.hid honly2; clear honly2
              have hm2 : IMem w2 gf (F.set k (x : Int)) := (HZ.out.2.2.2.1.set k (x : Int)).only honly (by simp [Value.ownBlock]; omega)
              have HM2 := Lib.hid hm2; clear hm2
              have hbw : Below B wo w2 := (HBr.out.setCell (p := ⟨gf, k, none⟩) (show B ≤ gf by exact hgf) _).trans (honly.below (by have := HZ.out.2.2.2.2.2.size; simp; omega) (by
                intro q hq
                simp [Value.ownBlock] at hq
                omega))
              have HBW := Lib.hid hbw; clear hbw
              have HW := Lib.hid hown'; clear hown'
              clear honly hfr
              go_wp2
              go_roundw
              case rel =>
                have hsp := HZ.out.2.2.1.add (by rw [HZ.out.1]; exact hm0) (by rw [HZ.out.2.1, HLr.out]; exact hp0) k (by rw [HL.out]; exact hk) (by rw [HZ.out.2.1]; exact HXX.out.symm) HY.out.symm
                rw [HZ.out.2.1] at hsp
                refine ⟨p + 1, g4, c4, r + 1, row ++ [k], _, _, by omega, by omega, ?_, rfl, by go_num, ⟨by simp [HZ.out.1], ?_, hsp, HM2.out, ?_, HON.out⟩, HBW.out⟩
                · have := hsp.len; rw [List.length_append, HZ.out.1, HL.out] at this; exact this
                · rw [getD_app_lt row k m (by rw [HZ.out.1]; exact hm0)]; exact HZ.out.2.1
                · have := HW.out; rw [ints_append]; exact this
              case measure => simp [intOf]; omega
            · have hY2 : (Y == -1) = false := by simpa using hY1
              have HY1 := Lib.hid hY1; clear hY1
              go_wp2
              go_roundw
              case rel => exact ⟨p + 1, gr, cap, r, row, D, F, by omega, hm0, hrl, rfl, by go_num, ⟨HZ.out.1, HZ.out.2.1, HZ.out.2.2.1.skip (by rw [HZ.out.1]; exact hm0) (by rw [HZ.out.2.1, HLr.out]; exact hp0) (Or.inr (Or.inr ⟨k, by rw [HZ.out.2.1]; exact HXX.out.symm, by rw [HL.out]; exact hk, by rw [← HY.out]; exact HY1.out⟩)), HZ.out.2.2.2⟩, HBr.out⟩
              case measure => simp [intOf]; omega
          · have hnv : X < 0 ∨ (n : Int) ≤ X := by omega
            clear hval
            have HNV := Lib.hid hnv; clear hnv
            go_wp2_with fail
            refine (isPlace_no _ n c X wr HG.out.len_le HNV.out).mono ?_
            rintro e w' ⟨rfl, rfl⟩
            go_wp2
            go_roundw
            case rel => exact ⟨p + 1, gr, cap, r, row, D, F, by omega, hm0, hrl, rfl, by go_num, ⟨HZ.out.1, HZ.out.2.1, HZ.out.2.2.1.skip (by rw [HZ.out.1]; exact hm0) (by rw [HZ.out.2.1, HLr.out]; exact hp0) (by rw [HZ.out.2.1, HL.out, ← HXX.out]; have := HNV.out; omega), HZ.out.2.2.2⟩, HBr.out⟩
            case measure => simp [intOf]; omega
        · obtain rfl : p = L := by omega
          go_wp2
          go_roundw
          case rel => exact ⟨m + 1, gr, cap, r, row, D, F, by omega, hrl, by omega, rfl, by go_num, HZ.out.1, HZ.out.2.2.1.next (by rw [HZ.out.1]; exact hm0) (by rw [HZ.out.2.1, HLr.out]), HZ.out.2.2.2⟩
          case measure => simp [intOf]; omega
    · obtain rfl : m = r := by omega
      have hown := HZ.out.2.2.2.1
      rw [← HZ.out.1] at hown
      have ht := tail_irow hown (by rw [HZ.out.1]; exact hr0)
      rw [HZ.out.1] at ht
      have HT := Lib.hid ht; clear ht hown
      have hsp : Sp G s F0 row D row.length 0 F := by rw [HZ.out.1]; exact HZ.out.2.1
      have HSP := Lib.hid hsp; clear hsp
      have hcapb : m ≤ cap ∧ cap ≤ maxLen := by
        obtain ⟨g', c', e', _, _, _, hnc, hcm⟩ := Own.cellAt HZ.out.2.2.2.1 (i := 0) (by rw [ints_len, HZ.out.1]; exact hr0)
        injection e' with _ _ e3
        subst e3
        rw [ints_len, HZ.out.1] at hnc
        exact ⟨hnc, hcm⟩
      obtain ⟨hcap0, hcap1⟩ := hcapb
      unfold maxLen at hcap1
      have HRE : Hid (row.length - 1 = m - 1) := by show _ = _; rw [HZ.out.1]
      have HGR : Hid (w.heap.size ≤ gr) := (HZ.out.2.2.2.1.lt rfl).1
      by_cases hcap : cap = 1
      · have HT1 : Hid (IRow wr wr.heap.size (some ⟨gr, 0, none⟩) (m - 1) (cap - 1) (ints row.tail)) := by have := HT.out; rw [if_pos hcap] at this; exact this
        clear HT
        subst hcap
        obtain rfl : m = 1 := by omega
        go_wp2
        go_ret
        exact ⟨_, 0, row, D, F, by rw [HRE.out]; rfl, by rw [HRE.out]; exact HT1.out, HSP.out, HZ.out.2.2.1, HZ.out.2.2.2.2, fun ad e => by cases e; exact HGR.out⟩
      · have HT1 : Hid (IRow wr wr.heap.size (some ⟨gr, 1, none⟩) (m - 1) (cap - 1) (ints row.tail)) := by have := HT.out; rw [if_neg hcap] at this; exact this
        clear HT
        go_wp2
        go_ret
        exact ⟨_, cap - 1, row, D, F, by rw [HRE.out]; rfl, by rw [HRE.out]; exact HT1.out, HSP.out, HZ.out.2.2.1, HZ.out.2.2.2.2, fun ad e => by cases e; exact HGR.out⟩

theorem IRow.only {w w' : World} {B : Nat} {a : Option Addr} {n c : Nat} {xs : List Int} {S : List (Option Nat)} (h : IRow w B a n c xs) (hb : Only S w w') (hB : B ≤ w.heap.size) (ha : ∀ ad, a = some ad → some ad.block ∉ S) : IRow w' B a n c xs := by
  obtain ⟨h1, h2, h3, b, off, h6, h7⟩ := h
  refine ⟨h1, h2, h3, b, off, h6, fun i hi => ⟨(h7 i hi).1, ?_⟩⟩
  have e : a = some ⟨b, off, none⟩ := h6.resolve_right (by omega)
  exact (hb.cell (p := ⟨b, off + i, none⟩) (Nat.lt_of_lt_of_le (h7 i hi).1 hB) (ha ⟨b, off, none⟩ e : some b ∉ S)).trans (h7 i hi).2

/-- block g tells of each place whether a way leads to it from i -/
def ReachPost (G : List (List Int)) (i : Nat) (w : World) (e : Ending) (w' : World) : Prop :=
  ∃ g bs, e = .returned (.slice (some ⟨g, 0, none⟩) G.length G.length) ∧ w.heap.size ≤ g ∧ BMem w' g bs ∧ bs.length = G.length ∧ (∀ k, k < G.length → (bs.getD k false = true ↔ Gr.Way G i k)) ∧ Below w.heap.size w w'

theorem bset_true (bs : List Bool) (j k : Nat) (hj : j < bs.length) : (bs.set j true).getD k false = true ↔ bs.getD k false = true ∨ k = j := by
  by_cases e : j = k
  · subst e; simp [hj]
  · have e' : ¬ k = j := fun h => e h.symm
    simp [e, e']

theorem take_snocN (l : List Nat) (p : Nat) (h : p < l.length) : l.take (p + 1) = l.take p ++ [l.getD p 0] := by
  rw [List.take_succ_eq_append_getElem h]; simp [h]

set_option maxHeartbeats 2000000 in
theorem reach_any (a : Option Addr) (n c B : Nat) (G : List (List Int)) (i : Nat) (w : World) (hg : GRow w B a n c G) (hB : B ≤ w.heap.size) (hi : i < n) (hn : n ≤ 1000000) :
    Calls Try.prog 12 #[.slice a n c, .int .i64 (i : Int)] w (ReachPost G i w) := by
  have HL : Hid (G.length = n) := hg.1
  have HG := Lib.hid hg; clear hg
  have hiI : (i : Int) < (n : Int) := by omega
  go_enter Try.func12, Try.ntmps12
  go_wp2_with fail
  refine (isPlace_yes a n c (i : Int) w HG.out.len_le (by omega) hiI).mono ?_
  rintro e w' ⟨rfl, rfl⟩
  go_wp2_with (at_make; refine makeB rfl _ rfl _ n rfl rfl (by omega) ?_)
  intro w1 hm1 hb1
  obtain ⟨g, hg⟩ : ∃ g, g = w.heap.size := ⟨_, rfl⟩
  rw [← hg] at hm1 ⊢
  have hgw : w.heap.size ≤ g := by omega
  have hg1 : g < w1.heap.size := hm1.lt
  have HM1 := Lib.hid hm1; clear hm1
  clear hg
  go_wp2_with fail
  refine (unfound_any a n c w1 hn).mono ?_
  rintro e w2 ⟨gf, rfl, hgf, hF, hb2⟩
  have HF := Lib.hid hF; clear hF
  have HM2 : Hid (BMem w2 g (List.replicate n false)) := HM1.out.below hb2 hg1
  have hbb : Below w.heap.size w w2 := hb1.trans (hb2.mono hb1.size)
  have HB2 := Lib.hid hbb; clear hbb
  have hs1 := hb1.size
  have hs2 := hb2.size
  clear hb1 hb2 HM1
  go_wp2_with fail
  refine (spread_any a n c B G i gf n (List.replicate n (-1)) w2 (HG.out.below (HB2.out.mono hB)) (by omega) (by omega) HF.out (by simp) hi hn).mono ?_
  rintro e w3 ⟨a3, c3, row, D, F, rfl, hrow, hsp, hmF, honly, had⟩
  have hon' : Only [some gf] w2 w3 := honly
  have HM3 : Hid (BMem w3 g (List.replicate n false)) := HM2.out.only hon' (by simp; omega)
  have hb3 : Below w.heap.size w w3 := HB2.out.trans (hon'.below (by omega) (by intro j hj; simp at hj; omega))
  have hrl : row.length - 1 ≤ 1000000 := by have := hsp.len; have := HL.out; omega
  have hs3 := honly.size
  obtain ⟨L, hL⟩ : ∃ L, L = row.length - 1 := ⟨_, rfl⟩
  rw [← hL] at hrow hrl ⊢
  have HROW := Lib.hid hrow; clear hrow
  have HSP := Lib.hid hsp; clear hsp
  have HB3 := Lib.hid hb3; clear hb3
  have HAD := Lib.hid had; clear had
  have HLL := Lib.hid hL; clear hL
  clear hmF honly hon'
  have hlt : row.tail.length = L := by rw [HLL.out]; simp
  have HLT := Lib.hid hlt; clear hlt
  go_wp2
  go_loopw [21] (fun t wr => ∃ (p : Nat) (bs : List Bool), p ≤ L ∧ t = .int .i64 (p : Int) ∧ Hid (BMem wr g bs ∧ bs.length = n ∧ (∀ k, k < n → (bs.getD k false = true ↔ k ∈ row.tail.take p)) ∧ Only [some g] w3 wr)) (fun t _ => L - (intOf t).toNat)
  case atStart => exact ⟨0, List.replicate n false, Nat.zero_le _, rfl, HM3.out, by simp, fun k hk => by simp [hk], Only.refl _ _⟩
  case round =>
    obtain ⟨p, bs, hp, rfl, HZ⟩ := hrel
    by_cases hp0 : p < L
    · obtain ⟨b, off, rfl, hb, hcell⟩ := (HROW.out.only HZ.out.2.2.2 (Nat.le_refl _) (by intro ad e; have := HAD.out ad e; simp; omega)).at_ hp0
      rw [ints_getD] at hcell
      obtain ⟨x, hx⟩ : ∃ x, x = row.tail.getD p 0 := ⟨_, rfl⟩
      rw [← hx] at hcell
      have hxm : x ∈ row.tail := by
        have hpl : p < row.tail.length := by rw [HLT.out]; exact hp0
        rw [hx]
        have e : row.tail.getD p 0 = row.tail[p] := by simp only [List.getD, List.getElem?_eq_getElem hpl, Option.getD_some]
        rw [e]; exact List.getElem_mem hpl
      have hxn : x < n := by have := (HSP.out.way hxm).2.2; have h2 := HL.out; omega
      have HX := Lib.hid hx; clear hx hxm
      have hfz := HZ.out.1.free x
      have hcz := HZ.out.1.cell x (by rw [HZ.out.2.1]; exact hxn)
      have hxI : (x : Int) < (n : Int) := by omega
      go_wp2
      go_roundw
      case rel =>
        refine ⟨p + 1, bs.set x true, by omega, by go_num, HZ.out.1.set x true, by simp [HZ.out.2.1], fun k hk => ?_, HZ.out.2.2.2.trans (Only.set (by simp) _ _ _)⟩
        rw [bset_true bs x k (by rw [HZ.out.2.1]; exact hxn), HZ.out.2.2.1 k hk, take_snocN _ p (by rw [HLT.out]; exact hp0), ← HX.out]
        simp
      case measure => simp [intOf]; omega
    · obtain rfl : p = L := by omega
      go_wp2
      go_ret
      refine ⟨g, bs, by rw [HL.out]; rfl, hgw, HZ.out.1, by rw [HZ.out.2.1, HL.out], fun k hk => ?_, HB3.out.trans (HZ.out.2.2.2.below (by omega) (by intro j hj; simp at hj; omega))⟩
      rw [HZ.out.2.2.1 k (by rw [← HL.out]; exact hk), List.take_of_length_le (by rw [HLT.out]; exact Nat.le_refl _)]
      constructor
      · intro h; exact (HSP.out.way h).1
      · rintro ⟨q, hw⟩
        exact HSP.out.allBut (fun x y hE h => by
          exfalso; apply h
          have := hE.1
          rw [HL.out] at this
          simp [this]) q k hw (by rw [HL.out] at hk; simp [hk])
end Go.Proofs.Ytdcmdbhkaohkgaa
