/- What slices.Reverse and Cycle tell. No condition but bounds. -/
import Derived.Test.YtdcmdbhkaohkgaaLst
import Derived.Test.YtdcmdbhkaohkgaaGrE
import Derived.Test.YtdcmdbhkaohkgaaTurn
namespace Go.Proofs.Ytdcmdbhkaohkgaa
open Go.RowKit Gr

/-- l with all but the places k to j turned round -/
def RevAt (l zs : List Int) (k j : Nat) : Prop := zs.length = l.length ∧ ∀ t, t < l.length → zs.getD t 0 = if k ≤ t ∧ t ≤ j then l.getD t 0 else l.getD (l.length - 1 - t) 0

theorem RevAt.step {l zs : List Int} {k j : Nat} (h : RevAt l zs k j) (hkj : k < j) (hl : k + j + 1 = l.length) : RevAt l ((zs.set k (zs.getD j 0)).set j (zs.getD k 0)) (k + 1) (j - 1) := by
  obtain ⟨h1, h2⟩ := h
  refine ⟨by simp [h1], fun t ht => ?_⟩
  have ek := h2 k (by omega)
  have ej := h2 j (by omega)
  rw [if_pos ⟨by omega, by omega⟩] at ek ej
  by_cases e1 : t = j
  · subst e1
    rw [if_neg (by omega), show l.length - 1 - t = k by omega, ← ek]
    have : t < zs.length := by omega
    simp [this]
  · by_cases e2 : t = k
    · subst e2
      rw [if_neg (by omega), show l.length - 1 - t = j by omega, ← ej]
      have : t < zs.length := by omega
      simp [this, Ne.symm e1]
    · have e3 : ((zs.set k (zs.getD j 0)).set j (zs.getD k 0)).getD t 0 = zs.getD t 0 := by
        simp [Ne.symm e1, Ne.symm e2]
      rw [e3, h2 t ht]
      by_cases c : k + 1 ≤ t ∧ t ≤ j - 1
      · rw [if_pos c, if_pos ⟨by omega, by omega⟩]
      · rw [if_neg c, if_neg (by omega)]

theorem RevAt.done {l zs : List Int} {k j : Nat} (h : RevAt l zs k j) (hkj : j ≤ k) (hl : k + j + 1 = l.length) : zs = l.reverse := by
  obtain ⟨h1, h2⟩ := h
  apply List.ext_getElem (by simp [h1])
  intro t ht ht'
  have hlt : t < l.length := by omega
  have := h2 t hlt
  have e1 : zs.getD t 0 = zs[t] := by simp [ht]
  rw [e1] at this
  rw [this, List.getElem_reverse]
  have hr : l.length - 1 - t < l.length := by omega
  split
  · rename_i c
    have : l.length - 1 - t = t := by omega
    simp [this, hlt]
  · simp [hr]

set_option maxHeartbeats 2000000 in
theorem reverse_any (B g n cap : Nat) (l : List Int) (w : World) (ho : Own w B (.slice (some ⟨g, 0, none⟩) n cap) l) (hn : n ≤ 1000000000) (h0 : 0 < n) (hln : l.length = n) :
    Calls Try.prog 23 #[.slice (some ⟨g, 0, none⟩) n cap] w fun e w' => e = .returned (.tuple #[]) ∧ Own w' B (.slice (some ⟨g, 0, none⟩) n cap) l.reverse ∧ Only [some g] w w' := by
  have HO := Lib.hid ho; clear ho
  have HL := Lib.hid hln; clear hln
  go_enter Try.func23, Try.ntmps23
  go_wp2
  go_loopw [2, 3] (fun i j wr => ∃ (k m : Nat) (zs : List Int), i = .int .i64 (k : Int) ∧ j = .int .i64 (m : Int) ∧ k + m + 1 ≤ n ∧ n ≤ k + m + 1 ∧ Hid (Own wr B (.slice (some ⟨g, 0, none⟩) n cap) zs ∧ RevAt l zs k m ∧ zs.length = n) ∧ Only [some g] w wr) (fun _ j _ => (intOf j).toNat)
  case atStart => exact ⟨0, n - 1, l, rfl, by go_num, by omega, by omega, ⟨HO.out, ⟨rfl, fun t ht => by rw [if_pos ⟨by omega, by have := HL.out; omega⟩]⟩, HL.out⟩, Only.refl _ _⟩
  case round =>
    obtain ⟨k, m, zs, rfl, rfl, hk1, hk2, HZ, hbr⟩ := hrel
    by_cases hkm : k < m
    · obtain ⟨g1, c1, e1, _, hc0, hf0, _, _⟩ := Own.cellAt HZ.out.1 (i := k) (by rw [HZ.out.2.2]; omega)
      obtain ⟨g2, c2, e2, _, hc1, hf1, _, _⟩ := Own.cellAt HZ.out.1 (i := m) (by rw [HZ.out.2.2]; omega)
      injection e1 with e1 q1 q2
      injection e1 with e1
      injection e1 with e1
      injection e2 with e2 q3 q4
      injection e2 with e2
      injection e2 with e2
      subst e1 e2
      clear q1 q2 q3 q4
      obtain ⟨x, hx⟩ : ∃ x, x = zs.getD k 0 := ⟨_, rfl⟩
      obtain ⟨y, hy⟩ : ∃ y, y = zs.getD m 0 := ⟨_, rfl⟩
      rw [← hx] at hc0
      rw [← hy] at hc1
      have HX := Lib.hid hx; clear hx
      have HY := Lib.hid hy; clear hy
      have hb0 : (k : Int) < (n : Int) := by omega
      have hb1 : (m : Int) < (n : Int) := by omega
      go_wp2
      go_region
      go_wp2
      go_roundw
      case rel =>
        refine ⟨k + 1, m - 1, (zs.set k y).set m x, by go_num, by go_num, by omega, by omega, ⟨?_, ?_, ?_⟩, ?_⟩
        · exact (HZ.out.1.set k y).set m x
        · have h := HZ.out.2.1.step hkm (by have := HL.out; omega)
          rw [← HX.out, ← HY.out] at h
          exact h
        · simp [HZ.out.2.2]
        · exact ((hbr.trans (Only.set (by simp) _ _ _)).trans (Only.set (by simp) _ _ _)).drew
      case measure => simp [intOf]; omega
    · go_wp2
      go_end0
      have h := HZ.out.2.1.done (by omega) (by have := HL.out; omega)
      exact ⟨rfl, by rw [← h]; exact HZ.out.1, hbr⟩

def CycPost (G : List (List Int)) (w : World) (e : Ending) (w' : World) : Prop :=
  ∃ a c' c, e = .returned (.slice a c.length c') ∧ IRow w' w'.heap.size a c.length c' (ints c) ∧ Cyc G c ∧ Below w.heap.size w w'

theorem least_any (a a2 : Option Addr) (n c c2 B : Nat) (R N : List (List Int)) (w : World) (hg : GRow w B a n c R) (hg2 : GRow w B a2 n c2 N) (hB : B ≤ w.heap.size) (hn : n ≤ 1000000) (hT : Turn N R) :
    Calls Try.prog 19 #[.slice a n c, .slice a2 n c2] w (LstPost R w) := callsIn_wide.1 (least_in a a2 n c c2 B R N w hg hg2 hB hn hT)

set_option maxHeartbeats 4000000 in
theorem cycle_any (a : Option Addr) (n c B : Nat) (G : List (List Int)) (w : World) (hg : GRow w B a n c G) (hB : B ≤ w.heap.size) (hn : n ≤ 1000000) (ht : Gr.tot G ≤ 1000000) :
    Calls Try.prog 11 #[.slice a n c] w (CycPost G w) := by
  have HL : Hid (G.length = n) := hg.1
  have HG := Lib.hid hg; clear hg
  go_enter Try.func11, Try.ntmps11
  go_wp2_with fail
  refine (turned_any a n c B G w HG.out hB hn ht).mono ?_
  rintro e w1 ⟨g1, N, rfl, hN, hTN, hb1⟩
  rw [HL.out] at hN ⊢
  have HB1 := Lib.hid hb1; clear hb1
  have HNN := Lib.hid hN; clear hN
  have HTN := Lib.hid hTN; clear hTN
  go_wp2_with fail
  refine (turned_any _ n n w1.heap.size N w1 HNN.out (Nat.le_refl _) hn (Nat.le_trans HTN.out.2.1 ht)).mono ?_
  rintro e w2 ⟨g2, R, rfl, hR, hTR, hb2⟩
  have HLN : Hid (N.length = n) := HTN.out.1.trans HL.out
  rw [HLN.out] at hR ⊢
  have HLR : Hid (R.length = n) := hTR.1.trans HLN.out
  have HB2 := Lib.hid (HB1.out.trans (hb2.mono HB1.out.size))
  have HN2 := Lib.hid ((HNN.out.below hb2).more hb2.size); clear hb2
  have HRR := Lib.hid hR; clear hR
  have HTR := Lib.hid hTR; clear hTR
  clear HB1 HNN
  go_wp2_with fail
  refine (least_any _ _ n n n w2.heap.size R N w2 HRR.out HN2.out (Nat.le_refl _) hn HTR.out).mono ?_
  rintro e w3 ⟨s, rfl, hLs, hb3⟩
  have HB3 := Lib.hid (HB2.out.trans (hb3.mono HB2.out.size))
  have HR3 := Lib.hid ((HRR.out.below hb3).more hb3.size); clear hb3
  have HLS := Lib.hid hLs; clear hLs
  clear HB2 HN2 HRR
  by_cases hsn : s < n
  · have hsI : (s : Int) < (n : Int) := by omega
    go_wp2_with fail
    refine (isPlace_yes a n c (s : Int) w3 HG.out.len_le (by omega) hsI).mono ?_
    rintro e w' ⟨rfl, rfl⟩
    go_wp2_with fail
    refine (unfound_any a n c w3 hn).mono ?_
    rintro e w4 ⟨gf, rfl, hgf, hF, hb4⟩
    have HB4 := Lib.hid (HB3.out.trans (hb4.mono HB3.out.size))
    have HR4 := Lib.hid (HR3.out.below hb4)
    have HF4 := Lib.hid hF; clear hF
    have hs4 := hb4.size
    have hs3 := HB3.out.size
    clear hb4 HB3 HR3
    go_wp2_with fail
    refine (spread_any _ n n w3.heap.size R s gf n (List.replicate n (-1)) w4 HR4.out hs4 hgf HF4.out (by simp) hsn hn).mono ?_
    rintro e w5 ⟨a5, c5, row, D, F, rfl, hrow, hsp, hmF, honly, had⟩
    have hway : Gr.Way R s s := by
      rcases HLS.out.2 with e | ⟨_, e⟩
      · rw [HLR.out] at e; omega
      · exact e
    obtain ⟨qs, hq0, hql, hqe, _⟩ : ∃ q, 0 < q ∧ q < row.length ∧ row.getD q 0 = s ∧ True := by
      obtain ⟨k, hw⟩ := hway
      obtain ⟨q, x1, x2, x3, _⟩ := hsp.all (fun j hj => by rw [HLR.out] at hj; simp [hj]) k s hw
      exact ⟨q, x1, x2, x3, trivial⟩
    have hgfw : w.heap.size ≤ gf := by omega
    have HB5 := Lib.hid (HB4.out.trans (honly.below HB4.out.size (by intro j hj; simp at hj; omega)))
    have hFl : F.length = n := by rw [hsp.lenF, HLR.out]
    obtain ⟨i0, hFi, hi0n, hch0⟩ := Ch.start hsp hq0 hql hqe
    rw [HLR.out] at hi0n
    have hcF := hmF.cell s (by rw [hFl]; exact hsn)
    rw [hFi] at hcF
    have HS := Lib.hid (And.intro hsp (And.intro hq0 (And.intro hql (And.intro hqe (And.intro hmF hFl))))); clear hsp hq0 hql hqe hmF hFl hrow honly had hway hFi HF4
    have HCH := Lib.hid hch0; clear hch0
    go_wp2
    go_loopg [7, 8] (n + 1) (fun k vo t wr => ∃ (out : List Nat) (i : Nat), t = .int .i64 (i : Int) ∧ i < n ∧ Hid (Ch R s row D qs out i ∧ Own wr w5.heap.size vo (ints out) ∧ Below w5.heap.size w5 wr ∧ out.length ≤ n) ∧ Hid (n + 1 - out.length = k))
    case atStart => exact ⟨[], i0, rfl, hi0n, ⟨HCH.out, Own.nil _ _, Below.refl _ _, Nat.zero_le _⟩, rfl⟩
    case round =>
      obtain ⟨out, i, rfl, hin, HZ, HK⟩ := hrel
      have HOL : Hid ((ints out).length ≤ 1000000000) := by show _ ≤ _; rw [ints_len]; have := HZ.out.2.2.2; omega
      by_cases his : i = s
      · subst his
        have hss : ((i : Int) != (i : Int)) = false := by simp
        go_wp2_with (at_builtin; refine appendH rfl _ _ 24 Try.underlying24 rfl w5.heap.size u7 (ints out) (i : Int) _ wr.heap.size rfl rfl rfl HZ.out.2.1 HZ.out.2.2.1.size HOL.out ?_)
        intro v' w6 hown6 honly6 hfr6
        have hb6 : Below w5.heap.size w5 w6 := HZ.out.2.2.1.trans (honly6.below HZ.out.2.2.1.size (by intro j hj; simp only [List.mem_singleton] at hj; exact (HZ.out.2.1.lt hj.symm).1))
        have hil : (ints out ++ [(i : Int)]).length = out.length + 1 := by simp [ints]
        obtain ⟨g6, c6, e6, hgB6, _⟩ := Own.cellAt hown6 (i := 0) (by omega)
        rw [hil] at e6
        subst e6
        have H6 := Lib.hid (And.intro hown6 (And.intro hb6 (And.intro hil hgB6))); clear hown6 hb6 hil hgB6 honly6 hfr6
        go_wp2_with fail
        refine (reverse_any w5.heap.size g6 (out.length + 1) c6 (ints out ++ [(i : Int)]) w6 H6.out.1 (by have := HZ.out.2.2.2; omega) (by omega) H6.out.2.2.1).mono ?_
        rintro e w7 ⟨rfl, hown7, honly7⟩
        have hb7 : Below w5.heap.size w5 w7 := H6.out.2.1.trans (honly7.below H6.out.2.1.size (by intro j hj; simp at hj; have := H6.out.2.2.2; omega))
        have hcyc : Cyc R (out ++ [i]).reverse := Ch.end_ HS.out.1 (fun j hj => by rw [HLR.out] at hj; simp [hj]) HLS.out HS.out.2.1 HS.out.2.2.1 HS.out.2.2.2.1 HZ.out.1
        have hrv : (ints out ++ [(i : Int)]).reverse = ints (out ++ [i]).reverse := by simp [ints]
        rw [hrv] at hown7
        obtain ⟨a8, c8, e8, hrow8⟩ := hown7.irow
        have hl8 : (ints (out ++ [i]).reverse).length = out.length + 1 := by simp [ints]
        have hl9 : (out ++ [i]).reverse.length = out.length + 1 := by simp
        rw [hl8] at e8 hrow8
        injection e8 with e8 _ e9
        subst e8 e9
        have H7 := Lib.hid (And.intro hcyc (And.intro hrow8 (And.intro hb7 hl9))); clear hcyc hrow8 hb7 hown7 honly7 hrv hl8 hl9
        go_wp2
        go_ret
        exact ⟨_, c6, (out ++ [i]).reverse, by rw [H7.out.2.2.2]; rfl, by rw [H7.out.2.2.2]; exact H7.out.2.1, Cyc.of_turn HTN.out HTR.out H7.out.1, HB5.out.trans (H7.out.2.2.1.mono HB5.out.size)⟩
      · have hss : ((i : Int) != (s : Int)) = true := by rw [bne_iff_ne]; omega
        obtain ⟨j, hFj, hjn, hchj⟩ := Ch.step HS.out.1 HS.out.2.1 HS.out.2.2.1 HS.out.2.2.2.1 HZ.out.1 his
        rw [HLR.out] at hjn
        have HIS := Lib.hid his; clear his
        have HJ := Lib.hid (And.intro hFj hchj); clear hFj hchj
        go_wp2_with (at_builtin; refine appendH rfl _ _ 24 Try.underlying24 rfl w5.heap.size u7 (ints out) (i : Int) _ wr.heap.size rfl rfl rfl HZ.out.2.1 HZ.out.2.2.1.size HOL.out ?_)
        intro v' w6 hown6 honly6 hfr6
        have hb6 : Below w5.heap.size w5 w6 := HZ.out.2.2.1.trans (honly6.below HZ.out.2.2.1.size (by intro j hj; simp only [List.mem_singleton] at hj; exact (HZ.out.2.1.lt hj.symm).1))
        obtain ⟨a6, n6, c6, rfl⟩ : ∃ a n c, v' = .slice a n c := by obtain ⟨a6, c6, e⟩ := hown6.len; exact ⟨a6, _, c6, e⟩
        have hmF6 := HS.out.2.2.2.2.1.below hb6 HS.out.2.2.2.2.1.lt
        have hcF6 := hmF6.cell i (by rw [HS.out.2.2.2.2.2]; exact hin)
        rw [HJ.out.1] at hcF6
        have hlen6 : (out ++ [i]).length ≤ n := by
          obtain ⟨r, hr, _, hlen, _, _, hnd, hout⟩ := HJ.out.2
          have := nodup_len n (out ++ [i]) hnd (fun x hx => by
            obtain ⟨_, q, h1, h2, h3⟩ := hout x hx
            have := HS.out.1.place (q := q) (by have := HS.out.2.2.1; omega)
            rw [HLR.out, h3] at this; exact this)
          exact this
        have H6 := Lib.hid (And.intro hown6 (And.intro hb6 hlen6)); clear hown6 hb6 hlen6 honly6 hfr6 hmF6
        have hinI : (i : Int) < (n : Int) := by omega
        go_wp2
        go_roundg (n + 1 - (out ++ [i]).length)
        case measure => have h1 := HK.out; have h2 := HZ.out.2.2.2; simp only [List.length_append, List.length_cons, List.length_nil]; omega
        case rel => exact ⟨out ++ [i], j, rfl, hjn, ⟨HJ.out.2, by rw [ints_append]; exact H6.out.1, H6.out.2.1, H6.out.2.2⟩, rfl⟩
  · have hsI : (n : Int) ≤ (s : Int) := by omega
    go_wp2_with fail
    refine (isPlace_no a n c (s : Int) w3 HG.out.len_le (Or.inr hsI)).mono ?_
    rintro e w' ⟨rfl, rfl⟩
    go_wp2
    go_ret
    refine ⟨none, 0, [], rfl, IRow.nil _ _, Or.inl ⟨rfl, fun j hj => ?_⟩, HB3.out⟩
    have h1 := (HTN.out.way2 HTR.out j j).2 hj
    have h2 := HLS.out.1 j h1
    have h3 := h1.lt.1
    rw [HLR.out] at h3
    omega
end Go.Proofs.Ytdcmdbhkaohkgaa
