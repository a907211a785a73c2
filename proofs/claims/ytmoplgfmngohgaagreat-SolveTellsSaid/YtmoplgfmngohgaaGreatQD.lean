/- What Add, Sub and Div tell. -/
import Derived.Test.YtmoplgfmngohgaaGreatQC
import Derived.Deep.DeepCutAuto
import Derived.Deep.RegionHeld3
import Derived.Deep.RegionWith
namespace Go.Proofs.YtmoplgfmngohgaaGreat
set_option linter.unusedVariables false
set_option linter.unusedSimpArgs false
set_option maxRecDepth 100000
open Go.RowKit Nums

/-- both numbers laid, their Dens above 0 -/
def SaidTwo (k1 j1 k2 j2 : Nat) (p q : Rat) (w W : World) : Prop :=
  ∃ s1 a1 n1 c1 b1 m1 d1 us1 vs1 s2 a2 n2 c2 b2 m2 d2 us2 vs2, Tri W w.heap.size (.bool s1) (.slice a1 n1 c1) (.slice b1 m1 d1) ∧ Tri W (w.heap.size + 1) (.bool s2) (.slice a2 n2 c2) (.slice b2 m2 d2) ∧ Tri W (w.heap.size + 2) (.bool false) (.slice none 0 0) (.slice none 0 0) ∧
    Row W a1 n1 c1 us1 ∧ Row W b1 m1 d1 vs1 ∧ Row W a2 n2 c2 us2 ∧ Row W b2 m2 d2 vs2 ∧ n1 ≤ k1 ∧ m1 ≤ j1 ∧ n2 ≤ k2 ∧ m2 ≤ j2 ∧ mkRat (sv s1 (val us1)) (val vs1) = p ∧ 0 < val vs1 ∧ mkRat (sv s2 (val us2)) (val vs2) = q ∧ 0 < val vs2 ∧ Below w.heap.size w W

set_option maxHeartbeats 8000000 in
theorem addR (k1 j1 k2 j2 K J : Nat) (q : Rat) (p1 p2 : Rat) {s t : Bool} {a b a' b' : Option Addr} {n c m d n' c' m' d' : Nat} {xs ys us vs : List Nat} {w : World} (h0 : Row w a n c xs) (h1 : Row w b m d ys) (h2 : Row w a' n' c' us) (h3 : Row w b' m' d' vs) (hp : mkRat (sv s (val xs)) (val ys) = p1) (hq : mkRat (sv t (val us)) (val vs) = p2) (hn : n ≤ k1) (hm : m ≤ j1) (hn' : n' ≤ k2) (hm' : m' ≤ j2) (h1k : k1 ≤ 40) (h1j : j1 ≤ 40) (h2k : k2 ≤ 40) (h2j : j2 ≤ 40) (h1j1 : 1 ≤ j1) (h2j1 : 1 ≤ j2) (hK : k1 + j2 + 1 ≤ K) (hK2 : k2 + j1 + 1 ≤ K) (hJ : j1 + j2 ≤ J) (hK9 : K ≤ 95) (hJ9 : J ≤ 95) (hr : p1 + p2 = q) :
    Calls Tryz.prog 29 #[.agg #[.bool s, .slice a n c, .slice b m d], .agg #[.bool t, .slice a' n' c', .slice b' m' d']] w (RatK K J q w) := by
  have HB := Lib.hid (below_three w (.cells #[.bool s, .slice a n c, .slice b m d] 27) (.cells #[.bool t, .slice a' n' c', .slice b' m' d'] 27) (.cells #[.bool false, .slice none 0 0, .slice none 0 0] 27))
  have X0 : Hid (Tri (((w.alloc (.cells #[.bool s, .slice a n c, .slice b m d] 27)).alloc (.cells #[.bool t, .slice a' n' c', .slice b' m' d'] 27)).alloc (.cells #[.bool false, .slice none 0 0, .slice none 0 0] 27)) (w.heap.size) (.bool s) (.slice a n c) (.slice b m d)) := (((tri_new _ (.bool s) (.slice a n c) (.slice b m d)).alloc _).alloc _)
  have X1 : Hid (Tri (((w.alloc (.cells #[.bool s, .slice a n c, .slice b m d] 27)).alloc (.cells #[.bool t, .slice a' n' c', .slice b' m' d'] 27)).alloc (.cells #[.bool false, .slice none 0 0, .slice none 0 0] 27)) (w.heap.size + 1) (.bool t) (.slice a' n' c') (.slice b' m' d')) := ((tri_newE (by simp)).alloc _)
  have Z : Hid (Tri (((w.alloc (.cells #[.bool s, .slice a n c, .slice b m d] 27)).alloc (.cells #[.bool t, .slice a' n' c', .slice b' m' d'] 27)).alloc (.cells #[.bool false, .slice none 0 0, .slice none 0 0] 27)) (w.heap.size + 2) (.bool false) (.slice none 0 0) (.slice none 0 0)) := (tri_newE (by simp; try omega))
  have R0 := Lib.hid (h0.later HB.out); clear h0
  have R1 := Lib.hid (h1.later HB.out); clear h1
  have R2 := Lib.hid (h2.later HB.out); clear h2
  have R3 := Lib.hid (h3.later HB.out); clear h3
  have Hp := Lib.hid hp; clear hp
  have Hq := Lib.hid hq; clear hq
  have Hr := Lib.hid hr; clear hr
  go_enter Tryz.func29, Tryz.ntmps29
  go_wp2_with fail
  go_upto_region 1 with fail
  go_cut [6] (fun s6 wx => Hid (SaidTwo k1 j1 k2 j2 p1 p2 w wx))
  case first =>
    replace R0 := Lib.hid R0.out.drew
    replace R1 := Lib.hid R1.out.drew
    replace R2 := Lib.hid R2.out.drew
    replace R3 := Lib.hid R3.out.drew
    replace X0 := Lib.hid X0.out.drew
    replace X1 := Lib.hid X1.out.drew
    replace Z := Lib.hid Z.out.drew
    replace HB := Lib.hid HB.out.drew
    obtain ⟨kX00, kX01, kX02, kX03, kX04, kX05, kX06⟩ := X0.out
    obtain ⟨kX10, kX11, kX12, kX13, kX14, kX15, kX16⟩ := X1.out
    obtain ⟨kZ0, kZ1, kZ2, -, -, -, -⟩ := Z.out
    go_region_with (first
        | (have mk := G1; clear mk
           go_at_call 38
           refine (saidR k2 j2 p2 R2.out R3.out Hq.out hn' hm' h2j1 (by omega)).mono ?_
           rintro e v2 ⟨s2, a2, n2, c2, b2, m2, d2, us2, vs2, rfl, hn2, hm2, hr0, hr1, hq1, hv1, hb⟩
           clear R2
           clear R3
           replace RN1 := Lib.hid (RN1.out.later hb)
           replace RD1 := Lib.hid (RD1.out.later hb)
           replace X0 := Lib.hid (X0.out.later hb)
           replace X1 := Lib.hid (X1.out.later hb)
           replace Z := Lib.hid (Z.out.later hb)
           replace HB := Lib.hid (bthen HB.out hb); clear hb
           clear kX00 kX01 kX02 kX03 kX04 kX05 kX06 kX10 kX11 kX12 kX13 kX14 kX15 kX16 kZ0 kZ1 kZ2
           obtain ⟨kX00, kX01, kX02, kX03, kX04, kX05, kX06⟩ := X0.out
           obtain ⟨kX10, kX11, kX12, kX13, kX14, kX15, kX16⟩ := X1.out
           obtain ⟨kZ0, kZ1, kZ2, -, -, -, -⟩ := Z.out
           have RN2 := Lib.hid hr0; clear hr0
           have RD2 := Lib.hid hr1; clear hr1
           have HQ2 := Lib.hid hq1; clear hq1
           have HV2 := Lib.hid hv1; clear hv1
           have G2 : Hid True := trivial)
        | (skip
           go_at_call 38
           refine (saidR k1 j1 p1 R0.out R1.out Hp.out hn hm h1j1 (by omega)).mono ?_
           rintro e v1 ⟨s1, a1, n1, c1, b1, m1, d1, us1, vs1, rfl, hn1, hm1, hr0, hr1, hq1, hv1, hb⟩
           clear R0
           clear R1
           replace R2 := Lib.hid (R2.out.later hb)
           replace R3 := Lib.hid (R3.out.later hb)
           replace X0 := Lib.hid (X0.out.later hb)
           replace X1 := Lib.hid (X1.out.later hb)
           replace Z := Lib.hid (Z.out.later hb)
           replace HB := Lib.hid (bthen HB.out hb); clear hb
           clear kX00 kX01 kX02 kX03 kX04 kX05 kX06 kX10 kX11 kX12 kX13 kX14 kX15 kX16 kZ0 kZ1 kZ2
           obtain ⟨kX00, kX01, kX02, kX03, kX04, kX05, kX06⟩ := X0.out
           obtain ⟨kX10, kX11, kX12, kX13, kX14, kX15, kX16⟩ := X1.out
           obtain ⟨kZ0, kZ1, kZ2, -, -, -, -⟩ := Z.out
           have RN1 := Lib.hid hr0; clear hr0
           have RD1 := Lib.hid hr1; clear hr1
           have HQ1 := Lib.hid hq1; clear hq1
           have HV1 := Lib.hid hv1; clear hv1
           have G1 : Hid True := trivial))
    all_goals
      go_wp2_with fail
      go_meet
      refine ⟨s1, a1, n1, c1, b1, m1, d1, us1, vs1, s2, a2, n2, c2, b2, m2, d2, us2, vs2, ?_, ?_, ?_, ?_, ?_, ?_, ?_, hn1, hm1, hn2, hm2, HQ1.out, HV1.out, HQ2.out, HV2.out, ?_⟩
      · repeat' (first | with_reducible exact X0.out | with_reducible exact X1.out | with_reducible exact Z.out | with_reducible refine Tri.put (u := .bool s) (v := .slice a n c) (x := .slice b m d) (g := w.heap.size) ?_ _ _ _ | with_reducible refine Tri.put (u := .bool t) (v := .slice a' n' c') (x := .slice b' m' d') (g := w.heap.size + 1) ?_ _ _ _ | with_reducible refine Tri.far ?_ ?_ _ _ _ | omega | (simp; done))
      · repeat' (first | with_reducible exact X0.out | with_reducible exact X1.out | with_reducible exact Z.out | with_reducible refine Tri.put (u := .bool s) (v := .slice a n c) (x := .slice b m d) (g := w.heap.size) ?_ _ _ _ | with_reducible refine Tri.put (u := .bool t) (v := .slice a' n' c') (x := .slice b' m' d') (g := w.heap.size + 1) ?_ _ _ _ | with_reducible refine Tri.far ?_ ?_ _ _ _ | omega | (simp; done))
      · repeat' (first | with_reducible exact X0.out | with_reducible exact X1.out | with_reducible exact Z.out | with_reducible refine Tri.put (u := .bool s) (v := .slice a n c) (x := .slice b m d) (g := w.heap.size) ?_ _ _ _ | with_reducible refine Tri.put (u := .bool t) (v := .slice a' n' c') (x := .slice b' m' d') (g := w.heap.size + 1) ?_ _ _ _ | with_reducible refine Tri.far ?_ ?_ _ _ _ | omega | (simp; done))
      · repeat' (first | with_reducible exact RN1.out | with_reducible refine Row.put3 (s := s) (a1 := a) (n1 := n) (c1 := c) (a2 := b) (n2 := m) (c2 := d) ?_ (g := w.heap.size) ?_ _ _ _ | with_reducible refine Row.put3 (s := t) (a1 := a') (n1 := n') (c1 := c') (a2 := b') (n2 := m') (c2 := d') ?_ (g := w.heap.size + 1) ?_ _ _ _ | with_reducible exact X0.out | with_reducible exact X1.out | with_reducible refine Tri.far ?_ ?_ _ _ _ | omega | (simp; done))
      · repeat' (first | with_reducible exact RD1.out | with_reducible refine Row.put3 (s := s) (a1 := a) (n1 := n) (c1 := c) (a2 := b) (n2 := m) (c2 := d) ?_ (g := w.heap.size) ?_ _ _ _ | with_reducible refine Row.put3 (s := t) (a1 := a') (n1 := n') (c1 := c') (a2 := b') (n2 := m') (c2 := d') ?_ (g := w.heap.size + 1) ?_ _ _ _ | with_reducible exact X0.out | with_reducible exact X1.out | with_reducible refine Tri.far ?_ ?_ _ _ _ | omega | (simp; done))
      · repeat' (first | with_reducible exact RN2.out | with_reducible refine Row.put3 (s := s) (a1 := a) (n1 := n) (c1 := c) (a2 := b) (n2 := m) (c2 := d) ?_ (g := w.heap.size) ?_ _ _ _ | with_reducible refine Row.put3 (s := t) (a1 := a') (n1 := n') (c1 := c') (a2 := b') (n2 := m') (c2 := d') ?_ (g := w.heap.size + 1) ?_ _ _ _ | with_reducible exact X0.out | with_reducible exact X1.out | with_reducible refine Tri.far ?_ ?_ _ _ _ | omega | (simp; done))
      · repeat' (first | with_reducible exact RD2.out | with_reducible refine Row.put3 (s := s) (a1 := a) (n1 := n) (c1 := c) (a2 := b) (n2 := m) (c2 := d) ?_ (g := w.heap.size) ?_ _ _ _ | with_reducible refine Row.put3 (s := t) (a1 := a') (n1 := n') (c1 := c') (a2 := b') (n2 := m') (c2 := d') ?_ (g := w.heap.size + 1) ?_ _ _ _ | with_reducible exact X0.out | with_reducible exact X1.out | with_reducible refine Tri.far ?_ ?_ _ _ _ | omega | (simp; done))
      · repeat' (first | with_reducible exact HB.out | with_reducible refine below_put3 ?_ ?_ _ _ _ | omega | (simp; omega))
  case rest =>
    obtain ⟨s1, a1, n1, c1, b1, m1, d1, us1, vs1, s2, a2, n2, c2, b2, m2, d2, us2, vs2, x0, x1, z, r1, r2, r3, r4, hn1, hm1, hn2, hm2, hq1, hv1, hq2, hv2, hb⟩ := hcut.out
    clear hcut R0 R1 R2 R3 X0 X1 Z HB
    have X0 := Lib.hid x0
    have X1 := Lib.hid x1
    have Z := Lib.hid z
    have RN1 := Lib.hid r1
    have RD1 := Lib.hid r2
    have RN2 := Lib.hid r3
    have RD2 := Lib.hid r4
    have HB := Lib.hid hb
    clear x0 x1 z r1 r2 r3 r4 hb
    have hS : mkRat (sv s1 (val us1) * (val vs2 : Int) + sv s2 (val us2) * (val vs1 : Int)) (val vs1 * val vs2) = q := by
      rw [← Rat.mkRat_add_mkRat _ _ (by omega) (by omega), hq1, hq2]; exact Hr.out
    clear hq1 hq2 hv1 hv2
    obtain ⟨P, hP⟩ : ∃ P, sv s1 (val us1) * (val vs2 : Int) = P := ⟨_, rfl⟩
    obtain ⟨Q, hQ⟩ : ∃ Q, sv s2 (val us2) * (val vs1 : Int) = Q := ⟨_, rfl⟩
    obtain ⟨S, hSS⟩ : ∃ S, P + Q = S := ⟨_, rfl⟩
    obtain ⟨D, hD⟩ : ∃ D, val vs1 * val vs2 = D := ⟨_, rfl⟩
    rw [hP, hQ, hSS, hD] at hS
    have LP := Lib.hid (lenZ_le (lenZ_mul (lenZ_raw RN1.out hn1 rfl) (lenN_raw RD2.out hm2) hP) (show k1 + j2 ≤ K - 1 by omega))
    have LQ := Lib.hid (lenZ_le (lenZ_mul (lenZ_raw RN2.out hn2 rfl) (lenN_raw RD1.out hm1) hQ) (show k2 + j1 ≤ K - 1 by omega))
    have LS := Lib.hid (lenZ_le (lenZ_add LP.out LQ.out hSS) (show K - 1 + 1 ≤ K by omega))
    have LD := Lib.hid (show (limbs D).length ≤ J by rw [← hD]; exact Nat.le_trans (len_mul (row_len' RD1.out hm1) (row_len' RD2.out hm2)) hJ)
    have HP := Lib.hid hP; clear hP
    have HQ := Lib.hid hQ; clear hQ
    have HSS := Lib.hid hSS; clear hSS
    have HD := Lib.hid hD; clear hD
    have HS := Lib.hid hS; clear hS
    go_wp2_with fail
    replace RN1 := Lib.hid RN1.out.drew
    replace RD1 := Lib.hid RD1.out.drew
    replace RN2 := Lib.hid RN2.out.drew
    replace RD2 := Lib.hid RD2.out.drew
    replace X0 := Lib.hid X0.out.drew
    replace X1 := Lib.hid X1.out.drew
    replace Z := Lib.hid Z.out.drew
    replace HB := Lib.hid HB.out.drew
    obtain ⟨kX00, kX01, kX02, -, -, -, -⟩ := X0.out
    obtain ⟨kX10, kX11, kX12, -, -, -, -⟩ := X1.out
    obtain ⟨kZ0, kZ1, kZ2, kZ3, kZ4, kZ5, kZ6⟩ := Z.out
    go_region_held3 (fun w' => w'.cell? ⟨w.heap.size, 0, none⟩ = some (.bool s1) ∧ w'.cell? ⟨w.heap.size, 1, none⟩ = some (.slice a1 n1 c1) ∧ w'.cell? ⟨w.heap.size, 2, none⟩ = some (.slice b1 m1 d1) ∧ w'.cell? ⟨w.heap.size + 1, 0, none⟩ = some (.bool s2) ∧ w'.cell? ⟨w.heap.size + 1, 1, none⟩ = some (.slice a2 n2 c2) ∧ w'.cell? ⟨w.heap.size + 1, 2, none⟩ = some (.slice b2 m2 d2))
      (first | (refine ⟨?_, ?_, ?_, ?_, ?_, ?_⟩ <;> with_reducible assumption) | (go_keep; done) | (refine ⟨?_, ?_, ?_, ?_, ?_, ?_⟩ <;> (repeat rw [cell_other (by first | (simp; done) | (simp; omega))]) <;> with_reducible assumption))
      (first
        | (have mk := G4; clear mk
           go_at_call 44
           refine (normR K J q RS.out RD.out (by rw [sv_limbs, val_limbs]; exact HS.out) hns hnd (by omega) (by omega) (by omega)).mono ?_
           rintro e v5 ⟨ar, nr, cr, br, mr, dr, rfl, h2, h3, hr, hr2, hb⟩
           replace RS := Lib.hid (RS.out.later hb)
           replace RD := Lib.hid (RD.out.later hb)
           replace X0 := Lib.hid (X0.out.later hb)
           replace X1 := Lib.hid (X1.out.later hb)
           replace Z := Lib.hid (Z.out.later hb)
           replace HB := Lib.hid (bthen HB.out hb); clear hb
           clear kX00 kX01 kX02 kX10 kX11 kX12 kZ0 kZ1 kZ2 kZ3 kZ4 kZ5 kZ6
           obtain ⟨kX00, kX01, kX02, -, -, -, -⟩ := X0.out
           obtain ⟨kX10, kX11, kX12, -, -, -, -⟩ := X1.out
           obtain ⟨kZ0, kZ1, kZ2, kZ3, kZ4, kZ5, kZ6⟩ := Z.out
           have RA := Lib.hid hr; clear hr
           have RB := Lib.hid hr2; clear hr2
           have G5 : Hid True := trivial)
        | (have mk := G3; clear mk
           go_at_call 50
           refine (over_any _ _ _ _ _ _ _ _).mono ?_
           rintro e v4 ⟨rfl, hb⟩
           replace RS := Lib.hid (RS.out.later hb)
           replace RD := Lib.hid (RD.out.later hb)
           replace X0 := Lib.hid (X0.out.later hb)
           replace X1 := Lib.hid (X1.out.later hb)
           replace Z := Lib.hid (Z.out.later hb)
           replace HB := Lib.hid (bthen HB.out hb); clear hb
           clear kX00 kX01 kX02 kX10 kX11 kX12 kZ0 kZ1 kZ2 kZ3 kZ4 kZ5 kZ6
           obtain ⟨kX00, kX01, kX02, -, -, -, -⟩ := X0.out
           obtain ⟨kX10, kX11, kX12, -, -, -, -⟩ := X1.out
           obtain ⟨kZ0, kZ1, kZ2, kZ3, kZ4, kZ5, kZ6⟩ := Z.out
           have G4 : Hid True := trivial)
        | (have mk := G2; clear mk
           go_at_call 53
           refine (mulN J D RD1.out RD2.out rfl rfl (by omega) (by omega) HD.out LD.out).mono ?_
           rintro e v3 ⟨ad, nd, rfl, hnd, hr, hb⟩
           clear RN1
           clear RN2
           clear RD1
           clear RD2
           replace RS := Lib.hid (RS.out.later hb)
           replace X0 := Lib.hid (X0.out.later hb)
           replace X1 := Lib.hid (X1.out.later hb)
           replace Z := Lib.hid (Z.out.later hb)
           replace HB := Lib.hid (bthen HB.out hb); clear hb
           clear kX00 kX01 kX02 kX10 kX11 kX12 kZ0 kZ1 kZ2 kZ3 kZ4 kZ5 kZ6
           obtain ⟨kX00, kX01, kX02, -, -, -, -⟩ := X0.out
           obtain ⟨kX10, kX11, kX12, -, -, -, -⟩ := X1.out
           obtain ⟨kZ0, kZ1, kZ2, kZ3, kZ4, kZ5, kZ6⟩ := Z.out
           have RD := Lib.hid hr; clear hr
           have G3 : Hid True := trivial)
        | (have mk := G1; clear mk
           go_at_call 52
           refine (addI K S RP.out RQ.out (sv_limbs _) (sv_limbs _) (by omega) (by omega) HSS.out LS.out).mono ?_
           rintro e v2 ⟨ax, nx, cx, rfl, hns, hr, hb⟩
           clear RP
           clear RQ
           replace RN1 := Lib.hid (RN1.out.later hb)
           replace RD1 := Lib.hid (RD1.out.later hb)
           replace RN2 := Lib.hid (RN2.out.later hb)
           replace RD2 := Lib.hid (RD2.out.later hb)
           replace X0 := Lib.hid (X0.out.later hb)
           replace X1 := Lib.hid (X1.out.later hb)
           replace Z := Lib.hid (Z.out.later hb)
           replace HB := Lib.hid (bthen HB.out hb); clear hb
           clear kX00 kX01 kX02 kX10 kX11 kX12 kZ0 kZ1 kZ2 kZ3 kZ4 kZ5 kZ6
           obtain ⟨kX00, kX01, kX02, -, -, -, -⟩ := X0.out
           obtain ⟨kX10, kX11, kX12, -, -, -, -⟩ := X1.out
           obtain ⟨kZ0, kZ1, kZ2, kZ3, kZ4, kZ5, kZ6⟩ := Z.out
           have RS := Lib.hid hr; clear hr
           have G2 : Hid True := trivial)
        | (skip
           go_at_call 37
           refine (crossR (K - 1) (K - 1) P Q RN1.out RD1.out RN2.out RD2.out (by omega) (by omega) (by omega) (by omega) HP.out HQ.out LP.out LQ.out).mono ?_
           rintro e v1 ⟨ap, np, cp, aq, nq, cq, rfl, hnp, hnq, hr, hr2, hb⟩
           replace RN1 := Lib.hid (RN1.out.later hb)
           replace RD1 := Lib.hid (RD1.out.later hb)
           replace RN2 := Lib.hid (RN2.out.later hb)
           replace RD2 := Lib.hid (RD2.out.later hb)
           replace X0 := Lib.hid (X0.out.later hb)
           replace X1 := Lib.hid (X1.out.later hb)
           replace Z := Lib.hid (Z.out.later hb)
           replace HB := Lib.hid (bthen HB.out hb); clear hb
           clear kX00 kX01 kX02 kX10 kX11 kX12 kZ0 kZ1 kZ2 kZ3 kZ4 kZ5 kZ6
           obtain ⟨kX00, kX01, kX02, -, -, -, -⟩ := X0.out
           obtain ⟨kX10, kX11, kX12, -, -, -, -⟩ := X1.out
           obtain ⟨kZ0, kZ1, kZ2, kZ3, kZ4, kZ5, kZ6⟩ := Z.out
           have RP := Lib.hid hr; clear hr
           have RQ := Lib.hid hr2; clear hr2
           have G1 : Hid True := trivial))
    all_goals
      go_wp2
      exact bodyPost_ret (v := .agg #[.bool (decide (q.num < 0)), .slice ar nr cr, .slice br mr dr]) (by simp [results, Tryz.results29, go_sem, *]) rfl
        ⟨ar, nr, cr, br, mr, dr, rfl, h2, h3, RA.out.put3 Z.out _ _ _, RB.out.put3 Z.out _ _ _, below_put3 HB.out (by omega) _ _ _⟩

set_option maxHeartbeats 4000000 in
theorem divR_zero (p q : Rat) {s t : Bool} {a b a' b' : Option Addr} {n c m d n' c' m' d' : Nat} {xs ys us vs : List Nat} {w : World} (h0 : Row w a n c xs) (h1 : Row w b m d ys) (h2 : Row w a' n' c' us) (h3 : Row w b' m' d' vs) (hp : mkRat (sv s (val xs)) (val ys) = p) (hq : mkRat (sv t (val us)) (val vs) = q) (hn : n ≤ 40) (hm : m ≤ 40) (hn' : n' ≤ 40) (hm' : m' ≤ 40) (hz : q = 0) :
    Calls Tryz.prog 24 #[.agg #[.bool s, .slice a n c, .slice b m d], .agg #[.bool t, .slice a' n' c', .slice b' m' d']] w (RatErr 3 w) := by
  have HB := Lib.hid (below_three w (.cells #[.bool s, .slice a n c, .slice b m d] 27) (.cells #[.bool t, .slice a' n' c', .slice b' m' d'] 27) (.cells #[.bool false, .slice none 0 0, .slice none 0 0] 27))
  have X0 : Hid (Tri (((w.alloc (.cells #[.bool s, .slice a n c, .slice b m d] 27)).alloc (.cells #[.bool t, .slice a' n' c', .slice b' m' d'] 27)).alloc (.cells #[.bool false, .slice none 0 0, .slice none 0 0] 27)) (w.heap.size) (.bool s) (.slice a n c) (.slice b m d)) := (((tri_new _ (.bool s) (.slice a n c) (.slice b m d)).alloc _).alloc _)
  have X1 : Hid (Tri (((w.alloc (.cells #[.bool s, .slice a n c, .slice b m d] 27)).alloc (.cells #[.bool t, .slice a' n' c', .slice b' m' d'] 27)).alloc (.cells #[.bool false, .slice none 0 0, .slice none 0 0] 27)) (w.heap.size + 1) (.bool t) (.slice a' n' c') (.slice b' m' d')) := ((tri_newE (by simp)).alloc _)
  have Z : Hid (Tri (((w.alloc (.cells #[.bool s, .slice a n c, .slice b m d] 27)).alloc (.cells #[.bool t, .slice a' n' c', .slice b' m' d'] 27)).alloc (.cells #[.bool false, .slice none 0 0, .slice none 0 0] 27)) (w.heap.size + 2) (.bool false) (.slice none 0 0) (.slice none 0 0)) := (tri_newE (by simp; try omega))
  have R0 := Lib.hid (h0.later HB.out); clear h0
  have R1 := Lib.hid (h1.later HB.out); clear h1
  have R2 := Lib.hid (h2.later HB.out); clear h2
  have R3 := Lib.hid (h3.later HB.out); clear h3
  have Hp := Lib.hid hp; clear hp
  have Hq := Lib.hid hq; clear hq
  have Hz := Lib.hid hz; clear hz
  go_enter Tryz.func24, Tryz.ntmps24
  go_wp2_with fail
  replace R0 := Lib.hid R0.out.drew
  replace R1 := Lib.hid R1.out.drew
  replace R2 := Lib.hid R2.out.drew
  replace R3 := Lib.hid R3.out.drew
  replace X0 := Lib.hid X0.out.drew
  replace X1 := Lib.hid X1.out.drew
  replace Z := Lib.hid Z.out.drew
  replace HB := Lib.hid HB.out.drew
  obtain ⟨kX00, kX01, kX02, -, -, -, -⟩ := X0.out
  obtain ⟨kX10, kX11, kX12, -, -, -, -⟩ := X1.out
  obtain ⟨kZ0, kZ1, kZ2, kZ3, kZ4, kZ5, kZ6⟩ := Z.out
  go_region_held3 (fun w' => w'.cell? ⟨w.heap.size, 0, none⟩ = some (.bool s) ∧ w'.cell? ⟨w.heap.size, 1, none⟩ = some (.slice a n c) ∧ w'.cell? ⟨w.heap.size, 2, none⟩ = some (.slice b m d) ∧ w'.cell? ⟨w.heap.size + 1, 0, none⟩ = some (.bool t) ∧ w'.cell? ⟨w.heap.size + 1, 1, none⟩ = some (.slice a' n' c') ∧ w'.cell? ⟨w.heap.size + 1, 2, none⟩ = some (.slice b' m' d'))
    (first | (refine ⟨?_, ?_, ?_, ?_, ?_, ?_⟩ <;> with_reducible assumption) | (go_keep; done) | (refine ⟨?_, ?_, ?_, ?_, ?_, ?_⟩ <;> (repeat rw [cell_other (by first | (simp; done) | (simp; omega))]) <;> with_reducible assumption))
    (first
      | (have mk := G3; clear mk
         go_at_call 43
         refine (makeR_zero Q RP.out RQ.out (sv_limbs _) (by omega) HY.out).mono ?_
         rintro e v4 ⟨rfl, hb⟩
         replace RN1 := Lib.hid (RN1.out.later hb)
         replace RD1 := Lib.hid (RD1.out.later hb)
         replace RN2 := Lib.hid (RN2.out.later hb)
         replace RD2 := Lib.hid (RD2.out.later hb)
         replace RP := Lib.hid (RP.out.later hb)
         replace RQ := Lib.hid (RQ.out.later hb)
         replace X0 := Lib.hid (X0.out.later hb)
         replace X1 := Lib.hid (X1.out.later hb)
         replace Z := Lib.hid (Z.out.later hb)
         replace HB := Lib.hid (bthen HB.out hb); clear hb
         clear kX00 kX01 kX02 kX10 kX11 kX12 kZ0 kZ1 kZ2 kZ3 kZ4 kZ5 kZ6
         obtain ⟨kX00, kX01, kX02, -, -, -, -⟩ := X0.out
         obtain ⟨kX10, kX11, kX12, -, -, -, -⟩ := X1.out
         obtain ⟨kZ0, kZ1, kZ2, kZ3, kZ4, kZ5, kZ6⟩ := Z.out
         have G4 : Hid True := trivial)
      | (have mk := G2; clear mk
         go_at_call 37
         obtain ⟨P, hP⟩ : ∃ P, sv s1 (val us1) * (val vs2 : Int) = P := ⟨_, rfl⟩
         obtain ⟨Q, hQ⟩ : ∃ Q, sv s2 (val us2) * (val vs1 : Int) = Q := ⟨_, rfl⟩
         have LP := Lib.hid (lenZ_mul (lenZ_raw RN1.out hn1 rfl) (lenN_raw RD2.out hm2) hP)
         have LQ := Lib.hid (lenZ_mul (lenZ_raw RN2.out hn2 rfl) (lenN_raw RD1.out hm1) hQ)
         have HP := Lib.hid hP; clear hP
         have HQ := Lib.hid hQ; clear hQ
         have HY := Lib.hid (show sgn Q = 0 by rw [← HQ.out, (num_zero HV2.out HQ2.out).2 Hz.out, Int.zero_mul]; rfl)
         refine (crossR (40 + 40) (40 + 40) P Q RN1.out RD1.out RN2.out RD2.out (by omega) (by omega) (by omega) (by omega) HP.out HQ.out LP.out LQ.out).mono ?_
         rintro e v3 ⟨ap, np, cp, aq, nq, cq, rfl, hnp, hnq, hr, hr2, hb⟩
         replace RN1 := Lib.hid (RN1.out.later hb)
         replace RD1 := Lib.hid (RD1.out.later hb)
         replace RN2 := Lib.hid (RN2.out.later hb)
         replace RD2 := Lib.hid (RD2.out.later hb)
         replace X0 := Lib.hid (X0.out.later hb)
         replace X1 := Lib.hid (X1.out.later hb)
         replace Z := Lib.hid (Z.out.later hb)
         replace HB := Lib.hid (bthen HB.out hb); clear hb
         clear kX00 kX01 kX02 kX10 kX11 kX12 kZ0 kZ1 kZ2 kZ3 kZ4 kZ5 kZ6
         obtain ⟨kX00, kX01, kX02, -, -, -, -⟩ := X0.out
         obtain ⟨kX10, kX11, kX12, -, -, -, -⟩ := X1.out
         obtain ⟨kZ0, kZ1, kZ2, kZ3, kZ4, kZ5, kZ6⟩ := Z.out
         have RP := Lib.hid hr; clear hr
         have RQ := Lib.hid hr2; clear hr2
         have G3 : Hid True := trivial)
      | (have mk := G1; clear mk
         go_at_call 38
         refine (saidR 40 40 q R2.out R3.out Hq.out hn' hm' (by omega) (by omega)).mono ?_
         rintro e v2 ⟨s2, a2, n2, c2, b2, m2, d2, us2, vs2, rfl, hn2, hm2, hr0, hr1, hq1, hv1, hb⟩
         clear R2
         clear R3
         replace RN1 := Lib.hid (RN1.out.later hb)
         replace RD1 := Lib.hid (RD1.out.later hb)
         replace X0 := Lib.hid (X0.out.later hb)
         replace X1 := Lib.hid (X1.out.later hb)
         replace Z := Lib.hid (Z.out.later hb)
         replace HB := Lib.hid (bthen HB.out hb); clear hb
         clear kX00 kX01 kX02 kX10 kX11 kX12 kZ0 kZ1 kZ2 kZ3 kZ4 kZ5 kZ6
         obtain ⟨kX00, kX01, kX02, -, -, -, -⟩ := X0.out
         obtain ⟨kX10, kX11, kX12, -, -, -, -⟩ := X1.out
         obtain ⟨kZ0, kZ1, kZ2, kZ3, kZ4, kZ5, kZ6⟩ := Z.out
         have RN2 := Lib.hid hr0; clear hr0
         have RD2 := Lib.hid hr1; clear hr1
         have HQ2 := Lib.hid hq1; clear hq1
         have HV2 := Lib.hid hv1; clear hv1
         have G2 : Hid True := trivial)
      | (skip
         go_at_call 38
         refine (saidR 40 40 p R0.out R1.out Hp.out hn hm (by omega) (by omega)).mono ?_
         rintro e v1 ⟨s1, a1, n1, c1, b1, m1, d1, us1, vs1, rfl, hn1, hm1, hr0, hr1, hq1, hv1, hb⟩
         clear R0
         clear R1
         replace R2 := Lib.hid (R2.out.later hb)
         replace R3 := Lib.hid (R3.out.later hb)
         replace X0 := Lib.hid (X0.out.later hb)
         replace X1 := Lib.hid (X1.out.later hb)
         replace Z := Lib.hid (Z.out.later hb)
         replace HB := Lib.hid (bthen HB.out hb); clear hb
         clear kX00 kX01 kX02 kX10 kX11 kX12 kZ0 kZ1 kZ2 kZ3 kZ4 kZ5 kZ6
         obtain ⟨kX00, kX01, kX02, -, -, -, -⟩ := X0.out
         obtain ⟨kX10, kX11, kX12, -, -, -, -⟩ := X1.out
         obtain ⟨kZ0, kZ1, kZ2, kZ3, kZ4, kZ5, kZ6⟩ := Z.out
         have RN1 := Lib.hid hr0; clear hr0
         have RD1 := Lib.hid hr1; clear hr1
         have HQ1 := Lib.hid hq1; clear hq1
         have HV1 := Lib.hid hv1; clear hv1
         have G1 : Hid True := trivial))
  all_goals
    go_wp2
    exact bodyPost_ret (v := .tuple #[.agg #[.bool false, .slice none 0 0, .slice none 0 0], .int .i64 3]) (by simp [results, Tryz.results24, go_sem, *]) rfl ⟨rfl, below_put3 HB.out (by omega) _ _ _⟩

set_option maxHeartbeats 4000000 in
theorem divR (k1 j1 k2 j2 K J : Nat) (r p q : Rat) {s t : Bool} {a b a' b' : Option Addr} {n c m d n' c' m' d' : Nat} {xs ys us vs : List Nat} {w : World} (h0 : Row w a n c xs) (h1 : Row w b m d ys) (h2 : Row w a' n' c' us) (h3 : Row w b' m' d' vs) (hp : mkRat (sv s (val xs)) (val ys) = p) (hq : mkRat (sv t (val us)) (val vs) = q) (hn : n ≤ k1) (hm : m ≤ j1) (hn' : n' ≤ k2) (hm' : m' ≤ j2) (h1k : k1 ≤ 40) (h1j : j1 ≤ 40) (h2k : k2 ≤ 40) (h2j : j2 ≤ 40) (h1j1 : 1 ≤ j1) (h2j1 : 1 ≤ j2) (hK : k1 + j2 ≤ K) (hJ : k2 + j1 ≤ J) (hK9 : K ≤ 95) (hJ9 : J ≤ 95) (hz : q ≠ 0) (hr : p / q = r) :
    Calls Tryz.prog 24 #[.agg #[.bool s, .slice a n c, .slice b m d], .agg #[.bool t, .slice a' n' c', .slice b' m' d']] w (RatOk K J r w) := by
  have HB := Lib.hid (below_three w (.cells #[.bool s, .slice a n c, .slice b m d] 27) (.cells #[.bool t, .slice a' n' c', .slice b' m' d'] 27) (.cells #[.bool false, .slice none 0 0, .slice none 0 0] 27))
  have X0 : Hid (Tri (((w.alloc (.cells #[.bool s, .slice a n c, .slice b m d] 27)).alloc (.cells #[.bool t, .slice a' n' c', .slice b' m' d'] 27)).alloc (.cells #[.bool false, .slice none 0 0, .slice none 0 0] 27)) (w.heap.size) (.bool s) (.slice a n c) (.slice b m d)) := (((tri_new _ (.bool s) (.slice a n c) (.slice b m d)).alloc _).alloc _)
  have X1 : Hid (Tri (((w.alloc (.cells #[.bool s, .slice a n c, .slice b m d] 27)).alloc (.cells #[.bool t, .slice a' n' c', .slice b' m' d'] 27)).alloc (.cells #[.bool false, .slice none 0 0, .slice none 0 0] 27)) (w.heap.size + 1) (.bool t) (.slice a' n' c') (.slice b' m' d')) := ((tri_newE (by simp)).alloc _)
  have Z : Hid (Tri (((w.alloc (.cells #[.bool s, .slice a n c, .slice b m d] 27)).alloc (.cells #[.bool t, .slice a' n' c', .slice b' m' d'] 27)).alloc (.cells #[.bool false, .slice none 0 0, .slice none 0 0] 27)) (w.heap.size + 2) (.bool false) (.slice none 0 0) (.slice none 0 0)) := (tri_newE (by simp; try omega))
  have R0 := Lib.hid (h0.later HB.out); clear h0
  have R1 := Lib.hid (h1.later HB.out); clear h1
  have R2 := Lib.hid (h2.later HB.out); clear h2
  have R3 := Lib.hid (h3.later HB.out); clear h3
  have Hp := Lib.hid hp; clear hp
  have Hq := Lib.hid hq; clear hq
  have Hz := Lib.hid hz; clear hz
  have Hr := Lib.hid hr; clear hr
  go_enter Tryz.func24, Tryz.ntmps24
  go_wp2_with fail
  replace R0 := Lib.hid R0.out.drew
  replace R1 := Lib.hid R1.out.drew
  replace R2 := Lib.hid R2.out.drew
  replace R3 := Lib.hid R3.out.drew
  replace X0 := Lib.hid X0.out.drew
  replace X1 := Lib.hid X1.out.drew
  replace Z := Lib.hid Z.out.drew
  replace HB := Lib.hid HB.out.drew
  obtain ⟨kX00, kX01, kX02, -, -, -, -⟩ := X0.out
  obtain ⟨kX10, kX11, kX12, -, -, -, -⟩ := X1.out
  obtain ⟨kZ0, kZ1, kZ2, kZ3, kZ4, kZ5, kZ6⟩ := Z.out
  go_region_held3 (fun w' => w'.cell? ⟨w.heap.size, 0, none⟩ = some (.bool s) ∧ w'.cell? ⟨w.heap.size, 1, none⟩ = some (.slice a n c) ∧ w'.cell? ⟨w.heap.size, 2, none⟩ = some (.slice b m d) ∧ w'.cell? ⟨w.heap.size + 1, 0, none⟩ = some (.bool t) ∧ w'.cell? ⟨w.heap.size + 1, 1, none⟩ = some (.slice a' n' c') ∧ w'.cell? ⟨w.heap.size + 1, 2, none⟩ = some (.slice b' m' d'))
    (first | (refine ⟨?_, ?_, ?_, ?_, ?_, ?_⟩ <;> with_reducible assumption) | (go_keep; done) | (refine ⟨?_, ?_, ?_, ?_, ?_, ?_⟩ <;> (repeat rw [cell_other (by first | (simp; done) | (simp; omega))]) <;> with_reducible assumption))
    (first
      | (have mk := G3; clear mk
         go_at_call 43
         refine (makeR K J r P Q RP.out RQ.out (sv_limbs _) (sv_limbs _) (by omega) (by omega) hK9 (by omega) hJ9 HY.out HD.out).mono ?_
         rintro e v4 ⟨ar, nr, cr, br, mr, dr, rfl, h2, h3, hr, hr2, hb⟩
         replace RN1 := Lib.hid (RN1.out.later hb)
         replace RD1 := Lib.hid (RD1.out.later hb)
         replace RN2 := Lib.hid (RN2.out.later hb)
         replace RD2 := Lib.hid (RD2.out.later hb)
         replace RP := Lib.hid (RP.out.later hb)
         replace RQ := Lib.hid (RQ.out.later hb)
         replace X0 := Lib.hid (X0.out.later hb)
         replace X1 := Lib.hid (X1.out.later hb)
         replace Z := Lib.hid (Z.out.later hb)
         replace HB := Lib.hid (bthen HB.out hb); clear hb
         clear kX00 kX01 kX02 kX10 kX11 kX12 kZ0 kZ1 kZ2 kZ3 kZ4 kZ5 kZ6
         obtain ⟨kX00, kX01, kX02, -, -, -, -⟩ := X0.out
         obtain ⟨kX10, kX11, kX12, -, -, -, -⟩ := X1.out
         obtain ⟨kZ0, kZ1, kZ2, kZ3, kZ4, kZ5, kZ6⟩ := Z.out
         have RA := Lib.hid hr; clear hr
         have RB := Lib.hid hr2; clear hr2
         have G4 : Hid True := trivial)
      | (have mk := G2; clear mk
         go_at_call 37
         obtain ⟨P, hP⟩ : ∃ P, sv s1 (val us1) * (val vs2 : Int) = P := ⟨_, rfl⟩
         obtain ⟨Q, hQ⟩ : ∃ Q, sv s2 (val us2) * (val vs1 : Int) = Q := ⟨_, rfl⟩
         have LP := Lib.hid (lenZ_mul (lenZ_raw RN1.out hn1 rfl) (lenN_raw RD2.out hm2) hP)
         have LQ := Lib.hid (lenZ_mul (lenZ_raw RN2.out hn2 rfl) (lenN_raw RD1.out hm1) hQ)
         have HP := Lib.hid hP; clear hP
         have HQ := Lib.hid hQ; clear hQ
         have HY := Lib.hid (show Q ≠ 0 by rw [← HQ.out]; intro h0; rcases Int.mul_eq_zero.1 h0 with h0 | h0; exact Hz.out ((num_zero HV2.out HQ2.out).1 h0); exact absurd HV1.out (by omega))
         have HD := Lib.hid (show (P : Rat) / (Q : Rat) = r by rw [← HP.out, ← HQ.out, div_raw HV1.out HV2.out HQ1.out HQ2.out]; exact Hr.out)
         refine (crossR (k1 + j2) (k2 + j1) P Q RN1.out RD1.out RN2.out RD2.out (by omega) (by omega) (by omega) (by omega) HP.out HQ.out LP.out LQ.out).mono ?_
         rintro e v3 ⟨ap, np, cp, aq, nq, cq, rfl, hnp, hnq, hr, hr2, hb⟩
         replace RN1 := Lib.hid (RN1.out.later hb)
         replace RD1 := Lib.hid (RD1.out.later hb)
         replace RN2 := Lib.hid (RN2.out.later hb)
         replace RD2 := Lib.hid (RD2.out.later hb)
         replace X0 := Lib.hid (X0.out.later hb)
         replace X1 := Lib.hid (X1.out.later hb)
         replace Z := Lib.hid (Z.out.later hb)
         replace HB := Lib.hid (bthen HB.out hb); clear hb
         clear kX00 kX01 kX02 kX10 kX11 kX12 kZ0 kZ1 kZ2 kZ3 kZ4 kZ5 kZ6
         obtain ⟨kX00, kX01, kX02, -, -, -, -⟩ := X0.out
         obtain ⟨kX10, kX11, kX12, -, -, -, -⟩ := X1.out
         obtain ⟨kZ0, kZ1, kZ2, kZ3, kZ4, kZ5, kZ6⟩ := Z.out
         have RP := Lib.hid hr; clear hr
         have RQ := Lib.hid hr2; clear hr2
         have G3 : Hid True := trivial)
      | (have mk := G1; clear mk
         go_at_call 38
         refine (saidR k2 j2 q R2.out R3.out Hq.out hn' hm' (by omega) (by omega)).mono ?_
         rintro e v2 ⟨s2, a2, n2, c2, b2, m2, d2, us2, vs2, rfl, hn2, hm2, hr0, hr1, hq1, hv1, hb⟩
         clear R2
         clear R3
         replace RN1 := Lib.hid (RN1.out.later hb)
         replace RD1 := Lib.hid (RD1.out.later hb)
         replace X0 := Lib.hid (X0.out.later hb)
         replace X1 := Lib.hid (X1.out.later hb)
         replace Z := Lib.hid (Z.out.later hb)
         replace HB := Lib.hid (bthen HB.out hb); clear hb
         clear kX00 kX01 kX02 kX10 kX11 kX12 kZ0 kZ1 kZ2 kZ3 kZ4 kZ5 kZ6
         obtain ⟨kX00, kX01, kX02, -, -, -, -⟩ := X0.out
         obtain ⟨kX10, kX11, kX12, -, -, -, -⟩ := X1.out
         obtain ⟨kZ0, kZ1, kZ2, kZ3, kZ4, kZ5, kZ6⟩ := Z.out
         have RN2 := Lib.hid hr0; clear hr0
         have RD2 := Lib.hid hr1; clear hr1
         have HQ2 := Lib.hid hq1; clear hq1
         have HV2 := Lib.hid hv1; clear hv1
         have G2 : Hid True := trivial)
      | (skip
         go_at_call 38
         refine (saidR k1 j1 p R0.out R1.out Hp.out hn hm (by omega) (by omega)).mono ?_
         rintro e v1 ⟨s1, a1, n1, c1, b1, m1, d1, us1, vs1, rfl, hn1, hm1, hr0, hr1, hq1, hv1, hb⟩
         clear R0
         clear R1
         replace R2 := Lib.hid (R2.out.later hb)
         replace R3 := Lib.hid (R3.out.later hb)
         replace X0 := Lib.hid (X0.out.later hb)
         replace X1 := Lib.hid (X1.out.later hb)
         replace Z := Lib.hid (Z.out.later hb)
         replace HB := Lib.hid (bthen HB.out hb); clear hb
         clear kX00 kX01 kX02 kX10 kX11 kX12 kZ0 kZ1 kZ2 kZ3 kZ4 kZ5 kZ6
         obtain ⟨kX00, kX01, kX02, -, -, -, -⟩ := X0.out
         obtain ⟨kX10, kX11, kX12, -, -, -, -⟩ := X1.out
         obtain ⟨kZ0, kZ1, kZ2, kZ3, kZ4, kZ5, kZ6⟩ := Z.out
         have RN1 := Lib.hid hr0; clear hr0
         have RD1 := Lib.hid hr1; clear hr1
         have HQ1 := Lib.hid hq1; clear hq1
         have HV1 := Lib.hid hv1; clear hv1
         have G1 : Hid True := trivial))
  all_goals
    go_wp2
    exact bodyPost_ret (v := .tuple #[.agg #[.bool (decide (r.num < 0)), .slice ar nr cr, .slice br mr dr], .int .i64 0]) (by simp [results, Tryz.results24, go_sem, *]) rfl
      ⟨ar, nr, cr, br, mr, dr, rfl, h2, h3, RA.out.put3 Z.out _ _ _, RB.out.put3 Z.out _ _ _, below_put3 HB.out (by omega) _ _ _⟩

end Go.Proofs.YtmoplgfmngohgaaGreat
