/- SolveTwice, its walk. -/
import Derived.Test.YtmoplgfmngohgaaSvMa
import Derived.Deep.DeepCutAuto
import Derived.Deep.RegionHeld3
namespace Go.Proofs.Ytmoplgfmngohgaa
set_option linter.unusedVariables false
set_option linter.unusedSimpArgs false
set_option maxRecDepth 100000
open Go.RowKit Nums

set_option maxHeartbeats 8000000 in
/-- SolveTwice, its walk -/
theorem solveTwice_walk (on : Bool) (v z r : RV) (p q s : Rat) (w : World) (hv : v.Is v.n v.m p w) (hz : z.Is z.n z.m q w) (hr : r.Is r.n r.m s w) :
    Calls Try.prog 5 #[.agg #[.bool on, .bool v.s, .slice v.a v.n v.c, .slice v.b v.m v.d, .bool z.s, .slice z.a z.n z.c, .slice z.b z.m z.d], .agg #[.bool r.s, .slice r.a r.n r.c, .slice r.b r.m r.d]] w fun e w' => e = .returned (.bool true) ∧ Below w.heap.size w w' := by
  obtain ⟨W1, hW1⟩ : ∃ W1, W1 = w.alloc (.cells #[.bool on, .bool v.s, .slice v.a v.n v.c, .slice v.b v.m v.d, .bool z.s, .slice z.a z.n z.c, .slice z.b z.m z.d] 28) := ⟨_, rfl⟩
  obtain ⟨W2, hW2⟩ : ∃ W2, W2 = W1.alloc (.cells #[.bool r.s, .slice r.a r.n r.c, .slice r.b r.m r.d] 26) := ⟨_, rfl⟩
  have hb1 : Below w.heap.size w W1 := by rw [hW1]; exact below_one _ _
  have hb2 : Below W1.heap.size W1 W2 := by rw [hW2]; exact below_one _ _
  have HK1 := Lib.hid ((show Blk W1 w.heap.size 28 #[.bool on, .bool v.s, .slice v.a v.n v.c, .slice v.b v.m v.d, .bool z.s, .slice z.a z.n z.c, .slice z.b z.m z.d] by rw [hW1]; exact Blk.new _ _ _).later hb2)
  have HK2 := Lib.hid (show Blk W2 W1.heap.size 26 #[.bool r.s, .slice r.a r.n r.c, .slice r.b r.m r.d] by rw [hW2]; exact Blk.new _ _ _)
  have HB := Lib.hid (bthen hb1 hb2)
  have HV := Lib.hid (hv.later HB.out)
  have HZ := Lib.hid (hz.later HB.out)
  have HR := Lib.hid (hr.later HB.out)
  have HW1 := Lib.hid hW1
  have HW2 := Lib.hid hW2
  have HS1 := Lib.hid (show w.heap.size + 1 = W1.heap.size by rw [hW1]; simp)
  clear hb1 hb2 hv hz hr hW1 hW2
  obtain ⟨p0, p1, p2, p3, p4, p5, p6⟩ := HK1.out.sev
  obtain ⟨q0, q1, q2, -, -, -, -⟩ := HK2.out.tri
  go_enter Try.func5, Try.ntmps5
  go_upto_region 1 with fail
  rw [← HW1.out, ← HW2.out]; simp only [HS1.out]; clear HW1 HW2 HS1
  go_wp2_with (go_at_call 6; (with_reducible refine (few_t _ _ _ [⟨on, v, z, p, q⟩] _ (LRow.one (w := W2) (x := ⟨on, v, z, p, q⟩) HV.out HZ.out)).mono ?_); rintro e w3 ⟨⟨b, rfl, hf⟩, hb⟩; have HF := Lib.hid hf; have hbb := bthen (below_one W2 (.cells #[.bool on, .bool v.s, .slice v.a v.n v.c, .slice v.b v.m v.d, .bool z.s, .slice z.a z.n z.c, .slice z.b z.m z.d] 28)) hb; replace HK1 := Lib.hid (HK1.out.later hbb); replace HK2 := Lib.hid (HK2.out.later hbb); replace HV := Lib.hid (HV.out.later hbb); replace HZ := Lib.hid (HZ.out.later hbb); replace HR := Lib.hid (HR.out.later hbb); (try replace HT := Lib.hid (HT.out.later hbb)); (try replace HKT := Lib.hid (HKT.out.later hbb)); (try replace HA := Lib.hid (HA.out.later hbb)); replace HB := Lib.hid (bthen HB.out hbb); clear p0 p1 p2 p3 p4 p5 p6 q0 q1 q2; (try clear k1 k2); have k1 := HK1.out.lt; have k2 := HK2.out.lt; obtain ⟨p0, p1, p2, p3, p4, p5, p6⟩ := HK1.out.sev; obtain ⟨q0, q1, q2, -, -, -, -⟩ := HK2.out.tri; (try clear t0 t1 t2); (try obtain ⟨t0, t1, t2, -, -, -, -⟩ := HKT.out.tri); clear hb hbb hf; cases b)
  · go_ret
    exact ⟨rfl, HB.out⟩
  have hsh : LM.Short ⟨on, v, z, p, q⟩ := (HF.out (by simp)).2 _ (List.mem_singleton.2 rfl)
  clear HF
  replace HV := Lib.hid (HV.out.more (k' := 4) (j' := 4) hsh.1 hsh.2.1)
  replace HZ := Lib.hid (HZ.out.more (k' := 4) (j' := 4) hsh.2.2.1 hsh.2.2.2)
  clear hsh
  by_cases hl : 4 < r.n ∨ 4 < r.m
  · have HD := Lib.hid (decide_eq_true hl)
    clear hl
    go_wp2_with (go_at_call 7; (with_reducible refine (long_t r _).mono ?_); rintro e w4 ⟨rfl, hb⟩; rw [HD.out]; replace HK1 := Lib.hid (HK1.out.later hb); replace HK2 := Lib.hid (HK2.out.later hb); replace HV := Lib.hid (HV.out.later hb); replace HZ := Lib.hid (HZ.out.later hb); replace HR := Lib.hid (HR.out.later hb); (try replace HT := Lib.hid (HT.out.later hb)); (try replace HKT := Lib.hid (HKT.out.later hb)); (try replace HA := Lib.hid (HA.out.later hb)); replace HB := Lib.hid (bthen HB.out hb); clear p0 p1 p2 p3 p4 p5 p6 q0 q1 q2; (try clear k1 k2); have k1 := HK1.out.lt; have k2 := HK2.out.lt; obtain ⟨p0, p1, p2, p3, p4, p5, p6⟩ := HK1.out.sev; obtain ⟨q0, q1, q2, -, -, -, -⟩ := HK2.out.tri; (try clear t0 t1 t2); (try obtain ⟨t0, t1, t2, -, -, -, -⟩ := HKT.out.tri); clear hb)
    go_ret
    exact ⟨rfl, HB.out⟩
  have HD := Lib.hid (decide_eq_false hl)
  replace HR := Lib.hid (HR.out.more (k' := 4) (j' := 4) (by omega) (by omega))
  clear hl
  by_cases hs : s < 0
  · have HSS := Lib.hid (sgn_neg hs)
    clear hs
    go_wp2_with (first
      | (go_at_call 7; (with_reducible refine (long_t r _).mono ?_); rintro e w9 ⟨rfl, hb⟩; rw [HD.out]; replace HK1 := Lib.hid (HK1.out.later hb); replace HK2 := Lib.hid (HK2.out.later hb); replace HV := Lib.hid (HV.out.later hb); replace HZ := Lib.hid (HZ.out.later hb); replace HR := Lib.hid (HR.out.later hb); (try replace HT := Lib.hid (HT.out.later hb)); (try replace HKT := Lib.hid (HKT.out.later hb)); (try replace HA := Lib.hid (HA.out.later hb)); replace HB := Lib.hid (bthen HB.out hb); clear p0 p1 p2 p3 p4 p5 p6 q0 q1 q2; (try clear k1 k2); have k1 := HK1.out.lt; have k2 := HK2.out.lt; obtain ⟨p0, p1, p2, p3, p4, p5, p6⟩ := HK1.out.sev; obtain ⟨q0, q1, q2, -, -, -, -⟩ := HK2.out.tri; (try clear t0 t1 t2); (try obtain ⟨t0, t1, t2, -, -, -, -⟩ := HKT.out.tri); clear hb)
      | (go_at_call 9; (with_reducible refine (rsign_v (r := r) _ HR.out HSS.out (by omega) (by omega)).mono ?_); rintro e w9 ⟨rfl, hb⟩; replace HK1 := Lib.hid (HK1.out.later hb); replace HK2 := Lib.hid (HK2.out.later hb); replace HV := Lib.hid (HV.out.later hb); replace HZ := Lib.hid (HZ.out.later hb); replace HR := Lib.hid (HR.out.later hb); (try replace HT := Lib.hid (HT.out.later hb)); (try replace HKT := Lib.hid (HKT.out.later hb)); (try replace HA := Lib.hid (HA.out.later hb)); replace HB := Lib.hid (bthen HB.out hb); clear p0 p1 p2 p3 p4 p5 p6 q0 q1 q2; (try clear k1 k2); have k1 := HK1.out.lt; have k2 := HK2.out.lt; obtain ⟨p0, p1, p2, p3, p4, p5, p6⟩ := HK1.out.sev; obtain ⟨q0, q1, q2, -, -, -, -⟩ := HK2.out.tri; (try clear t0 t1 t2); (try obtain ⟨t0, t1, t2, -, -, -, -⟩ := HKT.out.tri); clear hb))
    go_ret
    exact ⟨rfl, HB.out⟩
  obtain ⟨T, hT, hT0, hT1⟩ := sgn_ge hs
  have HSS := Lib.hid hT
  have HNS := Lib.hid hs
  clear hs hT
  go_upto_region 4 with (first
    | (go_at_call 7; (with_reducible refine (long_t r _).mono ?_); rintro e w9 ⟨rfl, hb⟩; rw [HD.out]; replace HK1 := Lib.hid (HK1.out.later hb); replace HK2 := Lib.hid (HK2.out.later hb); replace HV := Lib.hid (HV.out.later hb); replace HZ := Lib.hid (HZ.out.later hb); replace HR := Lib.hid (HR.out.later hb); (try replace HT := Lib.hid (HT.out.later hb)); (try replace HKT := Lib.hid (HKT.out.later hb)); (try replace HA := Lib.hid (HA.out.later hb)); replace HB := Lib.hid (bthen HB.out hb); clear p0 p1 p2 p3 p4 p5 p6 q0 q1 q2; (try clear k1 k2); have k1 := HK1.out.lt; have k2 := HK2.out.lt; obtain ⟨p0, p1, p2, p3, p4, p5, p6⟩ := HK1.out.sev; obtain ⟨q0, q1, q2, -, -, -, -⟩ := HK2.out.tri; (try clear t0 t1 t2); (try obtain ⟨t0, t1, t2, -, -, -, -⟩ := HKT.out.tri); clear hb)
    | (go_at_call 9; (with_reducible refine (rsign_v (r := r) _ HR.out HSS.out (by omega) (by omega)).mono ?_); rintro e w9 ⟨rfl, hb⟩; replace HK1 := Lib.hid (HK1.out.later hb); replace HK2 := Lib.hid (HK2.out.later hb); replace HV := Lib.hid (HV.out.later hb); replace HZ := Lib.hid (HZ.out.later hb); replace HR := Lib.hid (HR.out.later hb); (try replace HT := Lib.hid (HT.out.later hb)); (try replace HKT := Lib.hid (HKT.out.later hb)); (try replace HA := Lib.hid (HA.out.later hb)); replace HB := Lib.hid (bthen HB.out hb); clear p0 p1 p2 p3 p4 p5 p6 q0 q1 q2; (try clear k1 k2); have k1 := HK1.out.lt; have k2 := HK2.out.lt; obtain ⟨p0, p1, p2, p3, p4, p5, p6⟩ := HK1.out.sev; obtain ⟨q0, q1, q2, -, -, -, -⟩ := HK2.out.tri; (try clear t0 t1 t2); (try obtain ⟨t0, t1, t2, -, -, -, -⟩ := HKT.out.tri); clear hb)
    | (go_at_call 8; (with_reducible refine (passes_g on 4 4 4 4 HV.out HZ.out (by omega)).mono ?_); rintro e w9 ⟨t, bt, rfl, hn, hs, hb⟩; replace HK1 := Lib.hid (HK1.out.later hb); replace HK2 := Lib.hid (HK2.out.later hb); replace HV := Lib.hid (HV.out.later hb); replace HZ := Lib.hid (HZ.out.later hb); replace HR := Lib.hid (HR.out.later hb); (try replace HT := Lib.hid (HT.out.later hb)); (try replace HKT := Lib.hid (HKT.out.later hb)); (try replace HA := Lib.hid (HA.out.later hb)); replace HB := Lib.hid (bthen HB.out hb); clear p0 p1 p2 p3 p4 p5 p6 q0 q1 q2; (try clear k1 k2); have k1 := HK1.out.lt; have k2 := HK2.out.lt; obtain ⟨p0, p1, p2, p3, p4, p5, p6⟩ := HK1.out.sev; obtain ⟨q0, q1, q2, -, -, -, -⟩ := HK2.out.tri; (try clear t0 t1 t2); (try obtain ⟨t0, t1, t2, -, -, -, -⟩ := HKT.out.tri); replace HK1 := Lib.hid (HK1.out.later (below_one w9 (.cells #[.bool t.s, .slice t.a t.n t.c, .slice t.b t.m t.d] 26))); replace HK2 := Lib.hid (HK2.out.later (below_one w9 (.cells #[.bool t.s, .slice t.a t.n t.c, .slice t.b t.m t.d] 26))); replace HV := Lib.hid (HV.out.later (below_one w9 (.cells #[.bool t.s, .slice t.a t.n t.c, .slice t.b t.m t.d] 26))); replace HZ := Lib.hid (HZ.out.later (below_one w9 (.cells #[.bool t.s, .slice t.a t.n t.c, .slice t.b t.m t.d] 26))); replace HR := Lib.hid (HR.out.later (below_one w9 (.cells #[.bool t.s, .slice t.a t.n t.c, .slice t.b t.m t.d] 26))); replace HB := Lib.hid (bthen HB.out (below_one w9 (.cells #[.bool t.s, .slice t.a t.n t.c, .slice t.b t.m t.d] 26))); have HN1 := Lib.hid hn; have HS1 := Lib.hid (fun u hu => (⟨(hs u hu).1, (hs u hu).2.later (below_one w9 (.cells #[.bool t.s, .slice t.a t.n t.c, .slice t.b t.m t.d] 26))⟩ : bt = true ∧ t.Is (4 + 4) (4 + 4) u _)); have HKT := Lib.hid (Blk.new w9 26 #[.bool t.s, .slice t.a t.n t.c, .slice t.b t.m t.d]); clear hb hn hs))
  clear k1 k2 hT0 hT1
  have hWl : W1.heap.size < (w9.alloc (.cells #[.bool t.s, .slice t.a t.n t.c, .slice t.b t.m t.d] 26)).heap.size := HK2.out.lt
  have hWl2 : w.heap.size < (w9.alloc (.cells #[.bool t.s, .slice t.a t.n t.c, .slice t.b t.m t.d] 26)).heap.size := HK1.out.lt
  have hWl3 : w9.heap.size < (w9.alloc (.cells #[.bool t.s, .slice t.a t.n t.c, .slice t.b t.m t.d] 26)).heap.size := HKT.out.lt
  generalize hWc : w9.alloc (.cells #[.bool t.s, .slice t.a t.n t.c, .slice t.b t.m t.d] 26) = Wc at HK1 HK2 HV HZ HR HB HS1 HKT hWl hWl2 hWl3 ⊢
  clear p0 p1 p2 p3 p4 p5 p6 q0 q1 q2 hWc
  obtain ⟨p0, p1, p2, p3, p4, p5, p6⟩ := HK1.out.sev
  obtain ⟨q0, q1, q2, -, -, -, -⟩ := HK2.out.tri
  go_cut [7] (fun s7 wx => ∃ g : Nat, s7 = .pointer (some ⟨g, 0, none⟩) ∧ Hid (TwCut Wc on z (atM on p q s) g wx))
  case first =>
    have HBC := Lib.hid (Below.refl Wc.heap.size Wc)
    go_region_held3 (fun w' => w'.cell? ⟨w.heap.size, 0, none⟩ = some (.bool on) ∧ w'.cell? ⟨w.heap.size, 1, none⟩ = some (.bool v.s) ∧ w'.cell? ⟨w.heap.size, 2, none⟩ = some (.slice v.a v.n v.c) ∧ w'.cell? ⟨w.heap.size, 3, none⟩ = some (.slice v.b v.m v.d) ∧ w'.cell? ⟨w.heap.size, 4, none⟩ = some (.bool z.s) ∧ w'.cell? ⟨w.heap.size, 5, none⟩ = some (.slice z.a z.n z.c) ∧ w'.cell? ⟨w.heap.size, 6, none⟩ = some (.slice z.b z.m z.d) ∧ w'.cell? ⟨W1.heap.size, 0, none⟩ = some (.bool r.s) ∧ w'.cell? ⟨W1.heap.size, 1, none⟩ = some (.slice r.a r.n r.c) ∧ w'.cell? ⟨W1.heap.size, 2, none⟩ = some (.slice r.b r.m r.d))
      (first | (refine ⟨?_, ?_, ?_, ?_, ?_, ?_, ?_, ?_, ?_, ?_⟩ <;> with_reducible assumption) | (go_keep; done) | ((refine tw_cells (T := 28) (U := 26) ?_ ?_ <;> repeat' (first | with_reducible exact HK1.out | with_reducible exact HK2.out | with_reducible refine Blk.other ?_ ?_ | with_reducible refine Blk.alloc ?_ _ | with_reducible refine Blk.drew ?_ | omega | (simp; omega))); done))
      (first
        | (go_at_call 11
           refine (lineAt_any on (HV.out.later (by first | exact Below.refl _ _ | exact (Below.refl _ _).drew | exact below_one _ _ | exact (below_one _ _).drew)) (HZ.out.later (by first | exact Below.refl _ _ | exact (Below.refl _ _).drew | exact below_one _ _ | exact (below_one _ _).drew)) (HR.out.later (by first | exact Below.refl _ _ | exact (Below.refl _ _).drew | exact below_one _ _ | exact (below_one _ _).drew))).mono ?_
           rintro e v2 ⟨r2, rfl, h2, hb⟩
           have hbb : Below Wc.heap.size Wc v2 := bthen (by first | exact Below.refl _ _ | exact (Below.refl _ _).drew | exact below_one _ _ | exact (below_one _ _).drew) hb
           replace HK1 := Lib.hid (HK1.out.later hbb)
           replace HK2 := Lib.hid (HK2.out.later hbb)
           replace HBC := Lib.hid (bthen HBC.out hbb)
           clear p0 p1 p2 p3 p4 p5 p6 q0 q1 q2
           obtain ⟨p0, p1, p2, p3, p4, p5, p6⟩ := HK1.out.sev
           obtain ⟨q0, q1, q2, -, -, -, -⟩ := HK2.out.tri
           (first | (have Y0 := Lib.hid ((show Blk v2 Wc.heap.size 28 #[.bool false, .bool false, .slice none 0 0, .slice none 0 0, .bool false, .slice none 0 0, .slice none 0 0] from (Blk.new Wc _ _).drew.later hb)); obtain ⟨y0, y1, y2, y3, y4, y5, y6⟩ := Y0.out.sev; have f0 := Y0.out.free 0; have f1 := Y0.out.free 1; have f2 := Y0.out.free 2; have f3 := Y0.out.free 3; have f4 := Y0.out.free 4; have f5 := Y0.out.free 5; have f6 := Y0.out.free 6) | skip)
           have HR2 := Lib.hid h2
           have l2 : Wc.heap.size ≤ v2.heap.size := hbb.size
           clear h2 hb hbb
           have G2 : Hid True := trivial))
    all_goals
      go_wp2_with fail
      go_meet
    · with_reducible exact ⟨_, rfl, Lib.hid (TwCut.mk l2 (Blk.new _ _ _) (HR2.out.later (below_one _ _)) (HBC.out.alloc HBC.out.size _))⟩
    · with_reducible exact ⟨_, rfl, Lib.hid (TwCut.mk (Nat.le_refl _) (Y0.out.put7 _ _ _ _ _ _ _) (HR2.out.put7 Y0.out _ _ _ _ _ _ _) (below_put7 HBC.out (Nat.le_refl _) _ _ _ _ _ _ _))⟩
  case rest =>
    obtain ⟨g, rfl, hm⟩ := hcut
    obtain ⟨hg, r2, hk, h2, hb⟩ := hm.out
    have HKL := Lib.hid hk
    have HR2 := Lib.hid h2
    replace HK2 := Lib.hid (HK2.out.later hb)
    replace HR := Lib.hid (HR.out.later hb)
    replace HZ := Lib.hid (HZ.out.later hb)
    replace HKT := Lib.hid (HKT.out.later hb)
    replace HB := Lib.hid (bthen HB.out hb)
    have HS1' := Lib.hid (fun u hu => (⟨(HS1.out u hu).1, (HS1.out u hu).2.later hb⟩ : bt = true ∧ t.Is (4 + 4) (4 + 4) u wc))
    clear hm hk h2 hb hg p0 p1 p2 p3 p4 p5 p6 q0 q1 q2 hWl hWl2 hWl3 HK1 HV HS1
    obtain ⟨p0, p1, p2, p3, p4, p5, p6⟩ := HKL.out.sev
    obtain ⟨q0, q1, q2, -, -, -, -⟩ := HK2.out.tri
    obtain ⟨t0, t1, t2, -, -, -, -⟩ := HKT.out.tri
    go_upto_region 6 with (go_at_call 8; (with_reducible refine (passes_g on 13 12 4 4 HR2.out HZ.out (by omega)).mono ?_); rintro e w8 ⟨u, bu, rfl, hn, hs, hb⟩; replace HK2 := Lib.hid (HK2.out.later hb); replace HKT := Lib.hid (HKT.out.later hb); replace HR := Lib.hid (HR.out.later hb); replace HB := Lib.hid (bthen HB.out hb); have HS1 := Lib.hid (fun x hx => (⟨(HS1'.out x hx).1, (HS1'.out x hx).2.later hb⟩ : bt = true ∧ t.Is (4 + 4) (4 + 4) x w8)); have HN2 := Lib.hid hn; have HS2 := Lib.hid hs; clear hb hn hs p0 p1 p2 p3 p4 p5 p6 q0 q1 q2 t0 t1 t2)
    have hb8 := below_one w8 (.cells #[.bool u.s, .slice u.a u.n u.c, .slice u.b u.m u.d] 26)
    replace HK2 := Lib.hid (HK2.out.later hb8)
    replace HKT := Lib.hid (HKT.out.later hb8)
    replace HR := Lib.hid (HR.out.later hb8)
    replace HB := Lib.hid (bthen HB.out hb8)
    replace HS1 := Lib.hid (fun x hx => (⟨(HS1.out x hx).1, (HS1.out x hx).2.later hb8⟩ : bt = true ∧ t.Is (4 + 4) (4 + 4) x (w8.alloc (.cells #[.bool u.s, .slice u.a u.n u.c, .slice u.b u.m u.d] 26))))
    replace HS2 := Lib.hid (fun x hx => (⟨(HS2.out x hx).1, (HS2.out x hx).2.later hb8⟩ : bu = true ∧ u.Is (13 + 4) (4 + 12) x (w8.alloc (.cells #[.bool u.s, .slice u.a u.n u.c, .slice u.b u.m u.d] 26))))
    have HKU := Lib.hid (Blk.new w8 26 #[.bool u.s, .slice u.a u.n u.c, .slice u.b u.m u.d])
    clear hb8 HS1' HKL HR2 HZ
    generalize w8.alloc (.cells #[.bool u.s, .slice u.a u.n u.c, .slice u.b u.m u.d] 26) = W8 at HK2 HKT HR HB HS1 HS2 HKU ⊢
    obtain ⟨q0, q1, q2, -, -, -, -⟩ := HK2.out.tri
    obtain ⟨t0, t1, t2, -, -, -, -⟩ := HKT.out.tri
    obtain ⟨u0, u1, u2, -, -, -, -⟩ := HKU.out.tri
    by_cases hP : on = true ∧ p < 0 ∧ 0 < q
    rotate_left
    · have o2 : passM on (atM on p q s) q = none := if_neg (by
        rintro ⟨h1, h2, h3⟩
        rw [atM, if_pos h1] at h2
        have := stays (p := p) (q := q) (s := s) (by have := hP; grind) (by grind) (by have := HNS.out; grind)
        grind)
      obtain rfl := HN1.out (if_neg hP)
      obtain rfl := HN2.out o2
      clear o2 hP
      go_wp2_with (go_at_call 10; (with_reducible refine (awake18 _).mono ?_); rintro e w9 ⟨rfl, hb⟩; replace HB := Lib.hid (bthen HB.out hb); clear hb)
      go_ret
      exact ⟨rfl, HB.out⟩
    · obtain ⟨rfl, hp, hq⟩ := hP
      have o1 : passM true p q = some (-p / q) := if_pos ⟨rfl, hp, hq⟩
      obtain ⟨rfl, ht⟩ := HS1.out _ o1
      have HT := Lib.hid ht
      clear o1 ht HS1 HN1
      by_cases he : s < -p / q
      · have hat := (pass_early (p := p) hq).2 he
        have o2 : passM true (atM true p q s) q = some (-(p + q * s) / q) := if_pos ⟨rfl, hat, hq⟩
        obtain ⟨rfl, hu⟩ := HS2.out _ o2
        have HU := Lib.hid hu
        have HCM := Lib.hid (cmpR_lt he)
        have HTW := Lib.hid (pass_twice (p := p) (d := s) hq)
        clear o2 hu HS2 HN2 hat he hp hq
        go_upto_region 8 with (go_at_call 12; (with_reducible refine (rcmp_v _ HR.out HT.out HCM.out (by omega) (by omega) (by omega) (by omega)).mono ?_); rintro e w7 ⟨rfl, hb⟩; replace HK2 := Lib.hid (HK2.out.later hb); replace HKT := Lib.hid (HKT.out.later hb); replace HKU := Lib.hid (HKU.out.later hb); replace HR := Lib.hid (HR.out.later hb); replace HT := Lib.hid (HT.out.later hb); replace HU := Lib.hid (HU.out.later hb); replace HB := Lib.hid (bthen HB.out hb); clear hb q0 q1 q2 t0 t1 t2 u0 u1 u2; obtain ⟨q0, q1, q2, -, -, -, -⟩ := HK2.out.tri; obtain ⟨t0, t1, t2, -, -, -, -⟩ := HKT.out.tri; obtain ⟨u0, u1, u2, -, -, -, -⟩ := HKU.out.tri)
        go_region_held3 (fun w' => w'.cell? ⟨W1.heap.size, 0, none⟩ = some (.bool r.s) ∧ w'.cell? ⟨W1.heap.size, 1, none⟩ = some (.slice r.a r.n r.c) ∧ w'.cell? ⟨W1.heap.size, 2, none⟩ = some (.slice r.b r.m r.d) ∧ w'.cell? ⟨w9.heap.size, 0, none⟩ = some (.bool t.s) ∧ w'.cell? ⟨w9.heap.size, 1, none⟩ = some (.slice t.a t.n t.c) ∧ w'.cell? ⟨w9.heap.size, 2, none⟩ = some (.slice t.b t.m t.d) ∧ w'.cell? ⟨w8.heap.size, 0, none⟩ = some (.bool u.s) ∧ w'.cell? ⟨w8.heap.size, 1, none⟩ = some (.slice u.a u.n u.c) ∧ w'.cell? ⟨w8.heap.size, 2, none⟩ = some (.slice u.b u.m u.d))
          (first | (refine ⟨?_, ?_, ?_, ?_, ?_, ?_, ?_, ?_, ?_⟩ <;> with_reducible assumption) | (go_keep; done))
          (first
            | (have mk := G3; clear mk
               go_at_call 10
               refine (awake18 _).mono ?_
               rintro e v4 ⟨rfl, hb⟩
               replace HK2 := Lib.hid (HK2.out.later hb); replace HKT := Lib.hid (HKT.out.later hb); replace HKU := Lib.hid (HKU.out.later hb); replace HR := Lib.hid (HR.out.later hb); replace HT := Lib.hid (HT.out.later hb); replace HU := Lib.hid (HU.out.later hb); replace HB := Lib.hid (bthen HB.out hb); clear q0 q1 q2 t0 t1 t2 u0 u1 u2; obtain ⟨q0, q1, q2, -, -, -, -⟩ := HK2.out.tri; obtain ⟨t0, t1, t2, -, -, -, -⟩ := HKT.out.tri; obtain ⟨u0, u1, u2, -, -, -, -⟩ := HKU.out.tri
               have G4 : Hid True := trivial)
            | (have mk := G2; clear mk
               go_at_call 15
               refine (rsame_v HX.out HY.out (by omega) (by omega) (by omega) (by omega)).mono ?_
               rintro e v3 ⟨rfl, hb⟩
               replace HK2 := Lib.hid (HK2.out.later hb); replace HKT := Lib.hid (HKT.out.later hb); replace HKU := Lib.hid (HKU.out.later hb); replace HR := Lib.hid (HR.out.later hb); replace HT := Lib.hid (HT.out.later hb); replace HU := Lib.hid (HU.out.later hb); replace HB := Lib.hid (bthen HB.out hb); clear q0 q1 q2 t0 t1 t2 u0 u1 u2; obtain ⟨q0, q1, q2, -, -, -, -⟩ := HK2.out.tri; obtain ⟨t0, t1, t2, -, -, -, -⟩ := HKT.out.tri; obtain ⟨u0, u1, u2, -, -, -, -⟩ := HKU.out.tri
               have G3 : Hid True := trivial)
            | (have mk := G1; clear mk
               go_at_call 17
               refine (rnorm_v HT.out (by omega) (by omega) (by omega) (by omega)).mono ?_
               rintro e v2 ⟨y, rfl, hy, hb⟩
               replace HK2 := Lib.hid (HK2.out.later hb); replace HKT := Lib.hid (HKT.out.later hb); replace HKU := Lib.hid (HKU.out.later hb); replace HR := Lib.hid (HR.out.later hb); replace HT := Lib.hid (HT.out.later hb); replace HU := Lib.hid (HU.out.later hb); replace HB := Lib.hid (bthen HB.out hb); clear q0 q1 q2 t0 t1 t2 u0 u1 u2; obtain ⟨q0, q1, q2, -, -, -, -⟩ := HK2.out.tri; obtain ⟨t0, t1, t2, -, -, -, -⟩ := HKT.out.tri; obtain ⟨u0, u1, u2, -, -, -, -⟩ := HKU.out.tri
               replace HX := Lib.hid (HX.out.later hb)
               have HY := Lib.hid hy
               have G2 : Hid True := trivial)
            | (go_at_call 16
               refine (radd_v 22 20 (HU.out.later (by first | exact Below.refl _ _ | exact (Below.refl _ _).drew | exact below_one _ _ | exact (below_one _ _).drew)) (HR.out.later (by first | exact Below.refl _ _ | exact (Below.refl _ _).drew | exact below_one _ _ | exact (below_one _ _).drew)) HTW.out (by omega) (by omega) (by omega) (by omega) (by omega) (by omega) (by omega) (by omega) (by omega) (by omega)).mono ?_
               rintro e v1 ⟨x, rfl, hx, hb0⟩
               have hb : Below w7.heap.size w7 v1 := bthen (by first | exact Below.refl _ _ | exact (Below.refl _ _).drew | exact below_one _ _ | exact (below_one _ _).drew) hb0
               replace HK2 := Lib.hid (HK2.out.later hb); replace HKT := Lib.hid (HKT.out.later hb); replace HKU := Lib.hid (HKU.out.later hb); replace HR := Lib.hid (HR.out.later hb); replace HT := Lib.hid (HT.out.later hb); replace HU := Lib.hid (HU.out.later hb); replace HB := Lib.hid (bthen HB.out hb); clear q0 q1 q2 t0 t1 t2 u0 u1 u2; obtain ⟨q0, q1, q2, -, -, -, -⟩ := HK2.out.tri; obtain ⟨t0, t1, t2, -, -, -, -⟩ := HKT.out.tri; obtain ⟨u0, u1, u2, -, -, -, -⟩ := HKU.out.tri
               have HX := Lib.hid hx
               have G1 : Hid True := trivial))
        all_goals
          go_wp2_with fail
          go_ret
          exact ⟨rfl, HB.out⟩
      · obtain ⟨T2, hT2, hT3, hT4⟩ := cmpR_ge he
        have HCM := Lib.hid hT2
        have o2 : passM true (atM true p q s) q = none := if_neg (fun h => he ((pass_early (p := p) hq).1 h.2.1))
        obtain rfl := HN2.out o2
        clear o2 hp hq he hT2
        go_wp2_with (first
          | (go_at_call 10; (with_reducible refine (awake18 _).mono ?_); rintro e w9 ⟨rfl, hb⟩; replace HB := Lib.hid (bthen HB.out hb); clear hb)
          | (go_at_call 12; (with_reducible refine (rcmp_v _ HR.out HT.out HCM.out (by omega) (by omega) (by omega) (by omega)).mono ?_); rintro e w7 ⟨rfl, hb⟩; replace HB := Lib.hid (bthen HB.out hb); clear hb))
        go_ret
        exact ⟨rfl, HB.out⟩

end Go.Proofs.Ytmoplgfmngohgaa
