/- SolveTells, its walk. -/
import Derived.Test.YtmoplgfmngohgaaGreatSvS
import Derived.Test.YtmoplgfmngohgaaGreatSvH
import Derived.Deep.DeepCutAuto
import Derived.Deep.RegionHeld3
import Derived.Deep.RegionLaw
import Derived.BigRegion
import Derived.IntWalk
namespace Go.Proofs.YtmoplgfmngohgaaGreat
set_option linter.unusedVariables false
set_option linter.unusedSimpArgs false
set_option maxRecDepth 100000
open Go.RowKit Nums

set_option maxHeartbeats 16000000 in
/-- SolveTells, its walk -/
theorem solveTells_walk (a : Option Addr) (n c : Nat) (L : List LM) (r : RV) (s : Rat) (w : World) (h : LRow w a n c L) (hr : r.Is r.n r.m s w) :
    Calls Tryz.prog 3 #[.slice a n c, .agg #[.bool r.s, .slice r.a r.n r.c, .slice r.b r.m r.d]] w fun e w' => e = .returned (.bool true) ∧ Below w.heap.size w w' := by
  obtain ⟨W1, hW1⟩ : ∃ W1, W1 = w.alloc (.cells #[.bool r.s, .slice r.a r.n r.c, .slice r.b r.m r.d] 27) := ⟨_, rfl⟩
  have hb1 : Below w.heap.size w W1 := by rw [hW1]; exact below_one _ _
  have HKD := Lib.hid (show Blk W1 w.heap.size 27 #[.bool r.s, .slice r.a r.n r.c, .slice r.b r.m r.d] by rw [hW1]; exact Blk.new _ _ _)
  have HL0 := Lib.hid (h.later hb1)
  have HR := Lib.hid (hr.later hb1)
  have HB := Lib.hid hb1
  have HLN := Lib.hid h.1
  have HW1 := Lib.hid hW1
  clear h hr hb1 hW1
  obtain ⟨q0, q1, q2, -, -, -, -⟩ := HKD.out.tri
  go_enter Tryz.func3, Tryz.ntmps3
  go_upto_region 1 with fail
  rw [← HW1.out]; clear HW1
  go_wp2_with (go_at_call 4; (with_reducible refine (few_t _ _ _ L _ HL0.out).mono ?_); rintro e w3 ⟨⟨b, rfl, hf⟩, hb⟩; have HF := Lib.hid hf; replace HKD := Lib.hid (HKD.out.later hb); replace HR := Lib.hid (HR.out.later hb); replace HL0 := Lib.hid (HL0.out.later hb); replace HB := Lib.hid (bthen HB.out hb); (try replace HT := Lib.hid (HT.out.later hb)); (try replace HKT := Lib.hid (HKT.out.later hb)); (try replace HU := Lib.hid (HU.out.later hb)); (try replace HKU := Lib.hid (HKU.out.later hb)); clear q0 q1 q2; obtain ⟨q0, q1, q2, -, -, -, -⟩ := HKD.out.tri; (try clear t0 t1 t2); (try obtain ⟨t0, t1, t2, -, -, -, -⟩ := HKT.out.tri); (try clear u0 u1 u2); (try obtain ⟨u0, u1, u2, -, -, -, -⟩ := HKU.out.tri); (try clear kd); have kd := HKD.out.lt; clear hb hf; cases b)
  · go_ret
    exact ⟨rfl, HB.out⟩
  have hF := HF.out (by simp)
  have HN := Lib.hid hF.1
  have HSH := Lib.hid hF.2
  clear HF hF
  by_cases hl : 4 < r.n ∨ 4 < r.m
  · have HD := Lib.hid (decide_eq_true hl)
    clear hl
    go_wp2_with (go_at_call 5; (with_reducible refine (long_t r _).mono ?_); rintro e w4 ⟨rfl, hb⟩; rw [HD.out]; replace HKD := Lib.hid (HKD.out.later hb); replace HR := Lib.hid (HR.out.later hb); replace HL0 := Lib.hid (HL0.out.later hb); replace HB := Lib.hid (bthen HB.out hb); (try replace HT := Lib.hid (HT.out.later hb)); (try replace HKT := Lib.hid (HKT.out.later hb)); (try replace HU := Lib.hid (HU.out.later hb)); (try replace HKU := Lib.hid (HKU.out.later hb)); clear q0 q1 q2; obtain ⟨q0, q1, q2, -, -, -, -⟩ := HKD.out.tri; (try clear t0 t1 t2); (try obtain ⟨t0, t1, t2, -, -, -, -⟩ := HKT.out.tri); (try clear u0 u1 u2); (try obtain ⟨u0, u1, u2, -, -, -, -⟩ := HKU.out.tri); (try clear kd); have kd := HKD.out.lt; clear hb)
    go_ret
    exact ⟨rfl, HB.out⟩
  have HD := Lib.hid (decide_eq_false hl)
  replace HR := Lib.hid (HR.out.more (k' := 4) (j' := 4) (by omega) (by omega))
  clear hl
  have HPN := Lib.hid (fun W (hL : LRow W a n c L) => next_tT a n c L W hL HSH.out HN.out)
  cases hnx : nextM L with
  | none =>
    have HNX := Lib.hid hnx
    clear hnx
    go_upto_region 5 with (first
      | (go_at_call 5; (with_reducible refine (long_t r _).mono ?_); rintro e w9 ⟨rfl, hb⟩; rw [HD.out]; replace HKD := Lib.hid (HKD.out.later hb); replace HR := Lib.hid (HR.out.later hb); replace HL0 := Lib.hid (HL0.out.later hb); replace HB := Lib.hid (bthen HB.out hb); (try replace HT := Lib.hid (HT.out.later hb)); (try replace HKT := Lib.hid (HKT.out.later hb)); (try replace HU := Lib.hid (HU.out.later hb)); (try replace HKU := Lib.hid (HKU.out.later hb)); clear q0 q1 q2; obtain ⟨q0, q1, q2, -, -, -, -⟩ := HKD.out.tri; (try clear t0 t1 t2); (try obtain ⟨t0, t1, t2, -, -, -, -⟩ := HKT.out.tri); (try clear u0 u1 u2); (try obtain ⟨u0, u1, u2, -, -, -, -⟩ := HKU.out.tri); (try clear kd); have kd := HKD.out.lt; have HPN2 := Lib.hid (HPN.out _ HL0.out); rw [HNX.out] at HPN2; clear hb)
      | (go_at_call 7; (with_reducible refine HRN.out.mono ?_); rintro e w5 ⟨rfl, hb⟩; replace HKD := Lib.hid (HKD.out.later hb); replace HR := Lib.hid (HR.out.later hb); replace HL0 := Lib.hid (HL0.out.later hb); replace HB := Lib.hid (bthen HB.out hb); (try replace HT := Lib.hid (HT.out.later hb)); (try replace HKT := Lib.hid (HKT.out.later hb)); (try replace HU := Lib.hid (HU.out.later hb)); (try replace HKU := Lib.hid (HKU.out.later hb)); clear q0 q1 q2; obtain ⟨q0, q1, q2, -, -, -, -⟩ := HKD.out.tri; (try clear t0 t1 t2); (try obtain ⟨t0, t1, t2, -, -, -, -⟩ := HKT.out.tri); (try clear u0 u1 u2); (try obtain ⟨u0, u1, u2, -, -, -, -⟩ := HKU.out.tri); (try clear kd); have kd := HKD.out.lt; have hb := below_one w5 (.cells #[.bool false, .slice none 0 0, .slice none 0 0] 27); replace HKD := Lib.hid (HKD.out.later hb); replace HR := Lib.hid (HR.out.later hb); replace HL0 := Lib.hid (HL0.out.later hb); replace HB := Lib.hid (bthen HB.out hb); (try replace HT := Lib.hid (HT.out.later hb)); (try replace HKT := Lib.hid (HKT.out.later hb)); clear hb; clear hb)
      | (go_at_call 6; (with_reducible refine HPN2.out.mono ?_); rintro e w4 ⟨rfl, hb⟩; replace HKD := Lib.hid (HKD.out.later hb); replace HR := Lib.hid (HR.out.later hb); replace HL0 := Lib.hid (HL0.out.later hb); replace HB := Lib.hid (bthen HB.out hb); (try replace HT := Lib.hid (HT.out.later hb)); (try replace HKT := Lib.hid (HKT.out.later hb)); (try replace HU := Lib.hid (HU.out.later hb)); (try replace HKU := Lib.hid (HKU.out.later hb)); clear q0 q1 q2; obtain ⟨q0, q1, q2, -, -, -, -⟩ := HKD.out.tri; (try clear t0 t1 t2); (try obtain ⟨t0, t1, t2, -, -, -, -⟩ := HKT.out.tri); (try clear u0 u1 u2); (try obtain ⟨u0, u1, u2, -, -, -, -⟩ := HKU.out.tri); (try clear kd); have kd := HKD.out.lt; have hb := below_one w4 (.cells #[.bool false, .slice none 0 0, .slice none 0 0] 27); replace HKD := Lib.hid (HKD.out.later hb); replace HR := Lib.hid (HR.out.later hb); replace HL0 := Lib.hid (HL0.out.later hb); replace HB := Lib.hid (bthen HB.out hb); (try replace HT := Lib.hid (HT.out.later hb)); (try replace HKT := Lib.hid (HKT.out.later hb)); clear hb; have HRN := Lib.hid (rnext_t a n c L _ HL0.out HSH.out HN.out); rw [HNX.out] at HRN; clear hb))
    generalize w5.alloc (.cells #[.bool false, .slice none 0 0, .slice none 0 0] 27) = W5 at HKD HR HL0 HB ⊢
    clear q0 q1 q2 kd
    (try clear t0 t1 t2)
    (try clear u0 u1 u2)
    obtain ⟨q0, q1, q2, -, -, -, -⟩ := HKD.out.tri
    have HBd := Lib.hid (Below.refl W5.heap.size W5).drew
    go_region_held3 (fun w' => w'.cell? ⟨w.heap.size, 0, none⟩ = some (.bool r.s) ∧ w'.cell? ⟨w.heap.size, 1, none⟩ = some (.slice r.a r.n r.c) ∧ w'.cell? ⟨w.heap.size, 2, none⟩ = some (.slice r.b r.m r.d))
      (first | (refine ⟨?_, ?_, ?_⟩ <;> with_reducible assumption) | (go_keep; done))
      (first
        | (go_at_call 9
           refine (rpassed_t a n c L r s _ (HL0.out.later HB6.out) (HR.out.later HB6.out) HSH.out HN.out).mono ?_
           rintro e w7 ⟨⟨vq, rfl, hq⟩, hb⟩
           have HQ := Lib.hid hq
           have HM := Lib.hid (MemB.below HMp.out hb HMp.out.lt)
           have HB7 := Lib.hid (HB6.out.trans (hb.mono HB6.out.size))
           clear q0 q1 q2 hq hb
           obtain ⟨q0, q1, q2, -, -, -, -⟩ := (HKD.out.later HB7.out).tri)
        | (go_at_call 8
           refine (passed_t a n c L r s _ (HL0.out.later HBd.out) ((HR.out.later HBd.out).more (by omega) (by omega)) HSH.out HN.out).mono ?_
           rintro e w6 ⟨g, rfl, hm, -, hb⟩
           have HMp := Lib.hid hm
           have HB6 := Lib.hid (HBd.out.trans (hb.mono HBd.out.size))
           clear q0 q1 q2 hm hb
           obtain ⟨q0, q1, q2, -, -, -, -⟩ := (HKD.out.later HB6.out).tri))
    obtain ⟨aq, cq, hvq, hbq, -⟩ := brow_own HQ.out
    rw [List.length_map, HLN.out] at hvq hbq
    subst hvq
    replace HKD := Lib.hid (HKD.out.later HB7.out)
    replace HR := Lib.hid (HR.out.later HB7.out)
    replace HL0 := Lib.hid (HL0.out.later HB7.out)
    replace HB := Lib.hid (bthen HB.out HB7.out)
    have HBQ := Lib.hid hbq
    clear hbq q0 q1 q2 HBd HB6 HB7 HMp HQ
    go_wp2_with fail
    go_loopw [11] (fun s11 wr => ∃ k : Nat, k ≤ n ∧ s11 = .int .i64 k ∧ Hid (Below w7.heap.size w7 wr)) (fun t _ => n - (intOf t).toNat)
    case atStart => exact ⟨0, Nat.zero_le _, rfl, Lib.hid (Below.refl _ _)⟩
    case round =>
      obtain ⟨k, hk, rfl, HBr⟩ := hrel
      have hk20 : (k : Int) ≤ 20 := by have := HN.out; omega
      by_cases hlt : k < n
      · obtain ⟨x, hx⟩ : ∃ x, L[k]? = some x := ⟨_, List.getElem?_eq_getElem (by rw [HLN.out]; exact hlt)⟩
        have hgx : (L.map (passedM s)).getD k false = passedM s x := by rw [List.getD_eq_getElem?_getD, List.getElem?_map, hx]; rfl
        have hp0 := HM.out.cell k (by rw [List.length_map, HLN.out]; exact hlt)
        obtain ⟨-, -, -, -, gq, oq, hor, hqc⟩ := HBQ.out
        obtain haq := hor.resolve_right (by omega)
        have hq0 := (hqc k hlt).2
        rw [hgx] at hp0 hq0
        obtain ⟨P, hP⟩ : ∃ P, passedM s x = P := ⟨_, rfl⟩
        rw [hP] at hp0 hq0
        have HP0 := Lib.hid hp0
        have HQ0 := Lib.hid hq0
        have HGPc := Lib.hid HM.out.lt
        have HGQc := Lib.hid (hqc k hlt).1
        obtain ⟨b0, off, ha, hbr, hat⟩ := (HL0.out.later HBr.out).at_ hx
        have HX := Lib.hid hx
        have HSX := Lib.hid (HSH.out x (List.mem_of_getElem? hx))
        have HV := Lib.hid (hat.v.more HSX.out.1 HSX.out.2.1)
        have HZ := Lib.hid (hat.z.more HSX.out.2.2.1 HSX.out.2.2.2)
        have HAT := Lib.hid hat
        have HBX := Lib.hid hbr
        replace HKD := Lib.hid (HKD.out.later HBr.out)
        replace HR := Lib.hid (HR.out.later HBr.out)
        have hkI : (k : Int) < (n : Int) := by omega
        subst ha haq
        obtain ⟨c0, c1, c2, c3, c4, c5, c6, -, -⟩ := hat
        clear hx HSX hgx hp0 hq0 hP hor hqc
        cases hpl : passL x with
        | none =>
          have HPX := Lib.hid hpl
          have HPL := Lib.hid (passes_tT HV.out HZ.out)
          rw [hpl] at HPL
          clear hpl
          go_upto_region 13 with (first
            | (go_at_call 12; (with_reducible refine HRP.out.mono ?_); rintro e w6 ⟨rfl, hb⟩; have hb6 := bthen hb (below_one w6 (.cells #[.bool false, .slice none 0 0, .slice none 0 0] 27)); replace HB5 := Lib.hid (HB5.out.trans (hb6.mono HB5.out.size)); replace HV := Lib.hid (HV.out.later hb6); replace HZ := Lib.hid (HZ.out.later hb6); replace HR := Lib.hid (HR.out.later hb6); replace HKD := Lib.hid (HKD.out.later hb6); replace HAT := Lib.hid (HAT.out.later HBX.out hb6); replace HBX := Lib.hid (Nat.lt_of_lt_of_le HBX.out hb6.size); replace HKa := Lib.hid (HKa.out.later hb6); have HKb := Lib.hid (Blk.new w6 27 #[.bool false, .slice none 0 0, .slice none 0 0]); clear hb hb6 c0 c1 c2 c3 c4 c5 c6 hl5)
            | (go_at_call 11; (with_reducible refine HPL.out.mono ?_); rintro e w5 ⟨rfl, hb⟩; have hb5 := bthen hb (below_one w5 (.cells #[.bool false, .slice none 0 0, .slice none 0 0] 27)); have HB5 := Lib.hid (HBr.out.trans (hb5.mono HBr.out.size)); replace HV := Lib.hid (HV.out.later hb5); replace HZ := Lib.hid (HZ.out.later hb5); replace HR := Lib.hid (HR.out.later hb5); replace HKD := Lib.hid (HKD.out.later hb5); replace HAT := Lib.hid (HAT.out.later HBX.out hb5); replace HBX := Lib.hid (Nat.lt_of_lt_of_le HBX.out hb5.size); have HKa := Lib.hid (Blk.new w5 27 #[.bool false, .slice none 0 0, .slice none 0 0]); have HRP := Lib.hid (rpasses_t HV.out HZ.out); rw [HPX.out] at HRP; have hl5 : b0 < w5.heap.size := Nat.lt_of_lt_of_le hbr hb.size; clear c0 c1 c2 c3 c4 c5 c6; obtain ⟨c0, c1, c2, c3, c4, c5, c6, -, -⟩ := HAT.out; clear hb hb5))
          generalize w6.alloc (.cells #[.bool false, .slice none 0 0, .slice none 0 0] 27) = W8 at HB5 HV HZ HR HKD HAT HBX HKa HKb ⊢
          generalize hga : w5.heap.size = ga at HKa ⊢
          generalize hgb : w6.heap.size = gb at HKb ⊢
          have HGP := Lib.hid (Nat.lt_of_lt_of_le HGPc.out HB5.out.size)
          have HGQ := Lib.hid (Nat.lt_of_lt_of_le HGQc.out HB5.out.size)
          have HPC := Lib.hid ((HB5.out.cell (p := ⟨g, k, none⟩) HGPc.out).trans HP0.out)
          have HQC := Lib.hid ((HB5.out.cell (p := ⟨gq, oq + k, none⟩) HGQc.out).trans HQ0.out)
          have HSS := Lib.hid (fun (W : World) (hb : Below W8.heap.size W8 W) => (show W.cell? ⟨g, k, none⟩ = some (.bool P) ∧ W.cell? ⟨gq, oq + k, none⟩ = some (.bool P) ∧ W.cell? ⟨ga, 0, none⟩ = some (.bool false) ∧ W.cell? ⟨ga, 1, none⟩ = some (.slice none 0 0) ∧ W.cell? ⟨ga, 2, none⟩ = some (.slice none 0 0) ∧ W.cell? ⟨gb, 0, none⟩ = some (.bool false) ∧ W.cell? ⟨gb, 1, none⟩ = some (.slice none 0 0) ∧ W.cell? ⟨gb, 2, none⟩ = some (.slice none 0 0) ∧ W.cell? ⟨b0, off + k * 7, none⟩ = some (.bool x.on) ∧ W.cell? ⟨b0, off + k * 7 + 1, none⟩ = some (.bool x.v.s) ∧ W.cell? ⟨b0, off + k * 7 + 2, none⟩ = some (.slice x.v.a x.v.n x.v.c) ∧ W.cell? ⟨b0, off + k * 7 + 3, none⟩ = some (.slice x.v.b x.v.m x.v.d) ∧ W.cell? ⟨b0, off + k * 7 + 4, none⟩ = some (.bool x.z.s) ∧ W.cell? ⟨b0, off + k * 7 + 5, none⟩ = some (.slice x.z.a x.z.n x.z.c) ∧ W.cell? ⟨b0, off + k * 7 + 6, none⟩ = some (.slice x.z.b x.z.m x.z.d) ∧ W.cell? ⟨w.heap.size, 0, none⟩ = some (.bool r.s) ∧ W.cell? ⟨w.heap.size, 1, none⟩ = some (.slice r.a r.n r.c) ∧ W.cell? ⟨w.heap.size, 2, none⟩ = some (.slice r.b r.m r.d) from ⟨(hb.cell (p := ⟨g, k, none⟩) HGP.out).trans HPC.out, (hb.cell (p := ⟨gq, oq + k, none⟩) HGQ.out).trans HQC.out, (HKa.out.later hb).cell 0 rfl, (HKa.out.later hb).cell 1 rfl, (HKa.out.later hb).cell 2 rfl, (HKb.out.later hb).cell 0 rfl, (HKb.out.later hb).cell 1 rfl, (HKb.out.later hb).cell 2 rfl, (HAT.out.later HBX.out hb).c0, (HAT.out.later HBX.out hb).c1, (HAT.out.later HBX.out hb).c2, (HAT.out.later HBX.out hb).c3, (HAT.out.later HBX.out hb).c4, (HAT.out.later HBX.out hb).c5, (HAT.out.later HBX.out hb).c6, (HKD.out.later hb).cell 0 rfl, (HKD.out.later hb).cell 1 rfl, (HKD.out.later hb).cell 2 rfl⟩))
          have HBd := Lib.hid (Below.refl W8.heap.size W8).drew
          clear hga hgb hbr
          refine wp_region_held_drew (S := fun w' => w'.cell? ⟨g, k, none⟩ = some (.bool P) ∧ w'.cell? ⟨gq, oq + k, none⟩ = some (.bool P) ∧ w'.cell? ⟨ga, 0, none⟩ = some (.bool false) ∧ w'.cell? ⟨ga, 1, none⟩ = some (.slice none 0 0) ∧ w'.cell? ⟨ga, 2, none⟩ = some (.slice none 0 0) ∧ w'.cell? ⟨gb, 0, none⟩ = some (.bool false) ∧ w'.cell? ⟨gb, 1, none⟩ = some (.slice none 0 0) ∧ w'.cell? ⟨gb, 2, none⟩ = some (.slice none 0 0) ∧ w'.cell? ⟨b0, off + k * 7, none⟩ = some (.bool x.on) ∧ w'.cell? ⟨b0, off + k * 7 + 1, none⟩ = some (.bool x.v.s) ∧ w'.cell? ⟨b0, off + k * 7 + 2, none⟩ = some (.slice x.v.a x.v.n x.v.c) ∧ w'.cell? ⟨b0, off + k * 7 + 3, none⟩ = some (.slice x.v.b x.v.m x.v.d) ∧ w'.cell? ⟨b0, off + k * 7 + 4, none⟩ = some (.bool x.z.s) ∧ w'.cell? ⟨b0, off + k * 7 + 5, none⟩ = some (.slice x.z.a x.z.n x.z.c) ∧ w'.cell? ⟨b0, off + k * 7 + 6, none⟩ = some (.slice x.z.b x.z.m x.z.d) ∧ w'.cell? ⟨w.heap.size, 0, none⟩ = some (.bool r.s) ∧ w'.cell? ⟨w.heap.size, 1, none⟩ = some (.slice r.a r.n r.c) ∧ w'.cell? ⟨w.heap.size, 2, none⟩ = some (.slice r.b r.m r.d)) (by kernel_rfl) (HSS.out _ HBd.out) (fun hHeld => ?_)
          refine takeH 0 80 ?_ (by kernel_rfl) (by kernel_rfl) (by kernel_rfl) (by kernel_rfl) (fun _ _ _ h => h) (by kernel_rfl) (fun o ho w hSw => ?_) (by assumption) ?_
          rotate_left
          · (simp only [List.getElem?_toArray, List.getElem?_cons_succ, List.getElem?_cons_zero, Option.some.injEq] at ho; subst ho; (try dsimp only at hSw); go_simp; try with_reducible rfl)
          try simp only [Act.put, List.setIfInBounds_toArray, List.set_cons_zero, List.set_cons_succ]
          refine takeH 1 81 ?_ (by kernel_rfl) (by kernel_rfl) (by kernel_rfl) (by kernel_rfl) (fun _ _ _ h => h) (by kernel_rfl) (fun o ho w hSw => ?_) (by assumption) ?_
          rotate_left
          · (simp only [List.getElem?_toArray, List.getElem?_cons_succ, List.getElem?_cons_zero, Option.some.injEq] at ho; subst ho; (try dsimp only at hSw); go_simp; try with_reducible rfl)
          try simp only [Act.put, List.setIfInBounds_toArray, List.set_cons_zero, List.set_cons_succ]
          refine takeH 2 82 ?_ (by kernel_rfl) (by kernel_rfl) (by kernel_rfl) (by kernel_rfl) (fun _ _ _ h => h) (by kernel_rfl) (fun o ho w hSw => ?_) (by assumption) ?_
          rotate_left
          · (simp only [List.getElem?_toArray, List.getElem?_cons_succ, List.getElem?_cons_zero, Option.some.injEq] at ho; subst ho; (try dsimp only at hSw); go_simp; try with_reducible rfl)
          try simp only [Act.put, List.setIfInBounds_toArray, List.set_cons_zero, List.set_cons_succ]
          refine takeH 3 83 ?_ (by kernel_rfl) (by kernel_rfl) (by kernel_rfl) (by kernel_rfl) (fun _ _ _ h => h) (by kernel_rfl) (fun o ho w hSw => ?_) (by assumption) ?_
          rotate_left
          · (simp only [List.getElem?_toArray, List.getElem?_cons_succ, List.getElem?_cons_zero, Option.some.injEq] at ho; subst ho; (try dsimp only at hSw); go_simp; try with_reducible rfl)
          try simp only [Act.put, List.setIfInBounds_toArray, List.set_cons_zero, List.set_cons_succ]
          refine takeH 4 84 ?_ (by kernel_rfl) (by kernel_rfl) (by kernel_rfl) (by kernel_rfl) (fun _ _ _ h => h) (by kernel_rfl) (fun o ho w hSw => ?_) (by assumption) ?_
          rotate_left
          · (simp only [List.getElem?_toArray, List.getElem?_cons_succ, List.getElem?_cons_zero, Option.some.injEq] at ho; subst ho; (try dsimp only at hSw); go_simp; try with_reducible rfl)
          try simp only [Act.put, List.setIfInBounds_toArray, List.set_cons_zero, List.set_cons_succ]
          refine takeH 5 85 ?_ (by kernel_rfl) (by kernel_rfl) (by kernel_rfl) (by kernel_rfl) (fun _ _ _ h => h) (by kernel_rfl) (fun o ho w hSw => ?_) (by assumption) ?_
          rotate_left
          · (simp only [List.getElem?_toArray, List.getElem?_cons_succ, List.getElem?_cons_zero, Option.some.injEq] at ho; subst ho; (try dsimp only at hSw); go_simp; try with_reducible rfl)
          try simp only [Act.put, List.setIfInBounds_toArray, List.set_cons_zero, List.set_cons_succ]
          refine takeH 6 86 ?_ (by kernel_rfl) (by kernel_rfl) (by kernel_rfl) (by kernel_rfl) (fun _ _ _ h => h) (by kernel_rfl) (fun o ho w hSw => ?_) (by assumption) ?_
          rotate_left
          · (simp only [List.getElem?_toArray, List.getElem?_cons_succ, List.getElem?_cons_zero, Option.some.injEq] at ho; subst ho; (try dsimp only at hSw); go_simp; try with_reducible rfl)
          try simp only [Act.put, List.setIfInBounds_toArray, List.set_cons_zero, List.set_cons_succ]
          refine takeH 7 87 ?_ (by kernel_rfl) (by kernel_rfl) (by kernel_rfl) (by kernel_rfl) (fun _ _ _ h => h) (by kernel_rfl) (fun o ho w hSw => ?_) (by assumption) ?_
          rotate_left
          · (simp only [List.getElem?_toArray, List.getElem?_cons_succ, List.getElem?_cons_zero, Option.some.injEq] at ho; subst ho; (try dsimp only at hSw); go_simp; try with_reducible rfl)
          try simp only [Act.put, List.setIfInBounds_toArray, List.set_cons_zero, List.set_cons_succ]
          refine takeH 8 88 ?_ (by kernel_rfl) (by kernel_rfl) (by kernel_rfl) (by kernel_rfl) (fun _ _ _ h => h) (by kernel_rfl) (fun o ho w hSw => ?_) (by assumption) ?_
          rotate_left
          · (simp only [List.getElem?_toArray, List.getElem?_cons_succ, List.getElem?_cons_zero, Option.some.injEq] at ho; subst ho; (try dsimp only at hSw); go_simp; try with_reducible rfl)
          try simp only [Act.put, List.setIfInBounds_toArray, List.set_cons_zero, List.set_cons_succ]
          refine takeH 9 89 ?_ (by kernel_rfl) (by kernel_rfl) (by kernel_rfl) (by kernel_rfl) (fun _ _ _ h => h) (by kernel_rfl) (fun o ho w hSw => ?_) (by assumption) ?_
          rotate_left
          · (simp only [List.getElem?_toArray, List.getElem?_cons_succ, List.getElem?_cons_zero, Option.some.injEq] at ho; subst ho; (try dsimp only at hSw); go_simp; try with_reducible rfl)
          try simp only [Act.put, List.setIfInBounds_toArray, List.set_cons_zero, List.set_cons_succ]
          refine takeH 10 90 ?_ (by kernel_rfl) (by kernel_rfl) (by kernel_rfl) (by kernel_rfl) (fun _ _ _ h => h) (by kernel_rfl) (fun o ho w hSw => ?_) (by assumption) ?_
          rotate_left
          · (simp only [List.getElem?_toArray, List.getElem?_cons_succ, List.getElem?_cons_zero, Option.some.injEq] at ho; subst ho; (try dsimp only at hSw); go_simp; try with_reducible rfl)
          try simp only [Act.put, List.setIfInBounds_toArray, List.set_cons_zero, List.set_cons_succ]
          refine takeH 11 91 ?_ (by kernel_rfl) (by kernel_rfl) (by kernel_rfl) (by kernel_rfl) (fun _ _ _ h => h) (by kernel_rfl) (fun o ho w hSw => ?_) (by assumption) ?_
          rotate_left
          · (simp only [List.getElem?_toArray, List.getElem?_cons_succ, List.getElem?_cons_zero, Option.some.injEq] at ho; subst ho; (try dsimp only at hSw); go_simp; try with_reducible rfl)
          try simp only [Act.put, List.setIfInBounds_toArray, List.set_cons_zero, List.set_cons_succ]
          refine takeH 12 92 ?_ (by kernel_rfl) (by kernel_rfl) (by kernel_rfl) (by kernel_rfl) (fun _ _ _ h => h) (by kernel_rfl) (fun o ho w hSw => ?_) (by assumption) ?_
          rotate_left
          · (simp only [List.getElem?_toArray, List.getElem?_cons_succ, List.getElem?_cons_zero, Option.some.injEq] at ho; subst ho; (try dsimp only at hSw); go_simp; try with_reducible rfl)
          try simp only [Act.put, List.setIfInBounds_toArray, List.set_cons_zero, List.set_cons_succ]
          refine takeH 13 93 ?_ (by kernel_rfl) (by kernel_rfl) (by kernel_rfl) (by kernel_rfl) (fun _ _ _ h => h) (by kernel_rfl) (fun o ho w hSw => ?_) (by assumption) ?_
          rotate_left
          · (simp only [List.getElem?_toArray, List.getElem?_cons_succ, List.getElem?_cons_zero, Option.some.injEq] at ho; subst ho; (try dsimp only at hSw); go_simp; try with_reducible rfl)
          try simp only [Act.put, List.setIfInBounds_toArray, List.set_cons_zero, List.set_cons_succ]
          refine takeH 14 94 ?_ (by kernel_rfl) (by kernel_rfl) (by kernel_rfl) (by kernel_rfl) (fun _ _ _ h => h) (by kernel_rfl) (fun o ho w hSw => ?_) (by assumption) ?_
          rotate_left
          · (simp only [List.getElem?_toArray, List.getElem?_cons_succ, List.getElem?_cons_zero, Option.some.injEq] at ho; subst ho; (try dsimp only at hSw); go_simp; try with_reducible rfl)
          try simp only [Act.put, List.setIfInBounds_toArray, List.set_cons_zero, List.set_cons_succ]
          refine takeH 15 95 ?_ (by kernel_rfl) (by kernel_rfl) (by kernel_rfl) (by kernel_rfl) (fun _ _ _ h => h) (by kernel_rfl) (fun o ho w hSw => ?_) (by assumption) ?_
          rotate_left
          · (simp only [List.getElem?_toArray, List.getElem?_cons_succ, List.getElem?_cons_zero, Option.some.injEq] at ho; subst ho; (try dsimp only at hSw); go_simp; try with_reducible rfl)
          try simp only [Act.put, List.setIfInBounds_toArray, List.set_cons_zero, List.set_cons_succ]
          refine takeH 16 96 ?_ (by kernel_rfl) (by kernel_rfl) (by kernel_rfl) (by kernel_rfl) (fun _ _ _ h => h) (by kernel_rfl) (fun o ho w hSw => ?_) (by assumption) ?_
          rotate_left
          · (simp only [List.getElem?_toArray, List.getElem?_cons_succ, List.getElem?_cons_zero, Option.some.injEq] at ho; subst ho; (try dsimp only at hSw); go_simp; try with_reducible rfl)
          try simp only [Act.put, List.setIfInBounds_toArray, List.set_cons_zero, List.set_cons_succ]
          refine skipH 17 97 (by kernel_rfl) (by kernel_rfl) (by kernel_rfl) (by kernel_rfl) (fun _ _ _ h => h) (by kernel_rfl) (by assumption) ?_
          try simp only [Act.put, List.setIfInBounds_toArray, List.set_cons_zero, List.set_cons_succ]
          refine skipH 18 98 (by kernel_rfl) (by kernel_rfl) (by kernel_rfl) (by kernel_rfl) (fun _ _ _ h => h) (by kernel_rfl) (by assumption) ?_
          try simp only [Act.put, List.setIfInBounds_toArray, List.set_cons_zero, List.set_cons_succ]
          refine skipH 19 99 (by kernel_rfl) (by kernel_rfl) (by kernel_rfl) (by kernel_rfl) (fun _ _ _ h => h) (by kernel_rfl) (by assumption) ?_
          try simp only [Act.put, List.setIfInBounds_toArray, List.set_cons_zero, List.set_cons_succ]
          refine skipH 20 100 (by kernel_rfl) (by kernel_rfl) (by kernel_rfl) (by kernel_rfl) (fun _ _ _ h => h) (by kernel_rfl) (by assumption) ?_
          try simp only [Act.put, List.setIfInBounds_toArray, List.set_cons_zero, List.set_cons_succ]
          refine takeH 21 101 ?_ (by kernel_rfl) (by kernel_rfl) (by kernel_rfl) (by kernel_rfl) (fun _ _ _ h => h) (by kernel_rfl) (fun o ho w hSw => ?_) (by assumption) ?_
          rotate_left
          · (simp only [List.getElem?_toArray, List.getElem?_cons_succ, List.getElem?_cons_zero, Option.some.injEq] at ho; subst ho; (try dsimp only at hSw); go_simp; try with_reducible rfl)
          try simp only [Act.put, List.setIfInBounds_toArray, List.set_cons_zero, List.set_cons_succ]
          refine takeH 22 102 ?_ (by kernel_rfl) (by kernel_rfl) (by kernel_rfl) (by kernel_rfl) (fun _ _ _ h => h) (by kernel_rfl) (fun o ho w hSw => ?_) (by assumption) ?_
          rotate_left
          · (simp only [List.getElem?_toArray, List.getElem?_cons_succ, List.getElem?_cons_zero, Option.some.injEq] at ho; subst ho; (try dsimp only at hSw); go_simp; try with_reducible rfl)
          try simp only [Act.put, List.setIfInBounds_toArray, List.set_cons_zero, List.set_cons_succ]
          refine takeH 23 103 ?_ (by kernel_rfl) (by kernel_rfl) (by kernel_rfl) (by kernel_rfl) (fun _ _ _ h => h) (by kernel_rfl) (fun o ho w hSw => ?_) (by assumption) ?_
          rotate_left
          · (simp only [List.getElem?_toArray, List.getElem?_cons_succ, List.getElem?_cons_zero, Option.some.injEq] at ho; subst ho; (try dsimp only at hSw); go_simp; try with_reducible rfl)
          try simp only [Act.put, List.setIfInBounds_toArray, List.set_cons_zero, List.set_cons_succ]
          refine takeH 24 104 ?_ (by kernel_rfl) (by kernel_rfl) (by kernel_rfl) (by kernel_rfl) (fun _ _ _ h => h) (by kernel_rfl) (fun o ho w hSw => ?_) (by assumption) ?_
          rotate_left
          · (simp only [List.getElem?_toArray, List.getElem?_cons_succ, List.getElem?_cons_zero, Option.some.injEq] at ho; subst ho; (try dsimp only at hSw); go_simp; try with_reducible rfl)
          try simp only [Act.put, List.setIfInBounds_toArray, List.set_cons_zero, List.set_cons_succ]
          refine takeH 25 105 ?_ (by kernel_rfl) (by kernel_rfl) (by kernel_rfl) (by kernel_rfl) (fun _ _ _ h => h) (by kernel_rfl) (fun o ho w hSw => ?_) (by assumption) ?_
          rotate_left
          · (simp only [List.getElem?_toArray, List.getElem?_cons_succ, List.getElem?_cons_zero, Option.some.injEq] at ho; subst ho; (try dsimp only at hSw); go_simp; try with_reducible rfl)
          try simp only [Act.put, List.setIfInBounds_toArray, List.set_cons_zero, List.set_cons_succ]
          refine takeH 26 106 ?_ (by kernel_rfl) (by kernel_rfl) (by kernel_rfl) (by kernel_rfl) (fun _ _ _ h => h) (by kernel_rfl) (fun o ho w hSw => ?_) (by assumption) ?_
          rotate_left
          · (simp only [List.getElem?_toArray, List.getElem?_cons_succ, List.getElem?_cons_zero, Option.some.injEq] at ho; subst ho; (try dsimp only at hSw); go_simp; try with_reducible rfl)
          try simp only [Act.put, List.setIfInBounds_toArray, List.set_cons_zero, List.set_cons_succ]
          refine takeH 27 107 ?_ (by kernel_rfl) (by kernel_rfl) (by kernel_rfl) (by kernel_rfl) (fun _ _ _ h => h) (by kernel_rfl) (fun o ho w hSw => ?_) (by assumption) ?_
          rotate_left
          · (simp only [List.getElem?_toArray, List.getElem?_cons_succ, List.getElem?_cons_zero, Option.some.injEq] at ho; subst ho; (try dsimp only at hSw); go_simp; try with_reducible rfl)
          try simp only [Act.put, List.setIfInBounds_toArray, List.set_cons_zero, List.set_cons_succ]
          refine takeH 28 108 ?_ (by kernel_rfl) (by kernel_rfl) (by kernel_rfl) (by kernel_rfl) (fun _ _ _ h => h) (by kernel_rfl) (fun o ho w hSw => ?_) (by assumption) ?_
          rotate_left
          · (simp only [List.getElem?_toArray, List.getElem?_cons_succ, List.getElem?_cons_zero, Option.some.injEq] at ho; subst ho; (try dsimp only at hSw); go_simp; try with_reducible rfl)
          try simp only [Act.put, List.setIfInBounds_toArray, List.set_cons_zero, List.set_cons_succ]
          refine takeH 30 110 ?_ (by kernel_rfl) (by kernel_rfl) (by kernel_rfl) (by kernel_rfl) (fun _ _ _ h => h) (by kernel_rfl) (fun o ho w hSw => ?_) (by assumption) ?_
          rotate_left
          · (simp only [List.getElem?_toArray, List.getElem?_cons_succ, List.getElem?_cons_zero, Option.some.injEq] at ho; subst ho; (try dsimp only at hSw); go_simp; try with_reducible rfl)
          try simp only [Act.put, List.setIfInBounds_toArray, List.set_cons_zero, List.set_cons_succ]
          refine takeH 31 111 ?_ (by kernel_rfl) (by kernel_rfl) (by kernel_rfl) (by kernel_rfl) (fun _ _ _ h => h) (by kernel_rfl) (fun o ho w hSw => ?_) (by assumption) ?_
          rotate_left
          · (simp only [List.getElem?_toArray, List.getElem?_cons_succ, List.getElem?_cons_zero, Option.some.injEq] at ho; subst ho; (try dsimp only at hSw); go_simp; try with_reducible rfl)
          try simp only [Act.put, List.setIfInBounds_toArray, List.set_cons_zero, List.set_cons_succ]
          refine takeH 32 112 ?_ (by kernel_rfl) (by kernel_rfl) (by kernel_rfl) (by kernel_rfl) (fun _ _ _ h => h) (by kernel_rfl) (fun o ho w hSw => ?_) (by assumption) ?_
          rotate_left
          · (simp only [List.getElem?_toArray, List.getElem?_cons_succ, List.getElem?_cons_zero, Option.some.injEq] at ho; subst ho; (try dsimp only at hSw); go_simp; try with_reducible rfl)
          try simp only [Act.put, List.setIfInBounds_toArray, List.set_cons_zero, List.set_cons_succ]
          refine takeH 33 113 ?_ (by kernel_rfl) (by kernel_rfl) (by kernel_rfl) (by kernel_rfl) (fun _ _ _ h => h) (by kernel_rfl) (fun o ho w hSw => ?_) (by assumption) ?_
          rotate_left
          · (simp only [List.getElem?_toArray, List.getElem?_cons_succ, List.getElem?_cons_zero, Option.some.injEq] at ho; subst ho; (try dsimp only at hSw); go_simp; try with_reducible rfl)
          try simp only [Act.put, List.setIfInBounds_toArray, List.set_cons_zero, List.set_cons_succ]
          refine takeH 34 114 ?_ (by kernel_rfl) (by kernel_rfl) (by kernel_rfl) (by kernel_rfl) (fun _ _ _ h => h) (by kernel_rfl) (fun o ho w hSw => ?_) (by assumption) ?_
          rotate_left
          · (simp only [List.getElem?_toArray, List.getElem?_cons_succ, List.getElem?_cons_zero, Option.some.injEq] at ho; subst ho; (try dsimp only at hSw); go_simp; try with_reducible rfl)
          try simp only [Act.put, List.setIfInBounds_toArray, List.set_cons_zero, List.set_cons_succ]
          refine callH 29 (by kernel_rfl) (by kernel_rfl) (fun o ho K hK => ?_)
          simp only [List.getElem?_toArray, List.getElem?_cons_succ, List.getElem?_cons_zero, Option.some.injEq] at ho; subst ho
          rw [if_pos (by rfl)]
          go_simp
          go_at_call 13
          with_reducible refine (lineAt_anyT x.on (HV.out.later HBd.out) (HZ.out.later HBd.out) (HR.out.later HBd.out)).mono ?_
          rintro e x2 ⟨r5, rfl, h5, hb⟩
          have HR5 := Lib.hid h5
          clear h5
          have HB2 := Lib.hid (HBd.out.trans (hb.mono HBd.out.size))
          clear hb
          refine hK.out _ _ (HSS.out _ HB2.out) (fun hHeld => ?_)
          clear hK K
          try simp only [Act.put, List.setIfInBounds_toArray, List.set_cons_zero, List.set_cons_succ]
          refine callH 35 (by kernel_rfl) (by kernel_rfl) (fun o ho K hK => ?_)
          simp only [List.getElem?_toArray, List.getElem?_cons_succ, List.getElem?_cons_zero, Option.some.injEq] at ho; subst ho
          rw [if_pos (by rfl)]
          go_simp
          go_at_call 14
          with_reducible refine (rlineAt_any x.on (HV.out.later HB2.out) (HZ.out.later HB2.out) (HR.out.later HB2.out)).mono ?_
          rintro e x3 ⟨r6, rfl, h6, hb⟩
          have HR6 := Lib.hid h6
          replace HR5 := Lib.hid (HR5.out.later hb)
          clear h6
          have HB3 := Lib.hid (HB2.out.trans (hb.mono HB2.out.size))
          clear hb
          refine hK.out _ _ (HSS.out _ HB3.out) (fun hHeld => ?_)
          clear hK K
          try simp only [Act.put, List.setIfInBounds_toArray, List.set_cons_zero, List.set_cons_succ]
          refine callH 36 (by kernel_rfl) (by kernel_rfl) (fun o ho K hK => ?_)
          simp only [List.getElem?_toArray, List.getElem?_cons_succ, List.getElem?_cons_zero, Option.some.injEq] at ho; subst ho
          rw [if_pos (by rfl)]
          go_simp
          go_at_call 10
          with_reducible refine (rsame_v HR5.out HR6.out (by omega) (by omega) (by omega) (by omega)).mono ?_
          rintro e x4 ⟨rfl, hb⟩
          have HB4 := Lib.hid (HB3.out.trans (hb.mono HB3.out.size))
          clear hb
          refine hK.out _ _ (HSS.out _ HB4.out) (fun hHeld => ?_)
          clear hK K
          try simp only [Act.put, List.setIfInBounds_toArray, List.set_cons_zero, List.set_cons_succ]
          refine takeH 37 117 ?_ (by kernel_rfl) (by kernel_rfl) (by kernel_rfl) (by kernel_rfl) (fun _ _ _ h => h) (by kernel_rfl) (fun o ho w hSw => ?_) (by assumption) ?_
          rotate_left
          · (simp only [List.getElem?_toArray, List.getElem?_cons_succ, List.getElem?_cons_zero, Option.some.injEq] at ho; subst ho; (try dsimp only at hSw); go_simp; try with_reducible rfl)
          try simp only [Act.put, List.setIfInBounds_toArray, List.set_cons_zero, List.set_cons_succ]
          refine takeH 38 118 ?_ (by kernel_rfl) (by kernel_rfl) (by kernel_rfl) (by kernel_rfl) (fun _ _ _ h => h) (by kernel_rfl) (fun o ho w hSw => ?_) (by assumption) ?_
          rotate_left
          · (simp only [List.getElem?_toArray, List.getElem?_cons_succ, List.getElem?_cons_zero, Option.some.injEq] at ho; subst ho; (try dsimp only at hSw); go_simp; try with_reducible rfl)
          try simp only [Act.put, List.setIfInBounds_toArray, List.set_cons_zero, List.set_cons_succ]
          refine wpAnyH_done (by kernel_rfl) ?_ _
          go_wp2_with fail
          go_roundw
          case rel => exact ⟨k + 1, by omega, by go_num, Lib.hid (HB5.out.trans (HB4.out.mono HB5.out.size))⟩
          case measure => simp [intOf]; omega

        | some tx =>
          have HPX := Lib.hid hpl
          have HPL := Lib.hid (passes_tT HV.out HZ.out)
          rw [hpl] at HPL
          clear hpl
          go_upto_region 13 with (first
            | (go_at_call 12; (with_reducible refine HRP.out.mono ?_); rintro e w6 ⟨rb, rfl, htb, hb⟩; have hb6 := bthen hb (below_one w6 (.cells #[.bool rb.s, .slice rb.a rb.n rb.c, .slice rb.b rb.m rb.d] 27)); replace HB5 := Lib.hid (HB5.out.trans (hb6.mono HB5.out.size)); replace HV := Lib.hid (HV.out.later hb6); replace HZ := Lib.hid (HZ.out.later hb6); replace HR := Lib.hid (HR.out.later hb6); replace HKD := Lib.hid (HKD.out.later hb6); replace HAT := Lib.hid (HAT.out.later HBX.out hb6); replace HBX := Lib.hid (Nat.lt_of_lt_of_le HBX.out hb6.size); replace HKa := Lib.hid (HKa.out.later hb6); have HKb := Lib.hid (Blk.new w6 27 #[.bool rb.s, .slice rb.a rb.n rb.c, .slice rb.b rb.m rb.d]); replace HTa := Lib.hid (HTa.out.later hb6); have HTb := Lib.hid (htb.later (below_one w6 (.cells #[.bool rb.s, .slice rb.a rb.n rb.c, .slice rb.b rb.m rb.d] 27))); clear htb; clear hb hb6 c0 c1 c2 c3 c4 c5 c6 hl5)
            | (go_at_call 11; (with_reducible refine HPL.out.mono ?_); rintro e w5 ⟨ra, rfl, hta, hb⟩; have hb5 := bthen hb (below_one w5 (.cells #[.bool ra.s, .slice ra.a ra.n ra.c, .slice ra.b ra.m ra.d] 27)); have HB5 := Lib.hid (HBr.out.trans (hb5.mono HBr.out.size)); replace HV := Lib.hid (HV.out.later hb5); replace HZ := Lib.hid (HZ.out.later hb5); replace HR := Lib.hid (HR.out.later hb5); replace HKD := Lib.hid (HKD.out.later hb5); replace HAT := Lib.hid (HAT.out.later HBX.out hb5); replace HBX := Lib.hid (Nat.lt_of_lt_of_le HBX.out hb5.size); have HKa := Lib.hid (Blk.new w5 27 #[.bool ra.s, .slice ra.a ra.n ra.c, .slice ra.b ra.m ra.d]); have HTa := Lib.hid (hta.later (below_one w5 (.cells #[.bool ra.s, .slice ra.a ra.n ra.c, .slice ra.b ra.m ra.d] 27))); clear hta; have HRP := Lib.hid (rpasses_t HV.out HZ.out); rw [HPX.out] at HRP; have hl5 : b0 < w5.heap.size := Nat.lt_of_lt_of_le hbr hb.size; clear c0 c1 c2 c3 c4 c5 c6; obtain ⟨c0, c1, c2, c3, c4, c5, c6, -, -⟩ := HAT.out; clear hb hb5))
          generalize w6.alloc (.cells #[.bool rb.s, .slice rb.a rb.n rb.c, .slice rb.b rb.m rb.d] 27) = W8 at HB5 HV HZ HR HKD HAT HBX HKa HKb HTa HTb ⊢
          generalize hga : w5.heap.size = ga at HKa ⊢
          generalize hgb : w6.heap.size = gb at HKb ⊢
          have HGP := Lib.hid (Nat.lt_of_lt_of_le HGPc.out HB5.out.size)
          have HGQ := Lib.hid (Nat.lt_of_lt_of_le HGQc.out HB5.out.size)
          have HPC := Lib.hid ((HB5.out.cell (p := ⟨g, k, none⟩) HGPc.out).trans HP0.out)
          have HQC := Lib.hid ((HB5.out.cell (p := ⟨gq, oq + k, none⟩) HGQc.out).trans HQ0.out)
          have HSS := Lib.hid (fun (W : World) (hb : Below W8.heap.size W8 W) => (show W.cell? ⟨g, k, none⟩ = some (.bool P) ∧ W.cell? ⟨gq, oq + k, none⟩ = some (.bool P) ∧ W.cell? ⟨ga, 0, none⟩ = some (.bool ra.s) ∧ W.cell? ⟨ga, 1, none⟩ = some (.slice ra.a ra.n ra.c) ∧ W.cell? ⟨ga, 2, none⟩ = some (.slice ra.b ra.m ra.d) ∧ W.cell? ⟨gb, 0, none⟩ = some (.bool rb.s) ∧ W.cell? ⟨gb, 1, none⟩ = some (.slice rb.a rb.n rb.c) ∧ W.cell? ⟨gb, 2, none⟩ = some (.slice rb.b rb.m rb.d) ∧ W.cell? ⟨b0, off + k * 7, none⟩ = some (.bool x.on) ∧ W.cell? ⟨b0, off + k * 7 + 1, none⟩ = some (.bool x.v.s) ∧ W.cell? ⟨b0, off + k * 7 + 2, none⟩ = some (.slice x.v.a x.v.n x.v.c) ∧ W.cell? ⟨b0, off + k * 7 + 3, none⟩ = some (.slice x.v.b x.v.m x.v.d) ∧ W.cell? ⟨b0, off + k * 7 + 4, none⟩ = some (.bool x.z.s) ∧ W.cell? ⟨b0, off + k * 7 + 5, none⟩ = some (.slice x.z.a x.z.n x.z.c) ∧ W.cell? ⟨b0, off + k * 7 + 6, none⟩ = some (.slice x.z.b x.z.m x.z.d) ∧ W.cell? ⟨w.heap.size, 0, none⟩ = some (.bool r.s) ∧ W.cell? ⟨w.heap.size, 1, none⟩ = some (.slice r.a r.n r.c) ∧ W.cell? ⟨w.heap.size, 2, none⟩ = some (.slice r.b r.m r.d) from ⟨(hb.cell (p := ⟨g, k, none⟩) HGP.out).trans HPC.out, (hb.cell (p := ⟨gq, oq + k, none⟩) HGQ.out).trans HQC.out, (HKa.out.later hb).cell 0 rfl, (HKa.out.later hb).cell 1 rfl, (HKa.out.later hb).cell 2 rfl, (HKb.out.later hb).cell 0 rfl, (HKb.out.later hb).cell 1 rfl, (HKb.out.later hb).cell 2 rfl, (HAT.out.later HBX.out hb).c0, (HAT.out.later HBX.out hb).c1, (HAT.out.later HBX.out hb).c2, (HAT.out.later HBX.out hb).c3, (HAT.out.later HBX.out hb).c4, (HAT.out.later HBX.out hb).c5, (HAT.out.later HBX.out hb).c6, (HKD.out.later hb).cell 0 rfl, (HKD.out.later hb).cell 1 rfl, (HKD.out.later hb).cell 2 rfl⟩))
          have HBd := Lib.hid (Below.refl W8.heap.size W8).drew
          clear hga hgb hbr
          refine wp_region_held_drew (S := fun w' => w'.cell? ⟨g, k, none⟩ = some (.bool P) ∧ w'.cell? ⟨gq, oq + k, none⟩ = some (.bool P) ∧ w'.cell? ⟨ga, 0, none⟩ = some (.bool ra.s) ∧ w'.cell? ⟨ga, 1, none⟩ = some (.slice ra.a ra.n ra.c) ∧ w'.cell? ⟨ga, 2, none⟩ = some (.slice ra.b ra.m ra.d) ∧ w'.cell? ⟨gb, 0, none⟩ = some (.bool rb.s) ∧ w'.cell? ⟨gb, 1, none⟩ = some (.slice rb.a rb.n rb.c) ∧ w'.cell? ⟨gb, 2, none⟩ = some (.slice rb.b rb.m rb.d) ∧ w'.cell? ⟨b0, off + k * 7, none⟩ = some (.bool x.on) ∧ w'.cell? ⟨b0, off + k * 7 + 1, none⟩ = some (.bool x.v.s) ∧ w'.cell? ⟨b0, off + k * 7 + 2, none⟩ = some (.slice x.v.a x.v.n x.v.c) ∧ w'.cell? ⟨b0, off + k * 7 + 3, none⟩ = some (.slice x.v.b x.v.m x.v.d) ∧ w'.cell? ⟨b0, off + k * 7 + 4, none⟩ = some (.bool x.z.s) ∧ w'.cell? ⟨b0, off + k * 7 + 5, none⟩ = some (.slice x.z.a x.z.n x.z.c) ∧ w'.cell? ⟨b0, off + k * 7 + 6, none⟩ = some (.slice x.z.b x.z.m x.z.d) ∧ w'.cell? ⟨w.heap.size, 0, none⟩ = some (.bool r.s) ∧ w'.cell? ⟨w.heap.size, 1, none⟩ = some (.slice r.a r.n r.c) ∧ w'.cell? ⟨w.heap.size, 2, none⟩ = some (.slice r.b r.m r.d)) (by kernel_rfl) (HSS.out _ HBd.out) (fun hHeld => ?_)
          refine takeH 0 80 ?_ (by kernel_rfl) (by kernel_rfl) (by kernel_rfl) (by kernel_rfl) (fun _ _ _ h => h) (by kernel_rfl) (fun o ho w hSw => ?_) (by assumption) ?_
          rotate_left
          · (simp only [List.getElem?_toArray, List.getElem?_cons_succ, List.getElem?_cons_zero, Option.some.injEq] at ho; subst ho; (try dsimp only at hSw); go_simp; try with_reducible rfl)
          try simp only [Act.put, List.setIfInBounds_toArray, List.set_cons_zero, List.set_cons_succ]
          refine takeH 1 81 ?_ (by kernel_rfl) (by kernel_rfl) (by kernel_rfl) (by kernel_rfl) (fun _ _ _ h => h) (by kernel_rfl) (fun o ho w hSw => ?_) (by assumption) ?_
          rotate_left
          · (simp only [List.getElem?_toArray, List.getElem?_cons_succ, List.getElem?_cons_zero, Option.some.injEq] at ho; subst ho; (try dsimp only at hSw); go_simp; try with_reducible rfl)
          try simp only [Act.put, List.setIfInBounds_toArray, List.set_cons_zero, List.set_cons_succ]
          refine takeH 2 82 ?_ (by kernel_rfl) (by kernel_rfl) (by kernel_rfl) (by kernel_rfl) (fun _ _ _ h => h) (by kernel_rfl) (fun o ho w hSw => ?_) (by assumption) ?_
          rotate_left
          · (simp only [List.getElem?_toArray, List.getElem?_cons_succ, List.getElem?_cons_zero, Option.some.injEq] at ho; subst ho; (try dsimp only at hSw); go_simp; try with_reducible rfl)
          try simp only [Act.put, List.setIfInBounds_toArray, List.set_cons_zero, List.set_cons_succ]
          refine takeH 3 83 ?_ (by kernel_rfl) (by kernel_rfl) (by kernel_rfl) (by kernel_rfl) (fun _ _ _ h => h) (by kernel_rfl) (fun o ho w hSw => ?_) (by assumption) ?_
          rotate_left
          · (simp only [List.getElem?_toArray, List.getElem?_cons_succ, List.getElem?_cons_zero, Option.some.injEq] at ho; subst ho; (try dsimp only at hSw); go_simp; try with_reducible rfl)
          try simp only [Act.put, List.setIfInBounds_toArray, List.set_cons_zero, List.set_cons_succ]
          refine takeH 4 84 ?_ (by kernel_rfl) (by kernel_rfl) (by kernel_rfl) (by kernel_rfl) (fun _ _ _ h => h) (by kernel_rfl) (fun o ho w hSw => ?_) (by assumption) ?_
          rotate_left
          · (simp only [List.getElem?_toArray, List.getElem?_cons_succ, List.getElem?_cons_zero, Option.some.injEq] at ho; subst ho; (try dsimp only at hSw); go_simp; try with_reducible rfl)
          try simp only [Act.put, List.setIfInBounds_toArray, List.set_cons_zero, List.set_cons_succ]
          refine takeH 5 85 ?_ (by kernel_rfl) (by kernel_rfl) (by kernel_rfl) (by kernel_rfl) (fun _ _ _ h => h) (by kernel_rfl) (fun o ho w hSw => ?_) (by assumption) ?_
          rotate_left
          · (simp only [List.getElem?_toArray, List.getElem?_cons_succ, List.getElem?_cons_zero, Option.some.injEq] at ho; subst ho; (try dsimp only at hSw); go_simp; try with_reducible rfl)
          try simp only [Act.put, List.setIfInBounds_toArray, List.set_cons_zero, List.set_cons_succ]
          refine takeH 6 86 ?_ (by kernel_rfl) (by kernel_rfl) (by kernel_rfl) (by kernel_rfl) (fun _ _ _ h => h) (by kernel_rfl) (fun o ho w hSw => ?_) (by assumption) ?_
          rotate_left
          · (simp only [List.getElem?_toArray, List.getElem?_cons_succ, List.getElem?_cons_zero, Option.some.injEq] at ho; subst ho; (try dsimp only at hSw); go_simp; try with_reducible rfl)
          try simp only [Act.put, List.setIfInBounds_toArray, List.set_cons_zero, List.set_cons_succ]
          refine takeH 7 87 ?_ (by kernel_rfl) (by kernel_rfl) (by kernel_rfl) (by kernel_rfl) (fun _ _ _ h => h) (by kernel_rfl) (fun o ho w hSw => ?_) (by assumption) ?_
          rotate_left
          · (simp only [List.getElem?_toArray, List.getElem?_cons_succ, List.getElem?_cons_zero, Option.some.injEq] at ho; subst ho; (try dsimp only at hSw); go_simp; try with_reducible rfl)
          try simp only [Act.put, List.setIfInBounds_toArray, List.set_cons_zero, List.set_cons_succ]
          refine takeH 8 88 ?_ (by kernel_rfl) (by kernel_rfl) (by kernel_rfl) (by kernel_rfl) (fun _ _ _ h => h) (by kernel_rfl) (fun o ho w hSw => ?_) (by assumption) ?_
          rotate_left
          · (simp only [List.getElem?_toArray, List.getElem?_cons_succ, List.getElem?_cons_zero, Option.some.injEq] at ho; subst ho; (try dsimp only at hSw); go_simp; try with_reducible rfl)
          try simp only [Act.put, List.setIfInBounds_toArray, List.set_cons_zero, List.set_cons_succ]
          refine takeH 9 89 ?_ (by kernel_rfl) (by kernel_rfl) (by kernel_rfl) (by kernel_rfl) (fun _ _ _ h => h) (by kernel_rfl) (fun o ho w hSw => ?_) (by assumption) ?_
          rotate_left
          · (simp only [List.getElem?_toArray, List.getElem?_cons_succ, List.getElem?_cons_zero, Option.some.injEq] at ho; subst ho; (try dsimp only at hSw); go_simp; try with_reducible rfl)
          try simp only [Act.put, List.setIfInBounds_toArray, List.set_cons_zero, List.set_cons_succ]
          refine takeH 10 90 ?_ (by kernel_rfl) (by kernel_rfl) (by kernel_rfl) (by kernel_rfl) (fun _ _ _ h => h) (by kernel_rfl) (fun o ho w hSw => ?_) (by assumption) ?_
          rotate_left
          · (simp only [List.getElem?_toArray, List.getElem?_cons_succ, List.getElem?_cons_zero, Option.some.injEq] at ho; subst ho; (try dsimp only at hSw); go_simp; try with_reducible rfl)
          try simp only [Act.put, List.setIfInBounds_toArray, List.set_cons_zero, List.set_cons_succ]
          refine takeH 11 91 ?_ (by kernel_rfl) (by kernel_rfl) (by kernel_rfl) (by kernel_rfl) (fun _ _ _ h => h) (by kernel_rfl) (fun o ho w hSw => ?_) (by assumption) ?_
          rotate_left
          · (simp only [List.getElem?_toArray, List.getElem?_cons_succ, List.getElem?_cons_zero, Option.some.injEq] at ho; subst ho; (try dsimp only at hSw); go_simp; try with_reducible rfl)
          try simp only [Act.put, List.setIfInBounds_toArray, List.set_cons_zero, List.set_cons_succ]
          refine takeH 12 92 ?_ (by kernel_rfl) (by kernel_rfl) (by kernel_rfl) (by kernel_rfl) (fun _ _ _ h => h) (by kernel_rfl) (fun o ho w hSw => ?_) (by assumption) ?_
          rotate_left
          · (simp only [List.getElem?_toArray, List.getElem?_cons_succ, List.getElem?_cons_zero, Option.some.injEq] at ho; subst ho; (try dsimp only at hSw); go_simp; try with_reducible rfl)
          try simp only [Act.put, List.setIfInBounds_toArray, List.set_cons_zero, List.set_cons_succ]
          refine takeH 13 93 ?_ (by kernel_rfl) (by kernel_rfl) (by kernel_rfl) (by kernel_rfl) (fun _ _ _ h => h) (by kernel_rfl) (fun o ho w hSw => ?_) (by assumption) ?_
          rotate_left
          · (simp only [List.getElem?_toArray, List.getElem?_cons_succ, List.getElem?_cons_zero, Option.some.injEq] at ho; subst ho; (try dsimp only at hSw); go_simp; try with_reducible rfl)
          try simp only [Act.put, List.setIfInBounds_toArray, List.set_cons_zero, List.set_cons_succ]
          refine takeH 14 94 ?_ (by kernel_rfl) (by kernel_rfl) (by kernel_rfl) (by kernel_rfl) (fun _ _ _ h => h) (by kernel_rfl) (fun o ho w hSw => ?_) (by assumption) ?_
          rotate_left
          · (simp only [List.getElem?_toArray, List.getElem?_cons_succ, List.getElem?_cons_zero, Option.some.injEq] at ho; subst ho; (try dsimp only at hSw); go_simp; try with_reducible rfl)
          try simp only [Act.put, List.setIfInBounds_toArray, List.set_cons_zero, List.set_cons_succ]
          refine takeH 15 95 ?_ (by kernel_rfl) (by kernel_rfl) (by kernel_rfl) (by kernel_rfl) (fun _ _ _ h => h) (by kernel_rfl) (fun o ho w hSw => ?_) (by assumption) ?_
          rotate_left
          · (simp only [List.getElem?_toArray, List.getElem?_cons_succ, List.getElem?_cons_zero, Option.some.injEq] at ho; subst ho; (try dsimp only at hSw); go_simp; try with_reducible rfl)
          try simp only [Act.put, List.setIfInBounds_toArray, List.set_cons_zero, List.set_cons_succ]
          refine takeH 16 96 ?_ (by kernel_rfl) (by kernel_rfl) (by kernel_rfl) (by kernel_rfl) (fun _ _ _ h => h) (by kernel_rfl) (fun o ho w hSw => ?_) (by assumption) ?_
          rotate_left
          · (simp only [List.getElem?_toArray, List.getElem?_cons_succ, List.getElem?_cons_zero, Option.some.injEq] at ho; subst ho; (try dsimp only at hSw); go_simp; try with_reducible rfl)
          try simp only [Act.put, List.setIfInBounds_toArray, List.set_cons_zero, List.set_cons_succ]
          refine takeH 17 97 ?_ (by kernel_rfl) (by kernel_rfl) (by kernel_rfl) (by kernel_rfl) (fun _ _ _ h => h) (by kernel_rfl) (fun o ho w hSw => ?_) (by assumption) ?_
          rotate_left
          · (simp only [List.getElem?_toArray, List.getElem?_cons_succ, List.getElem?_cons_zero, Option.some.injEq] at ho; subst ho; (try dsimp only at hSw); go_simp; try with_reducible rfl)
          try simp only [Act.put, List.setIfInBounds_toArray, List.set_cons_zero, List.set_cons_succ]
          refine takeH 18 98 ?_ (by kernel_rfl) (by kernel_rfl) (by kernel_rfl) (by kernel_rfl) (fun _ _ _ h => h) (by kernel_rfl) (fun o ho w hSw => ?_) (by assumption) ?_
          rotate_left
          · (simp only [List.getElem?_toArray, List.getElem?_cons_succ, List.getElem?_cons_zero, Option.some.injEq] at ho; subst ho; (try dsimp only at hSw); go_simp; try with_reducible rfl)
          try simp only [Act.put, List.setIfInBounds_toArray, List.set_cons_zero, List.set_cons_succ]
          refine callH 19 (by kernel_rfl) (by kernel_rfl) (fun o ho K hK => ?_)
          simp only [List.getElem?_toArray, List.getElem?_cons_succ, List.getElem?_cons_zero, Option.some.injEq] at ho; subst ho
          rw [if_pos (by rfl)]
          go_simp
          go_at_call 10
          with_reducible refine (rsame_v (HTa.out.later HBd.out) (HTb.out.later HBd.out) (by omega) (by omega) (by omega) (by omega)).mono ?_
          rintro e x1 ⟨rfl, hb⟩
          have HB1 := Lib.hid (HBd.out.trans (hb.mono HBd.out.size))
          clear hb
          refine hK.out _ _ (HSS.out _ HB1.out) (fun hHeld => ?_)
          clear hK K
          try simp only [Act.put, List.setIfInBounds_toArray, List.set_cons_zero, List.set_cons_succ]
          refine takeH 20 100 ?_ (by kernel_rfl) (by kernel_rfl) (by kernel_rfl) (by kernel_rfl) (fun _ _ _ h => h) (by kernel_rfl) (fun o ho w hSw => ?_) (by assumption) ?_
          rotate_left
          · (simp only [List.getElem?_toArray, List.getElem?_cons_succ, List.getElem?_cons_zero, Option.some.injEq] at ho; subst ho; (try dsimp only at hSw); go_simp; try with_reducible rfl)
          try simp only [Act.put, List.setIfInBounds_toArray, List.set_cons_zero, List.set_cons_succ]
          refine takeH 21 101 ?_ (by kernel_rfl) (by kernel_rfl) (by kernel_rfl) (by kernel_rfl) (fun _ _ _ h => h) (by kernel_rfl) (fun o ho w hSw => ?_) (by assumption) ?_
          rotate_left
          · (simp only [List.getElem?_toArray, List.getElem?_cons_succ, List.getElem?_cons_zero, Option.some.injEq] at ho; subst ho; (try dsimp only at hSw); go_simp; try with_reducible rfl)
          try simp only [Act.put, List.setIfInBounds_toArray, List.set_cons_zero, List.set_cons_succ]
          refine takeH 22 102 ?_ (by kernel_rfl) (by kernel_rfl) (by kernel_rfl) (by kernel_rfl) (fun _ _ _ h => h) (by kernel_rfl) (fun o ho w hSw => ?_) (by assumption) ?_
          rotate_left
          · (simp only [List.getElem?_toArray, List.getElem?_cons_succ, List.getElem?_cons_zero, Option.some.injEq] at ho; subst ho; (try dsimp only at hSw); go_simp; try with_reducible rfl)
          try simp only [Act.put, List.setIfInBounds_toArray, List.set_cons_zero, List.set_cons_succ]
          refine takeH 23 103 ?_ (by kernel_rfl) (by kernel_rfl) (by kernel_rfl) (by kernel_rfl) (fun _ _ _ h => h) (by kernel_rfl) (fun o ho w hSw => ?_) (by assumption) ?_
          rotate_left
          · (simp only [List.getElem?_toArray, List.getElem?_cons_succ, List.getElem?_cons_zero, Option.some.injEq] at ho; subst ho; (try dsimp only at hSw); go_simp; try with_reducible rfl)
          try simp only [Act.put, List.setIfInBounds_toArray, List.set_cons_zero, List.set_cons_succ]
          refine takeH 24 104 ?_ (by kernel_rfl) (by kernel_rfl) (by kernel_rfl) (by kernel_rfl) (fun _ _ _ h => h) (by kernel_rfl) (fun o ho w hSw => ?_) (by assumption) ?_
          rotate_left
          · (simp only [List.getElem?_toArray, List.getElem?_cons_succ, List.getElem?_cons_zero, Option.some.injEq] at ho; subst ho; (try dsimp only at hSw); go_simp; try with_reducible rfl)
          try simp only [Act.put, List.setIfInBounds_toArray, List.set_cons_zero, List.set_cons_succ]
          refine takeH 25 105 ?_ (by kernel_rfl) (by kernel_rfl) (by kernel_rfl) (by kernel_rfl) (fun _ _ _ h => h) (by kernel_rfl) (fun o ho w hSw => ?_) (by assumption) ?_
          rotate_left
          · (simp only [List.getElem?_toArray, List.getElem?_cons_succ, List.getElem?_cons_zero, Option.some.injEq] at ho; subst ho; (try dsimp only at hSw); go_simp; try with_reducible rfl)
          try simp only [Act.put, List.setIfInBounds_toArray, List.set_cons_zero, List.set_cons_succ]
          refine takeH 26 106 ?_ (by kernel_rfl) (by kernel_rfl) (by kernel_rfl) (by kernel_rfl) (fun _ _ _ h => h) (by kernel_rfl) (fun o ho w hSw => ?_) (by assumption) ?_
          rotate_left
          · (simp only [List.getElem?_toArray, List.getElem?_cons_succ, List.getElem?_cons_zero, Option.some.injEq] at ho; subst ho; (try dsimp only at hSw); go_simp; try with_reducible rfl)
          try simp only [Act.put, List.setIfInBounds_toArray, List.set_cons_zero, List.set_cons_succ]
          refine takeH 27 107 ?_ (by kernel_rfl) (by kernel_rfl) (by kernel_rfl) (by kernel_rfl) (fun _ _ _ h => h) (by kernel_rfl) (fun o ho w hSw => ?_) (by assumption) ?_
          rotate_left
          · (simp only [List.getElem?_toArray, List.getElem?_cons_succ, List.getElem?_cons_zero, Option.some.injEq] at ho; subst ho; (try dsimp only at hSw); go_simp; try with_reducible rfl)
          try simp only [Act.put, List.setIfInBounds_toArray, List.set_cons_zero, List.set_cons_succ]
          refine takeH 28 108 ?_ (by kernel_rfl) (by kernel_rfl) (by kernel_rfl) (by kernel_rfl) (fun _ _ _ h => h) (by kernel_rfl) (fun o ho w hSw => ?_) (by assumption) ?_
          rotate_left
          · (simp only [List.getElem?_toArray, List.getElem?_cons_succ, List.getElem?_cons_zero, Option.some.injEq] at ho; subst ho; (try dsimp only at hSw); go_simp; try with_reducible rfl)
          try simp only [Act.put, List.setIfInBounds_toArray, List.set_cons_zero, List.set_cons_succ]
          refine takeH 30 110 ?_ (by kernel_rfl) (by kernel_rfl) (by kernel_rfl) (by kernel_rfl) (fun _ _ _ h => h) (by kernel_rfl) (fun o ho w hSw => ?_) (by assumption) ?_
          rotate_left
          · (simp only [List.getElem?_toArray, List.getElem?_cons_succ, List.getElem?_cons_zero, Option.some.injEq] at ho; subst ho; (try dsimp only at hSw); go_simp; try with_reducible rfl)
          try simp only [Act.put, List.setIfInBounds_toArray, List.set_cons_zero, List.set_cons_succ]
          refine takeH 31 111 ?_ (by kernel_rfl) (by kernel_rfl) (by kernel_rfl) (by kernel_rfl) (fun _ _ _ h => h) (by kernel_rfl) (fun o ho w hSw => ?_) (by assumption) ?_
          rotate_left
          · (simp only [List.getElem?_toArray, List.getElem?_cons_succ, List.getElem?_cons_zero, Option.some.injEq] at ho; subst ho; (try dsimp only at hSw); go_simp; try with_reducible rfl)
          try simp only [Act.put, List.setIfInBounds_toArray, List.set_cons_zero, List.set_cons_succ]
          refine takeH 32 112 ?_ (by kernel_rfl) (by kernel_rfl) (by kernel_rfl) (by kernel_rfl) (fun _ _ _ h => h) (by kernel_rfl) (fun o ho w hSw => ?_) (by assumption) ?_
          rotate_left
          · (simp only [List.getElem?_toArray, List.getElem?_cons_succ, List.getElem?_cons_zero, Option.some.injEq] at ho; subst ho; (try dsimp only at hSw); go_simp; try with_reducible rfl)
          try simp only [Act.put, List.setIfInBounds_toArray, List.set_cons_zero, List.set_cons_succ]
          refine takeH 33 113 ?_ (by kernel_rfl) (by kernel_rfl) (by kernel_rfl) (by kernel_rfl) (fun _ _ _ h => h) (by kernel_rfl) (fun o ho w hSw => ?_) (by assumption) ?_
          rotate_left
          · (simp only [List.getElem?_toArray, List.getElem?_cons_succ, List.getElem?_cons_zero, Option.some.injEq] at ho; subst ho; (try dsimp only at hSw); go_simp; try with_reducible rfl)
          try simp only [Act.put, List.setIfInBounds_toArray, List.set_cons_zero, List.set_cons_succ]
          refine takeH 34 114 ?_ (by kernel_rfl) (by kernel_rfl) (by kernel_rfl) (by kernel_rfl) (fun _ _ _ h => h) (by kernel_rfl) (fun o ho w hSw => ?_) (by assumption) ?_
          rotate_left
          · (simp only [List.getElem?_toArray, List.getElem?_cons_succ, List.getElem?_cons_zero, Option.some.injEq] at ho; subst ho; (try dsimp only at hSw); go_simp; try with_reducible rfl)
          try simp only [Act.put, List.setIfInBounds_toArray, List.set_cons_zero, List.set_cons_succ]
          refine callH 29 (by kernel_rfl) (by kernel_rfl) (fun o ho K hK => ?_)
          simp only [List.getElem?_toArray, List.getElem?_cons_succ, List.getElem?_cons_zero, Option.some.injEq] at ho; subst ho
          rw [if_pos (by rfl)]
          go_simp
          go_at_call 13
          with_reducible refine (lineAt_anyT x.on (HV.out.later HB1.out) (HZ.out.later HB1.out) (HR.out.later HB1.out)).mono ?_
          rintro e x2 ⟨r5, rfl, h5, hb⟩
          have HR5 := Lib.hid h5
          clear h5
          have HB2 := Lib.hid (HB1.out.trans (hb.mono HB1.out.size))
          clear hb
          refine hK.out _ _ (HSS.out _ HB2.out) (fun hHeld => ?_)
          clear hK K
          try simp only [Act.put, List.setIfInBounds_toArray, List.set_cons_zero, List.set_cons_succ]
          refine callH 35 (by kernel_rfl) (by kernel_rfl) (fun o ho K hK => ?_)
          simp only [List.getElem?_toArray, List.getElem?_cons_succ, List.getElem?_cons_zero, Option.some.injEq] at ho; subst ho
          rw [if_pos (by rfl)]
          go_simp
          go_at_call 14
          with_reducible refine (rlineAt_any x.on (HV.out.later HB2.out) (HZ.out.later HB2.out) (HR.out.later HB2.out)).mono ?_
          rintro e x3 ⟨r6, rfl, h6, hb⟩
          have HR6 := Lib.hid h6
          replace HR5 := Lib.hid (HR5.out.later hb)
          clear h6
          have HB3 := Lib.hid (HB2.out.trans (hb.mono HB2.out.size))
          clear hb
          refine hK.out _ _ (HSS.out _ HB3.out) (fun hHeld => ?_)
          clear hK K
          try simp only [Act.put, List.setIfInBounds_toArray, List.set_cons_zero, List.set_cons_succ]
          refine callH 36 (by kernel_rfl) (by kernel_rfl) (fun o ho K hK => ?_)
          simp only [List.getElem?_toArray, List.getElem?_cons_succ, List.getElem?_cons_zero, Option.some.injEq] at ho; subst ho
          rw [if_pos (by rfl)]
          go_simp
          go_at_call 10
          with_reducible refine (rsame_v HR5.out HR6.out (by omega) (by omega) (by omega) (by omega)).mono ?_
          rintro e x4 ⟨rfl, hb⟩
          have HB4 := Lib.hid (HB3.out.trans (hb.mono HB3.out.size))
          clear hb
          refine hK.out _ _ (HSS.out _ HB4.out) (fun hHeld => ?_)
          clear hK K
          try simp only [Act.put, List.setIfInBounds_toArray, List.set_cons_zero, List.set_cons_succ]
          refine takeH 37 117 ?_ (by kernel_rfl) (by kernel_rfl) (by kernel_rfl) (by kernel_rfl) (fun _ _ _ h => h) (by kernel_rfl) (fun o ho w hSw => ?_) (by assumption) ?_
          rotate_left
          · (simp only [List.getElem?_toArray, List.getElem?_cons_succ, List.getElem?_cons_zero, Option.some.injEq] at ho; subst ho; (try dsimp only at hSw); go_simp; try with_reducible rfl)
          try simp only [Act.put, List.setIfInBounds_toArray, List.set_cons_zero, List.set_cons_succ]
          refine takeH 38 118 ?_ (by kernel_rfl) (by kernel_rfl) (by kernel_rfl) (by kernel_rfl) (fun _ _ _ h => h) (by kernel_rfl) (fun o ho w hSw => ?_) (by assumption) ?_
          rotate_left
          · (simp only [List.getElem?_toArray, List.getElem?_cons_succ, List.getElem?_cons_zero, Option.some.injEq] at ho; subst ho; (try dsimp only at hSw); go_simp; try with_reducible rfl)
          try simp only [Act.put, List.setIfInBounds_toArray, List.set_cons_zero, List.set_cons_succ]
          refine wpAnyH_done (by kernel_rfl) ?_ _
          go_wp2_with fail
          go_roundw
          case rel => exact ⟨k + 1, by omega, by go_num, Lib.hid (HB5.out.trans (HB4.out.mono HB5.out.size))⟩
          case measure => simp [intOf]; omega

      · obtain rfl : k = n := by omega
        go_wp2_with (go_at_call 15; (with_reducible refine (awake18 _).mono ?_); rintro e w9 ⟨rfl, hb⟩; have HB9 := Lib.hid (HBr.out.trans (hb.mono HBr.out.size)); clear hb)
        go_ret
        exact ⟨rfl, bthen HB.out HB9.out⟩

  | some t0 =>
    have HNX := Lib.hid hnx
    clear hnx
    go_upto_region 5 with (first
      | (go_at_call 5; (with_reducible refine (long_t r _).mono ?_); rintro e w9 ⟨rfl, hb⟩; rw [HD.out]; replace HKD := Lib.hid (HKD.out.later hb); replace HR := Lib.hid (HR.out.later hb); replace HL0 := Lib.hid (HL0.out.later hb); replace HB := Lib.hid (bthen HB.out hb); (try replace HT := Lib.hid (HT.out.later hb)); (try replace HKT := Lib.hid (HKT.out.later hb)); (try replace HU := Lib.hid (HU.out.later hb)); (try replace HKU := Lib.hid (HKU.out.later hb)); clear q0 q1 q2; obtain ⟨q0, q1, q2, -, -, -, -⟩ := HKD.out.tri; (try clear t0 t1 t2); (try obtain ⟨t0, t1, t2, -, -, -, -⟩ := HKT.out.tri); (try clear u0 u1 u2); (try obtain ⟨u0, u1, u2, -, -, -, -⟩ := HKU.out.tri); (try clear kd); have kd := HKD.out.lt; have HPN2 := Lib.hid (HPN.out _ HL0.out); rw [HNX.out] at HPN2; clear hb)
      | (go_at_call 7; (with_reducible refine HRN.out.mono ?_); rintro e w5 ⟨u, rfl, hu, hb⟩; replace HKD := Lib.hid (HKD.out.later hb); replace HR := Lib.hid (HR.out.later hb); replace HL0 := Lib.hid (HL0.out.later hb); replace HB := Lib.hid (bthen HB.out hb); (try replace HT := Lib.hid (HT.out.later hb)); (try replace HKT := Lib.hid (HKT.out.later hb)); (try replace HU := Lib.hid (HU.out.later hb)); (try replace HKU := Lib.hid (HKU.out.later hb)); clear q0 q1 q2; obtain ⟨q0, q1, q2, -, -, -, -⟩ := HKD.out.tri; (try clear t0 t1 t2); (try obtain ⟨t0, t1, t2, -, -, -, -⟩ := HKT.out.tri); (try clear u0 u1 u2); (try obtain ⟨u0, u1, u2, -, -, -, -⟩ := HKU.out.tri); (try clear kd); have kd := HKD.out.lt; have hb := below_one w5 (.cells #[.bool u.s, .slice u.a u.n u.c, .slice u.b u.m u.d] 27); replace HKD := Lib.hid (HKD.out.later hb); replace HR := Lib.hid (HR.out.later hb); replace HL0 := Lib.hid (HL0.out.later hb); replace HB := Lib.hid (bthen HB.out hb); (try replace HT := Lib.hid (HT.out.later hb)); (try replace HKT := Lib.hid (HKT.out.later hb)); clear hb; have HU := Lib.hid (hu.later (below_one w5 (.cells #[.bool u.s, .slice u.a u.n u.c, .slice u.b u.m u.d] 27))); have HKU := Lib.hid (Blk.new w5 27 #[.bool u.s, .slice u.a u.n u.c, .slice u.b u.m u.d]); clear hu; clear hb)
      | (go_at_call 6; (with_reducible refine HPN2.out.mono ?_); rintro e w4 ⟨t, rfl, ht, hb⟩; replace HKD := Lib.hid (HKD.out.later hb); replace HR := Lib.hid (HR.out.later hb); replace HL0 := Lib.hid (HL0.out.later hb); replace HB := Lib.hid (bthen HB.out hb); (try replace HT := Lib.hid (HT.out.later hb)); (try replace HKT := Lib.hid (HKT.out.later hb)); (try replace HU := Lib.hid (HU.out.later hb)); (try replace HKU := Lib.hid (HKU.out.later hb)); clear q0 q1 q2; obtain ⟨q0, q1, q2, -, -, -, -⟩ := HKD.out.tri; (try clear t0 t1 t2); (try obtain ⟨t0, t1, t2, -, -, -, -⟩ := HKT.out.tri); (try clear u0 u1 u2); (try obtain ⟨u0, u1, u2, -, -, -, -⟩ := HKU.out.tri); (try clear kd); have kd := HKD.out.lt; have hb := below_one w4 (.cells #[.bool t.s, .slice t.a t.n t.c, .slice t.b t.m t.d] 27); replace HKD := Lib.hid (HKD.out.later hb); replace HR := Lib.hid (HR.out.later hb); replace HL0 := Lib.hid (HL0.out.later hb); replace HB := Lib.hid (bthen HB.out hb); (try replace HT := Lib.hid (HT.out.later hb)); (try replace HKT := Lib.hid (HKT.out.later hb)); clear hb; have HT := Lib.hid (ht.later (below_one w4 (.cells #[.bool t.s, .slice t.a t.n t.c, .slice t.b t.m t.d] 27))); have HKT := Lib.hid (Blk.new w4 27 #[.bool t.s, .slice t.a t.n t.c, .slice t.b t.m t.d]); clear ht; have HRN := Lib.hid (rnext_t a n c L _ HL0.out HSH.out HN.out); rw [HNX.out] at HRN; clear hb))
    generalize w5.alloc (.cells #[.bool u.s, .slice u.a u.n u.c, .slice u.b u.m u.d] 27) = W5 at HKD HR HL0 HB HT HKT HU HKU ⊢
    clear q0 q1 q2 kd
    (try clear t0 t1 t2)
    (try clear u0 u1 u2)
    obtain ⟨q0, q1, q2, -, -, -, -⟩ := HKD.out.tri
    have HBd := Lib.hid (Below.refl W5.heap.size W5).drew
    go_region_held3 (fun w' => w'.cell? ⟨w.heap.size, 0, none⟩ = some (.bool r.s) ∧ w'.cell? ⟨w.heap.size, 1, none⟩ = some (.slice r.a r.n r.c) ∧ w'.cell? ⟨w.heap.size, 2, none⟩ = some (.slice r.b r.m r.d))
      (first | (refine ⟨?_, ?_, ?_⟩ <;> with_reducible assumption) | (go_keep; done))
      (first
        | (go_at_call 9
           refine (rpassed_t a n c L r s _ (HL0.out.later HB6.out) (HR.out.later HB6.out) HSH.out HN.out).mono ?_
           rintro e w7 ⟨⟨vq, rfl, hq⟩, hb⟩
           have HQ := Lib.hid hq
           have HM := Lib.hid (MemB.below HMp.out hb HMp.out.lt)
           have HB7 := Lib.hid (HB6.out.trans (hb.mono HB6.out.size))
           clear q0 q1 q2 hq hb
           obtain ⟨q0, q1, q2, -, -, -, -⟩ := (HKD.out.later HB7.out).tri)
        | (go_at_call 8
           refine (passed_t a n c L r s _ (HL0.out.later HBd.out) ((HR.out.later HBd.out).more (by omega) (by omega)) HSH.out HN.out).mono ?_
           rintro e w6 ⟨g, rfl, hm, -, hb⟩
           have HMp := Lib.hid hm
           have HB6 := Lib.hid (HBd.out.trans (hb.mono HBd.out.size))
           clear q0 q1 q2 hm hb
           obtain ⟨q0, q1, q2, -, -, -, -⟩ := (HKD.out.later HB6.out).tri))
    obtain ⟨aq, cq, hvq, hbq, -⟩ := brow_own HQ.out
    rw [List.length_map, HLN.out] at hvq hbq
    subst hvq
    replace HKD := Lib.hid (HKD.out.later HB7.out)
    replace HR := Lib.hid (HR.out.later HB7.out)
    replace HL0 := Lib.hid (HL0.out.later HB7.out)
    replace HB := Lib.hid (bthen HB.out HB7.out)
    have HBQ := Lib.hid hbq
    replace HT := Lib.hid (HT.out.later HB7.out)
    replace HU := Lib.hid (HU.out.later HB7.out)
    replace HKT := Lib.hid (HKT.out.later HB7.out)
    replace HKU := Lib.hid (HKU.out.later HB7.out)
    obtain ⟨t0, t1, t2, -, -, -, -⟩ := HKT.out.tri
    obtain ⟨u0, u1, u2, -, -, -, -⟩ := HKU.out.tri
    clear hbq q0 q1 q2 HBd HB6 HB7 HMp HQ
    go_wp2_with (go_at_call 10; (with_reducible refine (rsame_v HT.out HU.out (by omega) (by omega) (by omega) (by omega)).mono ?_); rintro e w8 ⟨rfl, hb⟩; have HB8 := Lib.hid hb; clear hb)
    replace HKD := Lib.hid (HKD.out.later HB8.out)
    replace HR := Lib.hid (HR.out.later HB8.out)
    replace HL0 := Lib.hid (HL0.out.later HB8.out)
    replace HB := Lib.hid (bthen HB.out HB8.out)
    replace HM := Lib.hid (MemB.below HM.out HB8.out HM.out.lt)
    replace HBQ := Lib.hid (brow_below (Nat.le_refl _) HB8.out HBQ.out)
    clear HB8 t0 t1 t2 u0 u1 u2 HT HU HKT HKU
    go_loopw [11] (fun s11 wr => ∃ k : Nat, k ≤ n ∧ s11 = .int .i64 k ∧ Hid (Below w8.heap.size w8 wr)) (fun t _ => n - (intOf t).toNat)
    case atStart => exact ⟨0, Nat.zero_le _, rfl, Lib.hid (Below.refl _ _)⟩
    case round =>
      obtain ⟨k, hk, rfl, HBr⟩ := hrel
      have hk20 : (k : Int) ≤ 20 := by have := HN.out; omega
      by_cases hlt : k < n
      · obtain ⟨x, hx⟩ : ∃ x, L[k]? = some x := ⟨_, List.getElem?_eq_getElem (by rw [HLN.out]; exact hlt)⟩
        have hgx : (L.map (passedM s)).getD k false = passedM s x := by rw [List.getD_eq_getElem?_getD, List.getElem?_map, hx]; rfl
        have hp0 := HM.out.cell k (by rw [List.length_map, HLN.out]; exact hlt)
        obtain ⟨-, -, -, -, gq, oq, hor, hqc⟩ := HBQ.out
        obtain haq := hor.resolve_right (by omega)
        have hq0 := (hqc k hlt).2
        rw [hgx] at hp0 hq0
        obtain ⟨P, hP⟩ : ∃ P, passedM s x = P := ⟨_, rfl⟩
        rw [hP] at hp0 hq0
        have HP0 := Lib.hid hp0
        have HQ0 := Lib.hid hq0
        have HGPc := Lib.hid HM.out.lt
        have HGQc := Lib.hid (hqc k hlt).1
        obtain ⟨b0, off, ha, hbr, hat⟩ := (HL0.out.later HBr.out).at_ hx
        have HX := Lib.hid hx
        have HSX := Lib.hid (HSH.out x (List.mem_of_getElem? hx))
        have HV := Lib.hid (hat.v.more HSX.out.1 HSX.out.2.1)
        have HZ := Lib.hid (hat.z.more HSX.out.2.2.1 HSX.out.2.2.2)
        have HAT := Lib.hid hat
        have HBX := Lib.hid hbr
        replace HKD := Lib.hid (HKD.out.later HBr.out)
        replace HR := Lib.hid (HR.out.later HBr.out)
        have hkI : (k : Int) < (n : Int) := by omega
        subst ha haq
        obtain ⟨c0, c1, c2, c3, c4, c5, c6, -, -⟩ := hat
        clear hx HSX hgx hp0 hq0 hP hor hqc
        cases hpl : passL x with
        | none =>
          have HPX := Lib.hid hpl
          have HPL := Lib.hid (passes_tT HV.out HZ.out)
          rw [hpl] at HPL
          clear hpl
          go_upto_region 13 with (first
            | (go_at_call 12; (with_reducible refine HRP.out.mono ?_); rintro e w6 ⟨rfl, hb⟩; have hb6 := bthen hb (below_one w6 (.cells #[.bool false, .slice none 0 0, .slice none 0 0] 27)); replace HB5 := Lib.hid (HB5.out.trans (hb6.mono HB5.out.size)); replace HV := Lib.hid (HV.out.later hb6); replace HZ := Lib.hid (HZ.out.later hb6); replace HR := Lib.hid (HR.out.later hb6); replace HKD := Lib.hid (HKD.out.later hb6); replace HAT := Lib.hid (HAT.out.later HBX.out hb6); replace HBX := Lib.hid (Nat.lt_of_lt_of_le HBX.out hb6.size); replace HKa := Lib.hid (HKa.out.later hb6); have HKb := Lib.hid (Blk.new w6 27 #[.bool false, .slice none 0 0, .slice none 0 0]); clear hb hb6 c0 c1 c2 c3 c4 c5 c6 hl5)
            | (go_at_call 11; (with_reducible refine HPL.out.mono ?_); rintro e w5 ⟨rfl, hb⟩; have hb5 := bthen hb (below_one w5 (.cells #[.bool false, .slice none 0 0, .slice none 0 0] 27)); have HB5 := Lib.hid (HBr.out.trans (hb5.mono HBr.out.size)); replace HV := Lib.hid (HV.out.later hb5); replace HZ := Lib.hid (HZ.out.later hb5); replace HR := Lib.hid (HR.out.later hb5); replace HKD := Lib.hid (HKD.out.later hb5); replace HAT := Lib.hid (HAT.out.later HBX.out hb5); replace HBX := Lib.hid (Nat.lt_of_lt_of_le HBX.out hb5.size); have HKa := Lib.hid (Blk.new w5 27 #[.bool false, .slice none 0 0, .slice none 0 0]); have HRP := Lib.hid (rpasses_t HV.out HZ.out); rw [HPX.out] at HRP; have hl5 : b0 < w5.heap.size := Nat.lt_of_lt_of_le hbr hb.size; clear c0 c1 c2 c3 c4 c5 c6; obtain ⟨c0, c1, c2, c3, c4, c5, c6, -, -⟩ := HAT.out; clear hb hb5))
          generalize w6.alloc (.cells #[.bool false, .slice none 0 0, .slice none 0 0] 27) = W8 at HB5 HV HZ HR HKD HAT HBX HKa HKb ⊢
          generalize hga : w5.heap.size = ga at HKa ⊢
          generalize hgb : w6.heap.size = gb at HKb ⊢
          have HGP := Lib.hid (Nat.lt_of_lt_of_le HGPc.out HB5.out.size)
          have HGQ := Lib.hid (Nat.lt_of_lt_of_le HGQc.out HB5.out.size)
          have HPC := Lib.hid ((HB5.out.cell (p := ⟨g, k, none⟩) HGPc.out).trans HP0.out)
          have HQC := Lib.hid ((HB5.out.cell (p := ⟨gq, oq + k, none⟩) HGQc.out).trans HQ0.out)
          have HSS := Lib.hid (fun (W : World) (hb : Below W8.heap.size W8 W) => (show W.cell? ⟨g, k, none⟩ = some (.bool P) ∧ W.cell? ⟨gq, oq + k, none⟩ = some (.bool P) ∧ W.cell? ⟨ga, 0, none⟩ = some (.bool false) ∧ W.cell? ⟨ga, 1, none⟩ = some (.slice none 0 0) ∧ W.cell? ⟨ga, 2, none⟩ = some (.slice none 0 0) ∧ W.cell? ⟨gb, 0, none⟩ = some (.bool false) ∧ W.cell? ⟨gb, 1, none⟩ = some (.slice none 0 0) ∧ W.cell? ⟨gb, 2, none⟩ = some (.slice none 0 0) ∧ W.cell? ⟨b0, off + k * 7, none⟩ = some (.bool x.on) ∧ W.cell? ⟨b0, off + k * 7 + 1, none⟩ = some (.bool x.v.s) ∧ W.cell? ⟨b0, off + k * 7 + 2, none⟩ = some (.slice x.v.a x.v.n x.v.c) ∧ W.cell? ⟨b0, off + k * 7 + 3, none⟩ = some (.slice x.v.b x.v.m x.v.d) ∧ W.cell? ⟨b0, off + k * 7 + 4, none⟩ = some (.bool x.z.s) ∧ W.cell? ⟨b0, off + k * 7 + 5, none⟩ = some (.slice x.z.a x.z.n x.z.c) ∧ W.cell? ⟨b0, off + k * 7 + 6, none⟩ = some (.slice x.z.b x.z.m x.z.d) ∧ W.cell? ⟨w.heap.size, 0, none⟩ = some (.bool r.s) ∧ W.cell? ⟨w.heap.size, 1, none⟩ = some (.slice r.a r.n r.c) ∧ W.cell? ⟨w.heap.size, 2, none⟩ = some (.slice r.b r.m r.d) from ⟨(hb.cell (p := ⟨g, k, none⟩) HGP.out).trans HPC.out, (hb.cell (p := ⟨gq, oq + k, none⟩) HGQ.out).trans HQC.out, (HKa.out.later hb).cell 0 rfl, (HKa.out.later hb).cell 1 rfl, (HKa.out.later hb).cell 2 rfl, (HKb.out.later hb).cell 0 rfl, (HKb.out.later hb).cell 1 rfl, (HKb.out.later hb).cell 2 rfl, (HAT.out.later HBX.out hb).c0, (HAT.out.later HBX.out hb).c1, (HAT.out.later HBX.out hb).c2, (HAT.out.later HBX.out hb).c3, (HAT.out.later HBX.out hb).c4, (HAT.out.later HBX.out hb).c5, (HAT.out.later HBX.out hb).c6, (HKD.out.later hb).cell 0 rfl, (HKD.out.later hb).cell 1 rfl, (HKD.out.later hb).cell 2 rfl⟩))
          have HBd := Lib.hid (Below.refl W8.heap.size W8).drew
          clear hga hgb hbr
          refine wp_region_held_drew (S := fun w' => w'.cell? ⟨g, k, none⟩ = some (.bool P) ∧ w'.cell? ⟨gq, oq + k, none⟩ = some (.bool P) ∧ w'.cell? ⟨ga, 0, none⟩ = some (.bool false) ∧ w'.cell? ⟨ga, 1, none⟩ = some (.slice none 0 0) ∧ w'.cell? ⟨ga, 2, none⟩ = some (.slice none 0 0) ∧ w'.cell? ⟨gb, 0, none⟩ = some (.bool false) ∧ w'.cell? ⟨gb, 1, none⟩ = some (.slice none 0 0) ∧ w'.cell? ⟨gb, 2, none⟩ = some (.slice none 0 0) ∧ w'.cell? ⟨b0, off + k * 7, none⟩ = some (.bool x.on) ∧ w'.cell? ⟨b0, off + k * 7 + 1, none⟩ = some (.bool x.v.s) ∧ w'.cell? ⟨b0, off + k * 7 + 2, none⟩ = some (.slice x.v.a x.v.n x.v.c) ∧ w'.cell? ⟨b0, off + k * 7 + 3, none⟩ = some (.slice x.v.b x.v.m x.v.d) ∧ w'.cell? ⟨b0, off + k * 7 + 4, none⟩ = some (.bool x.z.s) ∧ w'.cell? ⟨b0, off + k * 7 + 5, none⟩ = some (.slice x.z.a x.z.n x.z.c) ∧ w'.cell? ⟨b0, off + k * 7 + 6, none⟩ = some (.slice x.z.b x.z.m x.z.d) ∧ w'.cell? ⟨w.heap.size, 0, none⟩ = some (.bool r.s) ∧ w'.cell? ⟨w.heap.size, 1, none⟩ = some (.slice r.a r.n r.c) ∧ w'.cell? ⟨w.heap.size, 2, none⟩ = some (.slice r.b r.m r.d)) (by kernel_rfl) (HSS.out _ HBd.out) (fun hHeld => ?_)
          refine takeH 0 80 ?_ (by kernel_rfl) (by kernel_rfl) (by kernel_rfl) (by kernel_rfl) (fun _ _ _ h => h) (by kernel_rfl) (fun o ho w hSw => ?_) (by assumption) ?_
          rotate_left
          · (simp only [List.getElem?_toArray, List.getElem?_cons_succ, List.getElem?_cons_zero, Option.some.injEq] at ho; subst ho; (try dsimp only at hSw); go_simp; try with_reducible rfl)
          try simp only [Act.put, List.setIfInBounds_toArray, List.set_cons_zero, List.set_cons_succ]
          refine takeH 1 81 ?_ (by kernel_rfl) (by kernel_rfl) (by kernel_rfl) (by kernel_rfl) (fun _ _ _ h => h) (by kernel_rfl) (fun o ho w hSw => ?_) (by assumption) ?_
          rotate_left
          · (simp only [List.getElem?_toArray, List.getElem?_cons_succ, List.getElem?_cons_zero, Option.some.injEq] at ho; subst ho; (try dsimp only at hSw); go_simp; try with_reducible rfl)
          try simp only [Act.put, List.setIfInBounds_toArray, List.set_cons_zero, List.set_cons_succ]
          refine takeH 2 82 ?_ (by kernel_rfl) (by kernel_rfl) (by kernel_rfl) (by kernel_rfl) (fun _ _ _ h => h) (by kernel_rfl) (fun o ho w hSw => ?_) (by assumption) ?_
          rotate_left
          · (simp only [List.getElem?_toArray, List.getElem?_cons_succ, List.getElem?_cons_zero, Option.some.injEq] at ho; subst ho; (try dsimp only at hSw); go_simp; try with_reducible rfl)
          try simp only [Act.put, List.setIfInBounds_toArray, List.set_cons_zero, List.set_cons_succ]
          refine takeH 3 83 ?_ (by kernel_rfl) (by kernel_rfl) (by kernel_rfl) (by kernel_rfl) (fun _ _ _ h => h) (by kernel_rfl) (fun o ho w hSw => ?_) (by assumption) ?_
          rotate_left
          · (simp only [List.getElem?_toArray, List.getElem?_cons_succ, List.getElem?_cons_zero, Option.some.injEq] at ho; subst ho; (try dsimp only at hSw); go_simp; try with_reducible rfl)
          try simp only [Act.put, List.setIfInBounds_toArray, List.set_cons_zero, List.set_cons_succ]
          refine takeH 4 84 ?_ (by kernel_rfl) (by kernel_rfl) (by kernel_rfl) (by kernel_rfl) (fun _ _ _ h => h) (by kernel_rfl) (fun o ho w hSw => ?_) (by assumption) ?_
          rotate_left
          · (simp only [List.getElem?_toArray, List.getElem?_cons_succ, List.getElem?_cons_zero, Option.some.injEq] at ho; subst ho; (try dsimp only at hSw); go_simp; try with_reducible rfl)
          try simp only [Act.put, List.setIfInBounds_toArray, List.set_cons_zero, List.set_cons_succ]
          refine takeH 5 85 ?_ (by kernel_rfl) (by kernel_rfl) (by kernel_rfl) (by kernel_rfl) (fun _ _ _ h => h) (by kernel_rfl) (fun o ho w hSw => ?_) (by assumption) ?_
          rotate_left
          · (simp only [List.getElem?_toArray, List.getElem?_cons_succ, List.getElem?_cons_zero, Option.some.injEq] at ho; subst ho; (try dsimp only at hSw); go_simp; try with_reducible rfl)
          try simp only [Act.put, List.setIfInBounds_toArray, List.set_cons_zero, List.set_cons_succ]
          refine takeH 6 86 ?_ (by kernel_rfl) (by kernel_rfl) (by kernel_rfl) (by kernel_rfl) (fun _ _ _ h => h) (by kernel_rfl) (fun o ho w hSw => ?_) (by assumption) ?_
          rotate_left
          · (simp only [List.getElem?_toArray, List.getElem?_cons_succ, List.getElem?_cons_zero, Option.some.injEq] at ho; subst ho; (try dsimp only at hSw); go_simp; try with_reducible rfl)
          try simp only [Act.put, List.setIfInBounds_toArray, List.set_cons_zero, List.set_cons_succ]
          refine takeH 7 87 ?_ (by kernel_rfl) (by kernel_rfl) (by kernel_rfl) (by kernel_rfl) (fun _ _ _ h => h) (by kernel_rfl) (fun o ho w hSw => ?_) (by assumption) ?_
          rotate_left
          · (simp only [List.getElem?_toArray, List.getElem?_cons_succ, List.getElem?_cons_zero, Option.some.injEq] at ho; subst ho; (try dsimp only at hSw); go_simp; try with_reducible rfl)
          try simp only [Act.put, List.setIfInBounds_toArray, List.set_cons_zero, List.set_cons_succ]
          refine takeH 8 88 ?_ (by kernel_rfl) (by kernel_rfl) (by kernel_rfl) (by kernel_rfl) (fun _ _ _ h => h) (by kernel_rfl) (fun o ho w hSw => ?_) (by assumption) ?_
          rotate_left
          · (simp only [List.getElem?_toArray, List.getElem?_cons_succ, List.getElem?_cons_zero, Option.some.injEq] at ho; subst ho; (try dsimp only at hSw); go_simp; try with_reducible rfl)
          try simp only [Act.put, List.setIfInBounds_toArray, List.set_cons_zero, List.set_cons_succ]
          refine takeH 9 89 ?_ (by kernel_rfl) (by kernel_rfl) (by kernel_rfl) (by kernel_rfl) (fun _ _ _ h => h) (by kernel_rfl) (fun o ho w hSw => ?_) (by assumption) ?_
          rotate_left
          · (simp only [List.getElem?_toArray, List.getElem?_cons_succ, List.getElem?_cons_zero, Option.some.injEq] at ho; subst ho; (try dsimp only at hSw); go_simp; try with_reducible rfl)
          try simp only [Act.put, List.setIfInBounds_toArray, List.set_cons_zero, List.set_cons_succ]
          refine takeH 10 90 ?_ (by kernel_rfl) (by kernel_rfl) (by kernel_rfl) (by kernel_rfl) (fun _ _ _ h => h) (by kernel_rfl) (fun o ho w hSw => ?_) (by assumption) ?_
          rotate_left
          · (simp only [List.getElem?_toArray, List.getElem?_cons_succ, List.getElem?_cons_zero, Option.some.injEq] at ho; subst ho; (try dsimp only at hSw); go_simp; try with_reducible rfl)
          try simp only [Act.put, List.setIfInBounds_toArray, List.set_cons_zero, List.set_cons_succ]
          refine takeH 11 91 ?_ (by kernel_rfl) (by kernel_rfl) (by kernel_rfl) (by kernel_rfl) (fun _ _ _ h => h) (by kernel_rfl) (fun o ho w hSw => ?_) (by assumption) ?_
          rotate_left
          · (simp only [List.getElem?_toArray, List.getElem?_cons_succ, List.getElem?_cons_zero, Option.some.injEq] at ho; subst ho; (try dsimp only at hSw); go_simp; try with_reducible rfl)
          try simp only [Act.put, List.setIfInBounds_toArray, List.set_cons_zero, List.set_cons_succ]
          refine takeH 12 92 ?_ (by kernel_rfl) (by kernel_rfl) (by kernel_rfl) (by kernel_rfl) (fun _ _ _ h => h) (by kernel_rfl) (fun o ho w hSw => ?_) (by assumption) ?_
          rotate_left
          · (simp only [List.getElem?_toArray, List.getElem?_cons_succ, List.getElem?_cons_zero, Option.some.injEq] at ho; subst ho; (try dsimp only at hSw); go_simp; try with_reducible rfl)
          try simp only [Act.put, List.setIfInBounds_toArray, List.set_cons_zero, List.set_cons_succ]
          refine takeH 13 93 ?_ (by kernel_rfl) (by kernel_rfl) (by kernel_rfl) (by kernel_rfl) (fun _ _ _ h => h) (by kernel_rfl) (fun o ho w hSw => ?_) (by assumption) ?_
          rotate_left
          · (simp only [List.getElem?_toArray, List.getElem?_cons_succ, List.getElem?_cons_zero, Option.some.injEq] at ho; subst ho; (try dsimp only at hSw); go_simp; try with_reducible rfl)
          try simp only [Act.put, List.setIfInBounds_toArray, List.set_cons_zero, List.set_cons_succ]
          refine takeH 14 94 ?_ (by kernel_rfl) (by kernel_rfl) (by kernel_rfl) (by kernel_rfl) (fun _ _ _ h => h) (by kernel_rfl) (fun o ho w hSw => ?_) (by assumption) ?_
          rotate_left
          · (simp only [List.getElem?_toArray, List.getElem?_cons_succ, List.getElem?_cons_zero, Option.some.injEq] at ho; subst ho; (try dsimp only at hSw); go_simp; try with_reducible rfl)
          try simp only [Act.put, List.setIfInBounds_toArray, List.set_cons_zero, List.set_cons_succ]
          refine takeH 15 95 ?_ (by kernel_rfl) (by kernel_rfl) (by kernel_rfl) (by kernel_rfl) (fun _ _ _ h => h) (by kernel_rfl) (fun o ho w hSw => ?_) (by assumption) ?_
          rotate_left
          · (simp only [List.getElem?_toArray, List.getElem?_cons_succ, List.getElem?_cons_zero, Option.some.injEq] at ho; subst ho; (try dsimp only at hSw); go_simp; try with_reducible rfl)
          try simp only [Act.put, List.setIfInBounds_toArray, List.set_cons_zero, List.set_cons_succ]
          refine takeH 16 96 ?_ (by kernel_rfl) (by kernel_rfl) (by kernel_rfl) (by kernel_rfl) (fun _ _ _ h => h) (by kernel_rfl) (fun o ho w hSw => ?_) (by assumption) ?_
          rotate_left
          · (simp only [List.getElem?_toArray, List.getElem?_cons_succ, List.getElem?_cons_zero, Option.some.injEq] at ho; subst ho; (try dsimp only at hSw); go_simp; try with_reducible rfl)
          try simp only [Act.put, List.setIfInBounds_toArray, List.set_cons_zero, List.set_cons_succ]
          refine skipH 17 97 (by kernel_rfl) (by kernel_rfl) (by kernel_rfl) (by kernel_rfl) (fun _ _ _ h => h) (by kernel_rfl) (by assumption) ?_
          try simp only [Act.put, List.setIfInBounds_toArray, List.set_cons_zero, List.set_cons_succ]
          refine skipH 18 98 (by kernel_rfl) (by kernel_rfl) (by kernel_rfl) (by kernel_rfl) (fun _ _ _ h => h) (by kernel_rfl) (by assumption) ?_
          try simp only [Act.put, List.setIfInBounds_toArray, List.set_cons_zero, List.set_cons_succ]
          refine skipH 19 99 (by kernel_rfl) (by kernel_rfl) (by kernel_rfl) (by kernel_rfl) (fun _ _ _ h => h) (by kernel_rfl) (by assumption) ?_
          try simp only [Act.put, List.setIfInBounds_toArray, List.set_cons_zero, List.set_cons_succ]
          refine skipH 20 100 (by kernel_rfl) (by kernel_rfl) (by kernel_rfl) (by kernel_rfl) (fun _ _ _ h => h) (by kernel_rfl) (by assumption) ?_
          try simp only [Act.put, List.setIfInBounds_toArray, List.set_cons_zero, List.set_cons_succ]
          refine takeH 21 101 ?_ (by kernel_rfl) (by kernel_rfl) (by kernel_rfl) (by kernel_rfl) (fun _ _ _ h => h) (by kernel_rfl) (fun o ho w hSw => ?_) (by assumption) ?_
          rotate_left
          · (simp only [List.getElem?_toArray, List.getElem?_cons_succ, List.getElem?_cons_zero, Option.some.injEq] at ho; subst ho; (try dsimp only at hSw); go_simp; try with_reducible rfl)
          try simp only [Act.put, List.setIfInBounds_toArray, List.set_cons_zero, List.set_cons_succ]
          refine takeH 22 102 ?_ (by kernel_rfl) (by kernel_rfl) (by kernel_rfl) (by kernel_rfl) (fun _ _ _ h => h) (by kernel_rfl) (fun o ho w hSw => ?_) (by assumption) ?_
          rotate_left
          · (simp only [List.getElem?_toArray, List.getElem?_cons_succ, List.getElem?_cons_zero, Option.some.injEq] at ho; subst ho; (try dsimp only at hSw); go_simp; try with_reducible rfl)
          try simp only [Act.put, List.setIfInBounds_toArray, List.set_cons_zero, List.set_cons_succ]
          refine takeH 23 103 ?_ (by kernel_rfl) (by kernel_rfl) (by kernel_rfl) (by kernel_rfl) (fun _ _ _ h => h) (by kernel_rfl) (fun o ho w hSw => ?_) (by assumption) ?_
          rotate_left
          · (simp only [List.getElem?_toArray, List.getElem?_cons_succ, List.getElem?_cons_zero, Option.some.injEq] at ho; subst ho; (try dsimp only at hSw); go_simp; try with_reducible rfl)
          try simp only [Act.put, List.setIfInBounds_toArray, List.set_cons_zero, List.set_cons_succ]
          refine takeH 24 104 ?_ (by kernel_rfl) (by kernel_rfl) (by kernel_rfl) (by kernel_rfl) (fun _ _ _ h => h) (by kernel_rfl) (fun o ho w hSw => ?_) (by assumption) ?_
          rotate_left
          · (simp only [List.getElem?_toArray, List.getElem?_cons_succ, List.getElem?_cons_zero, Option.some.injEq] at ho; subst ho; (try dsimp only at hSw); go_simp; try with_reducible rfl)
          try simp only [Act.put, List.setIfInBounds_toArray, List.set_cons_zero, List.set_cons_succ]
          refine takeH 25 105 ?_ (by kernel_rfl) (by kernel_rfl) (by kernel_rfl) (by kernel_rfl) (fun _ _ _ h => h) (by kernel_rfl) (fun o ho w hSw => ?_) (by assumption) ?_
          rotate_left
          · (simp only [List.getElem?_toArray, List.getElem?_cons_succ, List.getElem?_cons_zero, Option.some.injEq] at ho; subst ho; (try dsimp only at hSw); go_simp; try with_reducible rfl)
          try simp only [Act.put, List.setIfInBounds_toArray, List.set_cons_zero, List.set_cons_succ]
          refine takeH 26 106 ?_ (by kernel_rfl) (by kernel_rfl) (by kernel_rfl) (by kernel_rfl) (fun _ _ _ h => h) (by kernel_rfl) (fun o ho w hSw => ?_) (by assumption) ?_
          rotate_left
          · (simp only [List.getElem?_toArray, List.getElem?_cons_succ, List.getElem?_cons_zero, Option.some.injEq] at ho; subst ho; (try dsimp only at hSw); go_simp; try with_reducible rfl)
          try simp only [Act.put, List.setIfInBounds_toArray, List.set_cons_zero, List.set_cons_succ]
          refine takeH 27 107 ?_ (by kernel_rfl) (by kernel_rfl) (by kernel_rfl) (by kernel_rfl) (fun _ _ _ h => h) (by kernel_rfl) (fun o ho w hSw => ?_) (by assumption) ?_
          rotate_left
          · (simp only [List.getElem?_toArray, List.getElem?_cons_succ, List.getElem?_cons_zero, Option.some.injEq] at ho; subst ho; (try dsimp only at hSw); go_simp; try with_reducible rfl)
          try simp only [Act.put, List.setIfInBounds_toArray, List.set_cons_zero, List.set_cons_succ]
          refine takeH 28 108 ?_ (by kernel_rfl) (by kernel_rfl) (by kernel_rfl) (by kernel_rfl) (fun _ _ _ h => h) (by kernel_rfl) (fun o ho w hSw => ?_) (by assumption) ?_
          rotate_left
          · (simp only [List.getElem?_toArray, List.getElem?_cons_succ, List.getElem?_cons_zero, Option.some.injEq] at ho; subst ho; (try dsimp only at hSw); go_simp; try with_reducible rfl)
          try simp only [Act.put, List.setIfInBounds_toArray, List.set_cons_zero, List.set_cons_succ]
          refine takeH 30 110 ?_ (by kernel_rfl) (by kernel_rfl) (by kernel_rfl) (by kernel_rfl) (fun _ _ _ h => h) (by kernel_rfl) (fun o ho w hSw => ?_) (by assumption) ?_
          rotate_left
          · (simp only [List.getElem?_toArray, List.getElem?_cons_succ, List.getElem?_cons_zero, Option.some.injEq] at ho; subst ho; (try dsimp only at hSw); go_simp; try with_reducible rfl)
          try simp only [Act.put, List.setIfInBounds_toArray, List.set_cons_zero, List.set_cons_succ]
          refine takeH 31 111 ?_ (by kernel_rfl) (by kernel_rfl) (by kernel_rfl) (by kernel_rfl) (fun _ _ _ h => h) (by kernel_rfl) (fun o ho w hSw => ?_) (by assumption) ?_
          rotate_left
          · (simp only [List.getElem?_toArray, List.getElem?_cons_succ, List.getElem?_cons_zero, Option.some.injEq] at ho; subst ho; (try dsimp only at hSw); go_simp; try with_reducible rfl)
          try simp only [Act.put, List.setIfInBounds_toArray, List.set_cons_zero, List.set_cons_succ]
          refine takeH 32 112 ?_ (by kernel_rfl) (by kernel_rfl) (by kernel_rfl) (by kernel_rfl) (fun _ _ _ h => h) (by kernel_rfl) (fun o ho w hSw => ?_) (by assumption) ?_
          rotate_left
          · (simp only [List.getElem?_toArray, List.getElem?_cons_succ, List.getElem?_cons_zero, Option.some.injEq] at ho; subst ho; (try dsimp only at hSw); go_simp; try with_reducible rfl)
          try simp only [Act.put, List.setIfInBounds_toArray, List.set_cons_zero, List.set_cons_succ]
          refine takeH 33 113 ?_ (by kernel_rfl) (by kernel_rfl) (by kernel_rfl) (by kernel_rfl) (fun _ _ _ h => h) (by kernel_rfl) (fun o ho w hSw => ?_) (by assumption) ?_
          rotate_left
          · (simp only [List.getElem?_toArray, List.getElem?_cons_succ, List.getElem?_cons_zero, Option.some.injEq] at ho; subst ho; (try dsimp only at hSw); go_simp; try with_reducible rfl)
          try simp only [Act.put, List.setIfInBounds_toArray, List.set_cons_zero, List.set_cons_succ]
          refine takeH 34 114 ?_ (by kernel_rfl) (by kernel_rfl) (by kernel_rfl) (by kernel_rfl) (fun _ _ _ h => h) (by kernel_rfl) (fun o ho w hSw => ?_) (by assumption) ?_
          rotate_left
          · (simp only [List.getElem?_toArray, List.getElem?_cons_succ, List.getElem?_cons_zero, Option.some.injEq] at ho; subst ho; (try dsimp only at hSw); go_simp; try with_reducible rfl)
          try simp only [Act.put, List.setIfInBounds_toArray, List.set_cons_zero, List.set_cons_succ]
          refine callH 29 (by kernel_rfl) (by kernel_rfl) (fun o ho K hK => ?_)
          simp only [List.getElem?_toArray, List.getElem?_cons_succ, List.getElem?_cons_zero, Option.some.injEq] at ho; subst ho
          rw [if_pos (by rfl)]
          go_simp
          go_at_call 13
          with_reducible refine (lineAt_anyT x.on (HV.out.later HBd.out) (HZ.out.later HBd.out) (HR.out.later HBd.out)).mono ?_
          rintro e x2 ⟨r5, rfl, h5, hb⟩
          have HR5 := Lib.hid h5
          clear h5
          have HB2 := Lib.hid (HBd.out.trans (hb.mono HBd.out.size))
          clear hb
          refine hK.out _ _ (HSS.out _ HB2.out) (fun hHeld => ?_)
          clear hK K
          try simp only [Act.put, List.setIfInBounds_toArray, List.set_cons_zero, List.set_cons_succ]
          refine callH 35 (by kernel_rfl) (by kernel_rfl) (fun o ho K hK => ?_)
          simp only [List.getElem?_toArray, List.getElem?_cons_succ, List.getElem?_cons_zero, Option.some.injEq] at ho; subst ho
          rw [if_pos (by rfl)]
          go_simp
          go_at_call 14
          with_reducible refine (rlineAt_any x.on (HV.out.later HB2.out) (HZ.out.later HB2.out) (HR.out.later HB2.out)).mono ?_
          rintro e x3 ⟨r6, rfl, h6, hb⟩
          have HR6 := Lib.hid h6
          replace HR5 := Lib.hid (HR5.out.later hb)
          clear h6
          have HB3 := Lib.hid (HB2.out.trans (hb.mono HB2.out.size))
          clear hb
          refine hK.out _ _ (HSS.out _ HB3.out) (fun hHeld => ?_)
          clear hK K
          try simp only [Act.put, List.setIfInBounds_toArray, List.set_cons_zero, List.set_cons_succ]
          refine callH 36 (by kernel_rfl) (by kernel_rfl) (fun o ho K hK => ?_)
          simp only [List.getElem?_toArray, List.getElem?_cons_succ, List.getElem?_cons_zero, Option.some.injEq] at ho; subst ho
          rw [if_pos (by rfl)]
          go_simp
          go_at_call 10
          with_reducible refine (rsame_v HR5.out HR6.out (by omega) (by omega) (by omega) (by omega)).mono ?_
          rintro e x4 ⟨rfl, hb⟩
          have HB4 := Lib.hid (HB3.out.trans (hb.mono HB3.out.size))
          clear hb
          refine hK.out _ _ (HSS.out _ HB4.out) (fun hHeld => ?_)
          clear hK K
          try simp only [Act.put, List.setIfInBounds_toArray, List.set_cons_zero, List.set_cons_succ]
          refine takeH 37 117 ?_ (by kernel_rfl) (by kernel_rfl) (by kernel_rfl) (by kernel_rfl) (fun _ _ _ h => h) (by kernel_rfl) (fun o ho w hSw => ?_) (by assumption) ?_
          rotate_left
          · (simp only [List.getElem?_toArray, List.getElem?_cons_succ, List.getElem?_cons_zero, Option.some.injEq] at ho; subst ho; (try dsimp only at hSw); go_simp; try with_reducible rfl)
          try simp only [Act.put, List.setIfInBounds_toArray, List.set_cons_zero, List.set_cons_succ]
          refine takeH 38 118 ?_ (by kernel_rfl) (by kernel_rfl) (by kernel_rfl) (by kernel_rfl) (fun _ _ _ h => h) (by kernel_rfl) (fun o ho w hSw => ?_) (by assumption) ?_
          rotate_left
          · (simp only [List.getElem?_toArray, List.getElem?_cons_succ, List.getElem?_cons_zero, Option.some.injEq] at ho; subst ho; (try dsimp only at hSw); go_simp; try with_reducible rfl)
          try simp only [Act.put, List.setIfInBounds_toArray, List.set_cons_zero, List.set_cons_succ]
          refine wpAnyH_done (by kernel_rfl) ?_ _
          go_wp2_with fail
          go_roundw
          case rel => exact ⟨k + 1, by omega, by go_num, Lib.hid (HB5.out.trans (HB4.out.mono HB5.out.size))⟩
          case measure => simp [intOf]; omega

        | some tx =>
          have HPX := Lib.hid hpl
          have HPL := Lib.hid (passes_tT HV.out HZ.out)
          rw [hpl] at HPL
          clear hpl
          go_upto_region 13 with (first
            | (go_at_call 12; (with_reducible refine HRP.out.mono ?_); rintro e w6 ⟨rb, rfl, htb, hb⟩; have hb6 := bthen hb (below_one w6 (.cells #[.bool rb.s, .slice rb.a rb.n rb.c, .slice rb.b rb.m rb.d] 27)); replace HB5 := Lib.hid (HB5.out.trans (hb6.mono HB5.out.size)); replace HV := Lib.hid (HV.out.later hb6); replace HZ := Lib.hid (HZ.out.later hb6); replace HR := Lib.hid (HR.out.later hb6); replace HKD := Lib.hid (HKD.out.later hb6); replace HAT := Lib.hid (HAT.out.later HBX.out hb6); replace HBX := Lib.hid (Nat.lt_of_lt_of_le HBX.out hb6.size); replace HKa := Lib.hid (HKa.out.later hb6); have HKb := Lib.hid (Blk.new w6 27 #[.bool rb.s, .slice rb.a rb.n rb.c, .slice rb.b rb.m rb.d]); replace HTa := Lib.hid (HTa.out.later hb6); have HTb := Lib.hid (htb.later (below_one w6 (.cells #[.bool rb.s, .slice rb.a rb.n rb.c, .slice rb.b rb.m rb.d] 27))); clear htb; clear hb hb6 c0 c1 c2 c3 c4 c5 c6 hl5)
            | (go_at_call 11; (with_reducible refine HPL.out.mono ?_); rintro e w5 ⟨ra, rfl, hta, hb⟩; have hb5 := bthen hb (below_one w5 (.cells #[.bool ra.s, .slice ra.a ra.n ra.c, .slice ra.b ra.m ra.d] 27)); have HB5 := Lib.hid (HBr.out.trans (hb5.mono HBr.out.size)); replace HV := Lib.hid (HV.out.later hb5); replace HZ := Lib.hid (HZ.out.later hb5); replace HR := Lib.hid (HR.out.later hb5); replace HKD := Lib.hid (HKD.out.later hb5); replace HAT := Lib.hid (HAT.out.later HBX.out hb5); replace HBX := Lib.hid (Nat.lt_of_lt_of_le HBX.out hb5.size); have HKa := Lib.hid (Blk.new w5 27 #[.bool ra.s, .slice ra.a ra.n ra.c, .slice ra.b ra.m ra.d]); have HTa := Lib.hid (hta.later (below_one w5 (.cells #[.bool ra.s, .slice ra.a ra.n ra.c, .slice ra.b ra.m ra.d] 27))); clear hta; have HRP := Lib.hid (rpasses_t HV.out HZ.out); rw [HPX.out] at HRP; have hl5 : b0 < w5.heap.size := Nat.lt_of_lt_of_le hbr hb.size; clear c0 c1 c2 c3 c4 c5 c6; obtain ⟨c0, c1, c2, c3, c4, c5, c6, -, -⟩ := HAT.out; clear hb hb5))
          generalize w6.alloc (.cells #[.bool rb.s, .slice rb.a rb.n rb.c, .slice rb.b rb.m rb.d] 27) = W8 at HB5 HV HZ HR HKD HAT HBX HKa HKb HTa HTb ⊢
          generalize hga : w5.heap.size = ga at HKa ⊢
          generalize hgb : w6.heap.size = gb at HKb ⊢
          have HGP := Lib.hid (Nat.lt_of_lt_of_le HGPc.out HB5.out.size)
          have HGQ := Lib.hid (Nat.lt_of_lt_of_le HGQc.out HB5.out.size)
          have HPC := Lib.hid ((HB5.out.cell (p := ⟨g, k, none⟩) HGPc.out).trans HP0.out)
          have HQC := Lib.hid ((HB5.out.cell (p := ⟨gq, oq + k, none⟩) HGQc.out).trans HQ0.out)
          have HSS := Lib.hid (fun (W : World) (hb : Below W8.heap.size W8 W) => (show W.cell? ⟨g, k, none⟩ = some (.bool P) ∧ W.cell? ⟨gq, oq + k, none⟩ = some (.bool P) ∧ W.cell? ⟨ga, 0, none⟩ = some (.bool ra.s) ∧ W.cell? ⟨ga, 1, none⟩ = some (.slice ra.a ra.n ra.c) ∧ W.cell? ⟨ga, 2, none⟩ = some (.slice ra.b ra.m ra.d) ∧ W.cell? ⟨gb, 0, none⟩ = some (.bool rb.s) ∧ W.cell? ⟨gb, 1, none⟩ = some (.slice rb.a rb.n rb.c) ∧ W.cell? ⟨gb, 2, none⟩ = some (.slice rb.b rb.m rb.d) ∧ W.cell? ⟨b0, off + k * 7, none⟩ = some (.bool x.on) ∧ W.cell? ⟨b0, off + k * 7 + 1, none⟩ = some (.bool x.v.s) ∧ W.cell? ⟨b0, off + k * 7 + 2, none⟩ = some (.slice x.v.a x.v.n x.v.c) ∧ W.cell? ⟨b0, off + k * 7 + 3, none⟩ = some (.slice x.v.b x.v.m x.v.d) ∧ W.cell? ⟨b0, off + k * 7 + 4, none⟩ = some (.bool x.z.s) ∧ W.cell? ⟨b0, off + k * 7 + 5, none⟩ = some (.slice x.z.a x.z.n x.z.c) ∧ W.cell? ⟨b0, off + k * 7 + 6, none⟩ = some (.slice x.z.b x.z.m x.z.d) ∧ W.cell? ⟨w.heap.size, 0, none⟩ = some (.bool r.s) ∧ W.cell? ⟨w.heap.size, 1, none⟩ = some (.slice r.a r.n r.c) ∧ W.cell? ⟨w.heap.size, 2, none⟩ = some (.slice r.b r.m r.d) from ⟨(hb.cell (p := ⟨g, k, none⟩) HGP.out).trans HPC.out, (hb.cell (p := ⟨gq, oq + k, none⟩) HGQ.out).trans HQC.out, (HKa.out.later hb).cell 0 rfl, (HKa.out.later hb).cell 1 rfl, (HKa.out.later hb).cell 2 rfl, (HKb.out.later hb).cell 0 rfl, (HKb.out.later hb).cell 1 rfl, (HKb.out.later hb).cell 2 rfl, (HAT.out.later HBX.out hb).c0, (HAT.out.later HBX.out hb).c1, (HAT.out.later HBX.out hb).c2, (HAT.out.later HBX.out hb).c3, (HAT.out.later HBX.out hb).c4, (HAT.out.later HBX.out hb).c5, (HAT.out.later HBX.out hb).c6, (HKD.out.later hb).cell 0 rfl, (HKD.out.later hb).cell 1 rfl, (HKD.out.later hb).cell 2 rfl⟩))
          have HBd := Lib.hid (Below.refl W8.heap.size W8).drew
          clear hga hgb hbr
          refine wp_region_held_drew (S := fun w' => w'.cell? ⟨g, k, none⟩ = some (.bool P) ∧ w'.cell? ⟨gq, oq + k, none⟩ = some (.bool P) ∧ w'.cell? ⟨ga, 0, none⟩ = some (.bool ra.s) ∧ w'.cell? ⟨ga, 1, none⟩ = some (.slice ra.a ra.n ra.c) ∧ w'.cell? ⟨ga, 2, none⟩ = some (.slice ra.b ra.m ra.d) ∧ w'.cell? ⟨gb, 0, none⟩ = some (.bool rb.s) ∧ w'.cell? ⟨gb, 1, none⟩ = some (.slice rb.a rb.n rb.c) ∧ w'.cell? ⟨gb, 2, none⟩ = some (.slice rb.b rb.m rb.d) ∧ w'.cell? ⟨b0, off + k * 7, none⟩ = some (.bool x.on) ∧ w'.cell? ⟨b0, off + k * 7 + 1, none⟩ = some (.bool x.v.s) ∧ w'.cell? ⟨b0, off + k * 7 + 2, none⟩ = some (.slice x.v.a x.v.n x.v.c) ∧ w'.cell? ⟨b0, off + k * 7 + 3, none⟩ = some (.slice x.v.b x.v.m x.v.d) ∧ w'.cell? ⟨b0, off + k * 7 + 4, none⟩ = some (.bool x.z.s) ∧ w'.cell? ⟨b0, off + k * 7 + 5, none⟩ = some (.slice x.z.a x.z.n x.z.c) ∧ w'.cell? ⟨b0, off + k * 7 + 6, none⟩ = some (.slice x.z.b x.z.m x.z.d) ∧ w'.cell? ⟨w.heap.size, 0, none⟩ = some (.bool r.s) ∧ w'.cell? ⟨w.heap.size, 1, none⟩ = some (.slice r.a r.n r.c) ∧ w'.cell? ⟨w.heap.size, 2, none⟩ = some (.slice r.b r.m r.d)) (by kernel_rfl) (HSS.out _ HBd.out) (fun hHeld => ?_)
          refine takeH 0 80 ?_ (by kernel_rfl) (by kernel_rfl) (by kernel_rfl) (by kernel_rfl) (fun _ _ _ h => h) (by kernel_rfl) (fun o ho w hSw => ?_) (by assumption) ?_
          rotate_left
          · (simp only [List.getElem?_toArray, List.getElem?_cons_succ, List.getElem?_cons_zero, Option.some.injEq] at ho; subst ho; (try dsimp only at hSw); go_simp; try with_reducible rfl)
          try simp only [Act.put, List.setIfInBounds_toArray, List.set_cons_zero, List.set_cons_succ]
          refine takeH 1 81 ?_ (by kernel_rfl) (by kernel_rfl) (by kernel_rfl) (by kernel_rfl) (fun _ _ _ h => h) (by kernel_rfl) (fun o ho w hSw => ?_) (by assumption) ?_
          rotate_left
          · (simp only [List.getElem?_toArray, List.getElem?_cons_succ, List.getElem?_cons_zero, Option.some.injEq] at ho; subst ho; (try dsimp only at hSw); go_simp; try with_reducible rfl)
          try simp only [Act.put, List.setIfInBounds_toArray, List.set_cons_zero, List.set_cons_succ]
          refine takeH 2 82 ?_ (by kernel_rfl) (by kernel_rfl) (by kernel_rfl) (by kernel_rfl) (fun _ _ _ h => h) (by kernel_rfl) (fun o ho w hSw => ?_) (by assumption) ?_
          rotate_left
          · (simp only [List.getElem?_toArray, List.getElem?_cons_succ, List.getElem?_cons_zero, Option.some.injEq] at ho; subst ho; (try dsimp only at hSw); go_simp; try with_reducible rfl)
          try simp only [Act.put, List.setIfInBounds_toArray, List.set_cons_zero, List.set_cons_succ]
          refine takeH 3 83 ?_ (by kernel_rfl) (by kernel_rfl) (by kernel_rfl) (by kernel_rfl) (fun _ _ _ h => h) (by kernel_rfl) (fun o ho w hSw => ?_) (by assumption) ?_
          rotate_left
          · (simp only [List.getElem?_toArray, List.getElem?_cons_succ, List.getElem?_cons_zero, Option.some.injEq] at ho; subst ho; (try dsimp only at hSw); go_simp; try with_reducible rfl)
          try simp only [Act.put, List.setIfInBounds_toArray, List.set_cons_zero, List.set_cons_succ]
          refine takeH 4 84 ?_ (by kernel_rfl) (by kernel_rfl) (by kernel_rfl) (by kernel_rfl) (fun _ _ _ h => h) (by kernel_rfl) (fun o ho w hSw => ?_) (by assumption) ?_
          rotate_left
          · (simp only [List.getElem?_toArray, List.getElem?_cons_succ, List.getElem?_cons_zero, Option.some.injEq] at ho; subst ho; (try dsimp only at hSw); go_simp; try with_reducible rfl)
          try simp only [Act.put, List.setIfInBounds_toArray, List.set_cons_zero, List.set_cons_succ]
          refine takeH 5 85 ?_ (by kernel_rfl) (by kernel_rfl) (by kernel_rfl) (by kernel_rfl) (fun _ _ _ h => h) (by kernel_rfl) (fun o ho w hSw => ?_) (by assumption) ?_
          rotate_left
          · (simp only [List.getElem?_toArray, List.getElem?_cons_succ, List.getElem?_cons_zero, Option.some.injEq] at ho; subst ho; (try dsimp only at hSw); go_simp; try with_reducible rfl)
          try simp only [Act.put, List.setIfInBounds_toArray, List.set_cons_zero, List.set_cons_succ]
          refine takeH 6 86 ?_ (by kernel_rfl) (by kernel_rfl) (by kernel_rfl) (by kernel_rfl) (fun _ _ _ h => h) (by kernel_rfl) (fun o ho w hSw => ?_) (by assumption) ?_
          rotate_left
          · (simp only [List.getElem?_toArray, List.getElem?_cons_succ, List.getElem?_cons_zero, Option.some.injEq] at ho; subst ho; (try dsimp only at hSw); go_simp; try with_reducible rfl)
          try simp only [Act.put, List.setIfInBounds_toArray, List.set_cons_zero, List.set_cons_succ]
          refine takeH 7 87 ?_ (by kernel_rfl) (by kernel_rfl) (by kernel_rfl) (by kernel_rfl) (fun _ _ _ h => h) (by kernel_rfl) (fun o ho w hSw => ?_) (by assumption) ?_
          rotate_left
          · (simp only [List.getElem?_toArray, List.getElem?_cons_succ, List.getElem?_cons_zero, Option.some.injEq] at ho; subst ho; (try dsimp only at hSw); go_simp; try with_reducible rfl)
          try simp only [Act.put, List.setIfInBounds_toArray, List.set_cons_zero, List.set_cons_succ]
          refine takeH 8 88 ?_ (by kernel_rfl) (by kernel_rfl) (by kernel_rfl) (by kernel_rfl) (fun _ _ _ h => h) (by kernel_rfl) (fun o ho w hSw => ?_) (by assumption) ?_
          rotate_left
          · (simp only [List.getElem?_toArray, List.getElem?_cons_succ, List.getElem?_cons_zero, Option.some.injEq] at ho; subst ho; (try dsimp only at hSw); go_simp; try with_reducible rfl)
          try simp only [Act.put, List.setIfInBounds_toArray, List.set_cons_zero, List.set_cons_succ]
          refine takeH 9 89 ?_ (by kernel_rfl) (by kernel_rfl) (by kernel_rfl) (by kernel_rfl) (fun _ _ _ h => h) (by kernel_rfl) (fun o ho w hSw => ?_) (by assumption) ?_
          rotate_left
          · (simp only [List.getElem?_toArray, List.getElem?_cons_succ, List.getElem?_cons_zero, Option.some.injEq] at ho; subst ho; (try dsimp only at hSw); go_simp; try with_reducible rfl)
          try simp only [Act.put, List.setIfInBounds_toArray, List.set_cons_zero, List.set_cons_succ]
          refine takeH 10 90 ?_ (by kernel_rfl) (by kernel_rfl) (by kernel_rfl) (by kernel_rfl) (fun _ _ _ h => h) (by kernel_rfl) (fun o ho w hSw => ?_) (by assumption) ?_
          rotate_left
          · (simp only [List.getElem?_toArray, List.getElem?_cons_succ, List.getElem?_cons_zero, Option.some.injEq] at ho; subst ho; (try dsimp only at hSw); go_simp; try with_reducible rfl)
          try simp only [Act.put, List.setIfInBounds_toArray, List.set_cons_zero, List.set_cons_succ]
          refine takeH 11 91 ?_ (by kernel_rfl) (by kernel_rfl) (by kernel_rfl) (by kernel_rfl) (fun _ _ _ h => h) (by kernel_rfl) (fun o ho w hSw => ?_) (by assumption) ?_
          rotate_left
          · (simp only [List.getElem?_toArray, List.getElem?_cons_succ, List.getElem?_cons_zero, Option.some.injEq] at ho; subst ho; (try dsimp only at hSw); go_simp; try with_reducible rfl)
          try simp only [Act.put, List.setIfInBounds_toArray, List.set_cons_zero, List.set_cons_succ]
          refine takeH 12 92 ?_ (by kernel_rfl) (by kernel_rfl) (by kernel_rfl) (by kernel_rfl) (fun _ _ _ h => h) (by kernel_rfl) (fun o ho w hSw => ?_) (by assumption) ?_
          rotate_left
          · (simp only [List.getElem?_toArray, List.getElem?_cons_succ, List.getElem?_cons_zero, Option.some.injEq] at ho; subst ho; (try dsimp only at hSw); go_simp; try with_reducible rfl)
          try simp only [Act.put, List.setIfInBounds_toArray, List.set_cons_zero, List.set_cons_succ]
          refine takeH 13 93 ?_ (by kernel_rfl) (by kernel_rfl) (by kernel_rfl) (by kernel_rfl) (fun _ _ _ h => h) (by kernel_rfl) (fun o ho w hSw => ?_) (by assumption) ?_
          rotate_left
          · (simp only [List.getElem?_toArray, List.getElem?_cons_succ, List.getElem?_cons_zero, Option.some.injEq] at ho; subst ho; (try dsimp only at hSw); go_simp; try with_reducible rfl)
          try simp only [Act.put, List.setIfInBounds_toArray, List.set_cons_zero, List.set_cons_succ]
          refine takeH 14 94 ?_ (by kernel_rfl) (by kernel_rfl) (by kernel_rfl) (by kernel_rfl) (fun _ _ _ h => h) (by kernel_rfl) (fun o ho w hSw => ?_) (by assumption) ?_
          rotate_left
          · (simp only [List.getElem?_toArray, List.getElem?_cons_succ, List.getElem?_cons_zero, Option.some.injEq] at ho; subst ho; (try dsimp only at hSw); go_simp; try with_reducible rfl)
          try simp only [Act.put, List.setIfInBounds_toArray, List.set_cons_zero, List.set_cons_succ]
          refine takeH 15 95 ?_ (by kernel_rfl) (by kernel_rfl) (by kernel_rfl) (by kernel_rfl) (fun _ _ _ h => h) (by kernel_rfl) (fun o ho w hSw => ?_) (by assumption) ?_
          rotate_left
          · (simp only [List.getElem?_toArray, List.getElem?_cons_succ, List.getElem?_cons_zero, Option.some.injEq] at ho; subst ho; (try dsimp only at hSw); go_simp; try with_reducible rfl)
          try simp only [Act.put, List.setIfInBounds_toArray, List.set_cons_zero, List.set_cons_succ]
          refine takeH 16 96 ?_ (by kernel_rfl) (by kernel_rfl) (by kernel_rfl) (by kernel_rfl) (fun _ _ _ h => h) (by kernel_rfl) (fun o ho w hSw => ?_) (by assumption) ?_
          rotate_left
          · (simp only [List.getElem?_toArray, List.getElem?_cons_succ, List.getElem?_cons_zero, Option.some.injEq] at ho; subst ho; (try dsimp only at hSw); go_simp; try with_reducible rfl)
          try simp only [Act.put, List.setIfInBounds_toArray, List.set_cons_zero, List.set_cons_succ]
          refine takeH 17 97 ?_ (by kernel_rfl) (by kernel_rfl) (by kernel_rfl) (by kernel_rfl) (fun _ _ _ h => h) (by kernel_rfl) (fun o ho w hSw => ?_) (by assumption) ?_
          rotate_left
          · (simp only [List.getElem?_toArray, List.getElem?_cons_succ, List.getElem?_cons_zero, Option.some.injEq] at ho; subst ho; (try dsimp only at hSw); go_simp; try with_reducible rfl)
          try simp only [Act.put, List.setIfInBounds_toArray, List.set_cons_zero, List.set_cons_succ]
          refine takeH 18 98 ?_ (by kernel_rfl) (by kernel_rfl) (by kernel_rfl) (by kernel_rfl) (fun _ _ _ h => h) (by kernel_rfl) (fun o ho w hSw => ?_) (by assumption) ?_
          rotate_left
          · (simp only [List.getElem?_toArray, List.getElem?_cons_succ, List.getElem?_cons_zero, Option.some.injEq] at ho; subst ho; (try dsimp only at hSw); go_simp; try with_reducible rfl)
          try simp only [Act.put, List.setIfInBounds_toArray, List.set_cons_zero, List.set_cons_succ]
          refine callH 19 (by kernel_rfl) (by kernel_rfl) (fun o ho K hK => ?_)
          simp only [List.getElem?_toArray, List.getElem?_cons_succ, List.getElem?_cons_zero, Option.some.injEq] at ho; subst ho
          rw [if_pos (by rfl)]
          go_simp
          go_at_call 10
          with_reducible refine (rsame_v (HTa.out.later HBd.out) (HTb.out.later HBd.out) (by omega) (by omega) (by omega) (by omega)).mono ?_
          rintro e x1 ⟨rfl, hb⟩
          have HB1 := Lib.hid (HBd.out.trans (hb.mono HBd.out.size))
          clear hb
          refine hK.out _ _ (HSS.out _ HB1.out) (fun hHeld => ?_)
          clear hK K
          try simp only [Act.put, List.setIfInBounds_toArray, List.set_cons_zero, List.set_cons_succ]
          refine takeH 20 100 ?_ (by kernel_rfl) (by kernel_rfl) (by kernel_rfl) (by kernel_rfl) (fun _ _ _ h => h) (by kernel_rfl) (fun o ho w hSw => ?_) (by assumption) ?_
          rotate_left
          · (simp only [List.getElem?_toArray, List.getElem?_cons_succ, List.getElem?_cons_zero, Option.some.injEq] at ho; subst ho; (try dsimp only at hSw); go_simp; try with_reducible rfl)
          try simp only [Act.put, List.setIfInBounds_toArray, List.set_cons_zero, List.set_cons_succ]
          refine takeH 21 101 ?_ (by kernel_rfl) (by kernel_rfl) (by kernel_rfl) (by kernel_rfl) (fun _ _ _ h => h) (by kernel_rfl) (fun o ho w hSw => ?_) (by assumption) ?_
          rotate_left
          · (simp only [List.getElem?_toArray, List.getElem?_cons_succ, List.getElem?_cons_zero, Option.some.injEq] at ho; subst ho; (try dsimp only at hSw); go_simp; try with_reducible rfl)
          try simp only [Act.put, List.setIfInBounds_toArray, List.set_cons_zero, List.set_cons_succ]
          refine takeH 22 102 ?_ (by kernel_rfl) (by kernel_rfl) (by kernel_rfl) (by kernel_rfl) (fun _ _ _ h => h) (by kernel_rfl) (fun o ho w hSw => ?_) (by assumption) ?_
          rotate_left
          · (simp only [List.getElem?_toArray, List.getElem?_cons_succ, List.getElem?_cons_zero, Option.some.injEq] at ho; subst ho; (try dsimp only at hSw); go_simp; try with_reducible rfl)
          try simp only [Act.put, List.setIfInBounds_toArray, List.set_cons_zero, List.set_cons_succ]
          refine takeH 23 103 ?_ (by kernel_rfl) (by kernel_rfl) (by kernel_rfl) (by kernel_rfl) (fun _ _ _ h => h) (by kernel_rfl) (fun o ho w hSw => ?_) (by assumption) ?_
          rotate_left
          · (simp only [List.getElem?_toArray, List.getElem?_cons_succ, List.getElem?_cons_zero, Option.some.injEq] at ho; subst ho; (try dsimp only at hSw); go_simp; try with_reducible rfl)
          try simp only [Act.put, List.setIfInBounds_toArray, List.set_cons_zero, List.set_cons_succ]
          refine takeH 24 104 ?_ (by kernel_rfl) (by kernel_rfl) (by kernel_rfl) (by kernel_rfl) (fun _ _ _ h => h) (by kernel_rfl) (fun o ho w hSw => ?_) (by assumption) ?_
          rotate_left
          · (simp only [List.getElem?_toArray, List.getElem?_cons_succ, List.getElem?_cons_zero, Option.some.injEq] at ho; subst ho; (try dsimp only at hSw); go_simp; try with_reducible rfl)
          try simp only [Act.put, List.setIfInBounds_toArray, List.set_cons_zero, List.set_cons_succ]
          refine takeH 25 105 ?_ (by kernel_rfl) (by kernel_rfl) (by kernel_rfl) (by kernel_rfl) (fun _ _ _ h => h) (by kernel_rfl) (fun o ho w hSw => ?_) (by assumption) ?_
          rotate_left
          · (simp only [List.getElem?_toArray, List.getElem?_cons_succ, List.getElem?_cons_zero, Option.some.injEq] at ho; subst ho; (try dsimp only at hSw); go_simp; try with_reducible rfl)
          try simp only [Act.put, List.setIfInBounds_toArray, List.set_cons_zero, List.set_cons_succ]
          refine takeH 26 106 ?_ (by kernel_rfl) (by kernel_rfl) (by kernel_rfl) (by kernel_rfl) (fun _ _ _ h => h) (by kernel_rfl) (fun o ho w hSw => ?_) (by assumption) ?_
          rotate_left
          · (simp only [List.getElem?_toArray, List.getElem?_cons_succ, List.getElem?_cons_zero, Option.some.injEq] at ho; subst ho; (try dsimp only at hSw); go_simp; try with_reducible rfl)
          try simp only [Act.put, List.setIfInBounds_toArray, List.set_cons_zero, List.set_cons_succ]
          refine takeH 27 107 ?_ (by kernel_rfl) (by kernel_rfl) (by kernel_rfl) (by kernel_rfl) (fun _ _ _ h => h) (by kernel_rfl) (fun o ho w hSw => ?_) (by assumption) ?_
          rotate_left
          · (simp only [List.getElem?_toArray, List.getElem?_cons_succ, List.getElem?_cons_zero, Option.some.injEq] at ho; subst ho; (try dsimp only at hSw); go_simp; try with_reducible rfl)
          try simp only [Act.put, List.setIfInBounds_toArray, List.set_cons_zero, List.set_cons_succ]
          refine takeH 28 108 ?_ (by kernel_rfl) (by kernel_rfl) (by kernel_rfl) (by kernel_rfl) (fun _ _ _ h => h) (by kernel_rfl) (fun o ho w hSw => ?_) (by assumption) ?_
          rotate_left
          · (simp only [List.getElem?_toArray, List.getElem?_cons_succ, List.getElem?_cons_zero, Option.some.injEq] at ho; subst ho; (try dsimp only at hSw); go_simp; try with_reducible rfl)
          try simp only [Act.put, List.setIfInBounds_toArray, List.set_cons_zero, List.set_cons_succ]
          refine takeH 30 110 ?_ (by kernel_rfl) (by kernel_rfl) (by kernel_rfl) (by kernel_rfl) (fun _ _ _ h => h) (by kernel_rfl) (fun o ho w hSw => ?_) (by assumption) ?_
          rotate_left
          · (simp only [List.getElem?_toArray, List.getElem?_cons_succ, List.getElem?_cons_zero, Option.some.injEq] at ho; subst ho; (try dsimp only at hSw); go_simp; try with_reducible rfl)
          try simp only [Act.put, List.setIfInBounds_toArray, List.set_cons_zero, List.set_cons_succ]
          refine takeH 31 111 ?_ (by kernel_rfl) (by kernel_rfl) (by kernel_rfl) (by kernel_rfl) (fun _ _ _ h => h) (by kernel_rfl) (fun o ho w hSw => ?_) (by assumption) ?_
          rotate_left
          · (simp only [List.getElem?_toArray, List.getElem?_cons_succ, List.getElem?_cons_zero, Option.some.injEq] at ho; subst ho; (try dsimp only at hSw); go_simp; try with_reducible rfl)
          try simp only [Act.put, List.setIfInBounds_toArray, List.set_cons_zero, List.set_cons_succ]
          refine takeH 32 112 ?_ (by kernel_rfl) (by kernel_rfl) (by kernel_rfl) (by kernel_rfl) (fun _ _ _ h => h) (by kernel_rfl) (fun o ho w hSw => ?_) (by assumption) ?_
          rotate_left
          · (simp only [List.getElem?_toArray, List.getElem?_cons_succ, List.getElem?_cons_zero, Option.some.injEq] at ho; subst ho; (try dsimp only at hSw); go_simp; try with_reducible rfl)
          try simp only [Act.put, List.setIfInBounds_toArray, List.set_cons_zero, List.set_cons_succ]
          refine takeH 33 113 ?_ (by kernel_rfl) (by kernel_rfl) (by kernel_rfl) (by kernel_rfl) (fun _ _ _ h => h) (by kernel_rfl) (fun o ho w hSw => ?_) (by assumption) ?_
          rotate_left
          · (simp only [List.getElem?_toArray, List.getElem?_cons_succ, List.getElem?_cons_zero, Option.some.injEq] at ho; subst ho; (try dsimp only at hSw); go_simp; try with_reducible rfl)
          try simp only [Act.put, List.setIfInBounds_toArray, List.set_cons_zero, List.set_cons_succ]
          refine takeH 34 114 ?_ (by kernel_rfl) (by kernel_rfl) (by kernel_rfl) (by kernel_rfl) (fun _ _ _ h => h) (by kernel_rfl) (fun o ho w hSw => ?_) (by assumption) ?_
          rotate_left
          · (simp only [List.getElem?_toArray, List.getElem?_cons_succ, List.getElem?_cons_zero, Option.some.injEq] at ho; subst ho; (try dsimp only at hSw); go_simp; try with_reducible rfl)
          try simp only [Act.put, List.setIfInBounds_toArray, List.set_cons_zero, List.set_cons_succ]
          refine callH 29 (by kernel_rfl) (by kernel_rfl) (fun o ho K hK => ?_)
          simp only [List.getElem?_toArray, List.getElem?_cons_succ, List.getElem?_cons_zero, Option.some.injEq] at ho; subst ho
          rw [if_pos (by rfl)]
          go_simp
          go_at_call 13
          with_reducible refine (lineAt_anyT x.on (HV.out.later HB1.out) (HZ.out.later HB1.out) (HR.out.later HB1.out)).mono ?_
          rintro e x2 ⟨r5, rfl, h5, hb⟩
          have HR5 := Lib.hid h5
          clear h5
          have HB2 := Lib.hid (HB1.out.trans (hb.mono HB1.out.size))
          clear hb
          refine hK.out _ _ (HSS.out _ HB2.out) (fun hHeld => ?_)
          clear hK K
          try simp only [Act.put, List.setIfInBounds_toArray, List.set_cons_zero, List.set_cons_succ]
          refine callH 35 (by kernel_rfl) (by kernel_rfl) (fun o ho K hK => ?_)
          simp only [List.getElem?_toArray, List.getElem?_cons_succ, List.getElem?_cons_zero, Option.some.injEq] at ho; subst ho
          rw [if_pos (by rfl)]
          go_simp
          go_at_call 14
          with_reducible refine (rlineAt_any x.on (HV.out.later HB2.out) (HZ.out.later HB2.out) (HR.out.later HB2.out)).mono ?_
          rintro e x3 ⟨r6, rfl, h6, hb⟩
          have HR6 := Lib.hid h6
          replace HR5 := Lib.hid (HR5.out.later hb)
          clear h6
          have HB3 := Lib.hid (HB2.out.trans (hb.mono HB2.out.size))
          clear hb
          refine hK.out _ _ (HSS.out _ HB3.out) (fun hHeld => ?_)
          clear hK K
          try simp only [Act.put, List.setIfInBounds_toArray, List.set_cons_zero, List.set_cons_succ]
          refine callH 36 (by kernel_rfl) (by kernel_rfl) (fun o ho K hK => ?_)
          simp only [List.getElem?_toArray, List.getElem?_cons_succ, List.getElem?_cons_zero, Option.some.injEq] at ho; subst ho
          rw [if_pos (by rfl)]
          go_simp
          go_at_call 10
          with_reducible refine (rsame_v HR5.out HR6.out (by omega) (by omega) (by omega) (by omega)).mono ?_
          rintro e x4 ⟨rfl, hb⟩
          have HB4 := Lib.hid (HB3.out.trans (hb.mono HB3.out.size))
          clear hb
          refine hK.out _ _ (HSS.out _ HB4.out) (fun hHeld => ?_)
          clear hK K
          try simp only [Act.put, List.setIfInBounds_toArray, List.set_cons_zero, List.set_cons_succ]
          refine takeH 37 117 ?_ (by kernel_rfl) (by kernel_rfl) (by kernel_rfl) (by kernel_rfl) (fun _ _ _ h => h) (by kernel_rfl) (fun o ho w hSw => ?_) (by assumption) ?_
          rotate_left
          · (simp only [List.getElem?_toArray, List.getElem?_cons_succ, List.getElem?_cons_zero, Option.some.injEq] at ho; subst ho; (try dsimp only at hSw); go_simp; try with_reducible rfl)
          try simp only [Act.put, List.setIfInBounds_toArray, List.set_cons_zero, List.set_cons_succ]
          refine takeH 38 118 ?_ (by kernel_rfl) (by kernel_rfl) (by kernel_rfl) (by kernel_rfl) (fun _ _ _ h => h) (by kernel_rfl) (fun o ho w hSw => ?_) (by assumption) ?_
          rotate_left
          · (simp only [List.getElem?_toArray, List.getElem?_cons_succ, List.getElem?_cons_zero, Option.some.injEq] at ho; subst ho; (try dsimp only at hSw); go_simp; try with_reducible rfl)
          try simp only [Act.put, List.setIfInBounds_toArray, List.set_cons_zero, List.set_cons_succ]
          refine wpAnyH_done (by kernel_rfl) ?_ _
          go_wp2_with fail
          go_roundw
          case rel => exact ⟨k + 1, by omega, by go_num, Lib.hid (HB5.out.trans (HB4.out.mono HB5.out.size))⟩
          case measure => simp [intOf]; omega

      · obtain rfl : k = n := by omega
        go_wp2_with (go_at_call 15; (with_reducible refine (awake18 _).mono ?_); rintro e w9 ⟨rfl, hb⟩; have HB9 := Lib.hid (HBr.out.trans (hb.mono HBr.out.size)); clear hb)
        go_ret
        exact ⟨rfl, bthen HB.out HB9.out⟩


end Go.Proofs.YtmoplgfmngohgaaGreat
