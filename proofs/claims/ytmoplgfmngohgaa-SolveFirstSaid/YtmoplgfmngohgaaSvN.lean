/- SolveFirst, its walk. -/
import Derived.Test.YtmoplgfmngohgaaSvNa
import Derived.Deep.DeepCutAuto
import Derived.Deep.RegionHeld3
namespace Go.Proofs.Ytmoplgfmngohgaa
set_option linter.unusedVariables false
set_option linter.unusedSimpArgs false
set_option maxRecDepth 100000
open Go.RowKit Nums

set_option maxHeartbeats 8000000 in
/-- SolveFirst, its walk -/
theorem solveFirst_walk (a : Option Addr) (n c : Nat) (L : List LM) (w : World) (h : LRow w a n c L) :
    Calls Try.prog 4 #[.slice a n c] w fun e w' => e = .returned (.bool true) ∧ Below w.heap.size w w' := by
  have HLN := Lib.hid h.1
  have HL0 := Lib.hid h
  clear h
  go_enter Try.func4, Try.ntmps4
  go_wp2_with (go_at_call 6; (with_reducible refine (few_t _ _ _ L _ HL0.out).mono ?_); rintro e w3 ⟨⟨b, rfl, hf⟩, hb⟩; have HF := Lib.hid hf; have HB := Lib.hid hb; clear hb hf; cases b)
  · go_ret
    exact ⟨rfl, HB.out⟩
  have hF := HF.out (by simp)
  have HN := Lib.hid hF.1
  have HSH := Lib.hid hF.2
  have HL3 := Lib.hid (HL0.out.later HB.out)
  clear HF hF
  cases hnx : nextM L with
  | none =>
    have HNX := Lib.hid hnx
    have HNXT := Lib.hid (next_t a n c L w3 HL3.out HSH.out HN.out)
    rw [hnx] at HNXT
    clear hnx
    go_upto_region 5 with (go_at_call 13; (with_reducible refine HNXT.out.mono ?_); rintro e w4 ⟨rfl, hb⟩; replace HL3 := Lib.hid (HL3.out.later hb); replace HB := Lib.hid (bthen HB.out hb); clear hb)
    have hb4 := below_one w4 (.cells #[.bool false, .slice none 0 0, .slice none 0 0] 26)
    replace HL3 := Lib.hid (HL3.out.later hb4)
    replace HB := Lib.hid (bthen HB.out hb4)
    clear hb4
    generalize w4.alloc (.cells #[.bool false, .slice none 0 0, .slice none 0 0] 26) = Wc at HL3 HB ⊢
    have HL := Lib.hid (fun W (hb : Below Wc.heap.size Wc W) => HL3.out.later hb)
    go_wp2_with fail
    go_loopw [5, 6] (fun s5 s6 wr => ∃ k : Nat, k ≤ n ∧ s6 = .int .i64 k ∧ s5 = .bool false ∧ Hid (Below Wc.heap.size Wc wr)) (fun _ t _ => n - (intOf t).toNat)
    case atStart => exact ⟨0, Nat.zero_le _, rfl, rfl, Lib.hid (Below.refl _ _)⟩
    case round =>
      obtain ⟨k, hk, rfl, rfl, HBr⟩ := hrel
      have hk20 : (k : Int) ≤ 20 := by have := HN.out; omega
      by_cases hlt : k < n
      · obtain ⟨x, hx⟩ : ∃ x, L[k]? = some x := ⟨_, List.getElem?_eq_getElem (by rw [HLN.out]; exact hlt)⟩
        obtain ⟨b0, off, ha, hbB, hat⟩ := (HL.out _ HBr.out).at_ hx
        have HX := Lib.hid hx
        have HMX := Lib.hid (List.mem_of_getElem? hx)
        have HSX := Lib.hid (HSH.out x HMX.out)
        have HV := Lib.hid (hat.v.more HSX.out.1 HSX.out.2.1)
        have HZ := Lib.hid (hat.z.more HSX.out.2.2.1 HSX.out.2.2.2)
        subst ha
        obtain ⟨c0, c1, c2, c3, c4, c5, c6, -, -⟩ := hat
        clear hx HSX
        have HPL := Lib.hid (passes_t HV.out HZ.out)
        rw [next_none HNX.out x HMX.out] at HPL
        go_wp2_with (go_at_call 8; (with_reducible refine HPL.out.mono ?_); rintro e w5 ⟨rfl, hb⟩; have HB5 := Lib.hid (HBr.out.trans (hb.mono HBr.out.size)); clear hb)
        go_roundw
        case rel => exact ⟨k + 1, by omega, by go_num, rfl, Lib.hid (HB5.out.alloc HB5.out.size _)⟩
        case measure => simp [intOf]; omega
      · obtain rfl : k = n := by omega
        go_wp2_with (go_at_call 10; (with_reducible refine (awake18 _).mono ?_); rintro e w6 ⟨rfl, hb⟩; have HB6 := Lib.hid (HBr.out.trans (hb.mono HBr.out.size)); clear hb)
        go_ret
        exact ⟨rfl, bthen HB.out HB6.out⟩
  | some t =>
    have HNX := Lib.hid hnx
    have HNXT := Lib.hid (next_t a n c L w3 HL3.out HSH.out HN.out)
    rw [hnx] at HNXT
    clear hnx
    go_upto_region 5 with (go_at_call 13; (with_reducible refine HNXT.out.mono ?_); rintro e w4 ⟨r, rfl, hr, hb⟩; have HT := Lib.hid hr; replace HL3 := Lib.hid (HL3.out.later hb); replace HB := Lib.hid (bthen HB.out hb); clear hb hr)
    have hb4 := below_one w4 (.cells #[.bool r.s, .slice r.a r.n r.c, .slice r.b r.m r.d] 26)
    replace HL3 := Lib.hid (HL3.out.later hb4)
    replace HT := Lib.hid (HT.out.later hb4)
    replace HB := Lib.hid (bthen HB.out hb4)
    have HKT := Lib.hid (Blk.new w4 26 #[.bool r.s, .slice r.a r.n r.c, .slice r.b r.m r.d])
    clear hb4
    generalize w4.alloc (.cells #[.bool r.s, .slice r.a r.n r.c, .slice r.b r.m r.d] 26) = Wc at HL3 HB HT HKT ⊢
    have HL := Lib.hid (fun W (hb : Below Wc.heap.size Wc W) => HL3.out.later hb)
    go_wp2_with fail
    go_loopw [5, 6] (fun s5 s6 wr => ∃ (k : Nat) (b : Bool), k ≤ n ∧ s6 = .int .i64 k ∧ s5 = .bool b ∧ Hid (Below Wc.heap.size Wc wr)) (fun _ t _ => n - (intOf t).toNat)
    case atStart => exact ⟨0, false, Nat.zero_le _, rfl, rfl, Lib.hid (Below.refl _ _)⟩
    case round =>
      obtain ⟨k, b, hk, rfl, rfl, HBr⟩ := hrel
      have hk20 : (k : Int) ≤ 20 := by have := HN.out; omega
      by_cases hlt : k < n
      · obtain ⟨x, hx⟩ : ∃ x, L[k]? = some x := ⟨_, List.getElem?_eq_getElem (by rw [HLN.out]; exact hlt)⟩
        obtain ⟨b0, off, ha, hbB, hat⟩ := (HL.out _ HBr.out).at_ hx
        have HX := Lib.hid hx
        have HMX := Lib.hid (List.mem_of_getElem? hx)
        have HSX := Lib.hid (HSH.out x HMX.out)
        have HV := Lib.hid (hat.v.more HSX.out.1 HSX.out.2.1)
        have HZ := Lib.hid (hat.z.more HSX.out.2.2.1 HSX.out.2.2.2)
        subst ha
        obtain ⟨c0, c1, c2, c3, c4, c5, c6, -, -⟩ := hat
        clear hx HSX
        obtain ⟨t0, t1, t2, -, -, -, -⟩ := (HKT.out.later HBr.out).tri
        have k9 := (HKT.out.later HBr.out).lt
        cases hpl : passL x with
        | none =>
          have HPL := Lib.hid (passes_t HV.out HZ.out)
          rw [hpl] at HPL
          clear hpl
          cases b
          all_goals
            go_wp2_with (go_at_call 8; (with_reducible refine HPL.out.mono ?_); rintro e w5 ⟨rfl, hb⟩; have HB5 := Lib.hid (HBr.out.trans (hb.mono HBr.out.size)); clear hb)
            go_roundw
            case rel => exact ⟨k + 1, _, by omega, by go_num, rfl, Lib.hid (HB5.out.alloc HB5.out.size _)⟩
            case measure => simp [intOf]; omega
        | some u =>
          have HPL := Lib.hid (passes_t HV.out HZ.out)
          rw [hpl] at HPL
          obtain ⟨T, hT, hT0, hT1⟩ := cmpR_ge (p := u) (q := t) (by have := (next_least HNX.out).2 x HMX.out u hpl; grind)
          have HCM := Lib.hid hT
          clear hpl hT
          cases b
          all_goals
            go_wp2_with (first
              | (go_at_call 8; (with_reducible refine HPL.out.mono ?_); rintro e w5 ⟨r5, rfl, hr5, hb⟩; have HB5 := Lib.hid (HBr.out.trans (hb.mono HBr.out.size)); have HU := Lib.hid (hr5.later (below_one w5 (.cells #[.bool r5.s, .slice r5.a r5.n r5.c, .slice r5.b r5.m r5.d] 26))); have HB6 := Lib.hid (HB5.out.alloc HB5.out.size (.cells #[.bool r5.s, .slice r5.a r5.n r5.c, .slice r5.b r5.m r5.d] 26)); clear t0 t1 t2 k9; obtain ⟨t0, t1, t2, -, -, -, -⟩ := (HKT.out.later HB5.out).tri; have k9 := (HKT.out.later HB5.out).lt; clear hb hr5)
              | (go_at_call 12; (with_reducible refine (rcmp_v _ HU.out (HT.out.later HB6.out) HCM.out (by omega) (by omega) (by omega) (by omega)).mono ?_); rintro e w7 ⟨rfl, hb⟩; have HB7 := Lib.hid (HB6.out.trans (hb.mono HB6.out.size)); clear hb))
            go_roundw
            case rel => exact ⟨k + 1, _, by omega, by go_num, rfl, HB7⟩
            case measure => simp [intOf]; omega
      · obtain rfl : k = n := by omega
        obtain ⟨t0, t1, t2, -, -, -, -⟩ := (HKT.out.later HBr.out).tri
        go_upto_region 17 with (go_at_call 14; (with_reducible refine (passed_t a _ c L r t _ (HL.out _ HBr.out) (HT.out.later HBr.out) HSH.out HN.out).mono ?_); rintro e w6 ⟨g, rfl, hm, -, hb⟩; have HM6 := Lib.hid hm; have HB6 := Lib.hid (HBr.out.trans (hb.mono HBr.out.size)); clear hm hb)
        clear t0 t1 t2
        go_loopw [10, 11] (fun s10 s11 wr => ∃ (j : Nat) (b : Bool), j ≤ k ∧ s11 = .int .i64 j ∧ s10 = .bool b ∧ Hid (b = (L.take j).any (passedM t)) ∧ Hid (Below w6.heap.size w6 wr)) (fun _ t _ => k - (intOf t).toNat)
        case atStart => exact ⟨0, false, Nat.zero_le _, rfl, rfl, Lib.hid (by simp), Lib.hid (Below.refl _ _)⟩
        case round =>
          obtain ⟨j, b, hj, rfl, rfl, HBB, HBq⟩ := hrel
          have hj20 : (j : Int) ≤ 20 := by have := HN.out; omega
          have HBr2 := Lib.hid (HB6.out.trans (HBq.out.mono HB6.out.size))
          have HM := Lib.hid (MemB.below HM6.out HBq.out HM6.out.lt)
          by_cases hlt2 : j < k
          · obtain ⟨x, hx⟩ : ∃ x, L[j]? = some x := ⟨_, List.getElem?_eq_getElem (by rw [HLN.out]; exact hlt2)⟩
            obtain ⟨b0, off, ha, hbB, hat⟩ := (HL.out _ HBr2.out).at_ hx
            have HX := Lib.hid hx
            have HMX := Lib.hid (List.mem_of_getElem? hx)
            have HSX := Lib.hid (HSH.out x HMX.out)
            have HV := Lib.hid (hat.v.more HSX.out.1 HSX.out.2.1)
            have HZ := Lib.hid (hat.z.more HSX.out.2.2.1 HSX.out.2.2.2)
            have HAT := Lib.hid hat
            subst ha
            obtain ⟨c0, c1, c2, c3, c4, c5, c6, -, -⟩ := hat
            have hlen : j < (L.map (passedM t)).length := by rw [List.length_map, HLN.out]; exact hlt2
            have m0 := HM.out.cell j hlen
            have hg0 : (L.map (passedM t)).getD j false = passedM t x := by rw [List.getD_eq_getElem?_getD, List.getElem?_map, hx]; rfl
            rw [hg0] at m0
            have hnext : (L.take (j + 1)).any (passedM t) = ((L.take j).any (passedM t) || passedM t x) := by rw [List.take_add_one, hx, List.any_append]; simp
            rw [← HBB.out] at hnext
            have HNB := Lib.hid hnext
            obtain ⟨t0, t1, t2, -, -, -, -⟩ := (HKT.out.later HBr2.out).tri
            have HTr := Lib.hid (HT.out.later HBr2.out)
            have HKr := Lib.hid (HKT.out.later HBr2.out)
            have hgl : g < wr.heap.size := HM.out.lt
            have hal : w4.heap.size < wr.heap.size := (HKT.out.later HBr2.out).lt
            clear hx HSX hlen hnext
            cases hpx : passedM t x with
            | false =>
              rw [hpx] at m0 HNB
              clear hpx hg0
              cases b
              all_goals
                go_upto_region 20 with fail
                go_region
                all_goals
                  go_wp2_with fail
                  go_roundw
                  case rel => exact ⟨j + 1, _, by omega, by go_num, rfl, Lib.hid (by rw [HNB.out]; rfl), Lib.hid (HBq.out.trans ((Below.refl _ _).drew.mono HBq.out.size))⟩
                  case measure => simp [intOf]; omega
            | true =>
              have HP0 := Lib.hid (passed_zero HNX.out HMX.out hpx)
              rw [hpx] at m0 HNB hg0
              clear hpx
              rw [HP0.out.1] at c0
              have HSA := Lib.hid (sgn_nil HP0.out.2)
              have hlen2 : j < (L.map (passedM t)).length := by rw [List.length_map, HLN.out]; exact hlt2
              have HG0 := Lib.hid hg0
              clear hg0
              cases b
              all_goals
                go_upto_region 20 with fail
                go_region_held3 (fun w' => w'.cell? ⟨g, j, none⟩ = some (.bool true) ∧ w'.cell? ⟨b0, off + j * 7, none⟩ = some (.bool true) ∧ w'.cell? ⟨b0, off + j * 7 + 1, none⟩ = some (.bool x.v.s) ∧ w'.cell? ⟨b0, off + j * 7 + 2, none⟩ = some (.slice x.v.a x.v.n x.v.c) ∧ w'.cell? ⟨b0, off + j * 7 + 3, none⟩ = some (.slice x.v.b x.v.m x.v.d) ∧ w'.cell? ⟨b0, off + j * 7 + 4, none⟩ = some (.bool x.z.s) ∧ w'.cell? ⟨b0, off + j * 7 + 5, none⟩ = some (.slice x.z.a x.z.n x.z.c) ∧ w'.cell? ⟨b0, off + j * 7 + 6, none⟩ = some (.slice x.z.b x.z.m x.z.d) ∧ w'.cell? ⟨w4.heap.size, 0, none⟩ = some (.bool r.s) ∧ w'.cell? ⟨w4.heap.size, 1, none⟩ = some (.slice r.a r.n r.c) ∧ w'.cell? ⟨w4.heap.size, 2, none⟩ = some (.slice r.b r.m r.d))
                  (first | (refine ⟨?_, ?_, ?_, ?_, ?_, ?_, ?_, ?_, ?_, ?_, ?_⟩ <;> with_reducible assumption) | (go_keep; done))
                  (first
                    | (have mk := G1; clear mk
                       go_at_call 9
                       refine (rsign_v (r := a) _ HA.out HSA.out (by omega) (by omega)).mono ?_
                       rintro e v2 ⟨rfl, hb⟩
                       replace HAT := Lib.hid (HAT.out.later hbB hb)
                       replace HM := Lib.hid (MemB.below HM.out hb HM.out.lt); replace HKr := Lib.hid (HKr.out.later hb); replace HBq := Lib.hid (HBq.out.trans (hb.mono HBq.out.size)); replace hbB : b0 < v2.heap.size := Nat.lt_of_lt_of_le hbB hb.size; clear m0 c0 c1 c2 c3 c4 c5 c6 t0 t1 t2 hgl hal; have m0 := HM.out.cell j hlen2; rw [HG0.out] at m0; have hgl : g < v2.heap.size := HM.out.lt; have hal := HKr.out.lt; obtain ⟨c0, c1, c2, c3, c4, c5, c6, -, -⟩ := HAT.out; rw [HP0.out.1] at c0; obtain ⟨t0, t1, t2, -, -, -, -⟩ := HKr.out.tri
                       have G2 : Hid True := trivial)
                    | (go_at_call 11
                       refine (at_on 4 4 4 4 8 8 17 16 (HV.out.later (by first | exact Below.refl _ _ | exact (Below.refl _ _).drew)) (HZ.out.later (by first | exact Below.refl _ _ | exact (Below.refl _ _).drew)) (HTr.out.later (by first | exact Below.refl _ _ | exact (Below.refl _ _).drew)) (by omega) (by omega) (by omega) (by omega) (by omega) (by omega) (by omega)).mono ?_
                       rintro e v1 ⟨a, rfl, ha, hb0⟩
                       have hb : Below wr.heap.size wr v1 := bthen (by first | exact Below.refl _ _ | exact (Below.refl _ _).drew) hb0
                       replace HAT := Lib.hid (HAT.out.later hbB hb)
                       replace HM := Lib.hid (MemB.below HM.out hb HM.out.lt); replace HKr := Lib.hid (HKr.out.later hb); replace HBq := Lib.hid (HBq.out.trans (hb.mono HBq.out.size)); replace hbB : b0 < v1.heap.size := Nat.lt_of_lt_of_le hbB hb.size; clear m0 c0 c1 c2 c3 c4 c5 c6 t0 t1 t2 hgl hal; have m0 := HM.out.cell j hlen2; rw [HG0.out] at m0; have hgl : g < v1.heap.size := HM.out.lt; have hal := HKr.out.lt; obtain ⟨c0, c1, c2, c3, c4, c5, c6, -, -⟩ := HAT.out; rw [HP0.out.1] at c0; obtain ⟨t0, t1, t2, -, -, -, -⟩ := HKr.out.tri
                       have HA := Lib.hid ha
                       clear hb hb0 ha
                       have G1 : Hid True := trivial))
                all_goals
                  go_wp2_with fail
                  go_roundw
                  case rel => exact ⟨j + 1, _, by omega, by go_num, rfl, Lib.hid (by rw [HNB.out]; rfl), HBq⟩
                  case measure => simp [intOf]; omega
          · obtain rfl : j = k := by omega
            have hb : b = true := by
              rw [HBB.out, List.take_of_length_le (by rw [HLN.out]; exact Nat.le_refl _)]
              obtain ⟨x, hx, hp⟩ := passed_some HNX.out
              exact List.any_eq_true.2 ⟨x, hx, hp⟩
            subst hb
            go_wp2_with (go_at_call 10; (with_reducible refine (awake18 _).mono ?_); rintro e w7 ⟨rfl, hb⟩; have HB7 := Lib.hid (HBr2.out.trans (hb.mono HBr2.out.size)); clear hb)
            go_ret
            exact ⟨rfl, bthen HB.out HB7.out⟩

end Go.Proofs.Ytmoplgfmngohgaa
