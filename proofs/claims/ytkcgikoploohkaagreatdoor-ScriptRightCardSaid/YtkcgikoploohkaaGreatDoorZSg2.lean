/- ScriptRight. -/
import Derived.Test.YtkcgikoploohkaaGreatDoorZSg1ToSg3
import Derived.Deep.DeepCutAuto
import Derived.Laws.EntriesVeiled
import Derived.Deep.RegionHeld3
namespace Go.Proofs.YtkcgikoploohkaaGreatDoor
set_option linter.unusedVariables false
set_option linter.unusedSimpArgs false
set_option maxRecDepth 100000
open Go.RowKit Go.Shelf Nums

section
variable {P : Program} {ops : Array Oper} {Q : Exit → Act → World → Prop} {md : Region.Mode} {S : World → Prop}
theorem skipH (i d : Nat) {fuel : Nat} {listed : Array Bool} {a : Act} {w : World} (hd : (ops[i]?).map (·.dst) = some (some d))
    (hs : Region.noSelect ops = true) (hf : Region.free md ops listed i = true) (hr : (Region.ready md ops listed).contains i = true)
    (hQ : ∀ c a w, Q (.panic c) (a.put (some d) undef) w → Q (.panic c) a w) (hw : (ops[i]?).map (fun o => Region.wanted o (yielded ops a.tmps)) = some false) (hS : S w)
    (h : wpAnyH P md ops Q S fuel (listed.setIfInBounds i true) (a.put (some d) undef) w) : wpAnyH P md ops Q S (fuel + 1) listed a w := by
  cases ho : ops[i]? with
  | none => rw [ho] at hd; cases hd
  | some o =>
    rw [ho] at hd hw
    have e1 : o.dst = some d := by simpa using hd
    have e2 : Region.wanted o (yielded ops a.tmps) = false := by simpa using hw
    exact wpAnyH_take (oi := o) (v := undef) ho hs hf hr (by rw [e1]; exact hQ) (Or.inr ⟨e2, rfl⟩) hS (by rw [e1]; exact h)
theorem takeH (i d : Nat) (v : Value) {fuel : Nat} {listed : Array Bool} {a : Act} {w : World} (hd : (ops[i]?).map (·.dst) = some (some d))
    (hs : Region.noSelect ops = true) (hf : Region.free md ops listed i = true) (hr : (Region.ready md ops listed).contains i = true)
    (hQ : ∀ c a w, Q (.panic c) (a.put (some d) v) w → Q (.panic c) a w) (hw : (ops[i]?).map (fun o => Region.wanted o (yielded ops a.tmps)) = some true)
    (hy : ∀ o, ops[i]? = some o → ∀ w, S w → (execOp a.eval o).run P w = .ok (.value v) w) (hS : S w)
    (h : wpAnyH P md ops Q S fuel (listed.setIfInBounds i true) (a.put (some d) v) w) : wpAnyH P md ops Q S (fuel + 1) listed a w := by
  cases ho : ops[i]? with
  | none => rw [ho] at hd; cases hd
  | some o =>
    have h5 := hy o ho
    rw [ho] at hd hw
    have e1 : o.dst = some d := by simpa using hd
    have e2 : Region.wanted o (yielded ops a.tmps) = true := by simpa using hw
    exact wpAnyH_take (oi := o) (v := v) ho hs hf hr (by rw [e1]; exact hQ) (Or.inl ⟨e2, h5⟩) hS (by rw [e1]; exact h)
theorem callH (i : Nat) {fuel : Nat} {listed : Array Bool} {a : Act} {w : World} (hr : Region.ready md ops listed = [i]) (hn : (ops[i]?).isSome = true)
    (h : ∀ o, ops[i]? = some o → ∀ K' : Act → World → Prop, Shut (∀ a w, S w → (S w → wpAnyH P md ops Q S fuel (listed.setIfInBounds i true) a w) → K' a w) → if Region.wanted o (yielded ops a.tmps) = true then Oper.wp P o a w K' Q else K' (a.put o.dst undef) w) : wpAnyH P md ops Q S (fuel + 1) listed a w := by
  refine wpAnyH_ready (rs := [i]) hr (by simp) ?_
  cases ho : ops[i]? with
  | none => rw [ho] at hn; cases hn
  | some o => exact AllReadyH.cons ho (h o ho) AllReadyH.nil
end
theorem sgn_geV {p : Rat} (h : ¬ p < 0) : ∃ T, sgn p.num = T ∧ (T = 0 ∨ T = 1) := by
  rcases sgnR_cases p with ⟨e, _⟩ | ⟨_, e⟩ | ⟨_, e⟩
  · exact absurd e h
  · exact ⟨0, e, .inl rfl⟩
  · exact ⟨1, e, .inr rfl⟩
theorem cmp_leV {p q : Rat} (h : ¬ q < p) : ∃ T, cmpR p q = T ∧ (T = -1 ∨ T = 0) := by
  rcases rat_tri p q with e | e | e
  · exact ⟨-1, cmpR_lt e, .inl rfl⟩
  · exact ⟨0, cmpR_eq e, .inr rfl⟩
  · exact absurd e h
theorem rgt_ok {S : ScT} {ins : List ByteArray} (h : rgtM S ins = true) : okR S.h ins 0 S.ch = true ∧ 0 ≤ S.h := by
  unfold rgtM at h
  rw [Bool.and_eq_true, Bool.and_eq_true, Bool.and_eq_true, Bool.and_eq_true, Bool.and_eq_true] at h
  exact ⟨h.2, of_decide_eq_true h.1.1.1.1.1⟩
set_option maxHeartbeats 8000000 in
theorem scriptRight_walk (v : SV) (h : Rat) (L : List CM) (a : Option Addr) (n c : Nat) (ins : List ByteArray) (w : World) (hg : Gl w) (hv : v.Is h L w) (hc : CameS v L) (hr : SRow w a n c ins) : Calls Tryz.prog 7 #[.agg #[.bool v.h.s, .slice v.h.a v.h.n v.h.c, .slice v.h.b v.h.m v.h.d, .int .i64 v.cas, .int .i64 v.bits, .slice v.a v.n v.c], .slice a n c] w (fun e w' => e = .returned (.bool true) ∧ Below w.heap.size w w') := by
  obtain ⟨W1, hW1⟩ : ∃ W1, W1 = w.alloc (.cells #[.bool v.h.s, .slice v.h.a v.h.n v.h.c, .slice v.h.b v.h.m v.h.d, .int .i64 v.cas, .int .i64 v.bits, .slice v.a v.n v.c] 30) := ⟨_, rfl⟩
  have hb1 : Below w.heap.size w W1 := by rw [hW1]; exact below_one _ _
  have HS := Lib.hid (show SBlk W1 w.heap.size v by rw [hW1]; exact Blk.new _ _ _)
  have HG := Lib.hid (hg.later hb1)
  have HB := Lib.hid hb1
  have HC := Lib.hid hc
  have HV := Lib.hid hv
  have HR := Lib.hid hr
  have HN := Lib.hid hv.c.1
  have H9 := Lib.hid hg.s
  have HW1 := Lib.hid hW1
  have hnm : n ≤ 9223372036854775807 := by have := hr.2.1; have := hr.2.2.1; unfold maxLen at this; omega
  have hcv : v.n ≤ v.c := hv.c.2.1
  have hcm : v.c ≤ 9223372036854775807 := by have := hv.c.2.2.1; unfold maxLen at this; omega
  clear hW1 hb1 hg hv hc hr
  obtain ⟨p0, p1, p2, p3, p4, p5⟩ := HS.out.cells
  go_enter Tryz.func7, Tryz.ntmps7
  go_upto_region 1 with fail
  rw [← HW1.out]; clear HW1
  by_cases hn0 : 20 < n
  · have hn1 : (20 : Int) < (n : Int) := by omega
    go_wp2_with (go_at_call 12; (with_reducible refine (few_t v h L _ (HV.out.later HB.out) HC.out.h HC.out.c).mono ?_); rintro e w1 ⟨⟨b, rfl, hf⟩, hb⟩; replace HS := Lib.hid (SBlk.later HS.out hb); replace HG := Lib.hid (Gl.later HG.out hb); replace HB := Lib.hid (bthen HB.out hb); clear hf hb; cases b)
    all_goals
      go_ret
      exact ⟨rfl, HB.out⟩
  have hn1 : ¬ (20 : Int) < (n : Int) := by omega
  have hn20 : n ≤ 20 := by omega
  clear hn0 hnm
  go_wp2_with (go_at_call 12; (with_reducible refine (few_t v h L _ (HV.out.later HB.out) HC.out.h HC.out.c).mono ?_); rintro e w1 ⟨⟨b, rfl, hf⟩, hb⟩; replace HS := Lib.hid (SBlk.later HS.out hb); replace HG := Lib.hid (Gl.later HG.out hb); replace HB := Lib.hid (bthen HB.out hb); clear p0 p1 p2 p3 p4 p5; obtain ⟨p0, p1, p2, p3, p4, p5⟩ := HS.out.cells; have HF := Lib.hid hf; clear hf hb; cases b)
  · go_ret
    exact ⟨rfl, HB.out⟩
  · have HFW := Lib.hid (HF.out (by first | rfl | trivial))
    clear HF
    have HM := Lib.hid (show (v.h.n ≤ 8 ∧ v.h.m ≤ 8) ∧ ∀ x ∈ L, x.t.n ≤ 8 ∧ x.t.m ≤ 8 ∧ x.v.n ≤ 8 ∧ x.v.m ≤ 8 ∧ x.nm.size ≤ 200 from by
      obtain ⟨f1, f2, f3⟩ := HFW.out
      unfold RV.Sh at f2
      refine ⟨⟨by omega, by omega⟩, fun x hx => ?_⟩
      obtain ⟨g1, g2, g3⟩ := f3 x hx
      unfold RV.Sh at g1 g2
      omega)
    cases ho : rgtM ⟨h, v.cas, v.bits, L.map CM.told⟩ ins with
    | false =>
      have HO := Lib.hid ho
      clear ho
      go_wp2_with (first
        | (go_at_call 15; (with_reducible refine (right_t v h L a n c ins _ (HV.out.later HB.out) (HR.out.later HB.out) ⟨by have := HM.out.1; omega, by have := HM.out.1; omega⟩ (fun x hx => by have := HM.out.2 x hx; omega)).mono ?_); rw [HO.out]; rintro e w2 ⟨rfl, hb⟩; replace HS := Lib.hid (SBlk.later HS.out hb); replace HG := Lib.hid (Gl.later HG.out hb); replace HB := Lib.hid (bthen HB.out hb); clear hb)
        | (go_at_call 11; (with_reducible refine (awake_t _ HG.out).mono ?_); rintro e w3 ⟨rfl, hb⟩; replace HB := Lib.hid (bthen HB.out hb); clear hb))
      go_ret
      exact ⟨rfl, HB.out⟩
    | true =>
      have HO := Lib.hid ho
      clear ho
      go_upto_region 6 with (go_at_call 15; (with_reducible refine (right_t v h L a n c ins _ (HV.out.later HB.out) (HR.out.later HB.out) ⟨by have := HM.out.1; omega, by have := HM.out.1; omega⟩ (fun x hx => by have := HM.out.2 x hx; omega)).mono ?_); rw [HO.out]; rintro e w2 ⟨rfl, hb⟩; replace HS := Lib.hid (SBlk.later HS.out hb); replace HG := Lib.hid (Gl.later HG.out hb); replace HB := Lib.hid (bthen HB.out hb); clear p0 p1 p2 p3 p4 p5; obtain ⟨p0, p1, p2, p3, p4, p5⟩ := HS.out.cells; clear hb)
      have hn30 : v.n ≤ 30 := HFW.out.1
      clear HFW
      have HOK := Lib.hid (show okR h ins 0 (L.map CM.told) = true ∧ 0 ≤ h from rgt_ok HO.out)
      have MH := Lib.hid (show v.h.n ≤ 20 ∧ v.h.m ≤ 20 from ⟨Nat.le_trans HM.out.1.1 (by decide), Nat.le_trans HM.out.1.2 (by decide)⟩)
      go_loopw [5] (fun t wr => ∃ k : Nat, k ≤ v.n ∧ t = .int .i64 k ∧ Hid (SBlk wr w.heap.size v) ∧ Hid (Gl wr) ∧ Hid (Below w.heap.size w wr)) (fun t _ => v.n - (intOf t).toNat)
      case atStart => exact ⟨0, Nat.zero_le _, rfl, HS, HG, HB⟩
      case round =>
        obtain ⟨k, hk, rfl, HTS, HTG, HTB⟩ := hrel
        clear HS HG HB p0 p1 p2 p3 p4 p5
        obtain ⟨p0, p1, p2, p3, p4, p5⟩ := HTS.out.cells
        by_cases hlt : k < v.n
        · obtain ⟨x, hx⟩ : ∃ x, L[k]? = some x := ⟨_, List.getElem?_eq_getElem (by rw [HN.out]; exact hlt)⟩
          obtain ⟨b, off, ha, hbB, hat⟩ := HV.out.c.at_ hx
          have hxm := HM.out.2 x (List.mem_of_getElem? hx)
          have HEA := Lib.hid (okR_each (L.map CM.told) 0 HOK.out.1 k x.told (by rw [List.getElem?_map, hx]; rfl))
          obtain ⟨T1, hT1, t1⟩ := sgn_geV (p := x.p) (by have : (0 : Rat) ≤ x.p := HEA.out.1; grind)
          obtain ⟨T2, hT2, t2⟩ := cmp_leV (p := x.p) (q := h) (by have : x.p ≤ h := HEA.out.2.1; grind)
          have HX := Lib.hid (show x.t.Is x.t.n x.t.m x.p w from hat.v)
          have MX := Lib.hid (show x.t.n ≤ 20 ∧ x.t.m ≤ 20 by omega)
          have HC1 := Lib.hid hT1
          have HC2 := Lib.hid hT2
          have HXK := Lib.hid hx
          obtain ⟨c0, c1, c2, -, -, -, -, -, -⟩ := hat.later hbB HTB.out
          obtain ⟨W1, hW1⟩ : ∃ W1, W1 = wr.alloc (.cells #[.bool x.t.s, .slice x.t.a x.t.n x.t.c, .slice x.t.b x.t.m x.t.d] 27) := ⟨_, rfl⟩
          have hb : Below wr.heap.size wr W1 := by rw [hW1]; exact below_one _ _
          have HK := Lib.hid (show Blk W1 wr.heap.size 27 #[.bool x.t.s, .slice x.t.a x.t.n x.t.c, .slice x.t.b x.t.m x.t.d] by rw [hW1]; exact Blk.new _ _ _)
          replace HTS := Lib.hid (SBlk.later HTS.out hb)
          replace HTG := Lib.hid (Gl.later HTG.out hb)
          replace HTB := Lib.hid (bthen HTB.out hb)
          have HA := Lib.hid ha
          have HW1 := Lib.hid hW1
          have hBw : b < w.heap.size := hbB
          have HBW := Lib.hid hBw
          have HATW := Lib.hid hat
          have d1 : decide (T1 < 0) = false := decide_eq_false (by omega)
          have d2 : decide (0 < T2) = false := decide_eq_false (by omega)
          clear hT1 hT2 hxm hx hW1 hb hat hbB hBw t1 t2
          go_upto_region 9 with fail
          rw [← HW1.out]; clear HW1 c0 c1 c2 p0 p1 p2 p3 p4 p5 ha
          obtain ⟨q0, q1, q2⟩ := HK.out.three
          obtain ⟨p0, p1, p2, -, -, p5⟩ := HTS.out.cells
          rw [HA.out] at p5
          by_cases hk0 : 0 < k
          · obtain ⟨j, rfl⟩ : ∃ j, k = j + 1 := ⟨k - 1, by omega⟩
            have dk : decide ((0 : Int) < (j : Int) + 1) = true := decide_eq_true (by omega)
            obtain ⟨y, hy⟩ : ∃ y, L[j]? = some y := ⟨_, List.getElem?_eq_getElem (by rw [HN.out]; omega)⟩
            obtain ⟨b', off', ha', hbB', haty⟩ := HV.out.c.at_ hy
            obtain ⟨rfl, rfl⟩ : b = b' ∧ off = off' := by have h9 := HA.out.symm.trans ha'; injection h9 with h9; injection h9 with e1 e2; exact ⟨e1, e2⟩
            have hym := HM.out.2 y (List.mem_of_getElem? hy)
            obtain ⟨T3, hT3, t3⟩ := cmp_leV (p := y.p) (q := x.p) (by have : y.p ≤ x.p := HEA.out.2.2 j y.told (by omega) (by rw [List.getElem?_map, hy]; rfl); grind)
            have d3 : decide (0 < T3) = false := decide_eq_false (by omega)
            have HY := Lib.hid (show y.t.Is y.t.n y.t.m y.p w from haty.v)
            have MY := Lib.hid (show y.t.n ≤ 20 ∧ y.t.m ≤ 20 by omega)
            have HC3 := Lib.hid hT3
            have HYA := Lib.hid haty
            have hw1 : IntKind.i64.wrap ((j : Int) + 1 - 1) = (j : Int) := by rw [IntWalk.i64_in _ (by omega)]; omega
            have hw4 : IntKind.i64.wrap (j : Int) = (j : Int) := IntWalk.i64_in _ (by omega)
            have hw2 : (j : Int) < (v.n : Int) := by omega
            have hw3 : (0 : Int) ≤ (j : Int) := by omega
            clear hT3 hym hy ha' hbB' haty t3
            have HP := Lib.hid (show W1.cell? ⟨wr.heap.size, 0, none⟩ = some (.bool x.t.s) ∧ W1.cell? ⟨wr.heap.size, 1, none⟩ = some (.slice x.t.a x.t.n x.t.c) ∧ W1.cell? ⟨wr.heap.size, 2, none⟩ = some (.slice x.t.b x.t.m x.t.d) ∧ W1.cell? ⟨w.heap.size, 0, none⟩ = some (.bool v.h.s) ∧ W1.cell? ⟨w.heap.size, 1, none⟩ = some (.slice v.h.a v.h.n v.h.c) ∧ W1.cell? ⟨w.heap.size, 2, none⟩ = some (.slice v.h.b v.h.m v.h.d) ∧ W1.cell? ⟨w.heap.size, 5, none⟩ = some (.slice (some ⟨b, off, none⟩) v.n v.c) ∧ W1.cell? ⟨b, off + j * 7, none⟩ = some (.bool y.t.s) ∧ W1.cell? ⟨b, off + j * 7 + 1, none⟩ = some (.slice y.t.a y.t.n y.t.c) ∧ W1.cell? ⟨b, off + j * 7 + 2, none⟩ = some (.slice y.t.b y.t.m y.t.d) from by (obtain ⟨q0, q1, q2⟩ := HK.out.three; obtain ⟨p0, p1, p2, -, -, p5⟩ := HTS.out.cells; obtain ⟨c0, c1, c2, -, -, -, -, -, -⟩ := HYA.out.later HBW.out HTB.out; rw [HA.out] at p5; exact ⟨q0, q1, q2, p0, p1, p2, p5, c0, c1, c2⟩))
            clear q0 q1 q2 p0 p1 p2 p5
            go_wp2_with fail
            replace HK := Lib.hid (Blk.later HK.out (Below.refl _ _).drew)
            replace HTS := Lib.hid (SBlk.later HTS.out (Below.refl _ _).drew)
            replace HTG := Lib.hid (Gl.later HTG.out (Below.refl _ _).drew)
            replace HTB := Lib.hid (HTB.out.drew)
            refine wp_region_held_drew (S := fun w' => w'.cell? ⟨wr.heap.size, 0, none⟩ = some (.bool x.t.s) ∧ w'.cell? ⟨wr.heap.size, 1, none⟩ = some (.slice x.t.a x.t.n x.t.c) ∧ w'.cell? ⟨wr.heap.size, 2, none⟩ = some (.slice x.t.b x.t.m x.t.d) ∧ w'.cell? ⟨w.heap.size, 0, none⟩ = some (.bool v.h.s) ∧ w'.cell? ⟨w.heap.size, 1, none⟩ = some (.slice v.h.a v.h.n v.h.c) ∧ w'.cell? ⟨w.heap.size, 2, none⟩ = some (.slice v.h.b v.h.m v.h.d) ∧ w'.cell? ⟨w.heap.size, 5, none⟩ = some (.slice (some ⟨b, off, none⟩) v.n v.c) ∧ w'.cell? ⟨b, off + j * 7, none⟩ = some (.bool y.t.s) ∧ w'.cell? ⟨b, off + j * 7 + 1, none⟩ = some (.slice y.t.a y.t.n y.t.c) ∧ w'.cell? ⟨b, off + j * 7 + 2, none⟩ = some (.slice y.t.b y.t.m y.t.d)) (by kernel_rfl) HP.out (fun hHeld => ?_)
            refine takeH 0 35 ?_ (by kernel_rfl) (by kernel_rfl) (by kernel_rfl) (by kernel_rfl) (fun _ _ _ h => h) (by kernel_rfl) (fun o ho w hSw => ?_) (by assumption) ?_
            rotate_left
            · (simp only [List.getElem?_toArray, List.getElem?_cons_succ, List.getElem?_cons_zero, Option.some.injEq] at ho; subst ho; (try dsimp only at hSw); go_simp; try with_reducible rfl)
            try simp only [Act.put, List.setIfInBounds_toArray, List.set_cons_zero, List.set_cons_succ]
            refine callH 1 (by kernel_rfl) (by kernel_rfl) (fun o ho K hK => ?_)
            simp only [List.getElem?_toArray, List.getElem?_cons_succ, List.getElem?_cons_zero, Option.some.injEq] at ho; subst ho
            rw [if_pos (by rfl)]
            go_simp
            go_at_call 17
            with_reducible refine (rsign_v T1 (HX.out.later HTB.out) HC1.out (Nat.le_trans MX.out.1 (by decide)) (Nat.le_trans MX.out.2 (by decide))).mono ?_
            rintro e w3 ⟨rfl, hb⟩
            replace HK := Lib.hid (Blk.later HK.out hb)
            replace HTS := Lib.hid (SBlk.later HTS.out hb)
            replace HTG := Lib.hid (Gl.later HTG.out hb)
            replace HTB := Lib.hid (bthen HTB.out hb)
            clear hb
            have HP3 := Lib.hid (show w3.cell? ⟨wr.heap.size, 0, none⟩ = some (.bool x.t.s) ∧ w3.cell? ⟨wr.heap.size, 1, none⟩ = some (.slice x.t.a x.t.n x.t.c) ∧ w3.cell? ⟨wr.heap.size, 2, none⟩ = some (.slice x.t.b x.t.m x.t.d) ∧ w3.cell? ⟨w.heap.size, 0, none⟩ = some (.bool v.h.s) ∧ w3.cell? ⟨w.heap.size, 1, none⟩ = some (.slice v.h.a v.h.n v.h.c) ∧ w3.cell? ⟨w.heap.size, 2, none⟩ = some (.slice v.h.b v.h.m v.h.d) ∧ w3.cell? ⟨w.heap.size, 5, none⟩ = some (.slice (some ⟨b, off, none⟩) v.n v.c) ∧ w3.cell? ⟨b, off + j * 7, none⟩ = some (.bool y.t.s) ∧ w3.cell? ⟨b, off + j * 7 + 1, none⟩ = some (.slice y.t.a y.t.n y.t.c) ∧ w3.cell? ⟨b, off + j * 7 + 2, none⟩ = some (.slice y.t.b y.t.m y.t.d) from by (obtain ⟨q0, q1, q2⟩ := HK.out.three; obtain ⟨p0, p1, p2, -, -, p5⟩ := HTS.out.cells; obtain ⟨c0, c1, c2, -, -, -, -, -, -⟩ := HYA.out.later HBW.out HTB.out; rw [HA.out] at p5; exact ⟨q0, q1, q2, p0, p1, p2, p5, c0, c1, c2⟩))
            refine hK.out _ _ HP3.out (fun hHeld => ?_)
            clear hK K
            try simp only [Act.put, List.setIfInBounds_toArray, List.set_cons_zero, List.set_cons_succ]
            refine takeH 2 37 ?_ (by kernel_rfl) (by kernel_rfl) (by kernel_rfl) (by kernel_rfl) (fun _ _ _ h => h) (by kernel_rfl) (fun o ho w hSw => ?_) (by assumption) ?_
            rotate_left
            · (simp only [List.getElem?_toArray, List.getElem?_cons_succ, List.getElem?_cons_zero, Option.some.injEq] at ho; subst ho; (try dsimp only at hSw); go_simp; try with_reducible rfl)
            try simp only [Act.put, List.setIfInBounds_toArray, List.set_cons_zero, List.set_cons_succ]
            refine takeH 3 38 ?_ (by kernel_rfl) (by kernel_rfl) (by kernel_rfl) (by kernel_rfl) (fun _ _ _ h => h) (by kernel_rfl) (fun o ho w hSw => ?_) (by assumption) ?_
            rotate_left
            · (simp only [List.getElem?_toArray, List.getElem?_cons_succ, List.getElem?_cons_zero, Option.some.injEq] at ho; subst ho; (try dsimp only at hSw); go_simp; try with_reducible rfl)
            try simp only [Act.put, List.setIfInBounds_toArray, List.set_cons_zero, List.set_cons_succ]
            refine takeH 4 39 ?_ (by kernel_rfl) (by kernel_rfl) (by kernel_rfl) (by kernel_rfl) (fun _ _ _ h => h) (by kernel_rfl) (fun o ho w hSw => ?_) (by assumption) ?_
            rotate_left
            · (simp only [List.getElem?_toArray, List.getElem?_cons_succ, List.getElem?_cons_zero, Option.some.injEq] at ho; subst ho; (try dsimp only at hSw); go_simp; try with_reducible rfl)
            try simp only [Act.put, List.setIfInBounds_toArray, List.set_cons_zero, List.set_cons_succ]
            refine takeH 5 40 ?_ (by kernel_rfl) (by kernel_rfl) (by kernel_rfl) (by kernel_rfl) (fun _ _ _ h => h) (by kernel_rfl) (fun o ho w hSw => ?_) (by assumption) ?_
            rotate_left
            · (simp only [List.getElem?_toArray, List.getElem?_cons_succ, List.getElem?_cons_zero, Option.some.injEq] at ho; subst ho; (try dsimp only at hSw); go_simp; try with_reducible rfl)
            try simp only [Act.put, List.setIfInBounds_toArray, List.set_cons_zero, List.set_cons_succ]
            refine takeH 6 41 ?_ (by kernel_rfl) (by kernel_rfl) (by kernel_rfl) (by kernel_rfl) (fun _ _ _ h => h) (by kernel_rfl) (fun o ho w hSw => ?_) (by assumption) ?_
            rotate_left
            · (simp only [List.getElem?_toArray, List.getElem?_cons_succ, List.getElem?_cons_zero, Option.some.injEq] at ho; subst ho; (try dsimp only at hSw); go_simp; try with_reducible rfl)
            try simp only [Act.put, List.setIfInBounds_toArray, List.set_cons_zero, List.set_cons_succ]
            refine callH 7 (by kernel_rfl) (by kernel_rfl) (fun o ho K hK => ?_)
            simp only [List.getElem?_toArray, List.getElem?_cons_succ, List.getElem?_cons_zero, Option.some.injEq] at ho; subst ho
            rw [if_pos (by rfl)]
            go_simp
            go_at_call 18
            with_reducible refine (rcmp_v T2 (HX.out.later HTB.out) (HV.out.h.later HTB.out) HC2.out MX.out.1 MX.out.2 MH.out.1 MH.out.2).mono ?_
            rintro e w4 ⟨rfl, hb⟩
            replace HK := Lib.hid (Blk.later HK.out hb)
            replace HTS := Lib.hid (SBlk.later HTS.out hb)
            replace HTG := Lib.hid (Gl.later HTG.out hb)
            replace HTB := Lib.hid (bthen HTB.out hb)
            clear hb
            have HP4 := Lib.hid (show w4.cell? ⟨wr.heap.size, 0, none⟩ = some (.bool x.t.s) ∧ w4.cell? ⟨wr.heap.size, 1, none⟩ = some (.slice x.t.a x.t.n x.t.c) ∧ w4.cell? ⟨wr.heap.size, 2, none⟩ = some (.slice x.t.b x.t.m x.t.d) ∧ w4.cell? ⟨w.heap.size, 0, none⟩ = some (.bool v.h.s) ∧ w4.cell? ⟨w.heap.size, 1, none⟩ = some (.slice v.h.a v.h.n v.h.c) ∧ w4.cell? ⟨w.heap.size, 2, none⟩ = some (.slice v.h.b v.h.m v.h.d) ∧ w4.cell? ⟨w.heap.size, 5, none⟩ = some (.slice (some ⟨b, off, none⟩) v.n v.c) ∧ w4.cell? ⟨b, off + j * 7, none⟩ = some (.bool y.t.s) ∧ w4.cell? ⟨b, off + j * 7 + 1, none⟩ = some (.slice y.t.a y.t.n y.t.c) ∧ w4.cell? ⟨b, off + j * 7 + 2, none⟩ = some (.slice y.t.b y.t.m y.t.d) from by (obtain ⟨q0, q1, q2⟩ := HK.out.three; obtain ⟨p0, p1, p2, -, -, p5⟩ := HTS.out.cells; obtain ⟨c0, c1, c2, -, -, -, -, -, -⟩ := HYA.out.later HBW.out HTB.out; rw [HA.out] at p5; exact ⟨q0, q1, q2, p0, p1, p2, p5, c0, c1, c2⟩))
            refine hK.out _ _ HP4.out (fun hHeld => ?_)
            clear hK K
            try simp only [Act.put, List.setIfInBounds_toArray, List.set_cons_zero, List.set_cons_succ]
            refine takeH 8 43 ?_ (by kernel_rfl) (by kernel_rfl) (by kernel_rfl) (by kernel_rfl) (fun _ _ _ h => h) (by kernel_rfl) (fun o ho w hSw => ?_) (by assumption) ?_
            rotate_left
            · (simp only [List.getElem?_toArray, List.getElem?_cons_succ, List.getElem?_cons_zero, Option.some.injEq] at ho; subst ho; (try dsimp only at hSw); go_simp; try with_reducible rfl)
            try simp only [Act.put, List.setIfInBounds_toArray, List.set_cons_zero, List.set_cons_succ]
            refine takeH 9 44 ?_ (by kernel_rfl) (by kernel_rfl) (by kernel_rfl) (by kernel_rfl) (fun _ _ _ h => h) (by kernel_rfl) (fun o ho w hSw => ?_) (by assumption) ?_
            rotate_left
            · (simp only [List.getElem?_toArray, List.getElem?_cons_succ, List.getElem?_cons_zero, Option.some.injEq] at ho; subst ho; (try dsimp only at hSw); go_simp; try with_reducible rfl)
            try simp only [Act.put, List.setIfInBounds_toArray, List.set_cons_zero, List.set_cons_succ]
            refine takeH 10 45 ?_ (by kernel_rfl) (by kernel_rfl) (by kernel_rfl) (by kernel_rfl) (fun _ _ _ h => h) (by kernel_rfl) (fun o ho w hSw => ?_) (by assumption) ?_
            rotate_left
            · (simp only [List.getElem?_toArray, List.getElem?_cons_succ, List.getElem?_cons_zero, Option.some.injEq] at ho; subst ho; (try dsimp only at hSw); go_simp; try with_reducible rfl)
            try simp only [Act.put, List.setIfInBounds_toArray, List.set_cons_zero, List.set_cons_succ]
            refine takeH 11 46 ?_ (by kernel_rfl) (by kernel_rfl) (by kernel_rfl) (by kernel_rfl) (fun _ _ _ h => h) (by kernel_rfl) (fun o ho w hSw => ?_) (by assumption) ?_
            rotate_left
            · (simp only [List.getElem?_toArray, List.getElem?_cons_succ, List.getElem?_cons_zero, Option.some.injEq] at ho; subst ho; (try dsimp only at hSw); go_simp; try with_reducible rfl)
            try simp only [Act.put, List.setIfInBounds_toArray, List.set_cons_zero, List.set_cons_succ]
            refine takeH 12 47 ?_ (by kernel_rfl) (by kernel_rfl) (by kernel_rfl) (by kernel_rfl) (fun _ _ _ h => h) (by kernel_rfl) (fun o ho w hSw => ?_) (by assumption) ?_
            rotate_left
            · (simp only [List.getElem?_toArray, List.getElem?_cons_succ, List.getElem?_cons_zero, Option.some.injEq] at ho; subst ho; (try dsimp only at hSw); go_simp; try with_reducible rfl)
            try simp only [Act.put, List.setIfInBounds_toArray, List.set_cons_zero, List.set_cons_succ]
            refine takeH 13 48 ?_ (by kernel_rfl) (by kernel_rfl) (by kernel_rfl) (by kernel_rfl) (fun _ _ _ h => h) (by kernel_rfl) (fun o ho w hSw => ?_) (by assumption) ?_
            rotate_left
            · (simp only [List.getElem?_toArray, List.getElem?_cons_succ, List.getElem?_cons_zero, Option.some.injEq] at ho; subst ho; (try dsimp only at hSw); go_simp; try with_reducible rfl)
            try simp only [Act.put, List.setIfInBounds_toArray, List.set_cons_zero, List.set_cons_succ]
            refine takeH 14 49 ?_ (by kernel_rfl) (by kernel_rfl) (by kernel_rfl) (by kernel_rfl) (fun _ _ _ h => h) (by kernel_rfl) (fun o ho w hSw => ?_) (by assumption) ?_
            rotate_left
            · (simp only [List.getElem?_toArray, List.getElem?_cons_succ, List.getElem?_cons_zero, Option.some.injEq] at ho; subst ho; (try dsimp only at hSw); go_simp; try with_reducible rfl)
            try simp only [Act.put, List.setIfInBounds_toArray, List.set_cons_zero, List.set_cons_succ]
            refine takeH 15 50 ?_ (by kernel_rfl) (by kernel_rfl) (by kernel_rfl) (by kernel_rfl) (fun _ _ _ h => h) (by kernel_rfl) (fun o ho w hSw => ?_) (by assumption) ?_
            rotate_left
            · (simp only [List.getElem?_toArray, List.getElem?_cons_succ, List.getElem?_cons_zero, Option.some.injEq] at ho; subst ho; (try dsimp only at hSw); go_simp; try with_reducible rfl)
            try simp only [Act.put, List.setIfInBounds_toArray, List.set_cons_zero, List.set_cons_succ]
            refine takeH 16 51 ?_ (by kernel_rfl) (by kernel_rfl) (by kernel_rfl) (by kernel_rfl) (fun _ _ _ h => h) (by kernel_rfl) (fun o ho w hSw => ?_) (by assumption) ?_
            rotate_left
            · (simp only [List.getElem?_toArray, List.getElem?_cons_succ, List.getElem?_cons_zero, Option.some.injEq] at ho; subst ho; (try dsimp only at hSw); go_simp; try with_reducible rfl)
            try simp only [Act.put, List.setIfInBounds_toArray, List.set_cons_zero, List.set_cons_succ]
            refine takeH 17 52 ?_ (by kernel_rfl) (by kernel_rfl) (by kernel_rfl) (by kernel_rfl) (fun _ _ _ h => h) (by kernel_rfl) (fun o ho w hSw => ?_) (by assumption) ?_
            rotate_left
            · (simp only [List.getElem?_toArray, List.getElem?_cons_succ, List.getElem?_cons_zero, Option.some.injEq] at ho; subst ho; (try dsimp only at hSw); go_simp; try with_reducible rfl)
            try simp only [Act.put, List.setIfInBounds_toArray, List.set_cons_zero, List.set_cons_succ]
            refine takeH 18 53 ?_ (by kernel_rfl) (by kernel_rfl) (by kernel_rfl) (by kernel_rfl) (fun _ _ _ h => h) (by kernel_rfl) (fun o ho w hSw => ?_) (by assumption) ?_
            rotate_left
            · (simp only [List.getElem?_toArray, List.getElem?_cons_succ, List.getElem?_cons_zero, Option.some.injEq] at ho; subst ho; (try dsimp only at hSw); go_simp; try with_reducible rfl)
            try simp only [Act.put, List.setIfInBounds_toArray, List.set_cons_zero, List.set_cons_succ]
            refine takeH 19 54 ?_ (by kernel_rfl) (by kernel_rfl) (by kernel_rfl) (by kernel_rfl) (fun _ _ _ h => h) (by kernel_rfl) (fun o ho w hSw => ?_) (by assumption) ?_
            rotate_left
            · (simp only [List.getElem?_toArray, List.getElem?_cons_succ, List.getElem?_cons_zero, Option.some.injEq] at ho; subst ho; (try dsimp only at hSw); go_simp; try with_reducible rfl)
            try simp only [Act.put, List.setIfInBounds_toArray, List.set_cons_zero, List.set_cons_succ]
            refine takeH 20 55 ?_ (by kernel_rfl) (by kernel_rfl) (by kernel_rfl) (by kernel_rfl) (fun _ _ _ h => h) (by kernel_rfl) (fun o ho w hSw => ?_) (by assumption) ?_
            rotate_left
            · (simp only [List.getElem?_toArray, List.getElem?_cons_succ, List.getElem?_cons_zero, Option.some.injEq] at ho; subst ho; (try dsimp only at hSw); go_simp; try with_reducible rfl)
            try simp only [Act.put, List.setIfInBounds_toArray, List.set_cons_zero, List.set_cons_succ]
            refine takeH 21 56 ?_ (by kernel_rfl) (by kernel_rfl) (by kernel_rfl) (by kernel_rfl) (fun _ _ _ h => h) (by kernel_rfl) (fun o ho w hSw => ?_) (by assumption) ?_
            rotate_left
            · (simp only [List.getElem?_toArray, List.getElem?_cons_succ, List.getElem?_cons_zero, Option.some.injEq] at ho; subst ho; (try dsimp only at hSw); go_simp; try with_reducible rfl)
            try simp only [Act.put, List.setIfInBounds_toArray, List.set_cons_zero, List.set_cons_succ]
            refine callH 22 (by kernel_rfl) (by kernel_rfl) (fun o ho K hK => ?_)
            simp only [List.getElem?_toArray, List.getElem?_cons_succ, List.getElem?_cons_zero, Option.some.injEq] at ho; subst ho
            rw [if_pos (by rfl)]
            go_simp
            go_at_call 18
            with_reducible refine (rcmp_v T3 (HY.out.later HTB.out) (HX.out.later HTB.out) HC3.out MY.out.1 MY.out.2 MX.out.1 MX.out.2).mono ?_
            rintro e w5 ⟨rfl, hb⟩
            replace HK := Lib.hid (Blk.later HK.out hb)
            replace HTS := Lib.hid (SBlk.later HTS.out hb)
            replace HTG := Lib.hid (Gl.later HTG.out hb)
            replace HTB := Lib.hid (bthen HTB.out hb)
            clear hb
            have HP5 := Lib.hid (show w5.cell? ⟨wr.heap.size, 0, none⟩ = some (.bool x.t.s) ∧ w5.cell? ⟨wr.heap.size, 1, none⟩ = some (.slice x.t.a x.t.n x.t.c) ∧ w5.cell? ⟨wr.heap.size, 2, none⟩ = some (.slice x.t.b x.t.m x.t.d) ∧ w5.cell? ⟨w.heap.size, 0, none⟩ = some (.bool v.h.s) ∧ w5.cell? ⟨w.heap.size, 1, none⟩ = some (.slice v.h.a v.h.n v.h.c) ∧ w5.cell? ⟨w.heap.size, 2, none⟩ = some (.slice v.h.b v.h.m v.h.d) ∧ w5.cell? ⟨w.heap.size, 5, none⟩ = some (.slice (some ⟨b, off, none⟩) v.n v.c) ∧ w5.cell? ⟨b, off + j * 7, none⟩ = some (.bool y.t.s) ∧ w5.cell? ⟨b, off + j * 7 + 1, none⟩ = some (.slice y.t.a y.t.n y.t.c) ∧ w5.cell? ⟨b, off + j * 7 + 2, none⟩ = some (.slice y.t.b y.t.m y.t.d) from by (obtain ⟨q0, q1, q2⟩ := HK.out.three; obtain ⟨p0, p1, p2, -, -, p5⟩ := HTS.out.cells; obtain ⟨c0, c1, c2, -, -, -, -, -, -⟩ := HYA.out.later HBW.out HTB.out; rw [HA.out] at p5; exact ⟨q0, q1, q2, p0, p1, p2, p5, c0, c1, c2⟩))
            refine hK.out _ _ HP5.out (fun hHeld => ?_)
            clear hK K
            try simp only [Act.put, List.setIfInBounds_toArray, List.set_cons_zero, List.set_cons_succ]
            refine takeH 23 58 ?_ (by kernel_rfl) (by kernel_rfl) (by kernel_rfl) (by kernel_rfl) (fun _ _ _ h => h) (by kernel_rfl) (fun o ho w hSw => ?_) (by assumption) ?_
            rotate_left
            · (simp only [List.getElem?_toArray, List.getElem?_cons_succ, List.getElem?_cons_zero, Option.some.injEq] at ho; subst ho; (try dsimp only at hSw); go_simp; try with_reducible rfl)
            try simp only [Act.put, List.setIfInBounds_toArray, List.set_cons_zero, List.set_cons_succ]
            refine takeH 24 59 ?_ (by kernel_rfl) (by kernel_rfl) (by kernel_rfl) (by kernel_rfl) (fun _ _ _ h => h) (by kernel_rfl) (fun o ho w hSw => ?_) (by assumption) ?_
            rotate_left
            · (simp only [List.getElem?_toArray, List.getElem?_cons_succ, List.getElem?_cons_zero, Option.some.injEq] at ho; subst ho; (try dsimp only at hSw); go_simp; try with_reducible rfl)
            try simp only [Act.put, List.setIfInBounds_toArray, List.set_cons_zero, List.set_cons_succ]
            refine takeH 25 60 ?_ (by kernel_rfl) (by kernel_rfl) (by kernel_rfl) (by kernel_rfl) (fun _ _ _ h => h) (by kernel_rfl) (fun o ho w hSw => ?_) (by assumption) ?_
            rotate_left
            · (simp only [List.getElem?_toArray, List.getElem?_cons_succ, List.getElem?_cons_zero, Option.some.injEq] at ho; subst ho; (try dsimp only at hSw); go_simp; try with_reducible rfl)
            try simp only [Act.put, List.setIfInBounds_toArray, List.set_cons_zero, List.set_cons_succ]
            refine wpAnyH_done (by kernel_rfl) ?_ _
            go_wp2_with fail
            go_roundw
            case rel => exact ⟨j + 1 + 1, by omega, by go_num, HTS, HTG, HTB⟩
            case measure => simp [intOf]; omega
          · obtain rfl : k = 0 := by omega
            have HP := Lib.hid (show W1.cell? ⟨wr.heap.size, 0, none⟩ = some (.bool x.t.s) ∧ W1.cell? ⟨wr.heap.size, 1, none⟩ = some (.slice x.t.a x.t.n x.t.c) ∧ W1.cell? ⟨wr.heap.size, 2, none⟩ = some (.slice x.t.b x.t.m x.t.d) ∧ W1.cell? ⟨w.heap.size, 0, none⟩ = some (.bool v.h.s) ∧ W1.cell? ⟨w.heap.size, 1, none⟩ = some (.slice v.h.a v.h.n v.h.c) ∧ W1.cell? ⟨w.heap.size, 2, none⟩ = some (.slice v.h.b v.h.m v.h.d) ∧ W1.cell? ⟨w.heap.size, 5, none⟩ = some (.slice (some ⟨b, off, none⟩) v.n v.c) from by (obtain ⟨q0, q1, q2⟩ := HK.out.three; obtain ⟨p0, p1, p2, -, -, p5⟩ := HTS.out.cells; rw [HA.out] at p5; exact ⟨q0, q1, q2, p0, p1, p2, p5⟩))
            clear q0 q1 q2 p0 p1 p2 p5
            go_wp2_with fail
            replace HK := Lib.hid (Blk.later HK.out (Below.refl _ _).drew)
            replace HTS := Lib.hid (SBlk.later HTS.out (Below.refl _ _).drew)
            replace HTG := Lib.hid (Gl.later HTG.out (Below.refl _ _).drew)
            replace HTB := Lib.hid (HTB.out.drew)
            refine wp_region_held_drew (S := fun w' => w'.cell? ⟨wr.heap.size, 0, none⟩ = some (.bool x.t.s) ∧ w'.cell? ⟨wr.heap.size, 1, none⟩ = some (.slice x.t.a x.t.n x.t.c) ∧ w'.cell? ⟨wr.heap.size, 2, none⟩ = some (.slice x.t.b x.t.m x.t.d) ∧ w'.cell? ⟨w.heap.size, 0, none⟩ = some (.bool v.h.s) ∧ w'.cell? ⟨w.heap.size, 1, none⟩ = some (.slice v.h.a v.h.n v.h.c) ∧ w'.cell? ⟨w.heap.size, 2, none⟩ = some (.slice v.h.b v.h.m v.h.d) ∧ w'.cell? ⟨w.heap.size, 5, none⟩ = some (.slice (some ⟨b, off, none⟩) v.n v.c)) (by kernel_rfl) HP.out (fun hHeld => ?_)
            refine takeH 0 35 ?_ (by kernel_rfl) (by kernel_rfl) (by kernel_rfl) (by kernel_rfl) (fun _ _ _ h => h) (by kernel_rfl) (fun o ho w hSw => ?_) (by assumption) ?_
            rotate_left
            · (simp only [List.getElem?_toArray, List.getElem?_cons_succ, List.getElem?_cons_zero, Option.some.injEq] at ho; subst ho; (try dsimp only at hSw); go_simp; try with_reducible rfl)
            try simp only [Act.put, List.setIfInBounds_toArray, List.set_cons_zero, List.set_cons_succ]
            refine callH 1 (by kernel_rfl) (by kernel_rfl) (fun o ho K hK => ?_)
            simp only [List.getElem?_toArray, List.getElem?_cons_succ, List.getElem?_cons_zero, Option.some.injEq] at ho; subst ho
            rw [if_pos (by rfl)]
            go_simp
            go_at_call 17
            with_reducible refine (rsign_v T1 (HX.out.later HTB.out) HC1.out (Nat.le_trans MX.out.1 (by decide)) (Nat.le_trans MX.out.2 (by decide))).mono ?_
            rintro e w3 ⟨rfl, hb⟩
            replace HK := Lib.hid (Blk.later HK.out hb)
            replace HTS := Lib.hid (SBlk.later HTS.out hb)
            replace HTG := Lib.hid (Gl.later HTG.out hb)
            replace HTB := Lib.hid (bthen HTB.out hb)
            clear hb
            have HP3 := Lib.hid (show w3.cell? ⟨wr.heap.size, 0, none⟩ = some (.bool x.t.s) ∧ w3.cell? ⟨wr.heap.size, 1, none⟩ = some (.slice x.t.a x.t.n x.t.c) ∧ w3.cell? ⟨wr.heap.size, 2, none⟩ = some (.slice x.t.b x.t.m x.t.d) ∧ w3.cell? ⟨w.heap.size, 0, none⟩ = some (.bool v.h.s) ∧ w3.cell? ⟨w.heap.size, 1, none⟩ = some (.slice v.h.a v.h.n v.h.c) ∧ w3.cell? ⟨w.heap.size, 2, none⟩ = some (.slice v.h.b v.h.m v.h.d) ∧ w3.cell? ⟨w.heap.size, 5, none⟩ = some (.slice (some ⟨b, off, none⟩) v.n v.c) from by (obtain ⟨q0, q1, q2⟩ := HK.out.three; obtain ⟨p0, p1, p2, -, -, p5⟩ := HTS.out.cells; rw [HA.out] at p5; exact ⟨q0, q1, q2, p0, p1, p2, p5⟩))
            refine hK.out _ _ HP3.out (fun hHeld => ?_)
            clear hK K
            try simp only [Act.put, List.setIfInBounds_toArray, List.set_cons_zero, List.set_cons_succ]
            refine takeH 2 37 ?_ (by kernel_rfl) (by kernel_rfl) (by kernel_rfl) (by kernel_rfl) (fun _ _ _ h => h) (by kernel_rfl) (fun o ho w hSw => ?_) (by assumption) ?_
            rotate_left
            · (simp only [List.getElem?_toArray, List.getElem?_cons_succ, List.getElem?_cons_zero, Option.some.injEq] at ho; subst ho; (try dsimp only at hSw); go_simp; try with_reducible rfl)
            try simp only [Act.put, List.setIfInBounds_toArray, List.set_cons_zero, List.set_cons_succ]
            refine takeH 3 38 ?_ (by kernel_rfl) (by kernel_rfl) (by kernel_rfl) (by kernel_rfl) (fun _ _ _ h => h) (by kernel_rfl) (fun o ho w hSw => ?_) (by assumption) ?_
            rotate_left
            · (simp only [List.getElem?_toArray, List.getElem?_cons_succ, List.getElem?_cons_zero, Option.some.injEq] at ho; subst ho; (try dsimp only at hSw); go_simp; try with_reducible rfl)
            try simp only [Act.put, List.setIfInBounds_toArray, List.set_cons_zero, List.set_cons_succ]
            refine takeH 4 39 ?_ (by kernel_rfl) (by kernel_rfl) (by kernel_rfl) (by kernel_rfl) (fun _ _ _ h => h) (by kernel_rfl) (fun o ho w hSw => ?_) (by assumption) ?_
            rotate_left
            · (simp only [List.getElem?_toArray, List.getElem?_cons_succ, List.getElem?_cons_zero, Option.some.injEq] at ho; subst ho; (try dsimp only at hSw); go_simp; try with_reducible rfl)
            try simp only [Act.put, List.setIfInBounds_toArray, List.set_cons_zero, List.set_cons_succ]
            refine takeH 5 40 ?_ (by kernel_rfl) (by kernel_rfl) (by kernel_rfl) (by kernel_rfl) (fun _ _ _ h => h) (by kernel_rfl) (fun o ho w hSw => ?_) (by assumption) ?_
            rotate_left
            · (simp only [List.getElem?_toArray, List.getElem?_cons_succ, List.getElem?_cons_zero, Option.some.injEq] at ho; subst ho; (try dsimp only at hSw); go_simp; try with_reducible rfl)
            try simp only [Act.put, List.setIfInBounds_toArray, List.set_cons_zero, List.set_cons_succ]
            refine takeH 6 41 ?_ (by kernel_rfl) (by kernel_rfl) (by kernel_rfl) (by kernel_rfl) (fun _ _ _ h => h) (by kernel_rfl) (fun o ho w hSw => ?_) (by assumption) ?_
            rotate_left
            · (simp only [List.getElem?_toArray, List.getElem?_cons_succ, List.getElem?_cons_zero, Option.some.injEq] at ho; subst ho; (try dsimp only at hSw); go_simp; try with_reducible rfl)
            try simp only [Act.put, List.setIfInBounds_toArray, List.set_cons_zero, List.set_cons_succ]
            refine callH 7 (by kernel_rfl) (by kernel_rfl) (fun o ho K hK => ?_)
            simp only [List.getElem?_toArray, List.getElem?_cons_succ, List.getElem?_cons_zero, Option.some.injEq] at ho; subst ho
            rw [if_pos (by rfl)]
            go_simp
            go_at_call 18
            with_reducible refine (rcmp_v T2 (HX.out.later HTB.out) (HV.out.h.later HTB.out) HC2.out MX.out.1 MX.out.2 MH.out.1 MH.out.2).mono ?_
            rintro e w4 ⟨rfl, hb⟩
            replace HK := Lib.hid (Blk.later HK.out hb)
            replace HTS := Lib.hid (SBlk.later HTS.out hb)
            replace HTG := Lib.hid (Gl.later HTG.out hb)
            replace HTB := Lib.hid (bthen HTB.out hb)
            clear hb
            have HP4 := Lib.hid (show w4.cell? ⟨wr.heap.size, 0, none⟩ = some (.bool x.t.s) ∧ w4.cell? ⟨wr.heap.size, 1, none⟩ = some (.slice x.t.a x.t.n x.t.c) ∧ w4.cell? ⟨wr.heap.size, 2, none⟩ = some (.slice x.t.b x.t.m x.t.d) ∧ w4.cell? ⟨w.heap.size, 0, none⟩ = some (.bool v.h.s) ∧ w4.cell? ⟨w.heap.size, 1, none⟩ = some (.slice v.h.a v.h.n v.h.c) ∧ w4.cell? ⟨w.heap.size, 2, none⟩ = some (.slice v.h.b v.h.m v.h.d) ∧ w4.cell? ⟨w.heap.size, 5, none⟩ = some (.slice (some ⟨b, off, none⟩) v.n v.c) from by (obtain ⟨q0, q1, q2⟩ := HK.out.three; obtain ⟨p0, p1, p2, -, -, p5⟩ := HTS.out.cells; rw [HA.out] at p5; exact ⟨q0, q1, q2, p0, p1, p2, p5⟩))
            refine hK.out _ _ HP4.out (fun hHeld => ?_)
            clear hK K
            try simp only [Act.put, List.setIfInBounds_toArray, List.set_cons_zero, List.set_cons_succ]
            refine takeH 8 43 ?_ (by kernel_rfl) (by kernel_rfl) (by kernel_rfl) (by kernel_rfl) (fun _ _ _ h => h) (by kernel_rfl) (fun o ho w hSw => ?_) (by assumption) ?_
            rotate_left
            · (simp only [List.getElem?_toArray, List.getElem?_cons_succ, List.getElem?_cons_zero, Option.some.injEq] at ho; subst ho; (try dsimp only at hSw); go_simp; try with_reducible rfl)
            try simp only [Act.put, List.setIfInBounds_toArray, List.set_cons_zero, List.set_cons_succ]
            refine takeH 9 44 ?_ (by kernel_rfl) (by kernel_rfl) (by kernel_rfl) (by kernel_rfl) (fun _ _ _ h => h) (by kernel_rfl) (fun o ho w hSw => ?_) (by assumption) ?_
            rotate_left
            · (simp only [List.getElem?_toArray, List.getElem?_cons_succ, List.getElem?_cons_zero, Option.some.injEq] at ho; subst ho; (try dsimp only at hSw); go_simp; try with_reducible rfl)
            try simp only [Act.put, List.setIfInBounds_toArray, List.set_cons_zero, List.set_cons_succ]
            refine takeH 10 45 ?_ (by kernel_rfl) (by kernel_rfl) (by kernel_rfl) (by kernel_rfl) (fun _ _ _ h => h) (by kernel_rfl) (fun o ho w hSw => ?_) (by assumption) ?_
            rotate_left
            · (simp only [List.getElem?_toArray, List.getElem?_cons_succ, List.getElem?_cons_zero, Option.some.injEq] at ho; subst ho; (try dsimp only at hSw); go_simp; try with_reducible rfl)
            try simp only [Act.put, List.setIfInBounds_toArray, List.set_cons_zero, List.set_cons_succ]
            refine takeH 11 46 ?_ (by kernel_rfl) (by kernel_rfl) (by kernel_rfl) (by kernel_rfl) (fun _ _ _ h => h) (by kernel_rfl) (fun o ho w hSw => ?_) (by assumption) ?_
            rotate_left
            · (simp only [List.getElem?_toArray, List.getElem?_cons_succ, List.getElem?_cons_zero, Option.some.injEq] at ho; subst ho; (try dsimp only at hSw); go_simp; try with_reducible rfl)
            try simp only [Act.put, List.setIfInBounds_toArray, List.set_cons_zero, List.set_cons_succ]
            refine takeH 12 47 ?_ (by kernel_rfl) (by kernel_rfl) (by kernel_rfl) (by kernel_rfl) (fun _ _ _ h => h) (by kernel_rfl) (fun o ho w hSw => ?_) (by assumption) ?_
            rotate_left
            · (simp only [List.getElem?_toArray, List.getElem?_cons_succ, List.getElem?_cons_zero, Option.some.injEq] at ho; subst ho; (try dsimp only at hSw); go_simp; try with_reducible rfl)
            try simp only [Act.put, List.setIfInBounds_toArray, List.set_cons_zero, List.set_cons_succ]
            refine takeH 13 48 ?_ (by kernel_rfl) (by kernel_rfl) (by kernel_rfl) (by kernel_rfl) (fun _ _ _ h => h) (by kernel_rfl) (fun o ho w hSw => ?_) (by assumption) ?_
            rotate_left
            · (simp only [List.getElem?_toArray, List.getElem?_cons_succ, List.getElem?_cons_zero, Option.some.injEq] at ho; subst ho; (try dsimp only at hSw); go_simp; try with_reducible rfl)
            try simp only [Act.put, List.setIfInBounds_toArray, List.set_cons_zero, List.set_cons_succ]
            refine skipH 14 49 (by kernel_rfl) (by kernel_rfl) (by kernel_rfl) (by kernel_rfl) (fun _ _ _ h => h) (by kernel_rfl) (by assumption) ?_
            try simp only [Act.put, List.setIfInBounds_toArray, List.set_cons_zero, List.set_cons_succ]
            refine skipH 15 50 (by kernel_rfl) (by kernel_rfl) (by kernel_rfl) (by kernel_rfl) (fun _ _ _ h => h) (by kernel_rfl) (by assumption) ?_
            try simp only [Act.put, List.setIfInBounds_toArray, List.set_cons_zero, List.set_cons_succ]
            refine skipH 16 51 (by kernel_rfl) (by kernel_rfl) (by kernel_rfl) (by kernel_rfl) (fun _ _ _ h => h) (by kernel_rfl) (by assumption) ?_
            try simp only [Act.put, List.setIfInBounds_toArray, List.set_cons_zero, List.set_cons_succ]
            refine skipH 17 52 (by kernel_rfl) (by kernel_rfl) (by kernel_rfl) (by kernel_rfl) (fun _ _ _ h => h) (by kernel_rfl) (by assumption) ?_
            try simp only [Act.put, List.setIfInBounds_toArray, List.set_cons_zero, List.set_cons_succ]
            refine skipH 18 53 (by kernel_rfl) (by kernel_rfl) (by kernel_rfl) (by kernel_rfl) (fun _ _ _ h => h) (by kernel_rfl) (by assumption) ?_
            try simp only [Act.put, List.setIfInBounds_toArray, List.set_cons_zero, List.set_cons_succ]
            refine skipH 19 54 (by kernel_rfl) (by kernel_rfl) (by kernel_rfl) (by kernel_rfl) (fun _ _ _ h => h) (by kernel_rfl) (by assumption) ?_
            try simp only [Act.put, List.setIfInBounds_toArray, List.set_cons_zero, List.set_cons_succ]
            refine skipH 20 55 (by kernel_rfl) (by kernel_rfl) (by kernel_rfl) (by kernel_rfl) (fun _ _ _ h => h) (by kernel_rfl) (by assumption) ?_
            try simp only [Act.put, List.setIfInBounds_toArray, List.set_cons_zero, List.set_cons_succ]
            refine skipH 21 56 (by kernel_rfl) (by kernel_rfl) (by kernel_rfl) (by kernel_rfl) (fun _ _ _ h => h) (by kernel_rfl) (by assumption) ?_
            try simp only [Act.put, List.setIfInBounds_toArray, List.set_cons_zero, List.set_cons_succ]
            refine skipH 22 57 (by kernel_rfl) (by kernel_rfl) (by kernel_rfl) (by kernel_rfl) (fun _ _ _ h => h) (by kernel_rfl) (by assumption) ?_
            try simp only [Act.put, List.setIfInBounds_toArray, List.set_cons_zero, List.set_cons_succ]
            refine skipH 23 58 (by kernel_rfl) (by kernel_rfl) (by kernel_rfl) (by kernel_rfl) (fun _ _ _ h => h) (by kernel_rfl) (by assumption) ?_
            try simp only [Act.put, List.setIfInBounds_toArray, List.set_cons_zero, List.set_cons_succ]
            refine takeH 24 59 ?_ (by kernel_rfl) (by kernel_rfl) (by kernel_rfl) (by kernel_rfl) (fun _ _ _ h => h) (by kernel_rfl) (fun o ho w hSw => ?_) (by assumption) ?_
            rotate_left
            · (simp only [List.getElem?_toArray, List.getElem?_cons_succ, List.getElem?_cons_zero, Option.some.injEq] at ho; subst ho; (try dsimp only at hSw); go_simp; try with_reducible rfl)
            try simp only [Act.put, List.setIfInBounds_toArray, List.set_cons_zero, List.set_cons_succ]
            refine takeH 25 60 ?_ (by kernel_rfl) (by kernel_rfl) (by kernel_rfl) (by kernel_rfl) (fun _ _ _ h => h) (by kernel_rfl) (fun o ho w hSw => ?_) (by assumption) ?_
            rotate_left
            · (simp only [List.getElem?_toArray, List.getElem?_cons_succ, List.getElem?_cons_zero, Option.some.injEq] at ho; subst ho; (try dsimp only at hSw); go_simp; try with_reducible rfl)
            try simp only [Act.put, List.setIfInBounds_toArray, List.set_cons_zero, List.set_cons_succ]
            refine wpAnyH_done (by kernel_rfl) ?_ _
            go_wp2_with fail
            go_roundw
            case rel => exact ⟨1, by omega, by go_num, HTS, HTG, HTB⟩
            case measure => simp [intOf]; omega
        · obtain rfl : k = v.n := by omega
          have hlg : w.heap.size < wr.heap.size := Blk.lt HTS.out
          obtain ⟨W2, hW2⟩ : ∃ W2, W2 = wr.alloc (.cells #[.bool v.h.s, .slice v.h.a v.h.n v.h.c, .slice v.h.b v.h.m v.h.d, .int .i64 v.cas, .int .i64 v.bits, .slice v.a v.n v.c] 30) := ⟨_, rfl⟩
          have hb : Below wr.heap.size wr W2 := by rw [hW2]; exact below_one _ _
          have HT := Lib.hid (show SBlk W2 wr.heap.size v by rw [hW2]; exact Blk.new _ _ _)
          replace HTS := Lib.hid (SBlk.later HTS.out hb)
          replace HTG := Lib.hid (Gl.later HTG.out hb)
          replace HTB := Lib.hid (bthen HTB.out hb)
          have HW2 := Lib.hid hW2
          clear hW2 hb
          go_upto_region 12 with fail
          rw [← HW2.out]; clear HW2
          obtain ⟨g7, hg7⟩ : ∃ g7, wr.heap.size = g7 := ⟨_, rfl⟩
          rw [hg7] at HT hlg ⊢
          have HLG := Lib.hid hlg
          clear hg7 hlg p0 p1 p2 p3 p4 p5
          obtain ⟨p0, p1, p2, p3, p4, p5⟩ := HTS.out.cells
          have hnv : v.n ≤ 1000 := by omega
          have hl5 : w.heap.size < W2.heap.size := Blk.lt HTS.out
          go_upto_region 13 with (at_builtin; have hb9 := below_one W2 (.cells #[] 43); refine appendR rfl _ _ rfl w.heap.size W2.heap.size v.a v.n v.c L rfl rfl (Blk.new W2 43 #[]) (HV.out.c.later (bthen HTB.out hb9)) hnv (HTB.out.size) ?_; intro v3 w3 hown hbl; obtain ⟨a3, c3, hv3⟩ := hown.sl; subst hv3; have hb3 := bthen hb9 hbl; have HO3 := Lib.hid hown; replace HT := Lib.hid (SBlk.later HT.out hb3); replace HTS := Lib.hid (SBlk.later HTS.out hb3); replace HTG := Lib.hid (Gl.later HTG.out hb3); replace HTB := Lib.hid (bthen HTB.out hb3); clear hown hbl hb3 hb9 p0 p1 p2 p3 p4 p5; obtain ⟨-, -, -, -, -, k5⟩ := HT.out.cells; have kf := Blk.free HT.out)
          have HQ0 := Lib.hid (RgSt.start (h := h) (ins := ins) HTS.out HT.out HO3.out (show NumsIn L w3 from fun x hx => (HV.out.c.later HTB.out).mem hx) HTB.out HTG.out H9.out HLG.out)
          obtain ⟨W5, hW5⟩ : ∃ W5, W5 = w3.setCell ⟨g7, 5, none⟩ (.slice a3 L.length c3) := ⟨_, rfl⟩
          rw [← hW5] at HQ0 ⊢
          clear hW5 k5 kf
          go_upto_region 14 with fail
          go_loopw [8] (fun t wq => ∃ k : Nat, k ≤ n ∧ t = .int .i64 k ∧ ∃ (u : SV) (M : List CM), Hid (RgSt w wq g7 v h L ins k u M)) (fun t _ => n - (intOf t).toNat)
          case atStart => exact ⟨0, Nat.zero_le _, rfl, _, _, HQ0⟩
          case round =>
            obtain ⟨k, hk, rfl, u, M, HQ⟩ := hrel
            clear HQ0 HT HTS HTG HTB HO3
            by_cases hlt : k < n
            · obtain ⟨x, hx⟩ : ∃ x, ins[k]? = some x := ⟨_, List.getElem?_eq_getElem (by rw [HR.out.1]; exact hlt)⟩
              obtain ⟨bi, oi, ha, hbi, hci⟩ := HR.out.at_ hx
              subst ha
              have HCI := Lib.hid (Lib.containsS_iff ins x |>.2 (List.mem_of_getElem? hx))
              have HML := Lib.hid (show (L ++ M).length ≤ 100000000 by rw [List.length_append, HN.out, HQ.out.n]; omega)
              have HBI := Lib.hid hbi
              have HCC := Lib.hid hci
              clear hx hbi hci
              have c9 := (HQ.out.k.cell (p := ⟨bi, oi + k, none⟩) HBI.out).trans HCC.out
              obtain ⟨p0, p1, p2, -, -, -⟩ := HQ.out.s.cells
              obtain ⟨-, -, -, -, -, k5⟩ := HQ.out.t.cells
              have hg7 : g7 < wr.heap.size := Blk.lt HQ.out.t
              have hs7 : w.heap.size < wr.heap.size := Blk.lt HQ.out.s
              have hb7 : bi < wr.heap.size := Nat.lt_of_lt_of_le HBI.out HQ.out.k.size
              go_upto_region 16 with fail
              go_region_law (first
                | (refine stepCG rfl _ _ rfl w.heap.size u.sl (L ++ M) ⟨v.h, x, r1, h, 1⟩ w5.heap.size rfl rfl (Blk.new w5 43 _) (HQ5.out.o.later (below_one w5 _)) (Nat.le_trans HQ5.out.k.size (below_one w5 (.cells (CM.cs ⟨v.h, x, r1, h, 1⟩).toArray 43)).size) HML.out ?_; intro v6 w6 hown honly; obtain ⟨a6, c6, hv6⟩ := hown.sl; obtain ⟨n6, hn6⟩ : ∃ m, ((L ++ M) ++ [(⟨v.h, x, r1, h, 1⟩ : CM)]).length = m := ⟨_, rfl⟩; rw [hn6] at hv6; subst hv6; clear hn6; have HQ6 := Lib.hid (HQ5.out.later (below_one w5 (.cells (CM.cs ⟨v.h, x, r1, h, 1⟩).toArray 43))); have HT6 := Lib.hid (show SBlk w6 g7 u from Blk.only HQ6.out.t honly (HQ6.out.o.notin HQ6.out.t (by decide))); have HO6 := Lib.hid hown; have HY6 := Lib.hid honly; obtain ⟨-, -, -, -, -, k6⟩ := HT6.out.cells; have kf := Blk.free HT6.out; clear hown honly)
                | (go_simp; go_at_call 19; (with_reducible refine ((rofR 1 _ (by decide) (by decide)).mono ratK_V).mono ?_); rintro e w5 ⟨r1, rfl, hr1, hb⟩; have hb5 : Below wr.heap.size wr w5 := bthen (Below.refl wr.heap.size wr).drew hb; have HQ5 := Lib.hid (HQ.out.later hb5); have HR1 := Lib.hid hr1; have HB5 := Lib.hid hb5; have c9' := (HQ5.out.k.cell (p := ⟨bi, oi + k, none⟩) HBI.out).trans HCC.out; obtain ⟨p0', p1', p2', -, -, -⟩ := HQ5.out.s.cells; obtain ⟨-, -, -, -, -, k5'⟩ := HQ5.out.t.cells; have hg7' : g7 < w5.heap.size := Blk.lt HQ5.out.t; have hs7' : w.heap.size < w5.heap.size := Blk.lt HQ5.out.s; have hb7' : bi < w5.heap.size := Nat.lt_of_lt_of_le HBI.out HQ5.out.k.size; clear hr1 hb)
                | fail)
              all_goals
                have HQ7 : Hid (RgSt w (w6.setCell ⟨g7, 5, none⟩ (.slice a6 n6 c6)) g7 v h L ins (k + 1) { u with a := a6, n := n6, c := c6 } (M ++ [⟨v.h, x, r1, h, 1⟩])) := Lib.hid (HQ6.out.step H9.out HO6.out HY6.out ⟨HV.out.h.later HQ6.out.k, rv_one HR1.out (below_one w5 _)⟩ rfl HCI.out ⟨Nat.le_trans HM.out.1.1 (by decide), Nat.le_trans HM.out.1.2 (by decide)⟩)
                clear HQ6 HO6 HY6 HT6 HQ5 HR1 HB5 c9 p0 p1 p2 k5 k6 kf
                go_wp2_with fail
                go_roundw
                case rel => exact ⟨k + 1, by omega, by go_num, _, _, HQ7⟩
                case measure => simp [intOf]; omega
            · obtain rfl : k = n := by omega
              obtain ⟨k0, k1, k2, k3, k4, k5⟩ := HQ.out.t.cells
              have HUI := Lib.hid (RgSt.is HQ.out HV.out.h)
              have HRT := Lib.hid (rgt_more HO.out HQ.out.e.2.1 HQ.out.e.2.2 (fun x hx => ⟨(HQ.out.f x hx).1, (HQ.out.f x hx).2.1⟩))
              have HLM := Lib.hid (show ∀ x ∈ L ++ M, x.t.n ≤ 45 ∧ x.t.m ≤ 45 from fun x hx => by
                rcases List.mem_append.1 hx with hx | hx
                · have := HM.out.2 x hx; omega
                · exact (HQ.out.f x hx).2.2)
              have HUH := Lib.hid (show u.h.n ≤ 45 ∧ u.h.m ≤ 45 by rw [HQ.out.e.1]; exact ⟨Nat.le_trans HM.out.1.1 (by decide), Nat.le_trans HM.out.1.2 (by decide)⟩)
              have HGQ := Lib.hid HQ.out.vs
              have HBQ := Lib.hid HQ.out.k
              have HRQ := Lib.hid (HR.out.later HQ.out.k)
              clear HQ
              go_wp2_with (first
                | (go_at_call 15; (with_reducible refine (right_t u h (L ++ M) _ _ _ ins _ HUI.out HRQ.out HUH.out HLM.out).mono ?_); rw [HRT.out]; rintro e w8 ⟨rfl, hb⟩; have HG8 := Lib.hid (HGQ.out.later hb); have HB8 := Lib.hid (bthen HBQ.out hb); clear hb)
                | (go_at_call 11; (with_reducible refine (awake_t _ HG8.out).mono ?_); rintro e w9 ⟨rfl, hb⟩; have HB9 := Lib.hid (bthen HB8.out hb); clear hb))
              go_ret
              exact ⟨rfl, HB9.out⟩

end Go.Proofs.YtkcgikoploohkaaGreatDoor
