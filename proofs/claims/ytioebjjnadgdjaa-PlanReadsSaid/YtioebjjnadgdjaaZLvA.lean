/- What leaving tells: the rows of the slots that come free. No condition but bounds. -/
import Derived.Test.YtioebjjnadgdjaaZLoMToPlanM
import Derived.Test.YtioebjjnadgdjaaZLiv
namespace Go.Proofs.Ytioebjjnadgdjaa
set_option linter.unusedVariables false
set_option linter.unusedSimpArgs false
set_option maxRecDepth 100000
open Go.RowKit

/-- make([][]int, n), as cells -/
theorem makeR {w : World} {ops : Array Oper} {rest : List Oper} {o : Oper} {a : Act} {Q : Exit → Act → World → Prop}
    (hg : o.guard = none) (l : Operand) (hop : o.op = Op.makeSlice 58 l l) (L : Int) (n : Nat) (hl : a.eval l = .int .i64 L) (hL : L = (n : Int)) (hn : n ≤ 1000000)
    (hK : ∀ w', Blk w' w.heap.size 23 (List.replicate n nilS).toArray → Below w.heap.size w w' → wpList Try.prog ops Q rest (a.put o.dst (.slice (some ⟨w.heap.size, 0, none⟩) n n)) w') :
    wpList Try.prog ops Q (o :: rest) a w := by
  refine wpList_plain hg fun K hK' => ?_
  obtain ⟨i, hi, hz0, hz1, hz2⟩ := info_parts Try.info23
  have hr := run_make (P := Try.prog) w 58 23 i (.slice none 0 0) Try.underlying58 hi hz0 .i64 .i64 n n (by omega) (Int.le_refl _) (by rw [hz2]; omega) (by omega)
  simp only [Int.toNat_natCast] at hr
  subst hL
  unfold Oper.wp
  simp [execOp, hop, hl, hr, Result.andThen]
  refine hK' _ _ (hK _ ?_ ((Below.refl _ _).alloc (Nat.le_refl _) _))
  unfold Blk
  rw [heap_alloc_new]
  congr 2
  rw [hz1, Nat.mul_one]
  apply Array.ext'
  show (madeCells #[Value.slice none 0 0] n).toList = _
  rw [toList_madeCells_one]
  simp [nilS]
/-- row i is a part of block gw, of so many numbers, with room for all that will be there -/
def RowAt (la : Nat → Nat) (n gw : Nat) (vs : List Value) (i len : Nat) : Prop := ∃ a, vs[i]? = some (.slice a len (cntTo la n i)) ∧ (0 < cntTo la n i → a = some ⟨gw, preTo la n i, none⟩)
def LeavPost (la : Nat → Nat) (n : Nat) (w : World) (e : Ending) (w' : World) : Prop :=
  ∃ gw gr vs ws, e = .returned (.slice (some ⟨gr, 0, none⟩) n n) ∧ Blk w' gr 23 vs.toArray ∧ vs.length = n ∧ (∀ i, i < n → RowAt la n gw vs i 0) ∧ IMem w' gw ws ∧ ws.length = n ∧ w.heap.size ≤ gw ∧ gw < gr ∧ Below w.heap.size w w'
/-- the lives' last places, as plain numbers -/
def LaIs (la : Nat → Nat) (n : Nat) (lv : List Int) : Prop := lv.length = n * 2 ∧ ∀ v, v < n → lv.getD (v * 2 + 1) 0 = (la v : Int)
def CntIs (la : Nat → Nat) (n k : Nat) (ms : List Int) : Prop := ms.length = n ∧ ∀ j, j < n → ms.getD j 0 = (cntTo la k j : Int)
theorem CntIs.start (la : Nat → Nat) (n : Nat) : CntIs la n 0 (List.replicate n 0) := ⟨by simp, fun j hj => by simp [hj, cntTo]⟩
theorem CntIs.add {la : Nat → Nat} {n k : Nat} {ms : List Int} (h : CntIs la n k ms) (hk : la k < n) : CntIs la n (k + 1) (ms.set (la k) ((cntTo la k (la k) : Int) + 1)) := by
  refine ⟨by rw [List.length_set]; exact h.1, fun j hj => ?_⟩
  rw [getD_set _ _ _ _ (by rw [h.1]; exact hk), cntTo_succ]
  by_cases e : j = la k
  · subst e; rw [if_pos rfl, if_pos rfl]; omega
  · rw [if_neg e, if_neg (fun q => e q.symm), h.2 j hj]; simp
theorem CntIs.skip {la : Nat → Nat} {n k : Nat} {ms : List Int} (h : CntIs la n k ms) (hk : ¬ la k < n) : CntIs la n (k + 1) ms :=
  ⟨h.1, fun j hj => by rw [h.2 j hj, cntTo_succ, if_neg (by omega)]; simp⟩
theorem cntTo_le (la : Nat → Nat) (k j : Nat) : cntTo la k j ≤ k := by
  unfold cntTo
  have := List.length_filter_le (fun v => decide (la v = j)) (List.range k)
  simpa using this
theorem Blk.put {w : World} {g T : Nat} {vs : List Value} (h : Blk w g T vs.toArray) (j : Nat) (u : Value) : Blk (w.setCell ⟨g, j, none⟩ u) g T (vs.set j u).toArray := by
  have := heap_setCell_same w g j _ T u h
  unfold Blk
  rw [this, List.setIfInBounds_toArray]
theorem RowAt.put {la : Nat → Nat} {n gw i len : Nat} {vs : List Value} {a : Option Addr} (hi : i < vs.length) (ha : 0 < cntTo la n i → a = some ⟨gw, preTo la n i, none⟩) : RowAt la n gw (vs.set i (.slice a len (cntTo la n i))) i len := ⟨a, by simp [hi], ha⟩
theorem RowAt.other {la : Nat → Nat} {n gw i j len : Nat} {vs : List Value} (u : Value) (h : RowAt la n gw vs i len) (e : i ≠ j) : RowAt la n gw (vs.set j u) i len := by
  obtain ⟨a, h1, h2⟩ := h
  exact ⟨a, by rw [List.getElem?_set_ne (Ne.symm e)]; exact h1, h2⟩

set_option maxHeartbeats 2000000 in
theorem leaving_t (la : Nat → Nat) (gl n : Nat) (lv : List Int) (w : World) (hj : JMem w gl lv) (hla : LaIs la n lv) (hn : n ≤ 1000) :
    Calls Try.prog 36 #[.slice (some ⟨gl, 0, none⟩) n n] w (LeavPost la n w) := by
  have HJ := Lib.hid hj
  have HLA := Lib.hid hla
  have hgl : gl < w.heap.size := hj.lt
  clear hj hla
  go_enter Try.func36, Try.ntmps36
  go_wp2_with (at_make; refine makeI rfl _ rfl _ n rfl rfl (by omega) ?_)
  intro w1 hm1 hb1
  obtain ⟨gh, hgh⟩ : ∃ gh, gh = w.heap.size := ⟨_, rfl⟩
  rw [← hgh] at hm1 hb1 hgl ⊢
  have HM1 := Lib.hid hm1
  have HB1 := Lib.hid hb1
  have HGH := Lib.hid hgh
  clear hm1 hb1 hgh
  go_wp2_with fail
  go_loopw [16] (fun t wr => ∃ k : Nat, k ≤ n ∧ t = .int .i64 k ∧ Hid (∃ ms, IMem wr gh ms ∧ CntIs la n k ms) ∧ Hid (Below gh w wr)) (fun t _ => n - (intOf t).toNat)
  case atStart => exact ⟨0, Nat.zero_le _, rfl, Lib.hid ⟨_, HM1.out, CntIs.start la n⟩, HB1⟩
  case round =>
    obtain ⟨k, hk, rfl, hz, hbr⟩ := hrel
    obtain ⟨ms, hms, hci⟩ := hz.out
    have HMS := Lib.hid hms
    have HCI := Lib.hid hci
    have hghr : gh < wr.heap.size := hms.lt
    clear hms hci hz
    by_cases hlt : k < n
    · have hjr := HJ.out.below hbr.out hgl
      have c0 := hjr.cell (k * 2) (by rw [HLA.out.1]; omega)
      have c1 := hjr.cell (k * 2 + 1) (by rw [HLA.out.1]; omega)
      rw [HLA.out.2 k hlt] at c1
      obtain ⟨F, hF⟩ : ∃ F, F = lv.getD (k * 2) 0 := ⟨_, rfl⟩
      obtain ⟨M, hM⟩ : ∃ M, M = la k := ⟨_, rfl⟩
      rw [← hF] at c0; rw [← hM] at c1
      have HMM := Lib.hid hM
      have hglr : gl < wr.heap.size := Nat.lt_trans hgl hghr
      clear hF hM hjr
      by_cases hlast : M < n
      · have kc := HMS.out.cell M (by rw [HCI.out.1]; exact hlast)
        rw [HCI.out.2 M hlast] at kc
        have kf := HMS.out.free M
        have hcl := cntTo_le la k M
        have HAD : Hid (CntIs la n (k + 1) (ms.set M ((cntTo la k M : Int) + 1))) := Lib.hid (by have := HCI.out.add (by rw [← HMM.out]; exact hlast); rw [← HMM.out] at this; exact this)
        obtain ⟨C, hC⟩ : ∃ C, C = cntTo la k M := ⟨_, rfl⟩
        rw [← hC] at kc hcl HAD
        clear hC
        have hMI : (M : Int) < (n : Int) := by omega
        go_wp2
        go_roundw
        case rel => exact ⟨k + 1, by omega, by go_num, Lib.hid ⟨_, (HMS.out.set M ((C : Int) + 1)).alloc _, HAD.out⟩, Lib.hid ((hbr.out.setCell (p := ⟨gh, M, none⟩) (Nat.le_refl _) _).alloc (by simp; omega) _)⟩
        case measure => simp [intOf]; omega
      · have HSK : Hid (CntIs la n (k + 1) ms) := Lib.hid (HCI.out.skip (by rw [← HMM.out]; exact hlast))
        have hMI : ¬ (M : Int) < (n : Int) := by omega
        go_wp2
        go_roundw
        case rel => exact ⟨k + 1, by omega, by go_num, Lib.hid ⟨_, HMS.out.alloc _, HSK.out⟩, Lib.hid (hbr.out.alloc (Nat.le_of_lt hghr) _)⟩
        case measure => simp [intOf]; omega
    · obtain rfl : k = n := by omega
      obtain ⟨wo, rfl⟩ : ∃ wo : World, wo = wr := ⟨_, rfl⟩
      obtain ⟨gw, hgw⟩ : ∃ gw, gw = wo.heap.size := ⟨_, rfl⟩
      have HGW := Lib.hid hgw
      go_upto_region 9 with (at_make; refine makeI rfl _ rfl _ k rfl rfl (by omega) ?_; intro w2 hm2 hb2; rw [← hgw] at hm2 hb2)
      rw [← hgw]
      have HM2 := Lib.hid hm2
      have HB2 := Lib.hid hb2
      clear hm2 hb2 hgw
      go_wp2_with (at_make; refine makeR rfl _ rfl _ k rfl rfl (by omega) ?_)
      intro w3 hr3 hb3
      obtain ⟨gr, hgr⟩ : ∃ gr, gr = w2.heap.size := ⟨_, rfl⟩
      rw [← hgr] at hr3 hb3 ⊢
      have hwr : gw < gr := by rw [hgr]; exact HM2.out.lt
      have hhw : gh < gw := by rw [HGW.out]; exact hghr
      have HR3 := Lib.hid hr3
      have HB3 := Lib.hid hb3
      have HMS3 : Hid (IMem w3 gh ms) := Lib.hid ((HMS.out.below HB2.out hhw).below HB3.out (Nat.lt_trans hhw hwr))
      have HW3 : Hid (IMem w3 gw (List.replicate k 0)) := Lib.hid (HM2.out.below HB3.out hwr)
      have HBW : Hid (Below gh w w3) := Lib.hid ((hbr.out.trans (HB2.out.mono (Nat.le_of_lt hhw))).trans (HB3.out.mono (Nat.le_of_lt (Nat.lt_trans hhw hwr))))
      clear hr3 hb3 hgr HMS HM2
      go_wp2_with fail
      go_loopw [8, 41] (fun s t wr => ∃ j : Nat, j ≤ k ∧ s = .int .i64 (preTo la k j : Nat) ∧ t = .int .i64 j ∧ Hid (∃ vs : List Value, Blk wr gr 23 vs.toArray ∧ vs.length = k ∧ ∀ i, i < j → RowAt la k gw vs i 0) ∧ Hid (Below gr w3 wr)) (fun _ t _ => k - (intOf t).toNat)
      case atStart => exact ⟨0, Nat.zero_le _, by rw [preTo_zero]; rfl, rfl, Lib.hid ⟨_, HR3.out, by simp, fun i hi => by omega⟩, Lib.hid (Below.refl _ _)⟩
      case round =>
        obtain ⟨j, hj, rfl, rfl, hz, hbj⟩ := hrel
        obtain ⟨vs, hvs, hvl, hra⟩ := hz.out
        have HVS := Lib.hid hvs
        have HVL := Lib.hid hvl
        have HRA := Lib.hid hra
        clear hvs hvl hra hz
        have hpl := preTo_le la k j
        have hps := preTo_succ la k j
        have hpl2 := preTo_le la k (j + 1)
        by_cases hlt2 : j < k
        · have mc := (HMS3.out.below hbj.out (Nat.lt_trans hhw hwr)).cell j (by rw [HCI.out.1]; exact hlt2)
          rw [HCI.out.2 j hlt2] at mc
          have kc := HVS.out.cell j (v := vs.getD j nilS) (by simp [HVL.out, hlt2])
          have kf := HVS.out.free j
          obtain ⟨u0, hu0⟩ : ∃ u0, u0 = vs.getD j nilS := ⟨_, rfl⟩
          rw [← hu0] at kc
          clear hu0
          obtain ⟨P, hP⟩ : ∃ P, P = preTo la k j := ⟨_, rfl⟩
          obtain ⟨C, hC⟩ : ∃ C, C = cntTo la k j := ⟨_, rfl⟩
          rw [← hP] at hpl hps ⊢
          rw [← hC] at hps mc
          have HPC := Lib.hid (And.intro hP (And.intro hC hps))
          rw [hps] at hpl2
          clear hP hC hps
          have hjI : (j : Int) < (k : Int) := by omega
          go_wp2
          go_roundw
          case rel => exact ⟨j + 1, by omega, by rw [HPC.out.2.2]; go_num, by go_num, Lib.hid ⟨_, HVS.out.put j _, by rw [List.length_set]; exact HVL.out, fun i hi => by
            by_cases e : i = j
            · subst e
              refine ⟨if C = 0 then some ⟨gw, 0, none⟩ else some ⟨gw, P, none⟩, ?_, fun h0 => ?_⟩
              · rw [List.getElem?_set_self (by rw [HVL.out]; exact hlt2), ← HPC.out.2.1]
              · rw [← HPC.out.2.1] at h0
                rw [if_neg (by omega), HPC.out.1]
            · exact (HRA.out i (by omega)).other _ e⟩, Lib.hid (hbj.out.setCell (p := ⟨gr, j, none⟩) (Nat.le_refl _) _)⟩
          case measure => simp [intOf]; omega
        · obtain rfl : j = k := by omega
          have HD : Hid (LeavPost la j w (.returned (.slice (some ⟨gr, 0, none⟩) j j)) wr) := Lib.hid ⟨gw, gr, vs, _, rfl, HVS.out, HVL.out, HRA.out, HW3.out.below hbj.out hwr, by simp, by have := HGH.out; omega, hwr, by rw [← HGH.out]; exact HBW.out.trans (hbj.out.mono (by omega))⟩
          go_wp2
          go_ret
          exact HD.out

end Go.Proofs.Ytioebjjnadgdjaa
