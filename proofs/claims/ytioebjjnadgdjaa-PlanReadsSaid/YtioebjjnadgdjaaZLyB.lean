/- What layOut tells. No condition but bounds. -/
import Derived.Test.YtioebjjnadgdjaaZLyA
import Derived.Deep.DeepCutAuto
namespace Go.Proofs.Ytioebjjnadgdjaa
set_option linter.unusedVariables false
set_option linter.unusedSimpArgs false
set_option maxRecDepth 100000
open Go.RowKit

theorem Lo.len_le {L : Nat → Nat} {i S : Nat} {sls : List Nat} {hs : List Int} (h : Lo L i S sls hs) : hs.length ≤ S := by
  have := Gr.nodup_len S (hs.map Int.toNat) (toNat_nd hs h.hnd fun x hx => by obtain ⟨s, e, _⟩ := (h.hin x).1 hx; omega) (fun x hx => by
    obtain ⟨y, hy, rfl⟩ := List.mem_map.1 hx
    obtain ⟨s, e, h2, _⟩ := (h.hin y).1 hy
    omega)
  simpa using this
set_option maxHeartbeats 8000000 in
theorem layOut_t (la : Nat → Nat) (o : List Int) (A : Option Addr) (gl n c : Nat) (lv : List Int) (w : World) (hrow : IRow w w.heap.size A n c o) (ho : Once o n) (hj : JMem w gl lv) (hla : LaIs la n lv) (hL : ∀ i, i < n → i ≤ Lpl la o i) (hn : n ≤ 200) :
    Calls Try.prog 20 #[.slice A n c, .slice (some ⟨gl, 0, none⟩) n n] w (LayPost la o n w) := by
  have HJ := Lib.hid hj
  have HLA := Lib.hid hla
  have HLL := Lib.hid hL
  have HON := Lib.hid ho
  have HROW := Lib.hid hrow
  have hglw : gl < w.heap.size := hj.lt
  clear hj hla hL ho hrow
  go_enter Try.func20, Try.ntmps20
  go_wp2_with (at_make; refine makeI rfl _ rfl _ n rfl rfl (by omega) ?_)
  intro w1 hm1 hb1
  obtain ⟨go, hgo⟩ : ∃ go, go = w.heap.size := ⟨_, rfl⟩
  rw [← hgo] at hm1 hb1 ⊢
  have HM1 := Lib.hid hm1
  have HB1 := Lib.hid hb1
  have HGO := Lib.hid hgo
  clear hm1 hb1 hgo
  obtain ⟨gh, hgh⟩ : ∃ gh, gh = w1.heap.size := ⟨_, rfl⟩
  obtain ⟨W2, hW2⟩ : ∃ W2, W2 = w1.alloc (.cells #[.slice none 0 0] 84) := ⟨_, rfl⟩
  have HB2 : Hid (Below gh w1 W2) := Lib.hid (by rw [hW2]; exact (Below.refl _ _).alloc (by rw [hgh]; exact Nat.le_refl _) _)
  have HH2 : Hid (∀ B, HF.HB W2 B gh (.slice none 0 0) []) := Lib.hid fun B => by rw [hW2, hgh]; exact HF.HB.fresh w1 B
  have HSZ2 : Hid (W2.heap.size = gh + 1) := Lib.hid (by rw [hW2, hgh]; simp)
  have HGHO : Hid (go < gh) := Lib.hid (by rw [hgh]; exact HM1.out.lt)
  have HJ2 : Hid (JMem W2 gl lv) := Lib.hid ((HJ.out.below (HB1.out.mono (by rw [HGO.out]; exact Nat.le_refl _)) hglw).below (HB2.out.mono (Nat.le_of_lt HGHO.out)) (by rw [HGO.out]; exact hglw))
  have HBW2 : Hid (Below go w W2) := Lib.hid (HB1.out.trans (HB2.out.mono (Nat.le_of_lt HGHO.out)))
  have HCL := Lib.hid (leaving_t la gl n lv W2 HJ2.out HLA.out (by omega))
  go_upto_region 4 with fail
  rw [← hgh, ← hW2]
  clear hgh hW2
  go_upto_region 5 with (go_at_call 36; (with_reducible refine HCL.out.mono ?_); rintro e w3 ⟨gw, gr, vs0, ws0, rfl, hvs, hvl, hra, hws, hwl, hgw, hwr, hb3⟩)
  obtain ⟨B, hB⟩ : ∃ B, B = w3.heap.size := ⟨_, rfl⟩
  have HOO : Hid (LyO w B go gh gw gr) := Lib.hid ⟨by rw [HGO.out]; exact Nat.le_refl _, HGHO.out, by have := HSZ2.out; omega, hwr, by rw [hB]; exact hvs.lt⟩
  have HST : Hid (LyR la o n 0 0 w B go gh gw gr w3) := Lib.hid ⟨.slice none 0 0, [], List.replicate n 0, ws0, vs0, [],
    ⟨(HM1.out.below HB2.out HGHO.out).below hb3 (by rw [HSZ2.out]; have := HGHO.out; omega), (HH2.out B).keep (S := []) (Only.of_below hb3) (by simp) (by simp), hws, hvs, (HBW2.out.mono (by rw [HGO.out]; exact Nat.le_refl _)).trans (hb3.mono (by have := HSZ2.out; have := HGHO.out; have := HGO.out; omega)), by rw [hB]; exact Nat.le_refl _⟩,
    Hp.IsHp.nil, Lo.start _, ⟨by simp, fun k hk => by omega⟩, hwl, hvl, fun j hj => hra j hj, fun j hj => Nat.zero_le _, fun j hj t ht => by simp [leftAt] at ht⟩
  clear hvs hvl hra hws hwl hgw hwr hb3 hB HM1 HB1 HB2 HH2 HJ2 HBW2 HCL
  go_wp2_with fail
  go_loopw [7, 23] (fun s t wr => ∃ i S : Nat, i ≤ n ∧ S ≤ i ∧ s = .int .i64 (S : Int) ∧ t = .int .i64 (i : Int) ∧ Hid (LyR la o n i S w B go gh gw gr wr)) (fun _ t _ => n - (intOf t).toNat)
  case atStart => exact ⟨0, 0, Nat.zero_le _, Nat.le_refl _, rfl, rfl, HST⟩
  case round =>
    clear HST
    obtain ⟨i, S, hi, hSi, rfl, rfl, hz⟩ := hrel
    obtain ⟨vh, hs, xs, ws, vs, sls, hmm, hqq, hlo, hoi, hlf⟩ := hz.out
    have HM := Lib.hid hmm
    have HQ := Lib.hid hqq
    have HLO := Lib.hid hlo
    have HOI := Lib.hid hoi
    have HLF := Lib.hid hlf
    clear hmm hqq hlo hoi hlf hz
    by_cases hlt : i < n
    · obtain ⟨b, off, rfl, hlb, oc0⟩ := (HROW.out.below HM.out.old).at_ hlt
      obtain ⟨u, hu, hou⟩ := HON.out.get hlt
      rw [hou] at oc0
      have HOU := Lib.hid hou; clear hou
      have hcb := HM.out.hp.cell
      obtain ⟨av, cv, hvv⟩ := HM.out.hp.2.len
      obtain ⟨m0, hm0⟩ : ∃ m0, m0 = hs.length := ⟨_, rfl⟩
      rw [← hm0] at hvv
      have HVV := Lib.hid hvv
      have HM0 := Lib.hid hm0
      clear hvv hm0
      rw [HVV.out] at hcb
      by_cases hm0 : m0 = 0
      · have hse : hs = [] := List.eq_nil_of_length_eq_zero (by rw [← HM0.out]; exact hm0)
        subst hm0
        obtain ⟨hs1, hh1⟩ : ∃ hs1 : List Int, hs1 = hs := ⟨_, rfl⟩
        obtain ⟨s, hsS⟩ : ∃ s, s = S := ⟨_, rfl⟩
        obtain ⟨S1, hS1⟩ : ∃ S1, S1 = S + 1 := ⟨_, rfl⟩
        obtain ⟨W1, hW1⟩ : ∃ W1, W1 = wr := ⟨_, rfl⟩
        obtain ⟨vh1, hv1⟩ : ∃ vh1, vh1 = vh := ⟨_, rfl⟩
        have HS1 : Hid (S1 ≤ i + 1) := Lib.hid (by omega)
        have HSL : Hid (hs1.length ≤ 1000) := Lib.hid (by rw [hh1, hse]; simp)
        have HNX : Hid (∀ hs', hs'.Perm (hs1 ++ Gr.ints (leftAt (Lpl la o) (sls ++ [s]) (i + 1) i)) → Lo (Lpl la o) (i + 1) S1 (sls ++ [s]) hs') := Lib.hid fun hs' hp => HLO.out.step (HLL.out i hlt) (.inr ⟨hse, by rw [hh1]; exact hse, hsS, hS1⟩) hp
        have HM1 : Hid (LyM w B go gh gw gr W1 vh1 hs1 xs ws vs) := Lib.hid (by rw [hW1, hv1, hh1]; exact HM.out)
        have HQ1 : Hid (Hp.IsHp hs1 hs1.length) := Lib.hid (by rw [hh1]; exact HQ.out)
        have HE1 := Lib.hid (And.intro hsS hS1)
        subst hW1 hv1 hsS
        clear hh1 hse hS1 HM HQ
        have huS : u < n := hu
        have oc := HM1.out.out.cell u (by rw [HOI.out.1]; exact hu)
        have of := HM1.out.out.free u
        obtain ⟨O0, hO0⟩ : ∃ O0, O0 = xs.getD u 0 := ⟨_, rfl⟩
        rw [← hO0] at oc
        clear hO0
        have lc := (HJ.out.below HM1.out.old hglw).cell (u * 2 + 1) (by rw [HLA.out.1]; omega)
        rw [HLA.out.2 u hu] at lc
        obtain ⟨M, hM⟩ : ∃ M, M = la u := ⟨_, rfl⟩
        rw [← hM] at lc
        have HMO := Lib.hid (HM1.out.setOut HOO.out u (s : Int))
        have HO2 := Lib.hid (HOI.out.add HON.out hlt HLO.out.len HOU.out hu (s := s))
        have HLI : Hid (Lpl la o i = M) := Lib.hid (by unfold Lpl; rw [HOU.out, hM]; simp)
        have HIM : Hid (i ≤ M) := Lib.hid (by have := HLL.out i hlt; rw [HLI.out] at this; exact this)
        have HSN : Hid (∀ j, leftAt (Lpl la o) (sls ++ [s]) (i + 1) j = leftAt (Lpl la o) sls i j ++ if M = j then [s] else []) := Lib.hid fun j => by rw [leftAt_snoc _ _ _ _ _ HLO.out.len, HLI.out]
        clear hM
        have huI : (u : Int) < (n : Int) := by omega
        by_cases hlast : M < n
        · have HRO : Hid ((leftAt (Lpl la o) sls i M).length + 1 ≤ cntTo la n M) := Lib.hid (lpl_room HON.out hlt HLI.out)
          obtain ⟨a3, hr3, hr4⟩ := HLF.out.row M hlast
          have ha3 := hr4 (by have := HRO.out; omega)
          subst ha3
          have hc3 := HM1.out.hd.cell M (v := .slice (some ⟨gw, preTo la n M, none⟩) (leftAt (Lpl la o) sls i M).length (cntTo la n M)) (by simpa using hr3)
          have hf3 := HM1.out.hd.free M
          have hpw : preTo la n M + (leftAt (Lpl la o) sls i M).length < n := by
            have h1 := preTo_succ la n M
            have h2 := preTo_le la n (M + 1)
            have h3 := HRO.out
            omega
          have wc0 := HM1.out.wh.cell (preTo la n M + (leftAt (Lpl la o) sls i M).length) (by rw [HLF.out.wl]; exact hpw)
          have wf0 := HM1.out.wh.free (preTo la n M + (leftAt (Lpl la o) sls i M).length)
          have HL2 : Hid (LfI la n gw (leftAt (Lpl la o) (sls ++ [s]) (i + 1)) (ws.set (preTo la n M + (leftAt (Lpl la o) sls i M).length) (s : Int)) (vs.set M (.slice (some ⟨gw, preTo la n M, none⟩) ((leftAt (Lpl la o) sls i M).length + 1) (cntTo la n M)))) := Lib.hid (HLF.out.add hlast HRO.out (by rw [HSN.out, if_pos rfl]) (fun j hj hne => by rw [HSN.out, if_neg (fun q => hne q.symm), List.append_nil]))
          clear hr3 hr4
          obtain ⟨len, hlen⟩ : ∃ len, len = (leftAt (Lpl la o) sls i M).length := ⟨_, rfl⟩
          obtain ⟨P, hP⟩ : ∃ P, P = preTo la n M := ⟨_, rfl⟩
          obtain ⟨cap, hcap⟩ : ∃ cap, cap = cntTo la n M := ⟨_, rfl⟩
          have hrc := HRO.out
          have hl1000 : len ≤ 1000 := by rw [hlen]; exact Nat.le_trans leftAt_len_le (by omega)
          have hcap1 : cap ≤ 1000 := by rw [hcap]; exact Nat.le_trans (cntTo_le la n M) (by omega)
          rw [← hlen, ← hcap] at hc3 hrc
          rw [← hP] at hc3
          rw [← hP, ← hlen] at wc0 wf0 hpw
          rw [← hP, ← hlen, ← hcap] at HL2
          obtain ⟨V0, hV0⟩ : ∃ V0, V0 = ws.getD (P + len) 0 := ⟨_, rfl⟩
          rw [← hV0] at wc0
          clear hlen hP hcap hV0
          have hMI : (M : Int) < (n : Int) := by omega
          have HM2 := Lib.hid (((HMO.out.setWh HOO.out (P + len) (s : Int)).setHd HOO.out M (.slice (some ⟨gw, P, none⟩) (len + 1) cap)).alloc HOO.out (.cells #[.int .i64 (s : Int)] 3))
          have hgwl : gw < W1.heap.size := HM1.out.wh.lt
          have hgol : go < W1.heap.size := HM1.out.out.lt
          have hgrl : gr < W1.heap.size := HM1.out.hd.lt
          have hne1 : ¬ gw = go := by have := HOO.out.b; have := HOO.out.c; omega
          have hne2 : ¬ gr = go := by have := HOO.out.b; have := HOO.out.c; have := HOO.out.d; omega
          have hne3 : ¬ gr = gw := by have := HOO.out.d; omega
          have hne4 : ¬ go = gw := fun e => hne1 e.symm
          have hne5 : ¬ go = gr := fun e => hne2 e.symm
          have hne6 : ¬ gw = gr := fun e => hne3 e.symm
          have hglo : ¬ gl = go := by have := HOO.out.a; omega
          go_upto_region 16 with (go_at_call 37; refine (HF.len_any av 0 cv _).mono ?_; rintro e w' ⟨rfl, rfl⟩)
          obtain ⟨W7, hW7⟩ : ∃ W7, W7 = (((W1.setCell ⟨go, u, none⟩ (.int .i64 (s : Int))).setCell ⟨gw, P + len, none⟩ (.int .i64 (s : Int))).setCell ⟨gr, M, none⟩ (.slice (some ⟨gw, P, none⟩) (len + 1) cap)).alloc (.cells #[.int .i64 (s : Int)] 3) := ⟨_, rfl⟩
          rw [← hW7]
          rw [← hW7] at HM2
          clear hW7
          obtain ⟨a6, hr6, hr7⟩ := HL2.out.row i hlt
          obtain ⟨m, hm⟩ : ∃ m, m = (leftAt (Lpl la o) (sls ++ [s]) (i + 1) i).length := ⟨_, rfl⟩
          rw [← hm] at hr6
          have hc6 := HM2.out.hd.cell i (v := .slice a6 m (cntTo la n i)) (by simpa using hr6)
          have HMM := Lib.hid hm
          have hm1000 : m ≤ 1000 := by rw [hm]; exact Nat.le_trans leftAt_len_le (by omega)
          have HRM : Hid (m ≤ cntTo la n i) := Lib.hid (by rw [hm]; exact HL2.out.room i hlt)
          have HA6 : Hid (0 < m → a6 = some ⟨gw, preTo la n i, none⟩) := Lib.hid fun h0 => hr7 (by have := HRM.out; omega)
          clear hm hr6 hr7
          obtain ⟨cap6, hcap6⟩ : ∃ cap6, cap6 = cntTo la n i := ⟨_, rfl⟩
          rw [← hcap6] at hc6
          clear hcap6
          go_wp2_with fail
          go_loopw [66] (fun t wr => ∃ p : Nat, p ≤ m ∧ t = .int .i64 p ∧ Hid (∃ vh hs, LyM w B go gh gw gr wr vh hs (xs.set u (s : Int)) (ws.set (P + len) (s : Int)) (vs.set M (.slice (some ⟨gw, P, none⟩) (len + 1) cap)) ∧ Hp.IsHp hs hs.length ∧ hs.Perm (hs1 ++ Gr.ints ((leftAt (Lpl la o) (sls ++ [s]) (i + 1) i).take p)))) (fun t _ => m - (intOf t).toNat)
          case atStart => exact ⟨0, Nat.zero_le _, rfl, Lib.hid ⟨_, _, HM2.out, HQ1.out, by simp [Gr.ints]⟩⟩
          case round =>
            clear HM2 HQ1 hc6
            obtain ⟨p, hp, rfl, hzp⟩ := hrel
            obtain ⟨vhp, hsp, hmp, hqp, hpp⟩ := hzp.out
            have HMP := Lib.hid hmp
            have HQP := Lib.hid hqp
            have HPP := Lib.hid hpp
            clear hmp hqp hpp hzp
            by_cases hlp : p < m
            · have ha6 := HA6.out (by omega)
              subst ha6
              have hpl6 : preTo la n i + p < n := by
                have h1 := preTo_succ la n i
                have h2 := preTo_le la n (i + 1)
                have h3 := HRM.out
                omega
              have wc := HMP.out.wh.cell (preTo la n i + p) (by rw [HL2.out.wl]; exact hpl6)
              rw [HL2.out.cont i hlt p (by rw [← HMM.out]; exact hlp)] at wc
              obtain ⟨X, hX⟩ : ∃ X : Nat, X = (leftAt (Lpl la o) (sls ++ [s]) (i + 1) i).getD p 0 := ⟨_, rfl⟩
              rw [← hX] at wc
              have HTK : Hid ((leftAt (Lpl la o) (sls ++ [s]) (i + 1) i).take (p + 1) = (leftAt (Lpl la o) (sls ++ [s]) (i + 1) i).take p ++ [X]) := Lib.hid (by
                have hpl : p < (leftAt (Lpl la o) (sls ++ [s]) (i + 1) i).length := by rw [← HMM.out]; exact hlp
                rw [List.take_succ_eq_append_getElem hpl, hX]
                congr 2
                simp [hpl])
              obtain ⟨P6, hP6⟩ : ∃ P6, P6 = preTo la n i := ⟨_, rfl⟩
              rw [← hP6] at wc HA6 hpl6 ⊢
              clear hX hP6
              have hsl : hsp.length ≤ 900000 := by
                have h1 := HPP.out.length_eq
                have h2 := HSL.out
                rw [h1, List.length_append, Gr.ints_len, List.length_take]
                omega
              go_wp2_with fail
              refine (HF.hpush_any B gh vhp hsp (X : Int) wr HMP.out.hp HMP.out.size hsl HQP.out).mono ?_
              rintro e w8 ⟨rfl, vh8, hs8, hp8, hq8, hb8, hst8⟩
              have HM8 := Lib.hid (HMP.out.heap HOO.out hb8 hst8)
              have HQ8 := Lib.hid hq8
              have HP8 : Hid (hs8.Perm (hs1 ++ Gr.ints ((leftAt (Lpl la o) (sls ++ [s]) (i + 1) i).take (p + 1)))) := Lib.hid (by
                rw [HTK.out, Gr.ints_append, ← List.append_assoc]
                exact (hp8.trans (List.Perm.cons _ HPP.out)).trans (List.perm_append_comm (l₁ := [(X : Int)])))
              clear hp8 hq8 hb8 hst8
              go_wp2
              go_roundw
              case rel => exact ⟨p + 1, by omega, by go_num, Lib.hid ⟨vh8, hs8, HM8.out, HQ8.out, HP8.out⟩⟩
              case measure => simp [intOf]; omega
            · obtain rfl : p = m := by omega
              have HDN : Hid (LyR la o n (i + 1) S1 w B go gh gw gr wr) := Lib.hid ⟨vhp, hsp, _, _, _, _, HMP.out, HQP.out, HNX.out _ (by rw [HMM.out, List.take_length] at HPP; exact HPP.out), HO2.out, HL2.out⟩
              go_wp2
              go_roundw
              case rel => exact ⟨i + 1, S1, by omega, by have := HS1.out; omega, by rw [HE1.out.2]; go_num, by go_num, HDN⟩
              case measure => simp [intOf]; omega
        · have HL2 : Hid (LfI la n gw (leftAt (Lpl la o) (sls ++ [s]) (i + 1)) ws vs) := Lib.hid (HLF.out.ext fun j hj => by rw [HSN.out, if_neg (by omega), List.append_nil])
          have hMI : ¬ (M : Int) < (n : Int) := by omega
          have HM2 := HMO
          have hgrl : gr < W1.heap.size := HM1.out.hd.lt
          have hne2 : ¬ gr = go := by have := HOO.out.b; have := HOO.out.c; have := HOO.out.d; omega
          have hne5 : ¬ go = gr := fun e => hne2 e.symm
          have hglo : ¬ gl = go := by have := HOO.out.a; omega
          go_upto_region 16 with (go_at_call 37; refine (HF.len_any av 0 cv _).mono ?_; rintro e w' ⟨rfl, rfl⟩)
          obtain ⟨W7, hW7⟩ : ∃ W7, W7 = W1.setCell ⟨go, u, none⟩ (.int .i64 (s : Int)) := ⟨_, rfl⟩
          rw [← hW7]
          rw [← hW7] at HM2
          clear hW7
          obtain ⟨a6, hr6, hr7⟩ := HL2.out.row i hlt
          obtain ⟨m, hm⟩ : ∃ m, m = (leftAt (Lpl la o) (sls ++ [s]) (i + 1) i).length := ⟨_, rfl⟩
          rw [← hm] at hr6
          have hc6 := HM2.out.hd.cell i (v := .slice a6 m (cntTo la n i)) (by simpa using hr6)
          have HMM := Lib.hid hm
          have hm1000 : m ≤ 1000 := by rw [hm]; exact Nat.le_trans leftAt_len_le (by omega)
          have HRM : Hid (m ≤ cntTo la n i) := Lib.hid (by rw [hm]; exact HL2.out.room i hlt)
          have HA6 : Hid (0 < m → a6 = some ⟨gw, preTo la n i, none⟩) := Lib.hid fun h0 => hr7 (by have := HRM.out; omega)
          clear hm hr6 hr7
          obtain ⟨cap6, hcap6⟩ : ∃ cap6, cap6 = cntTo la n i := ⟨_, rfl⟩
          rw [← hcap6] at hc6
          clear hcap6
          go_wp2_with fail
          go_loopw [66] (fun t wr => ∃ p : Nat, p ≤ m ∧ t = .int .i64 p ∧ Hid (∃ vh hs, LyM w B go gh gw gr wr vh hs (xs.set u (s : Int)) ws vs ∧ Hp.IsHp hs hs.length ∧ hs.Perm (hs1 ++ Gr.ints ((leftAt (Lpl la o) (sls ++ [s]) (i + 1) i).take p)))) (fun t _ => m - (intOf t).toNat)
          case atStart => exact ⟨0, Nat.zero_le _, rfl, Lib.hid ⟨_, _, HM2.out, HQ1.out, by simp [Gr.ints]⟩⟩
          case round =>
            clear HM2 HQ1 hc6
            obtain ⟨p, hp, rfl, hzp⟩ := hrel
            obtain ⟨vhp, hsp, hmp, hqp, hpp⟩ := hzp.out
            have HMP := Lib.hid hmp
            have HQP := Lib.hid hqp
            have HPP := Lib.hid hpp
            clear hmp hqp hpp hzp
            by_cases hlp : p < m
            · have ha6 := HA6.out (by omega)
              subst ha6
              have hpl6 : preTo la n i + p < n := by
                have h1 := preTo_succ la n i
                have h2 := preTo_le la n (i + 1)
                have h3 := HRM.out
                omega
              have wc := HMP.out.wh.cell (preTo la n i + p) (by rw [HL2.out.wl]; exact hpl6)
              rw [HL2.out.cont i hlt p (by rw [← HMM.out]; exact hlp)] at wc
              obtain ⟨X, hX⟩ : ∃ X : Nat, X = (leftAt (Lpl la o) (sls ++ [s]) (i + 1) i).getD p 0 := ⟨_, rfl⟩
              rw [← hX] at wc
              have HTK : Hid ((leftAt (Lpl la o) (sls ++ [s]) (i + 1) i).take (p + 1) = (leftAt (Lpl la o) (sls ++ [s]) (i + 1) i).take p ++ [X]) := Lib.hid (by
                have hpl : p < (leftAt (Lpl la o) (sls ++ [s]) (i + 1) i).length := by rw [← HMM.out]; exact hlp
                rw [List.take_succ_eq_append_getElem hpl, hX]
                congr 2
                simp [hpl])
              obtain ⟨P6, hP6⟩ : ∃ P6, P6 = preTo la n i := ⟨_, rfl⟩
              rw [← hP6] at wc HA6 hpl6 ⊢
              clear hX hP6
              have hsl : hsp.length ≤ 900000 := by
                have h1 := HPP.out.length_eq
                have h2 := HSL.out
                rw [h1, List.length_append, Gr.ints_len, List.length_take]
                omega
              go_wp2_with fail
              refine (HF.hpush_any B gh vhp hsp (X : Int) wr HMP.out.hp HMP.out.size hsl HQP.out).mono ?_
              rintro e w8 ⟨rfl, vh8, hs8, hp8, hq8, hb8, hst8⟩
              have HM8 := Lib.hid (HMP.out.heap HOO.out hb8 hst8)
              have HQ8 := Lib.hid hq8
              have HP8 : Hid (hs8.Perm (hs1 ++ Gr.ints ((leftAt (Lpl la o) (sls ++ [s]) (i + 1) i).take (p + 1)))) := Lib.hid (by
                rw [HTK.out, Gr.ints_append, ← List.append_assoc]
                exact (hp8.trans (List.Perm.cons _ HPP.out)).trans (List.perm_append_comm (l₁ := [(X : Int)])))
              clear hp8 hq8 hb8 hst8
              go_wp2
              go_roundw
              case rel => exact ⟨p + 1, by omega, by go_num, Lib.hid ⟨vh8, hs8, HM8.out, HQ8.out, HP8.out⟩⟩
              case measure => simp [intOf]; omega
            · obtain rfl : p = m := by omega
              have HDN : Hid (LyR la o n (i + 1) S1 w B go gh gw gr wr) := Lib.hid ⟨vhp, hsp, _, _, _, _, HMP.out, HQP.out, HNX.out _ (by rw [HMM.out, List.take_length] at HPP; exact HPP.out), HO2.out, HL2.out⟩
              go_wp2
              go_roundw
              case rel => exact ⟨i + 1, S1, by omega, by have := HS1.out; omega, by rw [HE1.out.2]; go_num, by go_num, HDN⟩
              case measure => simp [intOf]; omega

      · have hpos : 0 < m0 := by omega
        have hposI : (0 : Int) < (m0 : Int) := by omega
        have HHL : Hid (hs.length ≤ S) := Lib.hid HLO.out.len_le
        have hsl9 : hs.length ≤ 900000 := by have := HHL.out; omega
        go_upto_region 10 with (go_at_call 37; refine (HF.len_any av m0 cv _).mono ?_; rintro e w' ⟨rfl, rfl⟩)
        go_wp2_with fail
        refine (HF.hpop_any B gh vh hs wr HM.out.hp (by rw [← HM0.out]; exact hpos) hsl9 HQ.out).mono ?_
        rintro e W1 ⟨vh1, X, hs1, rfl, hpX, hqX, hminX, hbX, hstX⟩
        obtain ⟨s, hsX, hsS, _⟩ := (HLO.out.hin X).1 (hpX.mem_iff.1 List.mem_cons_self)
        subst hsX
        have HM1 := Lib.hid (HM.out.heap HOO.out hbX hstX)
        have HQ1 := Lib.hid hqX
        obtain ⟨S1, hS1⟩ : ∃ S1, S1 = S := ⟨_, rfl⟩
        have HS1 : Hid (S1 ≤ i + 1) := Lib.hid (by omega)
        have HSL : Hid (hs1.length ≤ 1000) := Lib.hid (by have h1 := hpX.length_eq; have h2 := HHL.out; simp only [List.length_cons] at h1; omega)
        have HNX : Hid (∀ hs', hs'.Perm (hs1 ++ Gr.ints (leftAt (Lpl la o) (sls ++ [s]) (i + 1) i)) → Lo (Lpl la o) (i + 1) S1 (sls ++ [s]) hs') := Lib.hid fun hs' hp => HLO.out.step (HLL.out i hlt) (.inl ⟨hpX, hminX, hS1⟩) hp
        have HE1 := Lib.hid hS1
        have hta := assert_int (s : Int)
        have HVX : Hid (∃ a m c, vh1 = .slice a m c) := Lib.hid hbX.isSlice
        clear hpX hqX hminX hbX hstX hsS hS1 HM HQ hcb hsl9
        have huS : u < n := hu
        have oc := HM1.out.out.cell u (by rw [HOI.out.1]; exact hu)
        have of := HM1.out.out.free u
        obtain ⟨O0, hO0⟩ : ∃ O0, O0 = xs.getD u 0 := ⟨_, rfl⟩
        rw [← hO0] at oc
        clear hO0
        have lc := (HJ.out.below HM1.out.old hglw).cell (u * 2 + 1) (by rw [HLA.out.1]; omega)
        rw [HLA.out.2 u hu] at lc
        obtain ⟨M, hM⟩ : ∃ M, M = la u := ⟨_, rfl⟩
        rw [← hM] at lc
        have HMO := Lib.hid (HM1.out.setOut HOO.out u (s : Int))
        have HO2 := Lib.hid (HOI.out.add HON.out hlt HLO.out.len HOU.out hu (s := s))
        have HLI : Hid (Lpl la o i = M) := Lib.hid (by unfold Lpl; rw [HOU.out, hM]; simp)
        have HIM : Hid (i ≤ M) := Lib.hid (by have := HLL.out i hlt; rw [HLI.out] at this; exact this)
        have HSN : Hid (∀ j, leftAt (Lpl la o) (sls ++ [s]) (i + 1) j = leftAt (Lpl la o) sls i j ++ if M = j then [s] else []) := Lib.hid fun j => by rw [leftAt_snoc _ _ _ _ _ HLO.out.len, HLI.out]
        clear hM
        have huI : (u : Int) < (n : Int) := by omega
        by_cases hlast : M < n
        · have HRO : Hid ((leftAt (Lpl la o) sls i M).length + 1 ≤ cntTo la n M) := Lib.hid (lpl_room HON.out hlt HLI.out)
          obtain ⟨a3, hr3, hr4⟩ := HLF.out.row M hlast
          have ha3 := hr4 (by have := HRO.out; omega)
          subst ha3
          have hc3 := HM1.out.hd.cell M (v := .slice (some ⟨gw, preTo la n M, none⟩) (leftAt (Lpl la o) sls i M).length (cntTo la n M)) (by simpa using hr3)
          have hf3 := HM1.out.hd.free M
          have hpw : preTo la n M + (leftAt (Lpl la o) sls i M).length < n := by
            have h1 := preTo_succ la n M
            have h2 := preTo_le la n (M + 1)
            have h3 := HRO.out
            omega
          have wc0 := HM1.out.wh.cell (preTo la n M + (leftAt (Lpl la o) sls i M).length) (by rw [HLF.out.wl]; exact hpw)
          have wf0 := HM1.out.wh.free (preTo la n M + (leftAt (Lpl la o) sls i M).length)
          have HL2 : Hid (LfI la n gw (leftAt (Lpl la o) (sls ++ [s]) (i + 1)) (ws.set (preTo la n M + (leftAt (Lpl la o) sls i M).length) (s : Int)) (vs.set M (.slice (some ⟨gw, preTo la n M, none⟩) ((leftAt (Lpl la o) sls i M).length + 1) (cntTo la n M)))) := Lib.hid (HLF.out.add hlast HRO.out (by rw [HSN.out, if_pos rfl]) (fun j hj hne => by rw [HSN.out, if_neg (fun q => hne q.symm), List.append_nil]))
          clear hr3 hr4
          obtain ⟨len, hlen⟩ : ∃ len, len = (leftAt (Lpl la o) sls i M).length := ⟨_, rfl⟩
          obtain ⟨P, hP⟩ : ∃ P, P = preTo la n M := ⟨_, rfl⟩
          obtain ⟨cap, hcap⟩ : ∃ cap, cap = cntTo la n M := ⟨_, rfl⟩
          have hrc := HRO.out
          have hl1000 : len ≤ 1000 := by rw [hlen]; exact Nat.le_trans leftAt_len_le (by omega)
          have hcap1 : cap ≤ 1000 := by rw [hcap]; exact Nat.le_trans (cntTo_le la n M) (by omega)
          rw [← hlen, ← hcap] at hc3 hrc
          rw [← hP] at hc3
          rw [← hP, ← hlen] at wc0 wf0 hpw
          rw [← hP, ← hlen, ← hcap] at HL2
          obtain ⟨V0, hV0⟩ : ∃ V0, V0 = ws.getD (P + len) 0 := ⟨_, rfl⟩
          rw [← hV0] at wc0
          clear hlen hP hcap hV0
          have hMI : (M : Int) < (n : Int) := by omega
          have HM2 := Lib.hid (((HMO.out.setWh HOO.out (P + len) (s : Int)).setHd HOO.out M (.slice (some ⟨gw, P, none⟩) (len + 1) cap)).alloc HOO.out (.cells #[.int .i64 (s : Int)] 3))
          have hgwl : gw < W1.heap.size := HM1.out.wh.lt
          have hgol : go < W1.heap.size := HM1.out.out.lt
          have hgrl : gr < W1.heap.size := HM1.out.hd.lt
          have hne1 : ¬ gw = go := by have := HOO.out.b; have := HOO.out.c; omega
          have hne2 : ¬ gr = go := by have := HOO.out.b; have := HOO.out.c; have := HOO.out.d; omega
          have hne3 : ¬ gr = gw := by have := HOO.out.d; omega
          have hne4 : ¬ go = gw := fun e => hne1 e.symm
          have hne5 : ¬ go = gr := fun e => hne2 e.symm
          have hne6 : ¬ gw = gr := fun e => hne3 e.symm
          have hglo : ¬ gl = go := by have := HOO.out.a; omega
          go_upto_region 16 with fail
          obtain ⟨W7, hW7⟩ : ∃ W7, W7 = (((W1.setCell ⟨go, u, none⟩ (.int .i64 (s : Int))).setCell ⟨gw, P + len, none⟩ (.int .i64 (s : Int))).setCell ⟨gr, M, none⟩ (.slice (some ⟨gw, P, none⟩) (len + 1) cap)).alloc (.cells #[.int .i64 (s : Int)] 3) := ⟨_, rfl⟩
          rw [← hW7]
          rw [← hW7] at HM2
          clear hW7
          obtain ⟨a6, hr6, hr7⟩ := HL2.out.row i hlt
          obtain ⟨m, hm⟩ : ∃ m, m = (leftAt (Lpl la o) (sls ++ [s]) (i + 1) i).length := ⟨_, rfl⟩
          rw [← hm] at hr6
          have hc6 := HM2.out.hd.cell i (v := .slice a6 m (cntTo la n i)) (by simpa using hr6)
          have HMM := Lib.hid hm
          have hm1000 : m ≤ 1000 := by rw [hm]; exact Nat.le_trans leftAt_len_le (by omega)
          have HRM : Hid (m ≤ cntTo la n i) := Lib.hid (by rw [hm]; exact HL2.out.room i hlt)
          have HA6 : Hid (0 < m → a6 = some ⟨gw, preTo la n i, none⟩) := Lib.hid fun h0 => hr7 (by have := HRM.out; omega)
          clear hm hr6 hr7
          obtain ⟨cap6, hcap6⟩ : ∃ cap6, cap6 = cntTo la n i := ⟨_, rfl⟩
          rw [← hcap6] at hc6
          clear hcap6
          go_wp2_with fail
          go_loopw [66] (fun t wr => ∃ p : Nat, p ≤ m ∧ t = .int .i64 p ∧ Hid (∃ vh hs, LyM w B go gh gw gr wr vh hs (xs.set u (s : Int)) (ws.set (P + len) (s : Int)) (vs.set M (.slice (some ⟨gw, P, none⟩) (len + 1) cap)) ∧ Hp.IsHp hs hs.length ∧ hs.Perm (hs1 ++ Gr.ints ((leftAt (Lpl la o) (sls ++ [s]) (i + 1) i).take p)))) (fun t _ => m - (intOf t).toNat)
          case atStart => exact ⟨0, Nat.zero_le _, rfl, Lib.hid ⟨_, _, HM2.out, HQ1.out, by simp [Gr.ints]⟩⟩
          case round =>
            clear HM2 HQ1 hc6
            obtain ⟨p, hp, rfl, hzp⟩ := hrel
            obtain ⟨vhp, hsp, hmp, hqp, hpp⟩ := hzp.out
            have HMP := Lib.hid hmp
            have HQP := Lib.hid hqp
            have HPP := Lib.hid hpp
            clear hmp hqp hpp hzp
            by_cases hlp : p < m
            · have ha6 := HA6.out (by omega)
              subst ha6
              have hpl6 : preTo la n i + p < n := by
                have h1 := preTo_succ la n i
                have h2 := preTo_le la n (i + 1)
                have h3 := HRM.out
                omega
              have wc := HMP.out.wh.cell (preTo la n i + p) (by rw [HL2.out.wl]; exact hpl6)
              rw [HL2.out.cont i hlt p (by rw [← HMM.out]; exact hlp)] at wc
              obtain ⟨X, hX⟩ : ∃ X : Nat, X = (leftAt (Lpl la o) (sls ++ [s]) (i + 1) i).getD p 0 := ⟨_, rfl⟩
              rw [← hX] at wc
              have HTK : Hid ((leftAt (Lpl la o) (sls ++ [s]) (i + 1) i).take (p + 1) = (leftAt (Lpl la o) (sls ++ [s]) (i + 1) i).take p ++ [X]) := Lib.hid (by
                have hpl : p < (leftAt (Lpl la o) (sls ++ [s]) (i + 1) i).length := by rw [← HMM.out]; exact hlp
                rw [List.take_succ_eq_append_getElem hpl, hX]
                congr 2
                simp [hpl])
              obtain ⟨P6, hP6⟩ : ∃ P6, P6 = preTo la n i := ⟨_, rfl⟩
              rw [← hP6] at wc HA6 hpl6 ⊢
              clear hX hP6
              have hsl : hsp.length ≤ 900000 := by
                have h1 := HPP.out.length_eq
                have h2 := HSL.out
                rw [h1, List.length_append, Gr.ints_len, List.length_take]
                omega
              go_wp2_with fail
              refine (HF.hpush_any B gh vhp hsp (X : Int) wr HMP.out.hp HMP.out.size hsl HQP.out).mono ?_
              rintro e w8 ⟨rfl, vh8, hs8, hp8, hq8, hb8, hst8⟩
              have HM8 := Lib.hid (HMP.out.heap HOO.out hb8 hst8)
              have HQ8 := Lib.hid hq8
              have HP8 : Hid (hs8.Perm (hs1 ++ Gr.ints ((leftAt (Lpl la o) (sls ++ [s]) (i + 1) i).take (p + 1)))) := Lib.hid (by
                rw [HTK.out, Gr.ints_append, ← List.append_assoc]
                exact (hp8.trans (List.Perm.cons _ HPP.out)).trans (List.perm_append_comm (l₁ := [(X : Int)])))
              clear hp8 hq8 hb8 hst8
              go_wp2
              go_roundw
              case rel => exact ⟨p + 1, by omega, by go_num, Lib.hid ⟨vh8, hs8, HM8.out, HQ8.out, HP8.out⟩⟩
              case measure => simp [intOf]; omega
            · obtain rfl : p = m := by omega
              have HDN : Hid (LyR la o n (i + 1) S1 w B go gh gw gr wr) := Lib.hid ⟨vhp, hsp, _, _, _, _, HMP.out, HQP.out, HNX.out _ (by rw [HMM.out, List.take_length] at HPP; exact HPP.out), HO2.out, HL2.out⟩
              go_wp2
              go_roundw
              case rel => exact ⟨i + 1, S1, by omega, by have := HS1.out; omega, by rw [HE1.out], by go_num, HDN⟩
              case measure => simp [intOf]; omega
        · have HL2 : Hid (LfI la n gw (leftAt (Lpl la o) (sls ++ [s]) (i + 1)) ws vs) := Lib.hid (HLF.out.ext fun j hj => by rw [HSN.out, if_neg (by omega), List.append_nil])
          have hMI : ¬ (M : Int) < (n : Int) := by omega
          have HM2 := HMO
          have hgrl : gr < W1.heap.size := HM1.out.hd.lt
          have hne2 : ¬ gr = go := by have := HOO.out.b; have := HOO.out.c; have := HOO.out.d; omega
          have hne5 : ¬ go = gr := fun e => hne2 e.symm
          have hglo : ¬ gl = go := by have := HOO.out.a; omega
          go_upto_region 16 with fail
          obtain ⟨W7, hW7⟩ : ∃ W7, W7 = W1.setCell ⟨go, u, none⟩ (.int .i64 (s : Int)) := ⟨_, rfl⟩
          rw [← hW7]
          rw [← hW7] at HM2
          clear hW7
          obtain ⟨a6, hr6, hr7⟩ := HL2.out.row i hlt
          obtain ⟨m, hm⟩ : ∃ m, m = (leftAt (Lpl la o) (sls ++ [s]) (i + 1) i).length := ⟨_, rfl⟩
          rw [← hm] at hr6
          have hc6 := HM2.out.hd.cell i (v := .slice a6 m (cntTo la n i)) (by simpa using hr6)
          have HMM := Lib.hid hm
          have hm1000 : m ≤ 1000 := by rw [hm]; exact Nat.le_trans leftAt_len_le (by omega)
          have HRM : Hid (m ≤ cntTo la n i) := Lib.hid (by rw [hm]; exact HL2.out.room i hlt)
          have HA6 : Hid (0 < m → a6 = some ⟨gw, preTo la n i, none⟩) := Lib.hid fun h0 => hr7 (by have := HRM.out; omega)
          clear hm hr6 hr7
          obtain ⟨cap6, hcap6⟩ : ∃ cap6, cap6 = cntTo la n i := ⟨_, rfl⟩
          rw [← hcap6] at hc6
          clear hcap6
          go_wp2_with fail
          go_loopw [66] (fun t wr => ∃ p : Nat, p ≤ m ∧ t = .int .i64 p ∧ Hid (∃ vh hs, LyM w B go gh gw gr wr vh hs (xs.set u (s : Int)) ws vs ∧ Hp.IsHp hs hs.length ∧ hs.Perm (hs1 ++ Gr.ints ((leftAt (Lpl la o) (sls ++ [s]) (i + 1) i).take p)))) (fun t _ => m - (intOf t).toNat)
          case atStart => exact ⟨0, Nat.zero_le _, rfl, Lib.hid ⟨_, _, HM2.out, HQ1.out, by simp [Gr.ints]⟩⟩
          case round =>
            clear HM2 HQ1 hc6
            obtain ⟨p, hp, rfl, hzp⟩ := hrel
            obtain ⟨vhp, hsp, hmp, hqp, hpp⟩ := hzp.out
            have HMP := Lib.hid hmp
            have HQP := Lib.hid hqp
            have HPP := Lib.hid hpp
            clear hmp hqp hpp hzp
            by_cases hlp : p < m
            · have ha6 := HA6.out (by omega)
              subst ha6
              have hpl6 : preTo la n i + p < n := by
                have h1 := preTo_succ la n i
                have h2 := preTo_le la n (i + 1)
                have h3 := HRM.out
                omega
              have wc := HMP.out.wh.cell (preTo la n i + p) (by rw [HL2.out.wl]; exact hpl6)
              rw [HL2.out.cont i hlt p (by rw [← HMM.out]; exact hlp)] at wc
              obtain ⟨X, hX⟩ : ∃ X : Nat, X = (leftAt (Lpl la o) (sls ++ [s]) (i + 1) i).getD p 0 := ⟨_, rfl⟩
              rw [← hX] at wc
              have HTK : Hid ((leftAt (Lpl la o) (sls ++ [s]) (i + 1) i).take (p + 1) = (leftAt (Lpl la o) (sls ++ [s]) (i + 1) i).take p ++ [X]) := Lib.hid (by
                have hpl : p < (leftAt (Lpl la o) (sls ++ [s]) (i + 1) i).length := by rw [← HMM.out]; exact hlp
                rw [List.take_succ_eq_append_getElem hpl, hX]
                congr 2
                simp [hpl])
              obtain ⟨P6, hP6⟩ : ∃ P6, P6 = preTo la n i := ⟨_, rfl⟩
              rw [← hP6] at wc HA6 hpl6 ⊢
              clear hX hP6
              have hsl : hsp.length ≤ 900000 := by
                have h1 := HPP.out.length_eq
                have h2 := HSL.out
                rw [h1, List.length_append, Gr.ints_len, List.length_take]
                omega
              go_wp2_with fail
              refine (HF.hpush_any B gh vhp hsp (X : Int) wr HMP.out.hp HMP.out.size hsl HQP.out).mono ?_
              rintro e w8 ⟨rfl, vh8, hs8, hp8, hq8, hb8, hst8⟩
              have HM8 := Lib.hid (HMP.out.heap HOO.out hb8 hst8)
              have HQ8 := Lib.hid hq8
              have HP8 : Hid (hs8.Perm (hs1 ++ Gr.ints ((leftAt (Lpl la o) (sls ++ [s]) (i + 1) i).take (p + 1)))) := Lib.hid (by
                rw [HTK.out, Gr.ints_append, ← List.append_assoc]
                exact (hp8.trans (List.Perm.cons _ HPP.out)).trans (List.perm_append_comm (l₁ := [(X : Int)])))
              clear hp8 hq8 hb8 hst8
              go_wp2
              go_roundw
              case rel => exact ⟨p + 1, by omega, by go_num, Lib.hid ⟨vh8, hs8, HM8.out, HQ8.out, HP8.out⟩⟩
              case measure => simp [intOf]; omega
            · obtain rfl : p = m := by omega
              have HDN : Hid (LyR la o n (i + 1) S1 w B go gh gw gr wr) := Lib.hid ⟨vhp, hsp, _, _, _, _, HMP.out, HQP.out, HNX.out _ (by rw [HMM.out, List.take_length] at HPP; exact HPP.out), HO2.out, HL2.out⟩
              go_wp2
              go_roundw
              case rel => exact ⟨i + 1, S1, by omega, by have := HS1.out; omega, by rw [HE1.out], by go_num, HDN⟩
              case measure => simp [intOf]; omega

    · obtain rfl : i = n := by omega
      have HD : Hid (LayPost la o i w (.returned (.tuple #[.slice (some ⟨go, 0, none⟩) i i, .int .i64 (S : Int)])) wr) := Lib.hid ⟨go, xs, S, sls, hs, rfl, HM.out.out, HLO.out, HOI.out, HOO.out.a, HM.out.old⟩
      go_wp2
      go_ret2
      exact HD.out

end Go.Proofs.Ytioebjjnadgdjaa
