/- What byLeaving tells: an order of all places. No condition but bounds. -/
import Derived.Test.YtdcmdbhkaohkgaaLeave
import Derived.IntWalk
namespace Go.Proofs.Ytdcmdbhkaohkgaa
open Go.RowKit Gr

def LeavePost (G : List (List Int)) (w : World) (e : Ending) (w' : World) : Prop :=
  ∃ a c out, e = .returned (.slice a G.length c) ∧ IRow w' w'.heap.size a G.length c (ints out) ∧ out.Nodup ∧ (∀ k, k < G.length → k ∈ out) ∧ (∀ k ∈ out, k < G.length) ∧ Lv G out ∧ Below w.heap.size w w' ∧ ∀ ad, a = some ad → w.heap.size ≤ ad.block

theorem appendHd {w : World} {ops : Array Oper} {rest : List Oper} {o : Oper} {a : Act} {Q : Exit → Act → World → Prop} (hgd : o.guard = none) (s x : Operand) (t : TypeId) (ht : Try.prog.underlying t = some (.slice 3))
    (hop : o.op = .call { callee := .builtin .append, args := #[s, x], argTypes := #[t, t] })
    (B : Nat) (v : Value) (xs : List Int) (X : Int) (T : TypeId) (H : Nat) (hs : a.eval s = v) (hx : a.eval x = .slice (some ⟨H, 0, none⟩) 1 1) (hH : w.heap.size = H) (hown : Own w B v xs) (hB : B ≤ H) (hl : xs.length ≤ 1000000000)
    (hK : ∀ v' w', Own w' B v' (xs ++ [X]) → Only [v.ownBlock] w w' → (v'.ownBlock = v.ownBlock ∨ ∃ k, v'.ownBlock = some k ∧ H ≤ k) → wpList Try.prog ops Q rest (a.put o.dst v') w') :
    wpList Try.prog ops Q (o :: rest) a (w.alloc (.cells #[.int .i64 X] T)).drew :=
  appendH (w := w.drew) hgd s x t ht hop B v xs X T H hs hx hH hown hB hl (fun v' w' h1 h2 h3 => hK v' w' h1 ⟨h2.os, h2.tape, h2.output, h2.size, h2.block⟩ h3)

theorem len_of_all (n : Nat) : ∀ l : List Nat, (∀ k, k < n → k ∈ l) → n ≤ l.length := by
  induction n with
  | zero => intro l _; exact Nat.zero_le _
  | succ n ih =>
    intro l h
    have hn : n ∈ l := h n (by omega)
    have h1 := ih (l.erase n) (fun k hk => (List.mem_erase_of_ne (by omega)).2 (h k (by omega)))
    rw [List.length_erase_of_mem hn] at h1
    have := List.length_pos_of_mem hn
    omega

theorem nil_or_snoc (l : List Nat) : l = [] ∨ ∃ a t, l = a ++ [t] := by
  rcases List.eq_nil_or_concat l with h | ⟨a, t, h⟩
  · exact Or.inl h
  · exact Or.inr ⟨a, t, by rw [h]; simp⟩

set_option maxHeartbeats 4000000 in
theorem leaving_any (a : Option Addr) (n c B : Nat) (G : List (List Int)) (w : World) (hg : GRow w B a n c G) (hB : B ≤ w.heap.size) (hn : n ≤ 1000000) (hcl : Gr.Clean G) :
    Calls Try.prog 27 #[.slice a n c] w (LeavePost G w) := by
  have HL : Hid (G.length = n) := hg.1
  have HG := Lib.hid hg; clear hg
  have HC := Lib.hid hcl; clear hcl
  go_enter Try.func27, Try.ntmps27
  go_wp2_with (at_make; refine makeI rfl _ rfl _ n rfl rfl (by omega) ?_)
  intro w1 hm1 hb1
  have hbx1 : Box w1 w.heap.size 24 (.slice none 0 0) := (hb1.block w.heap.size (by simp)).trans (heap_alloc_new w _)
  have hbel1 : Below w.heap.size w w1 := ((Below.refl _ w).alloc (Nat.le_refl _) _).trans (hb1.mono (by simp))
  have hs1 : w.heap.size + 1 < w1.heap.size := hm1.lt
  obtain ⟨gw, hgw⟩ : ∃ gw, gw = w.heap.size := ⟨_, rfl⟩
  obtain ⟨ga, hga⟩ : ∃ ga, ga = w.heap.size + 1 := ⟨_, rfl⟩
  rw [← hga] at hm1 ⊢
  have hwg : w.heap.size ≤ gw ∧ gw < ga ∧ ga < w1.heap.size := by omega
  have H1 : Hid (IMem w1 ga (List.replicate n 0) ∧ Box w1 gw 24 (.slice none 0 0) ∧ Below w.heap.size w w1) := ⟨hm1, by rw [hgw]; exact hbx1, hbel1⟩
  rw [← hgw]
  clear hm1 hbx1 hbel1 hb1 hs1
  obtain ⟨hw1, hw2, hw3⟩ := hwg
  have HGW := Lib.hid (And.intro hgw hga); clear hgw hga
  go_wp2_with (at_make; refine makeB rfl _ rfl _ n rfl rfl (by omega) ?_)
  intro w2 hm2 hb2
  obtain ⟨gb, hgb⟩ : ∃ gb, gb = w1.heap.size := ⟨_, rfl⟩
  rw [← hgb] at hm2 ⊢
  have hw4 : ga < gb := by omega
  have hw5 : gb < w2.heap.size := hm2.lt
  have H2 : Hid (IMem w2 ga (List.replicate n 0) ∧ Box w2 gw 24 (.slice none 0 0) ∧ Below w.heap.size w w2 ∧ BMem w2 gb (List.replicate n false)) :=
    ⟨H1.out.1.below hb2 (by omega), H1.out.2.1.below hb2, H1.out.2.2.trans (hb2.mono (by have := H1.out.2.2.size; omega)), hm2⟩
  clear H1 hm2 hb2
  have HGB := Lib.hid hgb; clear hgb
  obtain ⟨ge, hge⟩ : ∃ ge, ge = w2.heap.size := ⟨_, rfl⟩
  have H3 : Hid (LvSt w (ge + 1) n ga gb ge gw G (.slice none 0 0) (.slice none 0 0) [] [] (List.replicate n 0) (List.replicate n false) (w2.alloc (.cells #[.slice (some ⟨gb, 0, none⟩) n n] 28))) := by
    refine ⟨by have := Dfs.start G; rw [HL.out] at this; exact this, ?_, ⟨?_, H2.out.2.2.2.alloc _, ?_, Own.nil _ _⟩, Own.nil _ _, ?_, H2.out.2.2.1.alloc H2.out.2.2.1.size _, by simp; omega⟩
    · have := H2.out.1.alloc (.cells #[.slice (some ⟨gb, 0, none⟩) n n] 28)
      simpa [ints] using this
    · rw [hge]; exact heap_alloc_new w2 _
    · exact (Below.heap_alloc w2 _ gw H2.out.2.1.lt).trans H2.out.2.1
    · intro k hk; simp [Value.ownBlock] at hk
  have hw6 : gb < ge := by omega
  have hwge : w.heap.size ≤ ge := by omega
  have HGE := Lib.hid hge; clear hge
  clear H2
  go_wp2
  rw [← HGE.out]
  go_loopw [3, 19] (fun vo t wr => ∃ (i : Nat) (vw : Value) (out asked : List Nat) (ent : List Bool), i ≤ n ∧ t = .int .i64 (i : Int) ∧ Hid (LvSt w (ge + 1) n ga gb ge gw G vo vw out [] asked ent wr ∧ ∀ k, k < i → k ∈ out)) (fun _ t _ => n - (intOf t).toNat)
  case atStart => exact ⟨0, _, [], _, _, Nat.zero_le _, rfl, H3.out, fun k hk => by omega⟩
  case round =>
    obtain ⟨i, vw, out, asked, ent, hi, rfl, HZ⟩ := hrel
    by_cases hi0 : i < n
    · obtain ⟨wo, rfl⟩ : ∃ wo : World, wo = wr := ⟨_, rfl⟩
      have hiI : (i : Int) < (n : Int) := by omega
      go_wp2_with fail
      refine (enter_any (ge + 1) n ge gb gw ent vw [] _ i wo rfl HZ.out.1.2.2.1 (by rw [HZ.out.1.1.lenE, HL.out]) hi0 HZ.out.1.2.2.2.2.2.2 (by simp) (by omega) (by omega) (by omega) (by omega) (by omega) (by omega)).mono ?_
      rintro e w3 ⟨rfl, vw3, ent3, way3, hE3, ho3, hv3, hd3⟩
      obtain ⟨hd4, hin, _⟩ := dfs_enter HZ.out.1.1 (by rw [HL.out]; exact hi0) (fun a y e => by simp at e) hd3
      have hst : LvSt w (ge + 1) n ga gb ge gw G _ vw3 out way3 asked ent3 w3 := ⟨hd4, HZ.out.1.2.enter hE3 ho3 hv3 (by omega) (by omega) (by omega) (by omega) (by omega) (by omega) (by omega) (by omega)⟩
      have HST := Lib.hid (And.intro hst (And.intro hin (show ∀ k, k < i → k ∈ out ∨ k ∈ way3 from fun k hk => Or.inl (HZ.out.2 k hk)))); clear hst hin hE3 ho3 hv3 hd3 hd4
      have HST2 := Lib.hid (And.intro HST.out.1 (And.intro HST.out.2.1 HST.out.2.2))
      clear HZ
      go_wp2
      go_loopg [3] (slack G asked + (n - out.length)) (fun k vo wr => ∃ (vw : Value) (out way asked : List Nat) (ent : List Bool), Hid (LvSt w (ge + 1) n ga gb ge gw G vo vw out way asked ent wr ∧ (i ∈ out ∨ i ∈ way) ∧ (∀ k, k < i → k ∈ out ∨ k ∈ way)) ∧ Hid (slack G asked + (n - out.length) = k))
      case atStart => exact ⟨vw3, out, way3, asked, ent3, HST.out, rfl⟩
      case round =>
        clear HST HST2
        obtain ⟨vw, out, way, asked, ent, HZ, HK⟩ := hrel
        rcases nil_or_snoc way with rfl | ⟨w0, t, rfl⟩
        · obtain ⟨a4, c4, hv4⟩ := HZ.out.1.2.2.1.2.2.2.len
          have hcw := HZ.out.1.2.2.1.2.2.1.cell
          rw [hv4] at hcw
          have hl0 : (ints []).length = 0 := rfl
          rw [hl0] at hcw
          have HV4 := Lib.hid hv4; clear hv4 hl0
          go_wp2
          go_roundw
          case rel =>
            refine ⟨i + 1, vw, out, asked, ent, by omega, by go_num, HZ.out.1, fun k hk => ?_⟩
            by_cases e : k = i
            · rw [e]; exact HZ.out.2.1.resolve_right (by simp)
            · exact (HZ.out.2.2 k (by omega)).resolve_right (by simp)
          case measure => simp [intOf]; omega
        · obtain ⟨m, hm⟩ : ∃ m, m = w0.length := ⟨_, rfl⟩
          have hil : (ints (w0 ++ [t])).length = m + 1 := by rw [ints_len, hm]; simp
          obtain ⟨g4, c4, hv4, hgB, hct, hft, hnc, hcm⟩ := Own.cellAt HZ.out.1.2.2.1.2.2.2 (i := m) (by omega)
          rw [hil] at hv4 hnc
          have htt : (w0 ++ [t]).getD m 0 = t := by rw [hm]; exact getD_app_eq w0 t
          rw [ints_getD, htt] at hct
          have hcw := HZ.out.1.2.2.1.2.2.1.cell
          have hfw := HZ.out.1.2.2.1.2.2.1.free
          rw [hv4] at hcw
          have htn : t < n := by have := HZ.out.1.1.lt t (by simp); have h2 := HL.out; omega
          obtain ⟨b, off, A, L, C, rfl, hb, hcell, hrow⟩ := (HG.out.below (HZ.out.1.2.2.2.2.2.1.mono hB)).at_ htn
          have hL := hrow.len_le
          unfold maxLen at hL hcm
          have HLr : Hid ((G.getD t []).length = L) := hrow.1
          have HR := Lib.hid hrow; clear hrow
          have hca := HZ.out.1.2.1.cell t (by rw [ints_len, HZ.out.1.1.lenA, HL.out]; exact htn)
          have hfa := HZ.out.1.2.1.free t
          rw [ints_getD] at hca
          obtain ⟨q, hq⟩ : ∃ q, q = asked.getD t 0 := ⟨_, rfl⟩
          rw [← hq] at hca
          have hqL : q ≤ L := by have := HZ.out.1.1.askle t (by rw [HL.out]; exact htn); rw [HLr.out] at this; omega
          have hml : m + 1 ≤ 1000000 := by
            have h1 := nodup_len n (w0 ++ [t]) ((List.nodup_append.1 HZ.out.1.1.nd).2.1) (fun x hx => by have := HZ.out.1.1.lt x (List.mem_append_right _ hx); rw [HL.out] at this; exact this)
            simp at h1; omega
          have HQ := Lib.hid hq; clear hq
          have HM := Lib.hid hm; clear hm
          have HV4 := Lib.hid hv4; clear hv4
          have em : ((m + 1 : Nat) : Int) - 1 = (m : Int) := by omega
          have htI : (t : Int) < (n : Int) := by omega
          have hmc : m ≤ c4 := by omega
          clear hil htt hft
          by_cases hqlt : q < L
          · have hqI : (q : Int) < (L : Int) := by omega
            obtain ⟨b2, off2, rfl, hb2, hcell2⟩ := HR.out.at_ hqlt
            obtain ⟨k, hk, hkn⟩ := HC.out t (by rw [HL.out]; exact htn) ((G.getD t []).getD q 0) (getD_mem (by rw [HLr.out]; exact hqlt))
            rw [hk] at hcell2
            have HK2 := Lib.hid hk; clear hk
            rw [HL.out] at hkn
            have hgab : w.heap.size ≤ ga := by omega
            have hx1 : (wr.setCell ⟨ga, t, none⟩ (.int .i64 ((q : Int) + 1))).cell? ⟨b, off + t, none⟩ = some (.slice (some ⟨b2, off2, none⟩) L C) := by
              rw [World.cell?_setCell_other _ _ _ _ (fun e => by injection e; omega)]; exact hcell
            have hx2 : (wr.setCell ⟨ga, t, none⟩ (.int .i64 ((q : Int) + 1))).cell? ⟨b2, off2 + q, none⟩ = some (.int .i64 (k : Int)) := by
              rw [World.cell?_setCell_other _ _ _ _ (fun e => by injection e; omega)]; exact hcell2
            have hmem4 := HZ.out.1.2.ask t (q + 1) ((q : Int) + 1) (by omega) (by omega) (by omega) (by omega) (by omega) hgab
            have hx3 : (wr.setCell ⟨ga, t, none⟩ (.int .i64 ((q : Int) + 1))).cell? ⟨ga, t, none⟩ = some (.int .i64 ((q : Int) + 1)) := by
              have := hmem4.1.cell t (by rw [ints_len, List.length_set, HZ.out.1.1.lenA, HL.out]; exact htn)
              rw [ints_getD, natgetD_set _ _ _ _ (by rw [HZ.out.1.1.lenA, HL.out]; exact htn), if_pos rfl] at this
              exact this
            have HM4 := Lib.hid hmem4; clear hmem4
            go_wp2
            go_region
            go_wp2
            have hwl : (w0 ++ [t]).length ≤ 1000000 := by simp; have := HM.out; omega
            have hel : ent.length = n := by rw [HZ.out.1.1.lenE, HL.out]
            have HW1 := Lib.hid hwl; clear hwl
            have HE4 : Hid (Ent (wr.setCell ⟨ga, t, none⟩ (.int .i64 ((q : Int) + 1))).drew.drew (ge + 1) n ge gb gw ent vw (w0 ++ [t])) := HM4.out.drew.drew.2.1
            have HB4 : Hid (ge + 1 ≤ (wr.setCell ⟨ga, t, none⟩ (.int .i64 ((q : Int) + 1))).drew.drew.heap.size) := HM4.out.drew.drew.2.2.2.2.2
            have hne1 : ge ≠ gb := by omega
            have hne2 : ge ≠ gw := by omega
            have hne3 : gb ≠ gw := by omega
            have hne4 : ge < ge + 1 := by omega
            have hne5 : gb < ge + 1 := by omega
            have hne6 : gw < ge + 1 := by omega
            have HNE := Lib.hid (And.intro hne1 (And.intro hne2 (And.intro hne3 (And.intro hne4 (And.intro hne5 hne6))))); clear hne1 hne2 hne3 hne4 hne5 hne6
            have HE1 := Lib.hid hel; clear hel
            have hwr2 : IntKind.i64.wrap ((q : Int)) = (q : Int) := IntWalk.i64_in _ (by omega)
            have hwr1 : IntKind.i64.wrap ((q : Int) + 1 - 1) = (q : Int) := by rw [Int.add_sub_cancel]; exact hwr2
            have hq0 : (0 : Int) ≤ (q : Int) := by omega
            go_region_with ((with_reducible refine (enter_any (ge + 1) n ge gb gw ent vw (w0 ++ [t]) _ k _ rfl HE4.out HE1.out hkn HB4.out HW1.out HNE.out.2.2.2.1 HNE.out.2.2.2.2.1 HNE.out.2.2.2.2.2 HNE.out.1 HNE.out.2.1 HNE.out.2.2.1).mono ?_); rintro e w5 ⟨rfl, vw5, ent5, way5, hE5, ho5, hv5, hd5⟩; have H5 := Lib.hid (And.intro hE5 (And.intro ho5 (And.intro hv5 hd5))); clear hE5 ho5 hv5 hd5)
            all_goals
              have HD := Lib.hid (lv_ask HZ.out.1 HQ.out (by rw [HLr.out]; exact hqlt) HK2.out (by rw [HL.out]; exact hkn) HM4.out.drew.drew H5.out (by omega) (by omega) (by omega) (by omega) (by omega) (by omega) (by omega) (by omega))
              go_wp2
              go_roundg (slack G (asked.set t (q + 1)) + (n - out.length))
              case measure => have h1 := HD.out.2.1; have h2 := HK.out; omega
              case rel => exact ⟨vw5, out, way5, asked.set t (q + 1), ent5, ⟨HD.out.1, HD.out.2.2 i HZ.out.2.1, fun j hj => HD.out.2.2 j (HZ.out.2.2 j hj)⟩, rfl⟩
          · have hqI : ¬ (q : Int) < (L : Int) := by omega
            have hcm4 := HV4.out
            have hst := HZ.out.1
            rw [hcm4] at hst
            have hmem1 := hst.2.cut HM.out (by omega) (by omega) (by omega) (by omega) (by omega)
            have HM1 := Lib.hid hmem1.drew; clear hmem1 hst hcm4
            have hfull : asked.getD t 0 = (G.getD t []).length := by rw [← HQ.out, HLr.out]; omega
            have hdl := HZ.out.1.1.leave hfull
            have HDL := Lib.hid hdl; clear hdl hfull
            have hol := LvMem.place HZ.out.1
            have HOL : Hid ((ints out).length ≤ 1000000000) := by show _ ≤ _; rw [ints_len]; rw [HL.out] at hol; omega
            have HOL2 := Lib.hid hol; clear hol
            go_wp2
            go_region
            have hws : (wr.setCell ⟨gw, 0, none⟩ (.slice (some ⟨g4, 0, none⟩) m c4)).heap.size = wr.heap.size := by simp
            have hownI : Own (wr.setCell ⟨gw, 0, none⟩ (.slice (some ⟨g4, 0, none⟩) m c4)) (ge + 1) u3 (ints out) := HM1.out.2.2.1
            have HOW := Lib.hid hownI; clear hownI
            have hwB : ge + 1 ≤ wr.heap.size := by have := HM1.out.2.2.2.2.2; have e : (wr.setCell ⟨gw, 0, none⟩ (.slice (some ⟨g4, 0, none⟩) m c4)).drew.heap.size = wr.heap.size := by simp
                                                   omega
            have HWS := Lib.hid hws; clear hws
            go_wp2_with (at_builtin; refine appendHd rfl _ _ 24 Try.underlying24 rfl (ge + 1) u3 (ints out) (t : Int) _ wr.heap.size rfl rfl HWS.out HOW.out hwB HOL.out ?_)
            intro v' w6 hown6 honly6 hfr6
            obtain ⟨a6, n6, c6, rfl⟩ : ∃ a n c, v' = .slice a n c := by obtain ⟨a6, c6, e⟩ := hown6.len; exact ⟨a6, _, c6, e⟩
            have hmem6 := HM1.out.out (t := t) hown6 ⟨honly6.os, honly6.tape, honly6.output, honly6.size, honly6.block⟩ (by rw [HWS.out.symm] at hfr6; exact hfr6) (by omega) (by omega) (by omega) (by omega) (by omega)
            have HD6 := Lib.hid hmem6; clear hmem6 hown6 honly6 hfr6
            have hlen1 : (out ++ [t]).length ≤ n := by
              have := nodup_len G.length (out ++ [t]) (List.nodup_append.1 HDL.out.nd).1 (fun x hx => HDL.out.lt x (List.mem_append_left _ hx))
              rw [HL.out] at this; exact this
            have hlen2 : (out ++ [t]).length = out.length + 1 := by simp
            have HLE := Lib.hid (And.intro hlen1 hlen2); clear hlen1 hlen2
            go_wp2
            go_roundg (slack G asked + (n - (out ++ [t]).length))
            case measure => have h1 := HLE.out.1; have h3 := HLE.out.2; have h2 := HK.out; omega
            case rel =>
              refine ⟨.slice (some ⟨g4, 0, none⟩) m c4, out ++ [t], w0, asked, ent, ⟨⟨HDL.out, HD6.out⟩, ?_, fun j hj => ?_⟩, rfl⟩
              · rcases HZ.out.2.1 with h | h
                · exact Or.inl (List.mem_append_left _ h)
                · rcases List.mem_append.1 h with h | h
                  · exact Or.inr h
                  · exact Or.inl (List.mem_append_right _ h)
              · rcases HZ.out.2.2 j hj with h | h
                · exact Or.inl (List.mem_append_left _ h)
                · rcases List.mem_append.1 h with h | h
                  · exact Or.inr h
                  · exact Or.inl (List.mem_append_right _ h)
    · obtain rfl : i = n := by omega
      obtain ⟨a7, c7, hv7⟩ := HZ.out.1.2.2.2.1.len
      obtain ⟨a8, c8, hv8, hrow8⟩ := HZ.out.1.2.2.2.1.irow
      rw [hv7] at hv8
      injection hv8 with e1 _ e3
      subst e1 e3
      have hol : out.length = i := by
        have h1 := LvMem.place HZ.out.1
        have h2 := len_of_all i out HZ.out.2
        rw [HL.out] at h1
        omega
      have HI : Hid (IRow wr wr.heap.size a7 i c7 (ints out)) := by have := hrow8; rw [ints_len, hol] at this; exact this
      have HV7 : Hid (u3 = Value.slice a7 i c7) := by have := hv7; rw [ints_len, hol] at this; exact this
      have hbase : ∀ ad, a7 = some ad → w.heap.size ≤ ad.block := by
        intro ad e
        have := (HZ.out.1.2.2.2.1.lt (k := ad.block) (by rw [hv7, e]; rfl)).1
        omega
      have HBA := Lib.hid hbase; clear hbase hol hrow8 hv7
      go_wp2
      rw [HV7.out]
      go_ret
      refine ⟨a7, c7, out, by rw [HL.out]; rfl, by rw [HL.out]; exact HI.out, (List.nodup_append.1 HZ.out.1.1.nd).1, fun k hk => HZ.out.2 k (by rw [← HL.out]; exact hk), fun k hk => HZ.out.1.1.lt k (List.mem_append_left _ hk), HZ.out.1.1.lv, HZ.out.1.2.2.2.2.2.1, HBA.out⟩
end Go.Proofs.Ytdcmdbhkaohkgaa
