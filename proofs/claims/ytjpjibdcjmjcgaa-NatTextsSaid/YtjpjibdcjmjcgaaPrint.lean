/- What Print tells, of any row: its number in radix 10. Condition: rows of at most 10^6 numbers. -/
import Derived.Test.YtjpjibdcjmjcgaaRev
import Derived.Test.YtjpjibdcjmjcgaaNumsD
namespace Go.Proofs.Ytjpjibdcjmjcgaa
open Go.RowKit Nums

theorem Try.info5 : (Try.prog.info? 5).map (fun i => (i.zero, i.size, i.bytes)) = some (some (.int .u8 0), 1, 1) := by kernel_rfl

theorem own8_take {w : World} {B g n cap : Nat} {l : List UInt8} (h : w.ownsRow B 5 1 (.slice (some ⟨g, 0, none⟩) n cap) n (l.map b8)) (m : Nat) (hm : m ≤ n) : w.ownsRow B 5 1 (.slice (some ⟨g, 0, none⟩) m cap) m ((l.take m).map b8) := by
  have hl : l.length = n := by have := h.1; simpa using this
  refine ⟨by simp; omega, ?_⟩
  rcases h.2 with ⟨h', _⟩ | ⟨g', cap', cur, h', hb, hg, hnc, hcm, hcs, htake⟩
  · simp at h'
  · simp only [Value.slice.injEq, Option.some.injEq, Addr.mk.injEq, and_true, true_and] at h'
    obtain ⟨rfl, rfl⟩ := h'
    refine .inr ⟨g, cap, cur, rfl, hb, hg, by omega, hcm, hcs, ?_⟩
    rw [List.map_take, ← htake, List.take_take]
    congr 1
    omega

theorem b8_dig (p : Nat) : b8 (UInt8.ofNat (48 + p % 10)) = .int .u8 (48 + (p : Int) % 10) := by
  unfold b8
  rw [toNat_dig]
  simp

/-- the row that is left to be told -/
def Left (wr : World) (g : Nat) (a : Option Addr) (n N : Nat) : Prop :=
  ∃ cs, ((n = 0 ∧ a = none) ∨ (0 < n ∧ a = some ⟨g, 0, none⟩)) ∧ Mem wr g cs ∧ Small cs ∧ n ≤ cs.length ∧ val (cs.take n) = N ∧ (0 < n → 0 < N)

theorem Left.below {B : Nat} {w w' : World} {g : Nat} {a : Option Addr} {n N : Nat} (h : Left w g a n N) (hb : Below B w w') (hg : g < B) : Left w' g a n N := by
  obtain ⟨cs, h1, h2, h3, h4, h5, h6⟩ := h
  exact ⟨cs, h1, h2.below hb hg, h3, h4, h5, h6⟩

theorem str_of_dig {T : List UInt8} {N0 m : Nat} (hT : Digs T) (hv : N0 = dval T) (hm : m ≤ T.length) (hz : ∀ i, m ≤ i → i < T.length → (T.getD i 0).toNat = 48) (h0 : 0 < m) (hl : (T.getD (m - 1) 0).toNat ≠ 48) (hN : N0 ≠ 0) : (⟨((T.take m).reverse).toArray⟩ : ByteArray) = decStr N0 := by
  have e1 := dval_take T m hm hz
  have e2 := dig_unique (T.take m) (digs_take hT m) (Or.inr (by
    rw [List.length_take, Nat.min_eq_left hm]
    have e : (T.take m).getD (m - 1) 0 = T.getD (m - 1) 0 := by
      have h1 : m - 1 < m := by omega
      simp [List.getElem?_take, h1]
    rw [e]; exact hl))
  rw [e1, ← hv] at e2
  rw [e2, decStr, if_neg hN]

set_option maxHeartbeats 4000000 in
theorem print_any (a0 : Option Addr) (n0 c0 : Nat) (xs : List Nat) (w : World) (h0 : Row w a0 n0 c0 xs) (hn0 : n0 ≤ 1000000) :
    Calls Try.prog 31 #[.slice a0 n0 c0] w fun e w' => e = .returned (.string (decStr (val xs))) ∧ Below w.heap.size w w' := by
  have HS := Lib.hid h0.2.2.2.2.1
  have HV0 : Hid (val xs < 4294967296 ^ n0) := by have := val_lt xs h0.2.2.2.2.1; rw [h0.1] at this; exact this
  have H0 := Lib.hid h0; clear h0
  obtain ⟨i0, hi, hz0, hz1, hz2⟩ := info_parts Try.info5
  have HI := Lib.hid hi; clear hi
  have HI0 := Lib.hid hz0; clear hz0
  have HI1 := Lib.hid hz1; clear hz1
  have HI2 := Lib.hid hz2; clear hz2
  obtain ⟨N0, hN0⟩ : ∃ N0, N0 = val xs := ⟨_, rfl⟩
  rw [← hN0] at HV0
  have HN0 := Lib.hid hN0; clear hN0
  go_enter Try.func31, Try.ntmps31
  go_wp2_with fail
  refine (told_any a0 n0 c0 xs w H0.out (by omega)).mono ?_
  rintro e w1 ⟨⟨a, n, rfl, hm, hmn, hrow, hor⟩, hb⟩
  have HB := Lib.hid hb; clear hb
  have hnl : n = (limbs N0).length := by rw [hm, tl_eq xs HS.out, HN0.out]
  have hrl : xs.take n = limbs N0 := by rw [hm, limbs_take xs HS.out, HN0.out]
  rw [hrl] at hrow hor
  have HNL := Lib.hid hnl; clear hnl hm hrl
  have HROW := Lib.hid hrow; clear hrow
  rcases hor with ⟨h1, rfl⟩ | ⟨hpos, g, rfl, hg, hmem⟩
  · have hz : N0 = 0 := by have := HNL.out; rw [h1] at this; exact length_limbs_zero.1 this.symm
    subst h1
    have HZ := Lib.hid hz; clear hz
    go_wp2
    go_ret
    exact ⟨by rw [← HN0.out, HZ.out]; rfl, HB.out⟩
  · have HG := Lib.hid hg; clear hg
    have HMEM := Lib.hid hmem; clear hmem
    have hgt := HMEM.out.lt
    have hne : ((n : Int) == 0) = false := by rw [beq_eq_false_iff_ne]; omega
    have HNP : Hid (N0 ≠ 0) := by
      intro h; have := HNL.out; rw [h, limbs_zero] at this; simp at this; omega
    go_wp2
    go_loopg [3, 4] N0 (fun N u v wr => ∃ (a : Option Addr) (m : Nat) (T : List UInt8), u = .slice a m m ∧ m ≤ n ∧ Hid (Left wr g a m N ∧ Own8 wr w1.heap.size v T ∧ DigAt N0 T 0 N 9 ∧ T.length ≤ 100000000) ∧ Below w.heap.size w wr ∧ w1.heap.size ≤ wr.heap.size)
    case atStart =>
      refine ⟨some ⟨g, 0, none⟩, n, [], rfl, Nat.le_refl _, ⟨⟨limbs N0, Or.inr ⟨hpos, rfl⟩, HMEM.out, small_limbs N0, by rw [HNL.out]; exact Nat.le_refl _, ?_, fun _ => by have := HNP.out; omega⟩, World.ownsRow_nil _ _ _ _, ⟨(fun c hc => by cases hc), by simp [dval], by simp⟩, by simp⟩, HB.out, Nat.le_refl _⟩
      rw [List.take_of_length_le (by rw [HNL.out]; exact Nat.le_refl _), val_limbs]
    case round =>
      obtain ⟨a, m, T, rfl, hm, HZ, hbr, hsz⟩ := hrel
      by_cases hm0 : 0 < m
      · obtain ⟨cs, hor, hmem, hsm, hml, hval, hNp⟩ := HZ.out.1
        rcases hor with ⟨h, _⟩ | ⟨_, rfl⟩
        · omega
        have HM := Lib.hid hmem; clear hmem
        have HVAL := Lib.hid hval; clear hval
        have HNp := Lib.hid (hNp hm0); clear hNp
        have HSM := Lib.hid hsm; clear hsm
        go_wp2_with fail
        refine (shrink_any g m m cs wr _ 1000000000 rfl (by omega) (by omega) HM.out HSM.out hml (by omega)).mono ?_
        rintro e w2 ⟨⟨qs, r, rfl, hql, hqs, hr, hv, hmem2⟩, hgr⟩
        rw [HVAL.out] at hv
        have HQL := Lib.hid hql; clear hql
        have HQS := Lib.hid hqs; clear hqs
        have HRV := Lib.hid hv; clear hv
        have HM2 := Lib.hid hmem2; clear hmem2
        have HGR := Lib.hid hgr; clear hgr
        have hmaxm : m ≤ maxLen := by unfold maxLen; omega
        have hrow : Row w2 (some ⟨g, 0, none⟩) m m qs := by
          have h := HM2.out.row (small_append HQS.out (fun x hx => HSM.out x (List.mem_of_mem_drop hx))) 0 m m (by simp [HQL.out]) (Nat.le_refl _) hmaxm
          rw [List.drop_zero, List.take_append_of_le_length (by rw [HQL.out]; exact Nat.le_refl _), List.take_of_length_le (by rw [HQL.out]; exact Nat.le_refl _)] at h
          exact h
        have HROW2 := Lib.hid hrow; clear hrow hmaxm
        go_wp2_with fail
        refine (cut_row _ m m qs w2 HROW2.out (by omega)).mono ?_
        rintro e w2' ⟨a', m', rfl, hm', hmm, -, hor', rfl⟩
        have HLEFT : Hid (Left w2 g a' m' (val qs)) := by
          refine ⟨qs ++ cs.drop m, hor', HM2.out, small_append HQS.out (fun x hx => HSM.out x (List.mem_of_mem_drop hx)), by simp [HQL.out]; omega, ?_, ?_⟩
          · rw [List.take_append_of_le_length (by rw [HQL.out]; omega), hm', limbs_take qs HQS.out, val_limbs]
          · intro h
            rcases Nat.eq_zero_or_pos (val qs) with h' | h'
            · rw [(val_zero_tl qs).1 h'] at hm'; omega
            · exact h'
        clear hm' hor'
        obtain ⟨N', hN'⟩ : ∃ N', N' = val qs := ⟨_, rfl⟩
        rw [← hN'] at HLEFT HRV
        clear hN'
        have HOWN : Hid (Own8 w2 w1.heap.size u4 T) := by
          refine World.ownsRow.kept HZ.out.2.1 HGR.out (Or.inr ?_)
          intro h
          have := (HZ.out.2.1.lt g h).1
          omega
        have hb2 : Below w.heap.size w w2 := hbr.grown HGR.out hbr.size (by intro k hk; simp at hk; have := HG.out; omega)
        have hsz2 : w1.heap.size ≤ w2.heap.size := Nat.le_trans hsz HGR.out.size
        have hTl : T.length ≤ 32 * n0 := HZ.out.2.2.1.len HNp.out HV0.out
        have HSTART : Hid (DigAt N0 T r N' 0) := HZ.out.2.2.1.start HRV.out hr
        have hr2 : r < 4294967296 := by omega
        have HLT : Hid (N' < gk) := by
          have h1 := HRV.out
          have h2 := HNp.out
          exact (by omega : N' < gk)
        go_wp2
        go_loopw [4, 5, 19] (fun v pv t wi => ∃ (j p : Nat) (T' : List UInt8), t = .int .i64 (j : Int) ∧ j ≤ 9 ∧ pv = .int .u32 (p : Int) ∧ p < 4294967296 ∧ Hid (Own8 wi w1.heap.size v T' ∧ DigAt N0 T' p N' j) ∧ T'.length ≤ T.length + j ∧ Below w1.heap.size w2 wi) (fun _ _ t _ => 9 - (intOf t).toNat)
        case atStart => exact ⟨0, r, T, rfl, by omega, rfl, hr2, ⟨HOWN.out, HSTART.out⟩, by omega, Below.refl _ _⟩
        case round =>
          obtain ⟨j, p, T', rfl, hj, rfl, hp, HY, hlen, hbi⟩ := hrel
          by_cases hj9 : j < 9
          · go_wp2_with (at_builtin; refine wpList_append_own _ rfl _ _ 58 rfl w1.heap.size 5 i0 (.int .u8 0) 1 1 Try.underlying58 HI.out HI0.out HI1.out HI2.out rfl (by decide) _ _ _ rfl (HY.out.1.alloc _) ⟨wr.heap.size, 0, none⟩ 1 1 [.int .u8 (48 + (p : Int) % 10)] rfl rfl ?c1 ?c2 ?c3 ?c4 ?c5 ?_)
            case c1 =>
              intro j u hj
              match j, hj with
              | 0, hj => simp at hj; subst hj; simp [Addr.add]; try omega
            case c2 => intro u hu; simp at hu; subst hu; rfl
            case c3 => unfold maxLen; omega
            case c4 => omega
            case c5 => have := hbi.size; simp; omega
            · intro v' w3 hown' hgrow _
              have HOW := Lib.hid hown'; clear hown'
              have HGW := Lib.hid hgrow; clear hgrow
              go_wp2
              go_roundw
              case rel =>
                refine ⟨j + 1, p / 10, T' ++ [UInt8.ofNat (48 + p % 10)], by go_num, by omega, by go_num, by omega, ⟨?_, HY.out.2.step hj9⟩, by simp; omega, ?_⟩
                · unfold Own8
                  have := HOW.out
                  rw [List.length_append, List.map_append]
                  simp only [List.map_cons, List.map_nil, b8_dig, List.length_singleton]
                  exact this
                · exact (hbi.alloc (Nat.le_trans hsz2 hbi.size) _).grown HGW.out (by have := hbi.size; simp; omega) (fun k hk => (HY.out.1.lt k hk).1)
              case measure => simp [intOf]; omega
          · obtain rfl : j = 9 := by omega
            go_wp2
            go_roundg N'
            case measure => exact HLT.out
            case rel => exact ⟨a', m', T', rfl, by omega, ⟨HLEFT.out.below hbi hgt, HY.out.1, HY.out.2.next, by omega⟩, hb2.trans (hbi.mono HB.out.size), Nat.le_trans hsz2 hbi.size⟩
      · have HD : Hid (Digs T ∧ N0 = dval T) := by
          obtain ⟨cs, hor, hmem, hsm, hml, hval, hNp⟩ := HZ.out.1
          have h0 : gk = 0 := by rw [← hval, show m = 0 by omega]; rfl
          have h1 := HZ.out.2.2.1
          rw [h0] at h1
          exact h1.done
        have hown := HZ.out.2.1
        have hT0 : 0 < T.length := by
          rcases Nat.eq_zero_or_pos T.length with h | h
          · exfalso
            have h1 := List.length_eq_zero_iff.1 h
            have h2 := HD.out.2
            rw [h1] at h2
            exact HNP.out h2
          · exact h
        have hTl := HZ.out.2.2.2
        rcases hown.2 with ⟨_, h⟩ | ⟨g', cap, cur, hv, hBg, _, hLc, hcm, _⟩
        · omega
        · have hown2 : wr.ownsRow w1.heap.size 5 1 (.slice (some ⟨g', 0, none⟩) T.length cap) T.length (T.map b8) := by rw [← hv]; exact hown
          clear hown
          subst hv
          have HOW := Lib.hid hown2; clear hown2
          obtain ⟨L, hL⟩ : ∃ L, L = T.length := ⟨_, rfl⟩
          rw [← hL] at HOW hT0 hTl hLc ⊢
          have HL := Lib.hid hL; clear hL
          obtain ⟨wq, rfl⟩ : ∃ wq : World, wq = wr := ⟨_, rfl⟩
          unfold maxLen at hcm
          go_wp2
          go_loop [6] (fun t => ∃ k : Nat, 0 < k ∧ k ≤ L ∧ t = .int .i64 (k : Int) ∧ Hid (∀ i, k ≤ i → i < T.length → (T.getD i 0).toNat = 48)) (fun t => (intOf t).toNat)
          case atStart => exact ⟨L, hT0, Nat.le_refl _, rfl, fun i h1 h2 => by have := HL.out; omega⟩
          case round =>
            obtain ⟨k, hk0, hk, rfl, HK⟩ := hrel
            have hcell := own8_cell HOW.out (k - 1) (by omega)
            have e : ((k : Int) - 1).toNat = k - 1 := by omega
            obtain ⟨c, hc⟩ : ∃ c, c = T.getD (k - 1) 0 := ⟨_, rfl⟩
            rw [← hc] at hcell
            have HC := Lib.hid hc; clear hc
            by_cases h48 : c.toNat = 48
            · have hb48 : ((c.toNat : Int) == 48) = true := by rw [beq_iff_eq]; omega
              have H48 := Lib.hid h48; clear h48
              have hk1 : 1 < k := by
                rcases Nat.lt_or_ge 1 k with h | h
                · exact h
                · exfalso
                  obtain rfl : k = 1 := by omega
                  apply HNP.out
                  rw [HD.out.2]
                  apply dval_zeros
                  intro i hi
                  rcases Nat.eq_zero_or_pos i with h0 | h0
                  · subst h0
                    have := HC.out
                    rw [Nat.sub_self] at this
                    rw [← this]; exact H48.out
                  · exact HK.out i h0 hi
              go_wp2
              go_round
              case rel => exact ⟨k - 1, by omega, by omega, by go_num, fun i h1 h2 => by
                by_cases e : i = k - 1
                · subst e; rw [← HC.out]; exact H48.out
                · exact HK.out i (by omega) h2⟩
              case measure => simp [intOf]; omega
            · have hb48 : ((c.toNat : Int) == 48) = false := by rw [beq_eq_false_iff_ne]; omega
              have H48 := Lib.hid h48; clear h48
              have hkc : k ≤ cap := by omega
              go_wp2_with fail
              refine (reverse_any w1.heap.size g' k cap (T.take k) wq (own8_take HOW.out k hk) hBg (by omega) hk0).mono ?_
              rintro e w6 ⟨rfl, hown6, hb6⟩
              have HO6 := Lib.hid hown6; clear hown6
              have HB6 := Lib.hid hb6; clear hb6
              have hlen6 : ((T.take k).reverse).length = k := by
                have := HL.out
                simp; omega
              have hcv := run_convert_bytes_back (P := Try.prog) w6 58 9 5 ⟨g', 0, none⟩ cap ((T.take k).reverse) Try.underlying58 Try.underlying5 Try.underlying9 (by
                intro j hj
                have h1 := own8_cell HO6.out j (by rw [← hlen6]; exact hj)
                have e1 : (⟨g', 0, none⟩ : Addr).add j = ⟨g', j, none⟩ := by unfold Addr.add; split <;> simp_all
                have e2 : ((T.take k).reverse).getD j 0 = ((T.take k).reverse)[j] := by rw [List.getD_eq_getElem?_getD, List.getElem?_eq_getElem hj]; rfl
                rw [e1, h1, e2])
              rw [hlen6] at hcv
              have HSTR : Hid ((⟨((T.take k).reverse).toArray⟩ : ByteArray) = decStr N0) := str_of_dig HD.out.1 HD.out.2 (by rw [← HL.out]; exact hk) HK.out hk0 (by rw [← HC.out]; exact H48.out) HNP.out
              rw [HSTR.out] at hcv
              clear hlen6
              go_wp2
              go_ret
              exact ⟨by rw [← HN0.out]; exact rfl, hbr.trans (HB6.out.mono HB.out.size)⟩
end Go.Proofs.Ytjpjibdcjmjcgaa
