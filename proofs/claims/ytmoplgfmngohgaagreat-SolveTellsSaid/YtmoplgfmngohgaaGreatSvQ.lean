/- The answer: Next. -/
import Derived.Test.YtmoplgfmngohgaaGreatSvP
import Derived.Deep.DeepCutAuto
namespace Go.Proofs.YtmoplgfmngohgaaGreat
set_option linter.unusedVariables false
set_option linter.unusedSimpArgs false
set_option maxRecDepth 100000
open Go.RowKit Nums

/-- what the document's Next keeps between two rounds -/
structure RNx (w : World) (g2 g4 : Nat) (o : Option Rat) (r : RV) (b : Bool) (W : World) : Prop where
  below : Below w.heap.size w W
  res : Blk W g2 27 #[.bool false, .slice none 0 0, .slice none 0 0]
  best : Blk W g4 27 #[.bool r.s, .slice r.a r.n r.c, .slice r.b r.m r.d]
  isn : o = none → b = false ∧ r = ⟨false, none, 0, 0, none, 0, 0⟩
  iss : ∀ u, o = some u → b = true ∧ r.Told 8 8 u W
theorem RNx.later {w : World} {g2 g4 : Nat} {o : Option Rat} {r : RV} {b : Bool} {W W' : World} (h : RNx w g2 g4 o r b W) (hb : Below W.heap.size W W') : RNx w g2 g4 o r b W' :=
  ⟨h.below.trans (hb.mono h.below.size), h.res.later hb, h.best.later hb, h.isn, fun u hu => ⟨(h.iss u hu).1, (h.iss u hu).2.later hb⟩⟩
theorem RNx.store {w : World} {g2 g4 : Nat} {o : Option Rat} {r r' : RV} {b : Bool} {t : Rat} {W : World} (h : RNx w g2 g4 o r b W) (h24 : g2 ≠ g4) (hw : w.heap.size ≤ g4) (hr : r'.Told 8 8 t W) :
    RNx w g2 g4 (some t) r' true (((W.setCell ⟨g4, 0, none⟩ (.bool r'.s)).setCell ⟨g4, 1, none⟩ (.slice r'.a r'.n r'.c)).setCell ⟨g4, 2, none⟩ (.slice r'.b r'.m r'.d)) :=
  ⟨below_put3 h.below hw _ _ _, h.res.far3 h24 _ _ _, h.best.put3 _ _ _, (fun e => by cases e), (fun u hu => by cases hu; exact ⟨rfl, hr.put3 (t := r) h.best _ _ _⟩)⟩
theorem fold_next {L : List LM} {k : Nat} {x : LM} (hx : L[k]? = some x) : ((L.take (k + 1)).filterMap passL).foldl lessM none = (passL x).toList.foldl lessM (((L.take k).filterMap passL).foldl lessM none) := by
  rw [filter_next hx, List.foldl_append]
set_option maxHeartbeats 8000000 in
/-- the document's Next -/
theorem rnext_t (a : Option Addr) (n c : Nat) (L : List LM) (w : World) (h : LRow w a n c L) (hS : ∀ x ∈ L, x.Short) (hn : n ≤ 20) : Calls Tryz.prog 7 #[.slice a n c] w (OptT 8 8 (nextM L) w) := by
  obtain ⟨W1, hW1⟩ : ∃ W1, W1 = w.alloc (.cells #[.bool false, .slice none 0 0, .slice none 0 0] 27) := ⟨_, rfl⟩
  obtain ⟨W2, hW2⟩ : ∃ W2, W2 = W1.alloc (.cells #[.bool false, .slice none 0 0, .slice none 0 0] 27) := ⟨_, rfl⟩
  have hb1 : Below w.heap.size w W1 := by rw [hW1]; exact below_one _ _
  have hb2 : Below W1.heap.size W1 W2 := by rw [hW2]; exact below_one _ _
  have HK1 := Lib.hid ((show Blk W1 w.heap.size 27 #[.bool false, .slice none 0 0, .slice none 0 0] by rw [hW1]; exact Blk.new _ _ _).later hb2)
  have HK2 := Lib.hid (show Blk W2 W1.heap.size 27 #[.bool false, .slice none 0 0, .slice none 0 0] by rw [hW2]; exact Blk.new _ _ _)
  have HB := Lib.hid (bthen hb1 hb2)
  have HH := Lib.hid (fun (W : World) (hb : Below w.heap.size w W) => h.later hb)
  have HL := Lib.hid h.1
  have HSH := Lib.hid hS
  have HN := Lib.hid hn
  have HW1 := Lib.hid hW1
  have HW2 := Lib.hid hW2
  have hn01 : w.heap.size ≠ W1.heap.size := by rw [hW1]; simp
  have HO := Lib.hid (show w.heap.size ≤ W1.heap.size by rw [hW1]; simp)
  have HS1 := Lib.hid (show w.heap.size + 1 = W1.heap.size by rw [hW1]; simp)
  clear hb1 hb2 h hS hn hW1 hW2
  go_enter Tryz.func7, Tryz.ntmps7
  go_upto_region 2 with fail
  rw [← HW1.out, ← HW2.out]; simp only [HS1.out]; clear HW1 HW2 HS1
  go_wp2_with fail
  go_loopw [5, 6] (fun s5 s6 wr => ∃ (k : Nat) (b : Bool) (r : RV), k ≤ n ∧ s6 = .int .i64 k ∧ s5 = .bool b ∧ Hid (RNx w w.heap.size W1.heap.size (((L.take k).filterMap passL).foldl lessM none) r b wr)) (fun _ t _ => n - (intOf t).toNat)
  case atStart => exact ⟨0, false, ⟨false, none, 0, 0, none, 0, 0⟩, Nat.zero_le _, rfl, rfl, Lib.hid ⟨HB.out, HK1.out, HK2.out, (fun _ => ⟨rfl, rfl⟩), (fun u hu => by simp at hu)⟩⟩
  case round =>
    obtain ⟨k, b, r, hk, rfl, rfl, HNJ⟩ := hrel
    have hk20 : (k : Int) ≤ 20 := by have := HN.out; omega
    by_cases hlt : k < n
    · obtain ⟨x, hx⟩ : ∃ x, L[k]? = some x := ⟨_, List.getElem?_eq_getElem (by rw [HL.out]; exact hlt)⟩
      obtain ⟨b0, off, ha, hbB, hat⟩ := (HH.out _ HNJ.out.below).at_ hx
      have HX := Lib.hid hx
      have HSX := Lib.hid (HSH.out x (List.mem_of_getElem? hx))
      have HV := Lib.hid (hat.v.more HSX.out.1 HSX.out.2.1)
      have HZ := Lib.hid (hat.z.more HSX.out.2.2.1 HSX.out.2.2.2)
      subst ha
      obtain ⟨c0, c1, c2, c3, c4, c5, c6, -, -⟩ := hat
      clear hx HSX
      have HFN := Lib.hid (fold_next HX.out)
      cases hpl : passL x with
      | none =>
        have HPL := Lib.hid (rpasses_t HV.out HZ.out)
        rw [hpl] at HPL HFN
        clear hpl
        go_wp2_with (go_at_call 12; (with_reducible refine HPL.out.mono ?_); rintro e w5 ⟨rfl, hb⟩; have HN5 := Lib.hid ((HNJ.out.later hb).later (below_one w5 (.cells #[.bool false, .slice none 0 0, .slice none 0 0] 27))); clear hb)
        go_roundw
        case rel => exact ⟨k + 1, b, r, by omega, by go_num, rfl, by rw [HFN.out]; exact HN5⟩
        case measure => simp [intOf]; omega
      | some t =>
        have HPL := Lib.hid (rpasses_t HV.out HZ.out)
        rw [hpl] at HPL HFN
        clear hpl
        obtain ⟨o, ho⟩ : ∃ o, ((L.take k).filterMap passL).foldl lessM none = o := ⟨_, rfl⟩
        rw [ho] at HFN HNJ
        cases o with
        | none =>
          obtain ⟨rfl, rfl⟩ := HNJ.out.isn rfl
          clear ho
          go_wp2_with (go_at_call 12; (with_reducible refine HPL.out.mono ?_); rintro e w5 ⟨r5, rfl, hr5, hb⟩; have HN5 := Lib.hid (HNJ.out.later hb); have HT5 := Lib.hid hr5; have hl5 : W1.heap.size < w5.heap.size := HN5.out.best.lt; obtain ⟨l0, l1, l2, l3, l4, l5, l6⟩ := HN5.out.best.tri; clear hb hr5)
          go_roundw
          case rel => exact ⟨k + 1, true, r5, by omega, by go_num, rfl, by rw [HFN.out]; exact Lib.hid ((HN5.out.store hn01 HO.out HT5.out).later (below_one _ _))⟩
          case measure => simp [intOf]; omega
        | some u =>
          obtain ⟨rfl, hr0⟩ := HNJ.out.iss u rfl
          have HR0 := Lib.hid hr0
          clear ho hr0
          by_cases hlt' : t < u
          · have HC := Lib.hid (cmpR_lt hlt')
            have HU := Lib.hid (show lessM (some u) t = some t from if_pos hlt')
            clear hlt'
            go_wp2_with (first
              | (go_at_call 12; (with_reducible refine HPL.out.mono ?_); rintro e w5 ⟨r5, rfl, hr5, hb⟩; have HN5 := Lib.hid ((HNJ.out.later hb).later (below_one w5 (.cells #[.bool r5.s, .slice r5.a r5.n r5.c, .slice r5.b r5.m r5.d] 27))); have HT5 := Lib.hid (hr5.later (below_one w5 (.cells #[.bool r5.s, .slice r5.a r5.n r5.c, .slice r5.b r5.m r5.d] 27))); have HR5 := Lib.hid ((HR0.out.later hb).later (below_one w5 (.cells #[.bool r5.s, .slice r5.a r5.n r5.c, .slice r5.b r5.m r5.d] 27))); have HX5 := Lib.hid (Blk.new w5 27 #[.bool r5.s, .slice r5.a r5.n r5.c, .slice r5.b r5.m r5.d]); have hl5 : W1.heap.size < w5.heap.size := (HNJ.out.later hb).best.lt; obtain ⟨l0, l1, l2, l3, l4, l5, l6⟩ := (HNJ.out.later hb).best.tri; clear hb hr5)
              | (go_at_call 18; (with_reducible refine (rcmp_v _ HT5.out.is HR5.out.is HC.out (by omega) (by omega) (by omega) (by omega)).mono ?_); rintro e w6 ⟨rfl, hb⟩; replace HN5 := Lib.hid (HN5.out.later hb); replace HT5 := Lib.hid (HT5.out.later hb); replace HX5 := Lib.hid (HX5.out.later hb); clear l0 l1 l2 l3 l4 l5 l6 hl5; obtain ⟨l0, l1, l2, l3, l4, l5, l6⟩ := HN5.out.best.tri; obtain ⟨x0, x1, x2, -, -, -, -⟩ := HX5.out.tri; clear hb))
            go_roundw
            case rel => exact ⟨k + 1, true, r5, by omega, by go_num, rfl, by rw [HFN.out, Option.toList_some, List.foldl_cons, List.foldl_nil, HU.out]; exact Lib.hid (HN5.out.store hn01 HO.out HT5.out)⟩
            case measure => simp [intOf]; omega
          · have HU := Lib.hid (show lessM (some u) t = some u from if_neg hlt')
            obtain ⟨T, hT, hT0, hT1⟩ := cmpR_ge hlt'
            have HC := Lib.hid hT
            clear hlt' hT
            go_wp2_with (first
              | (go_at_call 12; (with_reducible refine HPL.out.mono ?_); rintro e w5 ⟨r5, rfl, hr5, hb⟩; have HN5 := Lib.hid ((HNJ.out.later hb).later (below_one w5 (.cells #[.bool r5.s, .slice r5.a r5.n r5.c, .slice r5.b r5.m r5.d] 27))); have HT5 := Lib.hid (hr5.later (below_one w5 (.cells #[.bool r5.s, .slice r5.a r5.n r5.c, .slice r5.b r5.m r5.d] 27))); have HR5 := Lib.hid ((HR0.out.later hb).later (below_one w5 (.cells #[.bool r5.s, .slice r5.a r5.n r5.c, .slice r5.b r5.m r5.d] 27))); have hl5 : W1.heap.size < w5.heap.size := (HNJ.out.later hb).best.lt; obtain ⟨l0, l1, l2, l3, l4, l5, l6⟩ := (HNJ.out.later hb).best.tri; clear hb hr5)
              | (go_at_call 18; (with_reducible refine (rcmp_v _ HT5.out.is HR5.out.is HC.out (by omega) (by omega) (by omega) (by omega)).mono ?_); rintro e w6 ⟨rfl, hb⟩; replace HN5 := Lib.hid (HN5.out.later hb); clear hb))
            go_roundw
            case rel => exact ⟨k + 1, true, r, by omega, by go_num, rfl, by rw [HFN.out, Option.toList_some, List.foldl_cons, List.foldl_nil, HU.out]; exact HN5⟩
            case measure => simp [intOf]; omega
    · obtain rfl : k = n := by omega
      have HNK := Lib.hid HNJ.out
      rw [List.take_of_length_le (by rw [HL.out]; exact Nat.le_refl _)] at HNK
      have hnm : (L.filterMap passL).foldl lessM none = nextM L := rfl
      rw [hnm] at HNK
      clear HNJ hnm
      obtain ⟨l0, l1, l2, l3, l4, l5, l6⟩ := HNK.out.best.tri
      obtain ⟨q0, q1, q2, q3, q4, q5, q6⟩ := HNK.out.res.tri
      go_wp2_with fail
      cases hn : nextM L with
      | none =>
        obtain ⟨rfl, rfl⟩ := HNK.out.isn hn
        exact bodyPost_ret (v := .tuple #[.agg #[.bool false, .slice none 0 0, .slice none 0 0], .bool false]) (by simp [results, Tryz.results7, go_sem, *]) rfl ⟨rfl, below_put3 HNK.out.below (Nat.le_refl _) _ _ _⟩
      | some u =>
        obtain ⟨rfl, hi⟩ := HNK.out.iss u hn
        exact bodyPost_ret (v := .tuple #[.agg #[.bool r.s, .slice r.a r.n r.c, .slice r.b r.m r.d], .bool true]) (by simp [results, Tryz.results7, go_sem, *]) rfl ⟨r, rfl, hi.put3 (t := ⟨false, none, 0, 0, none, 0, 0⟩) HNK.out.res _ _ _, below_put3 HNK.out.below (Nat.le_refl _) _ _ _⟩

end Go.Proofs.YtmoplgfmngohgaaGreat
