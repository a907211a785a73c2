/- What the answer Lasts tells. No condition but bounds. -/
import Derived.Test.YtpcpbpinhdbjiaaZPlA
import Derived.Test.YtpcpbpinhdbjiaaZPlC
import Derived.Test.YtpcpbpinhdbjiaaZFlYToFlZ
namespace Go.Proofs.Ytpcpbpinhdbjiaa
set_option linter.unusedVariables false
set_option linter.unusedSimpArgs false
set_option maxRecDepth 100000
open Go.RowKit

/-- the greatest of a variable's place and of the first k places that need it -/
def lastTo (G : List (List Int)) (o : List Int) (x : Nat) : Nat → Int
  | 0 => plc o x
  | k + 1 => if ndB G (o.getD k 0) x = true then max (lastTo G o x k) (k : Int) else lastTo G o x k
/-- the last place of a variable -/
def lastV (G : List (List Int)) (Z : List Bool) (o : List Int) (x : Nat) : Int := if Z.getD x false = true then (o.length : Int) else lastTo G o x o.length
def lastsL (G : List (List Int)) (Z : List Bool) (o : List Int) (n : Nat) : List Int := (List.range n).map fun x => lastV G Z o x
theorem plc_rng (o : List Int) (x : Int) : -1 ≤ plc o x ∧ plc o x ≤ (o.length : Int) := by
  unfold plc
  cases h : o.findIdx? (fun y => y == x) with
  | none => simp
  | some i =>
    have := (List.findIdx?_eq_some_iff_getElem.1 h).1
    simp only
    omega
theorem lastTo_rng (G : List (List Int)) (o : List Int) (x : Nat) : ∀ k, k ≤ o.length → -1 ≤ lastTo G o x k ∧ lastTo G o x k ≤ (o.length : Int)
  | 0, _ => plc_rng o x
  | k + 1, h => by
    have ih := lastTo_rng G o x k (by omega)
    unfold lastTo
    split
    · omega
    · exact ih
theorem lasts_len (G : List (List Int)) (Z : List Bool) (o : List Int) (n : Nat) : (lastsL G Z o n).length = n := by simp [lastsL]
theorem lasts_get (G : List (List Int)) (Z : List Bool) (o : List Int) {n j : Nat} (h : j < n) : (lastsL G Z o n).getD j 0 = lastV G Z o j := by simp [lastsL, h]
/-- the row of last places, so far -/
structure LSt (L : List Int) (n x : Nat) (xs : List Int) : Prop where
  len : xs.length = n
  get : ∀ j, j < x → xs.getD j 0 = L.getD j 0
theorem LSt.set {L : List Int} {n x : Nat} {xs : List Int} (h : LSt L n x xs) (u : Int) : LSt L n x (xs.set x u) :=
  ⟨by rw [List.length_set]; exact h.len, fun j hj => by rw [← h.get j hj]; simp [List.getElem?_set, show x ≠ j by omega]⟩
theorem set_self {xs : List Int} {x : Nat} {u : Int} (h : x < xs.length) : (xs.set x u).getD x 0 = u := by simp [h]
theorem LSt.next {L : List Int} {n x : Nat} {xs : List Int} (h : LSt L n x xs) (e : xs.getD x 0 = L.getD x 0) : LSt L n (x + 1) xs :=
  ⟨h.len, fun j hj => if hx : j = x then by subst hx; exact e else h.get j (by omega)⟩
theorem LSt.done {L : List Int} {n : Nat} {xs : List Int} (h : LSt L n n xs) (hl : L.length = n) : xs = L := by
  apply List.ext_getElem?
  intro i
  by_cases hi : i < n
  · have := h.get i hi
    have h1 : i < xs.length := by rw [h.len]; exact hi
    have h2 : i < L.length := by omega
    simpa [List.getD, List.getElem?_eq_getElem h1, List.getElem?_eq_getElem h2] using this
  · rw [List.getElem?_eq_none (by rw [h.len]; omega), List.getElem?_eq_none (by omega)]
def LastsPost (f : FlatM) (o : List Int) (w : World) (e : Ending) (w' : World) : Prop :=
  ∃ g, e = .returned (.slice (some ⟨g, 0, none⟩) f.names.length f.names.length) ∧ IMem w' g (lastsL (gOf f) (endB f) o f.names.length) ∧ w.heap.size ≤ g ∧ Below w.heap.size w w'
theorem endB_get {f : FlatM} : (endB f).length = f.names.length := by simp [endB]

set_option maxHeartbeats 4000000 in
theorem lasts_t (v : FlatV) (f : FlatM) (B : Nat) (A : Option Addr) (n c B' : Nat) (o : List Int) (w : World) (h : FlatIs w B v f) (hB : B ≤ w.heap.size) (hg : goodB f = true) (hs : SmallF f) (ho : IRow w B' A n c o) (hB' : B' ≤ w.heap.size) (hn : n ≤ 1000000) :
    Calls Try.prog 13 #[flatV v, .slice A n c] w (LastsPost f o w) := by
  have HN := Lib.hid h.names.1
  have hsm : v.names.2.1 ≤ 200 := by rw [← h.names.1]; exact hs.names
  have HLO := Lib.hid ho.1
  have HS := Lib.hid hs
  have HG := Lib.hid hg
  have HC := Lib.hid (Ctx.mk' h hB); clear h hs hg
  have HO := Lib.hid ho; clear ho
  have HBB := Lib.hid hB'; clear hB'
  have CN : Hid (∀ W, FlatIs W B v f → B ≤ W.heap.size → Calls Try.prog 12 #[flatV v] W (NeedsAll f W)) := Lib.hid fun W h1 h2 => needs14_t v f B W h1 h2 HG.out HS.out
  have CE : Hid (∀ W, FlatIs W B v f → B ≤ W.heap.size → Calls Try.prog 30 #[flatV v] W (EndPost f W)) := Lib.hid fun W h1 h2 => end14_t v f B W h1 h2 HG.out HS.out
  unfold flatV sl3 at CN CE
  unfold flatV sl3
  obtain ⟨W1, hW1⟩ : ∃ W1, W1 = w.alloc (.cells (fvs v) 29) := ⟨_, rfl⟩
  have HW1 := Lib.hid hW1
  have H1 := Lib.hid (show FlatIs W1 B v f ∧ B ≤ W1.heap.size ∧ Blk W1 w.heap.size 29 (fvs v) ∧ Below w.heap.size w W1 by rw [hW1]; exact ⟨HC.out.is, by rw [size_alloc]; omega, HC.out.blk, HC.out.old⟩)
  unfold fvs at hW1
  try dsimp only at hW1
  go_enter Try.func13, Try.ntmps13
  go_upto_region 1 with fail
  rw [← hW1]
  clear hW1 hB
  obtain ⟨f0, f1, f2, f3, f4, f5, f6, f7⟩ := H1.out.2.2.1.flat
  go_wp2_with (first
    | (go_at_call 12; (with_reducible refine (CN.out _ H1.out.1 H1.out.2.1).mono ?_); rintro e w2 ⟨g2, rfl, hgr, hb⟩; have H2 := Lib.hid (show FlatIs w2 B v f ∧ B ≤ w2.heap.size ∧ Blk w2 w.heap.size 29 (fvs v) ∧ Below w.heap.size w w2 from ⟨H1.out.1.below (hb.mono H1.out.2.1), Nat.le_trans H1.out.2.1 hb.size, H1.out.2.2.1.later hb, H1.out.2.2.2.trans (hb.mono (Nat.le_of_lt H1.out.2.2.1.lt))⟩); have HGR := Lib.hid hgr; clear hgr hb; obtain ⟨f0, f1, f2, f3, f4, f5, f6, f7⟩ := H2.out.2.2.1.flat)
    | (go_at_call 30; (with_reducible refine (CE.out _ H2.out.1 H2.out.2.1).mono ?_); rintro e w3 ⟨g3, rfl, hbm, hg3, hb⟩; have H3 := Lib.hid (show FlatIs w3 B v f ∧ B ≤ w3.heap.size ∧ Blk w3 w.heap.size 29 (fvs v) ∧ Below w.heap.size w w3 from ⟨H2.out.1.below (hb.mono H2.out.2.1), Nat.le_trans H2.out.2.1 hb.size, H2.out.2.2.1.later hb, H2.out.2.2.2.trans (hb.mono (Nat.le_of_lt H2.out.2.2.1.lt))⟩); replace HGR := Lib.hid ((HGR.out.below hb).more hb.size); have HBM := Lib.hid hbm; clear hbm hb; obtain ⟨f0, f1, f2, f3, f4, f5, f6, f7⟩ := H3.out.2.2.1.flat)
    | (at_make; refine makeI rfl _ rfl _ v.names.2.1 rfl rfl (by omega) ?_))
  intro w4 hmem hb4
  rw [HN.out]
  have HM4 := Lib.hid hmem
  have HB4 := Lib.hid hb4
  clear hmem hb4 f0 f1 f2 f3 f4 f5 f6 f7
  obtain ⟨g, hgg⟩ : ∃ g, g = w3.heap.size := ⟨_, rfl⟩
  rw [← hgg] at HM4 HB4 ⊢
  have hwg : w.heap.size < g := by rw [hgg]; exact H3.out.2.2.1.lt
  have hB'g : B' ≤ g := Nat.le_trans HBB.out (Nat.le_of_lt hwg)
  have HK : Hid (∀ W, Below g w4 W → Blk W w.heap.size 29 (fvs v) ∧ GRow W g (some ⟨g2, 0, none⟩) v.names.2.1 v.names.2.1 (gOf f) ∧ BMem W g3 (endB f) ∧ IRow W B' A n c o ∧ Below w.heap.size w W) := Lib.hid fun W hb => by
    have hb3 : Below g w3 W := HB4.out.trans hb
    refine ⟨H3.out.2.2.1.below hb3 hwg, ?_, HBM.out.below hb3 (by rw [hgg]; exact HBM.out.lt), HO.out.below ((H3.out.2.2.2.mono HBB.out).trans (hb3.mono hB'g)), H3.out.2.2.2.trans (hb3.mono (Nat.le_of_lt hwg))⟩
    have := HGR.out.below (w' := W) (by rw [← hgg]; exact hb3)
    rw [← hgg, HN.out] at this
    exact this
  clear H1 H2 H3 HGR HBM CN CE hgg
  obtain ⟨f0, f1, f2, f3, f4, f5, f6, f7⟩ := (HK.out _ (Below.refl _ _)).1.flat
  go_wp2_with fail
  clear f0 f1 f2 f3 f4 f5 f6 f7
  obtain ⟨L, hL⟩ : ∃ L, L = lastsL (gOf f) (endB f) o v.names.2.1 := ⟨_, rfl⟩
  have HL := Lib.hid hL; clear hL
  go_loopw [8] (fun t wr => ∃ x : Nat, x ≤ v.names.2.1 ∧ t = .int .i64 x ∧ Hid (∃ xs, IMem wr g xs ∧ LSt L v.names.2.1 x xs) ∧ Hid (Below g w4 wr)) (fun t _ => v.names.2.1 - (intOf t).toNat)
  case atStart => exact ⟨0, Nat.zero_le _, rfl, Lib.hid ⟨_, HM4.out, by simp, fun j hj => by omega⟩, Lib.hid (Below.refl _ _)⟩
  case round =>
    obtain ⟨x, hx, rfl, hms, hbr⟩ := hrel
    obtain ⟨hfb, hgr, hbm, hro, hold⟩ := HK.out _ hbr.out
    obtain ⟨f0, f1, f2, f3, f4, f5, f6, f7⟩ := hfb.flat
    by_cases hlt : x < v.names.2.1
    · obtain ⟨xs, hxs, hst⟩ := hms.out
      have kc := hxs.cell x (by rw [hst.len]; exact hlt)
      have kf := hxs.free x
      have HXS := Lib.hid hxs
      have HST := Lib.hid hst
      have HRO := Lib.hid hro
      have hnn : n ≤ 1000000 := hn
      clear hfb hgr hbm hro hold hms hxs hst
      go_wp2_with (go_at_call 31; (with_reducible refine (place_t A n c B' o (x : Int) _ HRO.out).mono ?_); rintro e w' ⟨rfl, rfl⟩)
      have HX0 : Hid (∃ ys, IMem (wr.setCell ⟨g, x, none⟩ (.int .i64 (plc o (x : Int)))) g ys ∧ LSt L v.names.2.1 x ys ∧ ys.getD x 0 = lastTo (gOf f) o x 0) := Lib.hid ⟨_, HXS.out.set x _, HST.out.set _, set_self (by rw [HST.out.len]; exact hlt)⟩
      have HB5 : Hid (Below g w4 (wr.setCell ⟨g, x, none⟩ (.int .i64 (plc o (x : Int))))) := Lib.hid (hbr.out.setCell (Nat.le_refl _) _)
      clear kc kf HXS HST HRO f0 f1 f2 f3 f4 f5 f6 f7 hbr
      go_loopw [9] (fun t wr => ∃ k : Nat, k ≤ n ∧ t = .int .i64 k ∧ Hid (∃ xs, IMem wr g xs ∧ LSt L v.names.2.1 x xs ∧ xs.getD x 0 = lastTo (gOf f) o x k) ∧ Hid (Below g w4 wr)) (fun t _ => n - (intOf t).toNat)
      case atStart => exact ⟨0, Nat.zero_le _, rfl, HX0, HB5⟩
      case round =>
        obtain ⟨k, hk, rfl, hms, hbr⟩ := hrel
        obtain ⟨hfb, hgr, hbm, hro, hold⟩ := HK.out _ hbr.out
        obtain ⟨xs, hxs, hst, hcur⟩ := hms.out
        have kc := hxs.cell x (by rw [hst.len]; exact hlt)
        have kf := hxs.free x
        have hrng := lastTo_rng (gOf f) o x k (by rw [HLO.out]; exact hk)
        rw [hcur] at kc
        obtain ⟨m, hm⟩ : ∃ m, m = lastTo (gOf f) o x k := ⟨_, rfl⟩
        rw [← hm] at kc hrng
        have HMM := Lib.hid hm
        have HXS := Lib.hid hxs
        have HST := Lib.hid hst
        have HGR := Lib.hid hgr
        have HBM := Lib.hid hbm
        have hln := HLO.out
        rw [hln] at hrng
        have hms' := hms
        clear hms hcur hm hgr hxs hst hbm hold hln
        by_cases hlt2 : k < n
        · obtain ⟨b, off, rfl, hlb, hcell⟩ := hro.at_ hlt2
          obtain ⟨X, hX⟩ : ∃ X, X = o.getD k 0 := ⟨_, rfl⟩
          rw [← hX] at hcell
          have HX := Lib.hid hX
          clear hro hX hfb
          cases hnd : ndB (gOf f) X x with
          | true =>
            have HND := Lib.hid hnd; clear hnd
            have HNX : Hid (lastTo (gOf f) o x (k + 1) = max m (k : Int)) := Lib.hid (by
              rw [HMM.out]; show (if ndB (gOf f) (o.getD k 0) x = true then _ else _) = _; rw [← HX.out, HND.out]; rfl)
            have hmax : max m (k : Int) = (if m < (k : Int) then (k : Int) else m) := by split <;> omega
            rw [hmax] at HNX; clear hmax
            by_cases hmk : m < (k : Int)
            · rw [if_pos hmk] at HNX
              go_wp2_with (go_at_call 28; (with_reducible refine (needs_any (some ⟨g2, 0, none⟩) v.names.2.1 v.names.2.1 g (gOf f) X (x : Int) _ HGR.out).mono ?_); rintro e w' ⟨rfl, rfl⟩; rw [HND.out])
              go_roundw
              case rel => exact ⟨k + 1, by omega, by go_num, Lib.hid ⟨_, HXS.out.set x _, HST.out.set _, by rw [HNX.out]; exact set_self (by rw [HST.out.len]; exact hlt)⟩, Lib.hid (hbr.out.setCell (Nat.le_refl _) _)⟩
              case measure => simp [intOf]; omega
            · rw [if_neg hmk] at HNX
              have hmk2 : (k : Int) ≤ m := by omega
              clear hmk
              go_wp2_with (go_at_call 28; (with_reducible refine (needs_any (some ⟨g2, 0, none⟩) v.names.2.1 v.names.2.1 g (gOf f) X (x : Int) _ HGR.out).mono ?_); rintro e w' ⟨rfl, rfl⟩; rw [HND.out])
              go_roundw
              case rel => exact ⟨k + 1, by omega, by go_num, Lib.hid ⟨_, HXS.out.set x _, HST.out.set _, by rw [HNX.out]; exact set_self (by rw [HST.out.len]; exact hlt)⟩, Lib.hid (hbr.out.setCell (Nat.le_refl _) _)⟩
              case measure => simp [intOf]; omega
          | false =>
            have HND := Lib.hid hnd; clear hnd
            have HNX : Hid (lastTo (gOf f) o x (k + 1) = m) := Lib.hid (by
              rw [HMM.out]; show (if ndB (gOf f) (o.getD k 0) x = true then _ else _) = _; rw [← HX.out, HND.out]; rfl)
            go_wp2_with (go_at_call 28; (with_reducible refine (needs_any (some ⟨g2, 0, none⟩) v.names.2.1 v.names.2.1 g (gOf f) X (x : Int) _ HGR.out).mono ?_); rintro e w' ⟨rfl, rfl⟩; rw [HND.out])
            go_roundw
            case rel => exact ⟨k + 1, by omega, by go_num, Lib.hid (by obtain ⟨xs, h1, h2, h3⟩ := hms'.out; exact ⟨xs, h1, h2, by rw [h3, HNX.out, HMM.out]⟩), hbr⟩
            case measure => simp [intOf]; omega
        · obtain rfl : k = n := by omega
          have hze := HBM.out.cell x (by rw [endB_get, HN.out]; exact hlt)
          have HLX : Hid (L.getD x 0 = lastV (gOf f) (endB f) o x) := Lib.hid (by rw [HL.out]; exact lasts_get _ _ _ hlt)
          cases hzz : (endB f).getD x false with
          | true =>
            rw [hzz] at hze
            have HZZ : Hid (L.getD x 0 = (k : Int)) := Lib.hid (by rw [HLX.out]; unfold lastV; rw [if_pos hzz, HLO.out])
            clear hzz
            obtain ⟨f0, f1, f2, f3, f4, f5, f6, f7⟩ := hfb.flat
            clear hfb hro
            go_wp2_with fail
            go_roundw
            case rel => exact ⟨x + 1, by omega, by go_num, Lib.hid ⟨_, HXS.out.set x _, (HST.out.set _).next (by rw [HZZ.out]; exact set_self (by rw [HST.out.len]; exact hlt))⟩, Lib.hid (hbr.out.setCell (Nat.le_refl _) _)⟩
            case measure => simp [intOf]; omega
          | false =>
            rw [hzz] at hze
            have HZZ : Hid (L.getD x 0 = m) := Lib.hid (by rw [HLX.out]; unfold lastV; rw [if_neg (by rw [hzz]; simp), HLO.out, HMM.out])
            clear hzz
            obtain ⟨f0, f1, f2, f3, f4, f5, f6, f7⟩ := hfb.flat
            clear hfb hro
            go_wp2_with fail
            go_roundw
            case rel => exact ⟨x + 1, by omega, by go_num, Lib.hid (by obtain ⟨xs, h1, h2, h3⟩ := hms'.out; exact ⟨xs, h1, h2.next (by rw [h3, HZZ.out, HMM.out])⟩), hbr⟩
            case measure => simp [intOf]; omega
    · obtain rfl : x = v.names.2.1 := by omega
      have HD : Hid (LastsPost f o w (.returned (.slice (some ⟨g, 0, none⟩) v.names.2.1 v.names.2.1)) wr) := Lib.hid (by
        obtain ⟨xs, hxs, hst⟩ := hms.out
        refine ⟨g, by rw [HN.out], ?_, Nat.le_of_lt hwg, hold⟩
        rw [HN.out, ← HL.out, ← hst.done (by rw [HL.out]; exact lasts_len _ _ _ _)]
        exact hxs)
      go_wp2
      go_ret
      exact HD.out

end Go.Proofs.Ytpcpbpinhdbjiaa
