/- Next. -/
import Derived.Test.YtmoplgfmngohgaaGreatSvI
import Derived.BigRegionIn
import Derived.RangeFuncBox
import Derived.RangeFuncNested
import Derived.RangeFuncBound
import Derived.RangeFuncCalls
import Derived.RangeFuncLeaves
import Derived.RangeFuncWrites
import Derived.Shelf.Abstract
import Derived.Shelf.RegionOpen
import Derived.OwnWalkIn
import Derived.TacticsInMore
import Derived.LoopNIn
import Derived.LoopIn
import Derived.IntWalk
import Derived.Deep.DeepCutAuto
namespace Go.Proofs.YtmoplgfmngohgaaGreat
set_option linter.unusedVariables false
set_option linter.unusedSimpArgs false
set_option maxRecDepth 100000
open Go.RowKit Nums

/-- the lesser of what was, and one more -/
def lessM (o : Option Rat) (t : Rat) : Option Rat := match o with
  | none => some t
  | some u => if t < u then some t else some u
/-- the next time, in plain numbers -/
def nextM (L : List LM) : Option Rat := (L.filterMap passL).foldl lessM none
theorem Blk.putObj {w : World} {g T l : Nat} {vs : Array Value} {o : Obj} (h : Blk w g T vs) (hl : w.heap[l]? = some o) (ho : o.isCells = false) (o' : Obj) : Blk (w.putObj l o') g T vs := by
  refine (World.putObj_heap_other ?_).trans h
  rintro rfl
  unfold Blk at h
  rw [hl] at h
  injection h with h
  subst h
  cases ho
theorem Row.putObj {w : World} {l : Nat} {a : Option Addr} {n c : Nat} {xs : List Nat} {o : Obj} (h : Row w a n c xs) (hl : w.heap[l]? = some o) (ho : o.isCells = false) (o' : Obj) : Row (w.putObj l o') a n c xs := by
  obtain ⟨h1, h2, h3, h4, h5, b, off, h6, h7⟩ := h
  refine ⟨h1, h2, h3, h4, h5, b, off, h6, fun i hi => ⟨by rw [World.putObj_size]; exact (h7 i hi).1, ?_⟩⟩
  exact cell_kept (h7 i hi).2 (grownBy_putObj' w l o') (fun r e => by cases e; exact ⟨_, hl, ho⟩)
theorem RV.Is.putObj {r : RV} {k j l : Nat} {q : Rat} {w : World} {o : Obj} (h : r.Is k j q w) (hl : w.heap[l]? = some o) (ho : o.isCells = false) (o' : Obj) : r.Is k j q (w.putObj l o') := by
  obtain ⟨xs, ys, h1, h2, h3⟩ := h
  exact ⟨xs, ys, h1.putObj hl ho o', h2.putObj hl ho o', h3⟩
/-- what the loop over the times keeps: its own record, the cells of the least one and of whether there is one -/
structure NJ (w : World) (g2 g4 g5 Bn D : Nat) (rec : Loop) (a : Option Addr) (n c : Nat) (o : Option Rat) (r : RV) (b : Bool) (W : World) : Prop where
  below : Below w.heap.size w W
  res : Blk W g2 27 #[.bool false, .slice none 0 0, .slice none 0 0]
  least : Blk W g4 27 #[.bool r.s, .slice r.a r.n r.c, .slice r.b r.m r.d]
  there : Blk W g5 4 #[.bool b]
  seq : Blk W Bn 22 #[.slice a n c]
  loop : W.heap[D + 1]? = some (.loop rec)
  defr : W.heap[D]? = some (.deferred (some []))
  isn : o = none → b = false ∧ r = ⟨false, none, 0, 0, none, 0, 0⟩
  iss : ∀ u, o = some u → b = true ∧ r.Is 8 8 u W
theorem NJ.later {w : World} {g2 g4 g5 Bn D : Nat} {rec : Loop} {a : Option Addr} {n c : Nat} {o : Option Rat} {r : RV} {b : Bool} {W W' : World} (h : NJ w g2 g4 g5 Bn D rec a n c o r b W) (hb : Below W.heap.size W W') : NJ w g2 g4 g5 Bn D rec a n c o r b W' :=
  ⟨h.below.trans (hb.mono h.below.size), h.res.later hb, h.least.later hb, h.there.later hb, h.seq.later hb, (hb.block _ (Array.getElem?_eq_some_iff.1 h.loop).1).trans h.loop, (hb.block _ (Array.getElem?_eq_some_iff.1 h.defr).1).trans h.defr, h.isn, fun u hu => ⟨(h.iss u hu).1, (h.iss u hu).2.later hb⟩⟩
theorem NJ.putObj {w : World} {g2 g4 g5 Bn D : Nat} {rec rec' : Loop} {a : Option Addr} {n c : Nat} {o : Option Rat} {r : RV} {b : Bool} {W : World} (h : NJ w g2 g4 g5 Bn D rec a n c o r b W) (hD : w.heap.size ≤ D) : NJ w g2 g4 g5 Bn D rec' a n c o r b (W.putObj (D + 1) (.loop rec')) :=
  ⟨h.below.trans (belowK_b (w := w) (Nat.le_refl _) W (D + 1) _ _ (by omega) h.loop rfl rfl), h.res.putObj h.loop rfl _, h.least.putObj h.loop rfl _, h.there.putObj h.loop rfl _, h.seq.putObj h.loop rfl _, World.putObj_heap_same (Array.getElem?_eq_some_iff.1 h.loop).1, (World.putObj_heap_other (by omega)).trans h.defr, h.isn, fun u hu => ⟨(h.iss u hu).1, (h.iss u hu).2.putObj h.loop rfl _⟩⟩
theorem NJ.store {w : World} {g2 g4 g5 Bn D : Nat} {rec : Loop} {a : Option Addr} {n c : Nat} {o : Option Rat} {r r' : RV} {b : Bool} {t : Rat} {W : World} (h : NJ w g2 g4 g5 Bn D rec a n c o r b W) (h45 : g4 ≠ g5) (h25 : g2 ≠ g5) (h24 : g2 ≠ g4) (h5D : g5 < D) (hw : w.heap.size ≤ g4) (hw5 : w.heap.size ≤ g5) (h4D : g4 < D) (hB4 : Bn ≠ g4) (hB5 : Bn ≠ g5) (hr : r'.Is 8 8 t W) :
    NJ w g2 g4 g5 Bn D rec a n c (some t) r' true ((((W.setCell ⟨g4, 0, none⟩ (.bool r'.s)).setCell ⟨g4, 1, none⟩ (.slice r'.a r'.n r'.c)).setCell ⟨g4, 2, none⟩ (.slice r'.b r'.m r'.d)).setCell ⟨g5, 0, none⟩ (.bool true)) := by
  have hf : ∀ k, k ≠ g4 → k ≠ g5 → ((((W.setCell ⟨g4, 0, none⟩ (.bool r'.s)).setCell ⟨g4, 1, none⟩ (.slice r'.a r'.n r'.c)).setCell ⟨g4, 2, none⟩ (.slice r'.b r'.m r'.d)).setCell ⟨g5, 0, none⟩ (.bool true)).heap[k]? = W.heap[k]? := fun k h1 h2 =>
    (Below.heap_setCell _ ⟨g5, 0, none⟩ _ k h2).trans ((Below.heap_setCell _ ⟨g4, 2, none⟩ _ k h1).trans ((Below.heap_setCell _ ⟨g4, 1, none⟩ _ k h1).trans (Below.heap_setCell _ ⟨g4, 0, none⟩ _ k h1)))
  refine ⟨(below_put3 h.below hw _ _ _).setCell (p := ⟨g5, 0, none⟩) hw5 _, (h.res.far3 h24 _ _ _).other h25, (h.least.put3 _ _ _).other h45, (h.there.far3 (Ne.symm h45) _ _ _).set 0 _, (h.seq.far3 hB4 _ _ _).other hB5, (hf _ (by omega) (by omega)).trans h.loop, (hf _ (by omega) (by omega)).trans h.defr, (fun e => by cases e), (fun u hu => ?_)⟩
  cases hu
  obtain ⟨xs, ys, h1, h2, h3⟩ := hr.put3 (t := r) h.least (.bool r'.s) (.slice r'.a r'.n r'.c) (.slice r'.b r'.m r'.d)
  have ht : ((((W.setCell ⟨g4, 0, none⟩ (.bool r'.s)).setCell ⟨g4, 1, none⟩ (.slice r'.a r'.n r'.c)).setCell ⟨g4, 2, none⟩ (.slice r'.b r'.m r'.d))).cell? ⟨g5, 0, none⟩ = some (.bool b) := (h.there.far3 (Ne.symm h45) _ _ _).cell 0 rfl
  exact ⟨rfl, xs, ys, h1.set (u := .bool b) ht (by intro x; simp) _, h2.set (u := .bool b) ht (by intro x; simp) _, h3⟩
attribute [local go_sem] Oper.semAt_some
set_option maxHeartbeats 8000000 in
theorem next_t (a : Option Addr) (n c : Nat) (L : List LM) (w : World) (h : LRow w a n c L) (hS : ∀ x ∈ L, x.Short) (hn : n ≤ 20) : Calls Tryz.prog 6 #[.slice a n c] w (OptV 8 8 (nextM L) w) := by
  obtain ⟨W1, hW1⟩ : ∃ W1, W1 = w.alloc (.cells #[.bool false, .slice none 0 0, .slice none 0 0] 27) := ⟨_, rfl⟩
  obtain ⟨W2, hW2⟩ : ∃ W2, W2 = W1.alloc (.cells #[.bool false, .slice none 0 0, .slice none 0 0] 27) := ⟨_, rfl⟩
  obtain ⟨W3, hW3⟩ : ∃ W3, W3 = W2.alloc (.cells #[.bool false] 4) := ⟨_, rfl⟩
  obtain ⟨W4, hW4⟩ : ∃ W4, W4 = W3.alloc (.cells #[.slice a n c] 22) := ⟨_, rfl⟩
  have hb1 : Below w.heap.size w W1 := by rw [hW1]; exact below_one _ _
  have hb2 : Below W1.heap.size W1 W2 := by rw [hW2]; exact below_one _ _
  have hb3 : Below W2.heap.size W2 W3 := by rw [hW3]; exact below_one _ _
  have hb4 : Below W3.heap.size W3 W4 := by rw [hW4]; exact below_one _ _
  have K1 := (((show Blk W1 w.heap.size 27 #[.bool false, .slice none 0 0, .slice none 0 0] by rw [hW1]; exact Blk.new _ _ _).later hb2).later hb3).later hb4
  have K2 := ((show Blk W2 W1.heap.size 27 #[.bool false, .slice none 0 0, .slice none 0 0] by rw [hW2]; exact Blk.new _ _ _).later hb3).later hb4
  have K3 := (show Blk W3 W2.heap.size 4 #[.bool false] by rw [hW3]; exact Blk.new _ _ _).later hb4
  have K4 := (show Blk W4 W3.heap.size 22 #[.slice a n c] by rw [hW4]; exact Blk.new _ _ _)
  have HB := Lib.hid (bthen (bthen (bthen hb1 hb2) hb3) hb4)
  have HK1 := Lib.hid K1
  have HK2 := Lib.hid K2
  have HK3 := Lib.hid K3
  have HK4 := Lib.hid K4
  have hs1 : w.heap.size + 1 = W1.heap.size := by rw [hW1]; simp
  have hs2 : W1.heap.size + 1 = W2.heap.size := by rw [hW2]; simp
  have hs3 : W2.heap.size + 1 = W3.heap.size := by rw [hW3]; simp
  have HS3 := Lib.hid (show w.heap.size ≤ W4.heap.size by exact HB.out.size)
  have HH := Lib.hid h
  have HSH := Lib.hid hS
  have HN := Lib.hid hn
  have HW1 := Lib.hid hW1
  have HW2 := Lib.hid hW2
  have HW3 := Lib.hid hW3
  have HW4 := Lib.hid hW4
  have HE1 := Lib.hid hs1
  have HE2 := Lib.hid hs2
  have HE3 := Lib.hid hs3
  have hn12 : W1.heap.size ≠ W2.heap.size := by omega
  have hn02 : w.heap.size ≠ W2.heap.size := by omega
  have hn01 : w.heap.size ≠ W1.heap.size := by omega
  have HO1 := Lib.hid (show w.heap.size ≤ W1.heap.size by omega)
  have HO2 := Lib.hid (show w.heap.size ≤ W2.heap.size by omega)
  have HO3 := Lib.hid (show W1.heap.size < W4.heap.size by rw [hW4]; simp; omega)
  have HO4 := Lib.hid (show W3.heap.size ≠ W1.heap.size by omega)
  have HO5 := Lib.hid (show W3.heap.size ≠ W2.heap.size by omega)
  have HO := Lib.hid (show W2.heap.size < W4.heap.size by rw [hW4]; simp; omega)
  clear hb1 hb2 hb3 hb4 K1 K2 K3 K4 h hS hn hW1 hW2 hW3 hW4 hs1 hs2 hs3
  refine (callsIn_wide (n := 10)).1 ?_
  refine callsIn_of_wp_marks Tryz.func6 rfl trivial ?_ rfl
  simp only [Tryz.ntmps6, List.size_toArray, List.length_cons, List.length_nil, Nat.reduceAdd, Nat.reduceSub, Array.replicate_succ, Array.replicate_zero, List.push_toArray, List.append_toArray, List.nil_append, List.cons_append]
  gi_wp2_with (refine ⟨trivial, ?_⟩; gi_at_call 16; refine (callsIn_wide.2 (times_t _ _ _ _)).mono ?_; rintro e w' ⟨rfl, rfl⟩)
  rw [← HW1.out, ← HW2.out, ← HW3.out, HE1.out, HE2.out, HE3.out, ← HW4.out]
  clear HW1 HW2 HW3 HW4 HE1 HE2 HE3
  refine range_calls (n := 10) rfl (by omega) (gf := 35) (lb := #[.pointer (some ⟨W3.heap.size, 0, none⟩)]) rfl trivial (enters_of Tryz.func35 (by kernel_rfl) rfl) ?_
  intro fn hfn R hR
  have HR := Lib.hid hR
  clear hR
  refine (times1_in 9 (by omega) (W4.heap.size + 1) W3.heap.size a n c L (fun ts W => ∃ r b, NJ w w.heap.size W1.heap.size W2.heap.size W3.heap.size W4.heap.size (R .ready) a n c (ts.foldl lessM none) r b W) HN.out HSH.out ?grow ?lies ?round _ ?start).mono ?_
  case grow => rintro ts W W' ⟨r, b, h⟩ hb; exact ⟨r, b, h.later hb⟩
  case lies => rintro ts W ⟨r, b, h⟩; exact ⟨HH.out.later h.below, h.seq⟩
  case start =>
    refine ⟨⟨false, none, 0, 0, none, 0, 0⟩, false, ?_, ?_, ?_, ?_, ?_, ?_, ?_, fun _ => ⟨rfl, rfl⟩, fun u hu => by cases hu⟩
    · exact (HB.out.alloc HB.out.size _).alloc (by simp; have := HB.out.size; omega) _
    · exact (HK1.out.alloc _).alloc _
    · exact (HK2.out.alloc _).alloc _
    · exact (HK3.out.alloc _).alloc _
    · exact (HK4.out.alloc _).alloc _
    · have := World.alloc_heap_new (W4.alloc (.deferred (some []))) (.loop (R .ready)); rwa [World.size_alloc] at this
    · exact (Below.heap_alloc _ _ _ (by simp)).trans (World.alloc_heap_new W4 _)
  case round =>
    rintro ts r t W ⟨r0, b0, hnj⟩ hr
    have HNJ := Lib.hid hnj
    have HRR := Lib.hid hr
    refine round_on hfn HR.out rfl hnj.loop ?_
    clear hnj hr
    gi_wp2
    have HNA := Lib.hid (HNJ.out.later (below_one W (.cells #[.bool r.s, .slice r.a r.n r.c, .slice r.b r.m r.d] 27)))
    have HRA := Lib.hid (HRR.out.later (below_one W (.cells #[.bool r.s, .slice r.a r.n r.c, .slice r.b r.m r.d] 27)))
    have HXA := Lib.hid (Blk.new W 27 #[.bool r.s, .slice r.a r.n r.c, .slice r.b r.m r.d])
    refine ⟨HNA.out.loop, ?_⟩
    have HNB := Lib.hid (HNA.out.putObj (rec' := R .busy) HS3.out)
    have HRB := Lib.hid (HRA.out.putObj HNA.out.loop rfl (.loop (R .busy)))
    have HXB := Lib.hid (HXA.out.putObj HNA.out.loop rfl (.loop (R .busy)))
    have hWl := HXB.out.lt
    generalize (W.alloc (.cells #[.bool r.s, .slice r.a r.n r.c, .slice r.b r.m r.d] 27)).putObj (W4.heap.size + 1) (.loop (R .busy)) = WB at HNB HRB HXB hWl ⊢
    have HD := Lib.hid (show W4.heap.size + 1 < W.heap.size from (Array.getElem?_eq_some_iff.1 HNJ.out.loop).1)
    obtain ⟨x0, x1, x2, -, -, -, -⟩ := HXB.out.tri
    obtain ⟨l0, l1, l2, l3, l4, l5, l6⟩ := HNB.out.least.tri
    have t0 := HNB.out.there.cell 0 rfl
    have t1 := HNB.out.there.free 0
    cases hf : ts.foldl lessM none with
    | none =>
      have HF := Lib.hid hf
      obtain ⟨rfl, rfl⟩ := HNB.out.isn hf
      clear hf
      gi_wp2
      refine ⟨trivial, ?_⟩
      gi_wp2
      have HNX := HNB.out.store hn12 hn02 hn01 HO.out HO1.out HO2.out HO3.out HO4.out HO5.out HRB.out
      exact ⟨HNX.loop, r, .inr (HNX.putObj HS3.out)⟩
    | some u =>
      have HF := Lib.hid hf
      obtain ⟨rfl, hr0⟩ := HNB.out.iss u hf
      have HR0 := Lib.hid hr0
      clear hf hr0
      by_cases hlt : t < u
      · have HC := Lib.hid (cmpR_lt hlt)
        have HU := Lib.hid (show lessM (some u) t = some t from if_pos hlt)
        clear hlt
        gi_wp2_with (refine ⟨trivial, ?_⟩; gi_at_call 17; refine (CallsIn.inRound _ (callsIn_wide.2 (cmp_v _ HRB.out HR0.out HC.out (by omega) (by omega) (by omega) (by omega)))).mono ?_; rintro e w3 ⟨rfl, hb⟩; replace HNB := Lib.hid (HNB.out.later hb); replace HRB := Lib.hid (HRB.out.later hb); replace HXB := Lib.hid (HXB.out.later hb); clear x0 x1 x2 l0 l1 l2 l3 l4 l5 l6 t0 t1 hb; obtain ⟨x0, x1, x2, -, -, -, -⟩ := HXB.out.tri; obtain ⟨l0, l1, l2, l3, l4, l5, l6⟩ := HNB.out.least.tri; have t0 := HNB.out.there.cell 0 rfl; have t1 := HNB.out.there.free 0)
        have HNX := HNB.out.store hn12 hn02 hn01 HO.out HO1.out HO2.out HO3.out HO4.out HO5.out HRB.out
        rw [HU.out]
        exact ⟨HNX.loop, r, .inr (HNX.putObj HS3.out)⟩
      · have HC := Lib.hid (show cmpR t u = 0 ∨ cmpR t u = 1 by rcases (show t = u ∨ u < t by grind) with h | h; exact .inl (cmpR_eq h); exact .inr (cmpR_gt h))
        have HU := Lib.hid (show lessM (some u) t = some u from if_neg hlt)
        clear hlt
        rcases HC.out with hC | hC
        all_goals
          have HD := Lib.hid hC
          clear hC
          gi_wp2_with (refine ⟨trivial, ?_⟩; gi_at_call 17; refine (CallsIn.inRound _ (callsIn_wide.2 (cmp_v _ HRB.out HR0.out HD.out (by omega) (by omega) (by omega) (by omega)))).mono ?_; rintro e w3 ⟨rfl, hb⟩; replace HNB := Lib.hid (HNB.out.later hb); clear hb)
          rw [HU.out, ← HF.out]
          exact ⟨HNB.out.loop, r0, .inr (HNB.out.putObj HS3.out)⟩
  rintro e W ⟨⟨v, rfl⟩, r, b, hnj⟩
  refine ⟨⟨v, rfl⟩, hnj.loop, ?_⟩
  have HNJ := Lib.hid (hnj.putObj (rec' := R .exhausted) HS3.out)
  have hlt := (Array.getElem?_eq_some_iff.1 HNJ.out.loop).1
  generalize W.putObj (W4.heap.size + 1) (.loop (R .exhausted)) = WE at HNJ hlt ⊢
  clear hnj
  obtain ⟨l0, l1, l2, l3, l4, l5, l6⟩ := HNJ.out.least.tri
  obtain ⟨r0, r1, r2, r3, r4, r5, r6⟩ := HNJ.out.res.tri
  have t0 := HNJ.out.there.cell 0 rfl
  have hk := HNJ.out.defr
  gi_wp2
  gi_region
  all_goals gi_wp2
  all_goals
    have HD0 := HNJ.out.res.put3 (.bool r.s) (.slice r.a r.n r.c) (.slice r.b r.m r.d)
    have hI : ∀ u, nextM L = some u → b = true ∧ r.Is 8 8 u (((WE.setCell ⟨w.heap.size, 0, none⟩ (.bool r.s)).setCell ⟨w.heap.size, 1, none⟩ (.slice r.a r.n r.c)).setCell ⟨w.heap.size, 2, none⟩ (.slice r.b r.m r.d)).drew := fun u hu =>
      ⟨(HNJ.out.iss u hu).1, ((HNJ.out.iss u hu).2.put3 (t := ⟨false, none, 0, 0, none, 0, 0⟩) HNJ.out.res _ _ _).later (Below.refl _ _).drew⟩
    have hQ : nextM L = none → b = false ∧ r = ⟨false, none, 0, 0, none, 0, 0⟩ := HNJ.out.isn
    have hB := (below_put3 HNJ.out.below (Nat.le_refl _) (.bool r.s) (.slice r.a r.n r.c) (.slice r.b r.m r.d)).drew
    have hK : (((WE.setCell ⟨w.heap.size, 0, none⟩ (.bool r.s)).setCell ⟨w.heap.size, 1, none⟩ (.slice r.a r.n r.c)).setCell ⟨w.heap.size, 2, none⟩ (.slice r.b r.m r.d)).drew.heap[W4.heap.size]? = some (.deferred (some [])) :=
      ((Below.heap_setCell _ ⟨w.heap.size, 2, none⟩ _ _ (by show W4.heap.size ≠ w.heap.size; have := HO.out; have := HO2.out; omega)).trans ((Below.heap_setCell _ ⟨w.heap.size, 1, none⟩ _ _ (by show W4.heap.size ≠ w.heap.size; have := HO.out; have := HO2.out; omega)).trans (Below.heap_setCell _ ⟨w.heap.size, 0, none⟩ _ _ (by show W4.heap.size ≠ w.heap.size; have := HO.out; have := HO2.out; omega)))).trans hk
    have HD1 := HD0.drew
    generalize (((WE.setCell ⟨w.heap.size, 0, none⟩ (.bool r.s)).setCell ⟨w.heap.size, 1, none⟩ (.slice r.a r.n r.c)).setCell ⟨w.heap.size, 2, none⟩ (.slice r.b r.m r.d)).drew = WF at HD1 hI hB hK ⊢
    refine ⟨by simp, .inl ⟨_, _, rfl, run_takeDeferred hK, ?_⟩⟩
    have HD2 := HD1.putObj hK rfl (.deferred none)
    have hB2 : Below w.heap.size w (WF.putObj W4.heap.size (.deferred none)) := hB.trans (belowK_b (w := w) (Nat.le_refl _) WF W4.heap.size _ _ HS3.out hK rfl rfl)
    have hI2 : ∀ u, nextM L = some u → b = true ∧ r.Is 8 8 u (WF.putObj W4.heap.size (.deferred none)) := fun u hu => ⟨(hI u hu).1, (hI u hu).2.putObj hK rfl _⟩
    generalize WF.putObj W4.heap.size (.deferred none) = WG at HD2 hB2 hI2 ⊢
    obtain ⟨r0, r1, r2, -, -, -, -⟩ := HD2.tri
    refine ⟨.tuple #[.agg #[.bool r.s, .slice r.a r.n r.c, .slice r.b r.m r.d], .bool b], by simp [results, Tryz.results6, go_sem, r0, r1, r2], ?_⟩
    cases hn : nextM L with
    | none =>
      obtain ⟨rfl, rfl⟩ := hQ hn
      exact ⟨rfl, hB2⟩
    | some u =>
      obtain ⟨rfl, hi⟩ := hI2 u hn
      exact ⟨r, rfl, hi, hB2⟩

end Go.Proofs.YtmoplgfmngohgaaGreat
