/- What equation tells. No condition but bounds. · What equations tells. No condition but bounds. -/
import Derived.Test.YtanbekbalfbkcaaZCdElToCdEf
import Derived.Test.YtanbekbalfbkcaaZCdEmToCdEc
import Derived.Test.YtanbekbalfbkcaaZPlA
import Derived.Test.YtanbekbalfbkcaaZPlBToPlD
import Derived.Test.YtanbekbalfbkcaaZLivMToLstM
import Derived.Deep.RegionHeld3
import Derived.Deep.DeepCutAuto
namespace Go.Proofs.Ytanbekbalfbkcaa
set_option linter.unusedVariables false
set_option linter.unusedSimpArgs false
set_option maxRecDepth 100000
open Go.RowKit

/-- the maker of a good small program -/
structure CM (w : World) (B g : Nat) (v : FlatV) (f : FlatM) (A : Option Addr) (n c : Nat) (ss : List Int) : Prop where
  mkr : Mk w B g v f A n c ss
  good : goodB f = true
  small : SmallF f
  names : f.names.length = n
theorem CM.later {w w' : World} {B g : Nat} {v : FlatV} {f : FlatM} {A : Option Addr} {n c : Nat} {ss : List Int} (h : CM w B g v f A n c ss) (hb : Below w.heap.size w w') : CM w' B g v f A n c ss := ⟨h.mkr.later hb, h.good, h.small, h.names⟩
theorem CM.le {w : World} {B g : Nat} {v : FlatV} {f : FlatM} {A : Option Addr} {n c : Nat} {ss : List Int} (h : CM w B g v f A n c ss) : n ≤ 200 := by rw [← h.names]; exact h.small.names
theorem wiB_lt {l : List Int} {n : Nat} (h : wiB l n = true) : ∀ x ∈ l, x < (n : Int) := fun x hx => (plB_yes (List.all_eq_true.1 h x hx)).2
theorem good_memR {f : FlatM} {n : Nat} (hg : goodB f = true) (hn : f.names.length = n) (hs : SmallF f) : ∀ (i : Nat) (x : MemM), f.mems[i]? = some x → x.resets.length ≤ 1000 ∧ ∀ y ∈ x.resets, y < (n : Int) := fun i x hx => by
  have h := (goodB_parts hg).2.2.1 x (List.mem_of_getElem? hx)
  unfold memB at h
  rw [Bool.and_eq_true, Bool.and_eq_true, hn] at h
  exact ⟨Nat.le_trans (hs.resets i x hx) (by decide), wiB_lt h.2⟩
theorem good_contR {f : FlatM} {n : Nat} (hg : goodB f = true) (hn : f.names.length = n) (hs : SmallF f) : ∀ (i : Nat) (x : ContM), f.conts[i]? = some x → x.resets.length ≤ 1000 ∧ ∀ y ∈ x.resets, y < (n : Int) := fun i x hx => by
  have h := (goodB_parts hg).2.2.2.1 x (List.mem_of_getElem? hx)
  unfold contB at h
  rw [Bool.and_eq_true, Bool.and_eq_true, Bool.and_eq_true, hn] at h
  exact ⟨Nat.le_trans (hs.creset i x hx).1 (by decide), wiB_lt h.1.2⟩
theorem equation_t (g B : Nat) (v : FlatV) (f : FlatM) (A2 : Option Addr) (n2 c2 : Nat) (ss : List Int) (q : FEqM) (a m d : Option Addr × Nat × Nat) (i : Nat) (w : World) (hk : CM w B g v f A2 n2 c2 ss) (hq : f.eqs[i]? = some q) (hrow : IRow w B a.1 a.2.1 a.2.2 q.args) (hm : URow w B m.1 m.2.1 m.2.2 q.lit.mag) (hd : URow w B d.1 d.2.1 d.2.2 q.lit.den) :
    Calls Try.prog 48 #[.pointer (some ⟨g, 0, none⟩), feqV q a m d] w (EqPost ss q w) := by
  have hge := goodB_eq hk.good hq
  rw [hk.mkr.is.ins.1, hk.mkr.is.mems.1, hk.mkr.is.conts.1, hk.mkr.is.cross.1, hk.names] at hge
  obtain ⟨k1, k2, k3, k4⟩ := hge
  have hn : a.2.1 ≤ 1000000 := by rw [← hrow.1]; exact Nat.le_trans (hk.small.args i q hq) (by decide)
  have hv := (plB_yes k1).2
  have hg := guB_lt k2
  have hx := wiB_lt k3
  by_cases h0 : q.op = bs [108, 105, 116]
  · exact eqn_lit g B v f A2 n2 c2 ss q a m d w hk.mkr hrow hm hd hn hv hg hx h0
  by_cases h1 : q.op = bs [105, 110]
  · exact eqn_in g B v f A2 n2 c2 ss q a m d w hk.mkr hrow hm hd hn hv hg hx h1
  by_cases h2 : q.op = bs [102, 108, 97, 103]
  · exact eqn_flag g B v f A2 n2 c2 ss q a m d w hk.mkr hrow hm hd hn hv hg hx h2
  by_cases h3 : q.op = bs [109, 101, 109]
  · exact eqn_mem g B v f A2 n2 c2 ss q a m d w hk.mkr hrow hm hd hn hv hg hx h3 (by rw [h3] at k4; exact k4) (good_memR hk.good hk.names hk.small)
  by_cases h4 : q.op = bs [99, 111, 110, 116]
  · exact eqn_cont g B v f A2 n2 c2 ss q a m d w hk.mkr hrow hm hd hn hv hg hx h4 (by rw [h4] at k4; exact k4) (good_contR hk.good hk.names hk.small)
  exact eqn_else g B v f A2 n2 c2 ss q a m d w hk.mkr hrow hm hd hn hv hg hx h0 h1 h2 h3 h4

/-- an instruction of an equation of this variable -/
def EqIns (f : FlatM) (ss : List Int) (v : Int) (x : InsM) : Prop := ∃ (i : Nat) (q : FEqM), f.eqs[i]? = some q ∧ q.var = v ∧ x.op = q.op ∧ x.dst = slotS ss v
/-- what equations tells: an instruction for each variable of the order -/
def EqsPost (f : FlatM) (ss o : List Int) (w : World) (e : Ending) (w' : World) : Prop :=
  ∃ v' xs, e = .returned v' ∧ OwnS w' w.heap.size v' xs ∧ xs.length = o.length ∧ (∀ i x, xs[i]? = some x → EqIns f ss (o.getD i 0) x) ∧ Below w.heap.size w w'
/-- of each variable so far the place of its equation -/
def AtTo (f : FlatM) (n k : Nat) (l : List Int) : Prop := l.length = n ∧ ∀ (i : Nat) (q : FEqM), i < k → f.eqs[i]? = some q → l.getD q.var.toNat 0 = (i : Int)
theorem AtTo.put {f : FlatM} {n k : Nat} {l : List Int} {q : FEqM} (h : AtTo f n k l) (hg : goodB f = true) (hq : f.eqs[k]? = some q) (hv : q.var.toNat < n) : AtTo f n (k + 1) (l.set q.var.toNat (k : Int)) := by
  refine ⟨by rw [List.length_set]; exact h.1, fun i p hi hp => ?_⟩
  have hk0 := goodB_eq hg hq
  have hi0 := goodB_eq hg hp
  rw [getD_set _ _ _ _ (by rw [h.1]; exact hv)]
  by_cases e : i = k
  · subst e
    rw [hq] at hp; injection hp with hp; subst hp
    rw [if_pos rfl]
  · have hne : p.var.toNat ≠ q.var.toNat := fun e2 => by
      have e3 : p.var = q.var := by have := (plB_yes hk0.1).1; have := (plB_yes hi0.1).1; omega
      unfold goodB onceB at hg
      rw [Bool.and_eq_true, Bool.and_eq_true, Bool.and_eq_true, Bool.and_eq_true, Bool.and_eq_true] at hg
      have hnd := of_decide_eq_true hg.1.1.1.1.2
      have hil : i < (f.eqs.map FEqM.var).length := by rw [List.length_map]; exact (List.getElem?_eq_some_iff.1 hp).1
      have hkl : k < (f.eqs.map FEqM.var).length := by rw [List.length_map]; exact (List.getElem?_eq_some_iff.1 hq).1
      refine e (nd_inj hnd hil hkl ?_)
      rw [List.getD_eq_getElem?_getD, List.getD_eq_getElem?_getD, List.getElem?_map, List.getElem?_map, hp, hq]
      simp [e3]
    rw [if_neg hne]
    exact h.2 i p (by omega) hp
/-- each variable has an equation -/
theorem good_var {f : FlatM} (hg : goodB f = true) {x : Int} (h0 : 0 ≤ x) (h1 : x < (f.names.length : Int)) : ∃ (i : Nat) (q : FEqM), f.eqs[i]? = some q ∧ q.var = x := by
  have hl := goodB_len hg
  have hg0 := hg
  unfold goodB onceB at hg
  rw [Bool.and_eq_true, Bool.and_eq_true, Bool.and_eq_true, Bool.and_eq_true, Bool.and_eq_true] at hg
  have hnd := of_decide_eq_true hg.1.1.1.1.2
  have hall := List.all_eq_true.1 hg.1.1.1.1.1
  have ho : Once (f.eqs.map FEqM.var) f.names.length := ⟨by rw [List.length_map, hl], fun y hy => plB_yes (hall y hy), hnd⟩
  have hm := ho.mem (v := x.toNat) (by omega)
  rw [Int.toNat_of_nonneg h0] at hm
  obtain ⟨q, hq, e⟩ := List.mem_map.1 hm
  obtain ⟨i, hi⟩ := List.getElem?_of_mem hq
  exact ⟨i, q, hi, e⟩

end Go.Proofs.Ytanbekbalfbkcaa

namespace Go.Proofs.Ytanbekbalfbkcaa
set_option linter.unusedVariables false
set_option linter.unusedSimpArgs false
set_option maxRecDepth 100000
open Go.RowKit

theorem keepn12 {W w3 : World} {C : Nat} {p0 p1 p2 p3 p4 p5 p6 p7 p8 p9 p10 p11 : Addr} {x0 x1 x2 x3 x4 x5 x6 x7 x8 x9 x10 x11 : Value} (h : W.cell? p0 = some x0 ∧ W.cell? p1 = some x1 ∧ W.cell? p2 = some x2 ∧ W.cell? p3 = some x3 ∧ W.cell? p4 = some x4 ∧ W.cell? p5 = some x5 ∧ W.cell? p6 = some x6 ∧ W.cell? p7 = some x7 ∧ W.cell? p8 = some x8 ∧ W.cell? p9 = some x9 ∧ W.cell? p10 = some x10 ∧ W.cell? p11 = some x11) (hb : Below C W w3) (h0 : p0.block < C) (h1 : p1.block < C) (h2 : p2.block < C) (h3 : p3.block < C) (h4 : p4.block < C) (h5 : p5.block < C) (h6 : p6.block < C) (h7 : p7.block < C) (h8 : p8.block < C) (h9 : p9.block < C) (h10 : p10.block < C) (h11 : p11.block < C) : w3.cell? p0 = some x0 ∧ w3.cell? p1 = some x1 ∧ w3.cell? p2 = some x2 ∧ w3.cell? p3 = some x3 ∧ w3.cell? p4 = some x4 ∧ w3.cell? p5 = some x5 ∧ w3.cell? p6 = some x6 ∧ w3.cell? p7 = some x7 ∧ w3.cell? p8 = some x8 ∧ w3.cell? p9 = some x9 ∧ w3.cell? p10 = some x10 ∧ w3.cell? p11 = some x11 := ⟨(hb.cell h0).trans h.1, (hb.cell h1).trans h.2.1, (hb.cell h2).trans h.2.2.1, (hb.cell h3).trans h.2.2.2.1, (hb.cell h4).trans h.2.2.2.2.1, (hb.cell h5).trans h.2.2.2.2.2.1, (hb.cell h6).trans h.2.2.2.2.2.2.1, (hb.cell h7).trans h.2.2.2.2.2.2.2.1, (hb.cell h8).trans h.2.2.2.2.2.2.2.2.1, (hb.cell h9).trans h.2.2.2.2.2.2.2.2.2.1, (hb.cell h10).trans h.2.2.2.2.2.2.2.2.2.2.1, (hb.cell h11).trans h.2.2.2.2.2.2.2.2.2.2.2⟩
theorem own_sliceS {w : World} {B : Nat} {v : Value} {xs : List InsM} (h : OwnS w B v xs) : ∃ a n c, v = .slice a n c := by
  obtain ⟨a, c, e⟩ := h.len; exact ⟨a, _, c, e⟩
set_option maxHeartbeats 4000000 in
theorem equations_t (g B : Nat) (v : FlatV) (f : FlatM) (A2 : Option Addr) (n2 c2 : Nat) (ss : List Int) (A : Option Addr) (c : Nat) (o : List Int) (w : World) (hk : CM w B g v f A2 n2 c2 ss) (ho : IRow w B A n2 c o) (hon : Once o n2) :
    Calls Try.prog 37 #[.pointer (some ⟨g, 0, none⟩), .slice A n2 c] w (EqsPost f ss o w) := by
  have hn2 := hk.le
  have hmE := hk.mkr.is.eqs.len_le
  have HM := Lib.hid hk
  have HR := Lib.hid ho
  have HON := Lib.hid hon
  have HBB := Lib.hid hk.mkr.hB
  have HEL : Hid (f.eqs.length = v.eqs.2.1) := Lib.hid hk.mkr.is.eqs.1
  have HEN : Hid (v.eqs.2.1 = n2) := Lib.hid (by rw [← hk.names, ← goodB_len hk.good]; exact hk.mkr.is.eqs.1.symm)
  have HGA : Hid (g < w.heap.size) := Lib.hid hk.mkr.blk.lt
  have HBA : Hid (B ≤ w.heap.size) := Lib.hid hk.mkr.hB
  clear hk ho hon
  unfold maxLen at hmE
  go_enter Try.func37, Try.ntmps37
  go_upto_region 2 with (at_make; refine makeI rfl _ rfl _ n2 rfl rfl (by omega) ?_; intro w2 hm2 hb2)
  have HA2 := Lib.hid hm2
  have HB2 := Lib.hid hb2
  clear hm2 hb2
  have HM2 := Lib.hid (HM.out.later HB2.out)
  obtain ⟨m0, m1, m2, m3, m4, m5, m6, m7, m8⟩ := HM2.out.mkr.cells
  have HL2 : Hid (w.heap.size < w2.heap.size) := Lib.hid HA2.out.lt
  obtain ⟨EA, hEA⟩ : ∃ EA, EA = v.eqs.1 := ⟨_, rfl⟩
  rw [← hEA] at m3
  have HEA := Lib.hid hEA
  clear hEA
  go_wp2_with fail
  go_loopw [20] (fun t wr => ∃ k : Nat, k ≤ v.eqs.2.1 ∧ t = .int .i64 k ∧ Hid (∃ l, IMem wr w.heap.size l ∧ AtTo f n2 k l) ∧ Hid (Below w.heap.size w2 wr) ∧ Hid (w2.heap.size ≤ wr.heap.size)) (fun t _ => v.eqs.2.1 - (intOf t).toNat)
  case atStart => exact ⟨0, Nat.zero_le _, rfl, Lib.hid ⟨_, HA2.out, by simp, fun i q hi => by omega⟩, Lib.hid (Below.refl _ _), Lib.hid (Nat.le_refl _)⟩
  case round =>
    obtain ⟨k, hk, rfl, hz, hbr, hsz⟩ := hrel
    clear m0 m1 m2 m3 m4 m5 m6 m7 m8
    have his := HM2.out.mkr.is.below (hbr.out.mono HBA.out)
    by_cases hlt : k < v.eqs.2.1
    · obtain ⟨q, hq⟩ := his.eqs.ex hlt
      obtain ⟨b, off, ha, hbB, hat⟩ := his.eqs.at_ hq
      obtain ⟨a, m, d, hrow, hrm, hrd, e0, e1, e2, e3, e4, e5, e6, e7, e8, e9⟩ := hat.cells
      obtain ⟨l, hl, hal⟩ := hz.out
      have hge := (goodB_eq HM.out.good hq).1
      rw [HM.out.names] at hge
      obtain ⟨p0, p1⟩ := plB_yes hge
      have HPQ : Hid (q.var.toNat < n2) := Lib.hid (by omega)
      obtain ⟨j, hj⟩ : ∃ j : Nat, q.var = (j : Int) := ⟨q.var.toNat, by omega⟩
      have HJ := Lib.hid hj
      rw [hj] at e0 p0 p1
      have hjn : j < n2 := by omega
      have hlg : w.heap.size < wr.heap.size := hl.lt
      have hbl : b < wr.heap.size := by have := HBA.out; omega
      have lc := hl.cell j (by rw [hal.1]; exact hjn)
      have lf := hl.free j
      have HLM := Lib.hid hl
      have HAT := Lib.hid (hal.put HM.out.good hq HPQ.out)
      have ha' := HEA.out.trans ha
      subst ha'
      clear his hq ha hat hrow hrm hrd hl hal hge hz hj
      go_wp2_with fail
      go_roundw
      case rel => exact ⟨k + 1, by omega, by go_num, Lib.hid ⟨_, (HLM.out.set j (k : Int)).alloc _, by have := HAT.out; rw [HJ.out, Int.toNat_natCast] at this; exact this⟩, Lib.hid ((hbr.out.setCell (p := ⟨w.heap.size, j, none⟩) (Nat.le_refl _) _).alloc (by simp; omega) _), Lib.hid (by simp; have := hsz.out; omega)⟩
      case measure => simp [intOf]; omega
    · obtain rfl : k = v.eqs.2.1 := by omega
      obtain ⟨l, hl, hal⟩ := hz.out
      have HLM := Lib.hid hl
      have HAT := Lib.hid hal
      have HMr := Lib.hid (show CM wr B g v f A2 n2 c2 ss from ⟨HM2.out.mkr.below hbr.out HGA.out HBA.out, HM2.out.good, HM2.out.small, HM2.out.names⟩)
      have HRr := Lib.hid ((HR.out.below (HB2.out.mono HBB.out)).below (hbr.out.mono HBA.out))
      have HOL := Lib.hid (HB2.out.trans hbr.out)
      have HSr : Hid (w.heap.size < wr.heap.size) := Lib.hid hl.lt
      clear hl hal hz hbr hsz his HM2 HA2 HL2
      obtain ⟨W1, rfl⟩ : ∃ W1 : World, W1 = wr := ⟨_, rfl⟩
      go_wp2_with fail
      go_loopw [8, 33] (fun u t wr => ∃ (k : Nat) (xs : List InsM) (a3 : Option Addr) (n3 c3 : Nat), k ≤ n2 ∧ u = .slice a3 n3 c3 ∧ t = .int .i64 k ∧ xs.length = k ∧ Hid (OwnS wr (w.heap.size + 1) (.slice a3 n3 c3) xs) ∧ Hid (∀ i x, xs[i]? = some x → EqIns f ss (o.getD i 0) x) ∧ Hid (Below (w.heap.size + 1) W1 wr)) (fun _ t _ => n2 - (intOf t).toNat)
      case atStart => exact ⟨0, [], none, 0, 0, Nat.zero_le _, rfl, rfl, rfl, Lib.hid (OwnS.nil _ _), Lib.hid (fun i x h => by simp at h), Lib.hid (Below.refl _ _)⟩
      case round =>
        obtain ⟨k, xs, a3, n3, c3, hk2, rfl, rfl, hxl, HO, HQ, HB⟩ := hrel
        by_cases hlt2 : k < n2
        · obtain ⟨bo, offo, hao, hbo, hco⟩ := (HRr.out.below (HB.out.mono (Nat.le_succ_of_le HBA.out))).at_ hlt2
          obtain ⟨X, hX⟩ : ∃ X, X = o.getD k 0 := ⟨_, rfl⟩
          rw [← hX] at hco
          have hXm : X ∈ o := by rw [hX]; have := HON.out.len; rw [List.getD_eq_getElem?_getD, List.getElem?_eq_getElem (by omega)]; exact List.getElem_mem _
          obtain ⟨x0, x1⟩ := HON.out.pl X hXm
          obtain ⟨i, q, hq, hqv⟩ := good_var HM.out.good x0 (by rw [HM.out.names]; exact x1)
          obtain ⟨y, rfl⟩ : ∃ y : Nat, X = (y : Int) := ⟨X.toNat, by omega⟩
          have hyn : y < n2 := by omega
          have hil : i < v.eqs.2.1 := by rw [← HEL.out]; exact (List.getElem?_eq_some_iff.1 hq).1
          have hli := HAT.out.2 i q hil hq
          rw [hqv, Int.toNat_natCast] at hli
          have hMr := HMr.out.mkr.below HB.out (by have := HGA.out; omega) (Nat.le_succ_of_le HBA.out)
          obtain ⟨b, off, ha, hbB, hat⟩ := hMr.is.eqs.at_ hq
          obtain ⟨a, m, d, hrow, hrm, hrd, e0, e1, e2, e3, e4, e5, e6, e7, e8, e9⟩ := hat.cells
          have lc := (HLM.out.below HB.out (Nat.lt_succ_self _)).cell y (by rw [HAT.out.1]; exact hyn)
          rw [hli] at lc
          have hbC : b < w.heap.size + 1 := by have := HBA.out; omega
          have hgC : g < w.heap.size + 1 := by have := HGA.out; omega
          have hwC : w.heap.size < w.heap.size + 1 := Nat.lt_succ_self _
          have hsz : w.heap.size + 1 ≤ wr.heap.size := Nat.le_trans HSr.out HB.out.size
          have hm3 := hMr.cells.2.2.2.1
          rw [ha] at hm3
          have ha' := HEA.out.trans ha
          subst ha'
          have HP : Hid (wr.drew.cell? ⟨g, 3, none⟩ = some (.slice (some ⟨b, off, none⟩) v.eqs.2.1 v.eqs.2.2) ∧ wr.drew.cell? ⟨w.heap.size, y, none⟩ = some (.int .i64 (i : Int)) ∧ wr.drew.cell? ⟨b, off + i * 10, none⟩ = some (.int .i64 q.var) ∧ wr.drew.cell? ⟨b, off + i * 10 + 1, none⟩ = some (.string q.op) ∧ wr.drew.cell? ⟨b, off + i * 10 + 2, none⟩ = some (.slice a.1 a.2.1 a.2.2) ∧ wr.drew.cell? ⟨b, off + i * 10 + 3, none⟩ = some (.int .i64 q.k) ∧ wr.drew.cell? ⟨b, off + i * 10 + 4, none⟩ = some (.int .i64 q.lit.kind) ∧ wr.drew.cell? ⟨b, off + i * 10 + 5, none⟩ = some (.bool q.lit.neg) ∧ wr.drew.cell? ⟨b, off + i * 10 + 6, none⟩ = some (.slice m.1 m.2.1 m.2.2) ∧ wr.drew.cell? ⟨b, off + i * 10 + 7, none⟩ = some (.slice d.1 d.2.1 d.2.2) ∧ wr.drew.cell? ⟨b, off + i * 10 + 8, none⟩ = some (.string q.lit.name) ∧ wr.drew.cell? ⟨b, off + i * 10 + 9, none⟩ = some (.int .i64 q.guard)) := Lib.hid ⟨hm3, lc, e0, e1, e2, e3, e4, e5, e6, e7, e8, e9⟩
          have HCMw := Lib.hid (show CM wr.drew B g v f A2 n2 c2 ss from ⟨hMr.later (Below.refl _ _).drew, HM.out.good, HM.out.small, HM.out.names⟩)
          have HEQ := Lib.hid (show Calls Try.prog 48 #[.pointer (some ⟨g, 0, none⟩), .agg #[.int .i64 q.var, .string q.op, .slice a.1 a.2.1 a.2.2, .int .i64 q.k, .int .i64 q.lit.kind, .bool q.lit.neg, .slice m.1 m.2.1 m.2.2, .slice d.1 d.2.1 d.2.2, .string q.lit.name, .int .i64 q.guard]] wr.drew fun e w' => (∃ x : InsM, e = .returned (.agg #[.string x.op, .int .i64 x.dst, .slice x.args.1 x.args.2.1 x.args.2.2, .int .i64 x.k, .int .i64 x.kind, .bool x.neg, .slice x.mag.1 x.mag.2.1 x.mag.2.2, .slice x.den.1 x.den.2.1 x.den.2.2, .string x.name, .int .i64 x.guard, .slice x.resets.1 x.resets.2.1 x.resets.2.2]) ∧ x.op = q.op ∧ x.dst = slotS ss q.var) ∧ Below wr.drew.heap.size wr.drew w' from equation_t g B v f A2 n2 c2 ss q a m d i wr.drew HCMw.out hq (hrow.below (Below.refl _ _).drew) (hrm.keep fun _ _ => rfl) (hrd.keep fun _ _ => rfl))
          have HQQ := Lib.hid (And.intro hq hqv)
          have HXX := Lib.hid hX
          have HOD := Lib.hid (HO.out.later (Below.refl wr.heap.size wr).drew)
          have hiE : (i : Int) < (v.eqs.2.1 : Int) := by omega
          have hyI : (y : Int) < (n2 : Int) := by omega
          subst hao
          clear ha hMr hat hrow hrm hrd e0 e1 e2 e3 e4 e5 e6 e7 e8 e9 hq hqv hX hXm hli lc hm3
          go_upto_region 11 with fail
          go_region_held3 (fun w' => w'.cell? ⟨g, 3, none⟩ = some (.slice (some ⟨b, off, none⟩) v.eqs.2.1 v.eqs.2.2) ∧ w'.cell? ⟨w.heap.size, y, none⟩ = some (.int .i64 (i : Int)) ∧ w'.cell? ⟨b, off + i * 10, none⟩ = some (.int .i64 q.var) ∧ w'.cell? ⟨b, off + i * 10 + 1, none⟩ = some (.string q.op) ∧ w'.cell? ⟨b, off + i * 10 + 2, none⟩ = some (.slice a.1 a.2.1 a.2.2) ∧ w'.cell? ⟨b, off + i * 10 + 3, none⟩ = some (.int .i64 q.k) ∧ w'.cell? ⟨b, off + i * 10 + 4, none⟩ = some (.int .i64 q.lit.kind) ∧ w'.cell? ⟨b, off + i * 10 + 5, none⟩ = some (.bool q.lit.neg) ∧ w'.cell? ⟨b, off + i * 10 + 6, none⟩ = some (.slice m.1 m.2.1 m.2.2) ∧ w'.cell? ⟨b, off + i * 10 + 7, none⟩ = some (.slice d.1 d.2.1 d.2.2) ∧ w'.cell? ⟨b, off + i * 10 + 8, none⟩ = some (.string q.lit.name) ∧ w'.cell? ⟨b, off + i * 10 + 9, none⟩ = some (.int .i64 q.guard)) (first | with_reducible exact HP.out | with_reducible exact HPa.out | with_reducible exact HPb.out) (first
            | (go_at_call 48; (with_reducible refine HEQ.out.mono ?_); rintro e w3 ⟨⟨x, rfl, hxo, hxd⟩, hb3⟩; have HO3 := Lib.hid (HOD.out.later hb3); have HB3 := Lib.hid ((HB.out.drew).trans (hb3.mono hsz)); replace HP := Lib.hid (keepn12 HP.out (hb3.mono hsz) hgC hwC hbC hbC hbC hbC hbC hbC hbC hbC hbC hbC); have HPa := Lib.hid (keepn12 HP.out ((Below.refl (w.heap.size + 1) w3).alloc (Nat.le_trans hsz hb3.size) (.cells #[.string x.op, .int .i64 x.dst, .slice x.args.1 x.args.2.1 x.args.2.2, .int .i64 x.k, .int .i64 x.kind, .bool x.neg, .slice x.mag.1 x.mag.2.1 x.mag.2.2, .slice x.den.1 x.den.2.1 x.den.2.2, .string x.name, .int .i64 x.guard, .slice x.resets.1 x.resets.2.1 x.resets.2.2] 54)) hgC hwC hbC hbC hbC hbC hbC hbC hbC hbC hbC hbC); have HS3 := Lib.hid (Nat.le_trans hsz hb3.size); have HXO := Lib.hid (And.intro hxo hxd); clear hb3 hxo hxd)
            | (refine stepX rfl _ _ rfl (w.heap.size + 1) (.slice a3 n3 c3) xs x 54 w3.heap.size rfl rfl rfl HO3.out HS3.out (by omega) ?_; intro v4 w4 hown4 honly4 hat4; obtain ⟨a4, n4, c4, hv4⟩ := own_sliceS hown4; subst hv4; have HO4 := Lib.hid hown4; have HB4 := Lib.hid (HB3.out.trans (honly4.ownS HO3.out HS3.out)); have HPb := Lib.hid (keepn12 HP.out (honly4.ownS HO3.out HS3.out) hgC hwC hbC hbC hbC hbC hbC hbC hbC hbC hbC hbC); clear hown4 honly4 hat4))
          go_wp2_with fail
          go_roundw
          case rel => exact ⟨k + 1, xs ++ [x], a4, n4, c4, by omega, rfl, by go_num, by simp [hxl], HO4, Lib.hid (fun i' x' hx' => by
            rw [List.getElem?_append] at hx'
            split at hx'
            · exact HQ.out i' x' hx'
            · rename_i h9
              have h8 : i' - xs.length = 0 := by
                rcases Nat.eq_zero_or_pos (i' - xs.length) with h | h
                · exact h
                · rw [List.getElem?_eq_none (by simp; omega)] at hx'; cases hx'
              rw [h8] at hx'
              simp at hx'
              subst hx'
              rw [show i' = k by omega, ← HXX.out]
              exact ⟨i, q, HQQ.out.1, HQQ.out.2, HXO.out.1, by rw [HXO.out.2, HQQ.out.2]⟩), HB4⟩
          case measure => simp [intOf]; omega
        · obtain rfl : k = n2 := by omega
          go_wp2
          go_ret
          exact ⟨_, xs, rfl, HO.out.more (Nat.le_succ _), by rw [hxl, HON.out.len], HQ.out, HOL.out.trans (HB.out.mono (Nat.le_succ _))⟩

end Go.Proofs.Ytanbekbalfbkcaa
