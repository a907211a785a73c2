import Derived.Test.YtkcgikoploohkaaGreatDoorZPp2ToPq1
import Derived.Deep.DeepCutAuto
import Derived.Laws.EntriesVeiled
import Derived.Deep.RegionHeld3
import Derived.Test.YtkcgikoploohkaaGreatDoorZPl1ToPl4
namespace Go.Proofs.YtkcgikoploohkaaGreatDoor
set_option linter.unusedVariables false
set_option linter.unusedSimpArgs false
set_option maxRecDepth 100000
open Go.RowKit Go.Shelf Nums
section
variable {P : Program} {ops : Array Oper} {Q : Exit→Act→World→Prop} {md : Region.Mode} {S : World→Prop}
theorem skipH (i d : Nat) {fuel : Nat} {listed : Array Bool} {a : Act} {w : World} (hd : (ops[i]?).map (·.dst) = some (some d))
    (hs : Region.noSelect ops = true) (hf : Region.free md ops listed i = true) (hr : (Region.ready md ops listed).contains i = true)
    (hQ : ∀ c a w,Q (.panic c) (a.put (some d) undef) w→Q (.panic c) a w) (hw : (ops[i]?).map (fun o => Region.wanted o (yielded ops a.tmps)) = some false) (hS : S w)
    (h : wpAnyH P md ops Q S fuel (listed.setIfInBounds i true) (a.put (some d) undef) w) : wpAnyH P md ops Q S (fuel + 1) listed a w := by
  cases ho : ops[i]? with
  | none => rw [ho] at hd;cases hd
  | some o =>
    rw [ho] at hd hw
    have e1 : o.dst = some d := by simpa using hd
    have e2 : Region.wanted o (yielded ops a.tmps) = false := by simpa using hw
    exact wpAnyH_take (oi := o) (v := undef) ho hs hf hr (by rw [e1];exact hQ) (Or.inr ⟨e2,rfl⟩) hS (by rw [e1];exact h)
theorem takeH (i d : Nat) (v : Value) {fuel : Nat} {listed : Array Bool} {a : Act} {w : World} (hd : (ops[i]?).map (·.dst) = some (some d))
    (hs : Region.noSelect ops = true) (hf : Region.free md ops listed i = true) (hr : (Region.ready md ops listed).contains i = true)
    (hQ : ∀ c a w,Q (.panic c) (a.put (some d) v) w→Q (.panic c) a w) (hw : (ops[i]?).map (fun o => Region.wanted o (yielded ops a.tmps)) = some true)
    (hy : ∀ o,ops[i]? = some o→∀ w,S w→(execOp a.eval o).run P w = .ok (.value v) w) (hS : S w)
    (h : wpAnyH P md ops Q S fuel (listed.setIfInBounds i true) (a.put (some d) v) w) : wpAnyH P md ops Q S (fuel + 1) listed a w := by
  cases ho : ops[i]? with
  | none => rw [ho] at hd;cases hd
  | some o =>
    have h5 := hy o ho
    rw [ho] at hd hw
    have e1 : o.dst = some d := by simpa using hd
    have e2 : Region.wanted o (yielded ops a.tmps) = true := by simpa using hw
    exact wpAnyH_take (oi := o) (v := v) ho hs hf hr (by rw [e1];exact hQ) (Or.inl ⟨e2,h5⟩) hS (by rw [e1];exact h)
theorem callH (i : Nat) {fuel : Nat} {listed : Array Bool} {a : Act} {w : World} (hr : Region.ready md ops listed = [i]) (hn : (ops[i]?).isSome = true)
    (h : ∀ o,ops[i]? = some o→∀ K' : Act→World→Prop,Shut (∀ a w,S w→(S w→wpAnyH P md ops Q S fuel (listed.setIfInBounds i true) a w)→K' a w)→if Region.wanted o (yielded ops a.tmps) = true then Oper.wp P o a w K' Q else K' (a.put o.dst undef) w) : wpAnyH P md ops Q S (fuel + 1) listed a w := by
  refine wpAnyH_ready (rs := [i]) hr (by simp) ?_
  cases ho : ops[i]? with
  | none => rw [ho] at hn;cases hn
  | some o => exact AllReadyH.cons ho (h o ho) AllReadyH.nil
theorem cell_dr (W : World) (a : Addr) : W.drew.cell? a = W.cell? a := rfl
theorem cell_put7 {w : World} {b o g : Nat} {v : Value} (h : w.cell? ⟨b,o,none⟩ = some v) (hne : b≠g) (x0 x1 x2 x3 x4 x5 x6 : Value) : (((((((w.setCell ⟨g,0,none⟩ x0).setCell ⟨g,1,none⟩ x1).setCell ⟨g,2,none⟩ x2).setCell ⟨g,3,none⟩ x3).setCell ⟨g,4,none⟩ x4).setCell ⟨g,5,none⟩ x5).setCell ⟨g,6,none⟩ x6).drew.cell? ⟨b,o,none⟩ = some v := by
  have k : ∀ (i : Nat) (u : World) (x : Value),(u.setCell ⟨g,i,none⟩ x).cell? ⟨b,o,none⟩ = u.cell? ⟨b,o,none⟩ := fun i u x => cell_other (by intro e;injection e with e;exact hne (by first | exact e | exact e.symm))
  rw [cell_dr,k,k,k,k,k,k,k]
  exact h
theorem cell_put7n {w : World} {b o g : Nat} {v : Value} (h : w.cell? ⟨b,o,none⟩ = some v) (hne : b≠g) (x0 x1 x2 x3 x4 x5 x6 : Value) : (((((((w.setCell ⟨g,0,none⟩ x0).setCell ⟨g,1,none⟩ x1).setCell ⟨g,2,none⟩ x2).setCell ⟨g,3,none⟩ x3).setCell ⟨g,4,none⟩ x4).setCell ⟨g,5,none⟩ x5).setCell ⟨g,6,none⟩ x6).cell? ⟨b,o,none⟩ = some v := by
  have k : ∀ (i : Nat) (u : World) (x : Value),(u.setCell ⟨g,i,none⟩ x).cell? ⟨b,o,none⟩ = u.cell? ⟨b,o,none⟩ := fun i u x => cell_other (by intro e;injection e with e;exact hne (by first | exact e | exact e.symm))
  rw [k,k,k,k,k,k,k]
  exact h
end
theorem rch_two {nm x1 x4 : ByteArray} {r1 r2 : RV} {q1 q2 : Rat} (s1 s2 : Bool) {w w' : World} (h1 : numS x1 = numO q1∧r1.Fit q1) (h2 : numS x4 = numO q2∧r2.Fit q2) (e1 : shortT (ratStr q1) = s1) (e2 : shortT (ratStr q2) = s2)
    (i1 : r1.Is r1.n r1.m q1 w') (i2 : r2.Is r2.n r2.m q2 w') (b : Bool) (hb : (s1 && s2) = b) (hB : Below w.heap.size w w') :
    ChRes (pairM nm (numS x1) (numS x4)) w (.returned (.tuple #[.agg #[.bool r1.s,.slice r1.a r1.n r1.c,.slice r1.b r1.m r1.d,.string nm,.bool r2.s,.slice r2.a r2.n r2.c,.slice r2.b r2.m r2.d],.bool b])) w' := by
  refine ⟨⟨r1,nm,r2,q1,q2⟩,b,rfl,i1,i2, ?_,hB⟩
  unfold ChOk
  subst hb
  rw [h1.1,h2.1]
  unfold numO
  rw [e1,e2]
  cases s1 <;> cases s2
  · exact (rfl : pairM nm none none = none)
  · exact (rfl : pairM nm none (some q2) = none)
  · exact (rfl : pairM nm (some q1) none = none)
  · exact ⟨rfl,h1.2,h2.2⟩
theorem rch_no1 {nm x1 x4 : ByteArray} {r1 r2 : RV} {q1 q2 : Rat} {w w' : World} (h1 : numS x1 = none) (i1 : r1.Is r1.n r1.m q1 w') (i2 : r2.Is r2.n r2.m q2 w') (hB : Below w.heap.size w w') :
    ChRes (pairM nm (numS x1) (numS x4)) w (.returned (.tuple #[.agg #[.bool r1.s,.slice r1.a r1.n r1.c,.slice r1.b r1.m r1.d,.string nm,.bool r2.s,.slice r2.a r2.n r2.c,.slice r2.b r2.m r2.d],.bool false])) w' := by
  refine ⟨⟨r1,nm,r2,q1,q2⟩,false,rfl,i1,i2, ?_,hB⟩
  unfold ChOk
  rw [h1]
  show pairM nm none (numS x4) = none
  cases numS x4 <;> rfl
theorem rch_no4 {nm x1 x4 : ByteArray} {r1 r2 : RV} {q1 q2 : Rat} {w w' : World} (h4 : numS x4 = none) (i1 : r1.Is r1.n r1.m q1 w') (i2 : r2.Is r2.n r2.m q2 w') (hB : Below w.heap.size w w') :
    ChRes (pairM nm (numS x1) (numS x4)) w (.returned (.tuple #[.agg #[.bool r1.s,.slice r1.a r1.n r1.c,.slice r1.b r1.m r1.d,.string nm,.bool r2.s,.slice r2.a r2.n r2.c,.slice r2.b r2.m r2.d],.bool false])) w' := by
  refine ⟨⟨r1,nm,r2,q1,q2⟩,false,rfl,i1,i2, ?_,hB⟩
  unfold ChOk
  rw [h4]
  show pairM nm (numS x1) none = none
  cases numS x1 <;> rfl
set_option maxHeartbeats 8000000 in
theorem rchange_ok (a : Option Addr) (n c : Nat) (x1 x2 x3 x4 : ByteArray) (w : World) (hg : Gl w) (h : SRow w a n c [bAT,x1,x2,bEQ,x4]) (hN : nameB x2.data.toList = true) (s1 : x1.size≤1000000) (s2 : x2.size≤1000000) (s4 : x4.size≤1000000) : Calls Tryz.prog 37 #[.slice a n c] w (ChRes (changeM numS [bAT,x1,x2,bEQ,x4]) w) := by
  have HC := Lib.hid (changeM_yes (num := numS) (b := x1) (c := x2) (e := x4) hN)
  have HN := Lib.hid hN
  have HS2 := Lib.hid s2
  have HN1 := Lib.hid (rf_t hg s1)
  have HN4 := Lib.hid (rf_t hg s4)
  generalize hx0 : bAT = x0 at h
  obtain rfl : x0 = ⟨#[97,116]⟩ := hx0.symm
  generalize hx3 : bEQ = x3 at h
  obtain rfl : x3 = ⟨#[61]⟩ := hx3.symm
  obtain ⟨bk,off,rfl,rfl,hbk,d0,d1,d2,d3,d4⟩ := srow5 h
  have hm : c≤maxLen := h.2.2.1
  have hnc : 5≤c := h.2.1
  unfold maxLen at hm
  clear h
  have HB := Lib.hid (below_one w (.cells #[.bool false,.slice none 0 0,.slice none 0 0,.string ⟨#[]⟩,.bool false,.slice none 0 0,.slice none 0 0] 43))
  have HK := Lib.hid (Blk.new w 43 #[.bool false,.slice none 0 0,.slice none 0 0,.string ⟨#[]⟩,.bool false,.slice none 0 0,.slice none 0 0])
  have HD := Lib.hid (show ∀ W,Below w.heap.size w W→W.cell? ⟨bk,off,none⟩ = some (.string ⟨#[97,116]⟩)∧W.cell? ⟨bk,off + 1,none⟩ = some (.string x1)∧W.cell? ⟨bk,off + 2,none⟩ = some (.string x2)∧W.cell? ⟨bk,off + 3,none⟩ = some (.string ⟨#[61]⟩)∧W.cell? ⟨bk,off + 4,none⟩ = some (.string x4) from fun W hb => ⟨(hb.cell (p := ⟨bk,off,none⟩) hbk).trans d0,(hb.cell (p := ⟨bk,off + 1,none⟩) hbk).trans d1,(hb.cell (p := ⟨bk,off + 2,none⟩) hbk).trans d2,(hb.cell (p := ⟨bk,off + 3,none⟩) hbk).trans d3,(hb.cell (p := ⟨bk,off + 4,none⟩) hbk).trans d4⟩)
  clear d0 d1 d2 d3 d4 hx0 hx3 hN hg s1 s2 s4
  obtain ⟨c0,c1,c2,c3,c4⟩ := HD.out _ HB.out
  go_enter Tryz.func37,Tryz.ntmps37
  go_upto_region 5 with (first
    | (go_at_call 51;(with_reducible refine (name_t _ _ HS2.out).mono ?_);rw [HN.out];rintro e w2 ⟨rfl,rfl⟩)
    | (have mk := HT1;go_at_call 34;(with_reducible refine (HN4.out _).mono ?_);rintro e w4 ⟨r2,E2,q2,rfl,hr,hl,ho,hb⟩;clear c0 c1 c2 c3 c4;have hb1 := bthen hb (below_one w4 (.cells #[.bool r2.s,.slice r2.a r2.n r2.c,.slice r2.b r2.m r2.d] 27));replace HK := Lib.hid (HK.out.later hb1);replace HB := Lib.hid (bthen HB.out hb1);replace HR1 := Lib.hid (HR1.out.later hb1);have HR2 := Lib.hid (hr.later (below_one w4 (.cells #[.bool r2.s,.slice r2.a r2.n r2.c,.slice r2.b r2.m r2.d] 27)));have HO2 := Lib.hid ho;have HL2 := Lib.hid hl;replace HT1 := Lib.hid (HT1.out.later hb1);have HT2 := Lib.hid (Blk.new w4 27 #[.bool r2.s,.slice r2.a r2.n r2.c,.slice r2.b r2.m r2.d]);obtain ⟨c0,c1,c2,c3,c4⟩ := HD.out _ HB.out;have hlt1 : w3.heap.size < w4.heap.size := Nat.lt_of_lt_of_le (by simp) hb.size;clear hb hb1 hr ho hl)
    | (go_at_call 34;(with_reducible refine (HN1.out _).mono ?_);rintro e w3 ⟨r1,E1,q1,rfl,hr,hl,ho,hb⟩;clear c0 c1 c2 c3 c4;have hb1 := bthen hb (below_one w3 (.cells #[.bool r1.s,.slice r1.a r1.n r1.c,.slice r1.b r1.m r1.d] 27));replace HK := Lib.hid (HK.out.later hb1);replace HB := Lib.hid (bthen HB.out hb1);have HR1 := Lib.hid (hr.later (below_one w3 (.cells #[.bool r1.s,.slice r1.a r1.n r1.c,.slice r1.b r1.m r1.d] 27)));have HO1 := Lib.hid ho;have HL1 := Lib.hid hl;have HT1 := Lib.hid (Blk.new w3 27 #[.bool r1.s,.slice r1.a r1.n r1.c,.slice r1.b r1.m r1.d]);obtain ⟨c0,c1,c2,c3,c4⟩ := HD.out _ HB.out;have hlt0 : w.heap.size < w3.heap.size := Nat.lt_of_lt_of_le (by simp) hb.size;clear hb hb1 hr ho hl))
  obtain ⟨W5,hW5⟩ : ∃ W5,W5 = w4.alloc (.cells #[.bool r2.s,.slice r2.a r2.n r2.c,.slice r2.b r2.m r2.d] 27) := ⟨_,rfl⟩
  rw [←hW5] at HK HB HR1 HR2 HT1 HT2 c0 c1 c2 c3 c4 ⊢
  obtain ⟨g1,hg1⟩ : ∃ g,w3.heap.size = g := ⟨_,rfl⟩
  obtain ⟨g2,hg2⟩ : ∃ g,w4.heap.size = g := ⟨_,rfl⟩
  rw [hg1] at hlt0 hlt1 HT1 ⊢
  rw [hg2] at hlt1 HT2 ⊢
  clear hW5 hg1 hg2 HN1 HN4 c0 c1 c3 c4
  have HC2 := Lib.hid (show ∀ e w',ChRes (pairM x2 (numS x1) (numS x4)) w e w'→ChRes (changeM numS [⟨#[97,116]⟩,x1,x2,⟨#[61]⟩,x4]) w e w' from fun e w' hh => by rw [show changeM numS [⟨#[97,116]⟩,x1,x2,⟨#[61]⟩,x4] = _ from HC.out];exact hh)
  clear HC
  obtain ⟨t0,t1,t2,-,-,-,-⟩ := HT1.out.tri
  obtain ⟨u0,u1,u2,-,-,-,-⟩ := HT2.out.tri
  have kf := HK.out.free
  obtain ⟨k0,k1,k2,k3,k4,k5,k6⟩ := HK.out.sev
  obtain ⟨S1,hS1⟩ : ∃ b,shortT (ratStr q1) = b := ⟨_,rfl⟩
  obtain ⟨S2,hS2⟩ : ∃ b,shortT (ratStr q2) = b := ⟨_,rfl⟩
  have HS1 := Lib.hid hS1
  have HS3 := Lib.hid hS2
  clear hS1 hS2
  by_cases e1 : E1 = 0
  · by_cases e2 : E2 = 0
    · subst e1
      subst e2
      replace HO1 := Lib.hid (show numS x1 = numO q1∧r1.Fit q1 by have := HO1.out;rwa [if_pos rfl] at this)
      replace HO2 := Lib.hid (show numS x4 = numO q2∧r2.Fit q2 by have := HO2.out;rwa [if_pos rfl] at this)
      cases S1 with
      | true =>
        replace HK := Lib.hid (HK.out.later (Below.refl _ _).drew);replace HB := Lib.hid HB.out.drew;replace HR1 := Lib.hid (HR1.out.later (Below.refl _ _).drew);replace HR2 := Lib.hid (HR2.out.later (Below.refl _ _).drew);replace HT1 := Lib.hid (HT1.out.later (Below.refl _ _).drew);replace HT2 := Lib.hid (HT2.out.later (Below.refl _ _).drew)
        go_region_held3 (fun w' => w'.cell? ⟨g1,0,none⟩ = some (.bool r1.s)∧w'.cell? ⟨g1,1,none⟩ = some (.slice r1.a r1.n r1.c)∧w'.cell? ⟨g1,2,none⟩ = some (.slice r1.b r1.m r1.d)∧w'.cell? ⟨g2,0,none⟩ = some (.bool r2.s)∧w'.cell? ⟨g2,1,none⟩ = some (.slice r2.a r2.n r2.c)∧w'.cell? ⟨g2,2,none⟩ = some (.slice r2.b r2.m r2.d)∧w'.cell? ⟨bk,off + 2,none⟩ = some (.string x2))
          (first | (refine ⟨?_, ?_, ?_, ?_, ?_, ?_, ?_⟩ <;> with_reducible assumption) | (go_keep;done) | (refine ⟨?_, ?_, ?_, ?_, ?_, ?_, ?_⟩ <;> (repeat rw [cell_other (by first | (simp;done) | (simp;omega))]) <;> with_reducible assumption))
          (first
            | (have mk := G1;go_at_call 35;(with_reducible refine (short35X_t HR2.out (Nat.le_trans HL2.out.1 (by decide)) (Nat.le_trans HL2.out.2 (by decide))).mono ?_);rw [HS3.out];rintro e w7 ⟨rfl,hb⟩;replace HK := Lib.hid (HK.out.later hb);replace HB := Lib.hid (bthen HB.out hb);replace HR1 := Lib.hid (HR1.out.later hb);replace HR2 := Lib.hid (HR2.out.later hb);replace HT1 := Lib.hid (HT1.out.later hb);replace HT2 := Lib.hid (HT2.out.later hb);clear hb t0 t1 t2 u0 u1 u2 c2 kf k0 k1 k2 k3 k4 k5 k6;obtain ⟨t0,t1,t2,-,-,-,-⟩ := HT1.out.tri;obtain ⟨u0,u1,u2,-,-,-,-⟩ := HT2.out.tri;obtain ⟨-,-,c2,-,-⟩ := HD.out _ HB.out;have kf := HK.out.free;obtain ⟨k0,k1,k2,k3,k4,k5,k6⟩ := HK.out.sev)
            | (go_at_call 35;(with_reducible refine (short35X_t HR1.out (Nat.le_trans HL1.out.1 (by decide)) (Nat.le_trans HL1.out.2 (by decide))).mono ?_);rw [HS1.out];rintro e w6 ⟨rfl,hb⟩;replace HK := Lib.hid (HK.out.later hb);replace HB := Lib.hid (bthen HB.out hb);replace HR1 := Lib.hid (HR1.out.later hb);replace HR2 := Lib.hid (HR2.out.later hb);replace HT1 := Lib.hid (HT1.out.later hb);replace HT2 := Lib.hid (HT2.out.later hb);clear hb t0 t1 t2 u0 u1 u2 c2 kf k0 k1 k2 k3 k4 k5 k6;obtain ⟨t0,t1,t2,-,-,-,-⟩ := HT1.out.tri;obtain ⟨u0,u1,u2,-,-,-,-⟩ := HT2.out.tri;obtain ⟨-,-,c2,-,-⟩ := HD.out _ HB.out;have kf := HK.out.free;obtain ⟨k0,k1,k2,k3,k4,k5,k6⟩ := HK.out.sev;have G1 : Hid True := trivial))
        all_goals
          go_wp2_with fail
          rename_i hh
          clear hh
          exact bodyPost_ret (v := .tuple #[.agg #[.bool r1.s,.slice r1.a r1.n r1.c,.slice r1.b r1.m r1.d,.string x2,.bool r2.s,.slice r2.a r2.n r2.c,.slice r2.b r2.m r2.d],.bool S2]) (by simp [results,Tryz.results37,go_sem, *]) rfl (HC2.out _ _ (rch_two true S2 HO1.out HO2.out HS1.out HS3.out (HR1.out.only (only_put7 _ _ _ _ _ _ _ _ _) (fun g hgm => by rw [List.mem_singleton] at hgm;subst hgm;exact HK.out.noU (by simp))) (HR2.out.only (only_put7 _ _ _ _ _ _ _ _ _) (fun g hgm => by rw [List.mem_singleton] at hgm;subst hgm;exact HK.out.noU (by simp))) S2 rfl (below_put7 HB.out (Nat.le_refl _) _ _ _ _ _ _ _)))
      | false =>
        have hne1 : g1≠w.heap.size := by omega
        have hne2 : g2≠w.heap.size := by omega
        have hne3 : bk≠w.heap.size := by omega
        refine wp_region_held_drew (S := fun w' => w'.cell? ⟨g1,0,none⟩ = some (.bool r1.s)∧w'.cell? ⟨g1,1,none⟩ = some (.slice r1.a r1.n r1.c)∧w'.cell? ⟨g1,2,none⟩ = some (.slice r1.b r1.m r1.d)∧w'.cell? ⟨g2,0,none⟩ = some (.bool r2.s)∧w'.cell? ⟨g2,1,none⟩ = some (.slice r2.a r2.n r2.c)∧w'.cell? ⟨g2,2,none⟩ = some (.slice r2.b r2.m r2.d)∧w'.cell? ⟨bk,off + 2,none⟩ = some (.string x2)) (by kernel_rfl) ⟨t0,t1,t2,u0,u1,u2,c2⟩ (fun hHeld => ?_)
        refine takeH 0 45 ?_ (by kernel_rfl) (by kernel_rfl) (by kernel_rfl) (by kernel_rfl) (fun _ _ _ h => h) (by kernel_rfl) (fun o ho w hSw => ?_) (by assumption) ?_
        rotate_left
        · (simp only [List.getElem?_toArray,List.getElem?_cons_succ,List.getElem?_cons_zero,Option.some.injEq] at ho;subst ho;(try dsimp only at hSw);go_simp;try with_reducible rfl)
        try simp only [Act.put,List.setIfInBounds_toArray,List.set_cons_zero,List.set_cons_succ]
        refine takeH 1 46 ?_ (by kernel_rfl) (by kernel_rfl) (by kernel_rfl) (by kernel_rfl) (fun _ _ _ h => h) (by kernel_rfl) (fun o ho w hSw => ?_) (by assumption) ?_
        rotate_left
        · (simp only [List.getElem?_toArray,List.getElem?_cons_succ,List.getElem?_cons_zero,Option.some.injEq] at ho;subst ho;(try dsimp only at hSw);go_simp;try with_reducible rfl)
        try simp only [Act.put,List.setIfInBounds_toArray,List.set_cons_zero,List.set_cons_succ]
        refine takeH 2 47 ?_ (by kernel_rfl) (by kernel_rfl) (by kernel_rfl) (by kernel_rfl) (fun _ _ _ h => h) (by kernel_rfl) (fun o ho w hSw => ?_) (by assumption) ?_
        rotate_left
        · (simp only [List.getElem?_toArray,List.getElem?_cons_succ,List.getElem?_cons_zero,Option.some.injEq] at ho;subst ho;(try dsimp only at hSw);go_simp;try with_reducible rfl)
        try simp only [Act.put,List.setIfInBounds_toArray,List.set_cons_zero,List.set_cons_succ]
        refine takeH 3 48 ?_ (by kernel_rfl) (by kernel_rfl) (by kernel_rfl) (by kernel_rfl) (fun _ _ _ h => h) (by kernel_rfl) (fun o ho w hSw => ?_) (by assumption) ?_
        rotate_left
        · (simp only [List.getElem?_toArray,List.getElem?_cons_succ,List.getElem?_cons_zero,Option.some.injEq] at ho;subst ho;(try dsimp only at hSw);go_simp;try with_reducible rfl)
        try simp only [Act.put,List.setIfInBounds_toArray,List.set_cons_zero,List.set_cons_succ]
        refine takeH 4 49 ?_ (by kernel_rfl) (by kernel_rfl) (by kernel_rfl) (by kernel_rfl) (fun _ _ _ h => h) (by kernel_rfl) (fun o ho w hSw => ?_) (by assumption) ?_
        rotate_left
        · (simp only [List.getElem?_toArray,List.getElem?_cons_succ,List.getElem?_cons_zero,Option.some.injEq] at ho;subst ho;(try dsimp only at hSw);go_simp;try with_reducible rfl)
        try simp only [Act.put,List.setIfInBounds_toArray,List.set_cons_zero,List.set_cons_succ]
        refine takeH 5 50 ?_ (by kernel_rfl) (by kernel_rfl) (by kernel_rfl) (by kernel_rfl) (fun _ _ _ h => h) (by kernel_rfl) (fun o ho w hSw => ?_) (by assumption) ?_
        rotate_left
        · (simp only [List.getElem?_toArray,List.getElem?_cons_succ,List.getElem?_cons_zero,Option.some.injEq] at ho;subst ho;(try dsimp only at hSw);go_simp;try with_reducible rfl)
        try simp only [Act.put,List.setIfInBounds_toArray,List.set_cons_zero,List.set_cons_succ]
        refine takeH 6 51 ?_ (by kernel_rfl) (by kernel_rfl) (by kernel_rfl) (by kernel_rfl) (fun _ _ _ h => h) (by kernel_rfl) (fun o ho w hSw => ?_) (by assumption) ?_
        rotate_left
        · (simp only [List.getElem?_toArray,List.getElem?_cons_succ,List.getElem?_cons_zero,Option.some.injEq] at ho;subst ho;(try dsimp only at hSw);go_simp;try with_reducible rfl)
        try simp only [Act.put,List.setIfInBounds_toArray,List.set_cons_zero,List.set_cons_succ]
        refine takeH 7 52 ?_ (by kernel_rfl) (by kernel_rfl) (by kernel_rfl) (by kernel_rfl) (fun _ _ _ h => h) (by kernel_rfl) (fun o ho w hSw => ?_) (by assumption) ?_
        rotate_left
        · (simp only [List.getElem?_toArray,List.getElem?_cons_succ,List.getElem?_cons_zero,Option.some.injEq] at ho;subst ho;(try dsimp only at hSw);go_simp;try with_reducible rfl)
        try simp only [Act.put,List.setIfInBounds_toArray,List.set_cons_zero,List.set_cons_succ]
        refine takeH 8 53 ?_ (by kernel_rfl) (by kernel_rfl) (by kernel_rfl) (by kernel_rfl) (fun _ _ _ h => h) (by kernel_rfl) (fun o ho w hSw => ?_) (by assumption) ?_
        rotate_left
        · (simp only [List.getElem?_toArray,List.getElem?_cons_succ,List.getElem?_cons_zero,Option.some.injEq] at ho;subst ho;(try dsimp only at hSw);go_simp;try with_reducible rfl)
        try simp only [Act.put,List.setIfInBounds_toArray,List.set_cons_zero,List.set_cons_succ]
        refine takeH 9 54 ?_ (by kernel_rfl) (by kernel_rfl) (by kernel_rfl) (by kernel_rfl) (fun _ _ _ h => h) (by kernel_rfl) (fun o ho w hSw => ?_) (by assumption) ?_
        rotate_left
        · (simp only [List.getElem?_toArray,List.getElem?_cons_succ,List.getElem?_cons_zero,Option.some.injEq] at ho;subst ho;(try dsimp only at hSw);go_simp;try with_reducible rfl)
        try simp only [Act.put,List.setIfInBounds_toArray,List.set_cons_zero,List.set_cons_succ]
        refine takeH 10 55 ?_ (by kernel_rfl) (by kernel_rfl) (by kernel_rfl) (by kernel_rfl) (fun _ _ _ h => h) (by kernel_rfl) (fun o ho w hSw => ?_) (by assumption) ?_
        rotate_left
        · (simp only [List.getElem?_toArray,List.getElem?_cons_succ,List.getElem?_cons_zero,Option.some.injEq] at ho;subst ho;(try dsimp only at hSw);go_simp;try with_reducible rfl)
        try simp only [Act.put,List.setIfInBounds_toArray,List.set_cons_zero,List.set_cons_succ]
        refine takeH 11 56 ?_ (by kernel_rfl) (by kernel_rfl) (by kernel_rfl) (by kernel_rfl) (fun _ _ _ h => h) (by kernel_rfl) (fun o ho w hSw => ?_) (by assumption) ?_
        rotate_left
        · (simp only [List.getElem?_toArray,List.getElem?_cons_succ,List.getElem?_cons_zero,Option.some.injEq] at ho;subst ho;(try dsimp only at hSw);go_simp;try with_reducible rfl)
        try simp only [Act.put,List.setIfInBounds_toArray,List.set_cons_zero,List.set_cons_succ]
        refine takeH 12 57 ?_ (by kernel_rfl) (by kernel_rfl) (by kernel_rfl) (by kernel_rfl) (fun _ _ _ h => h) (by kernel_rfl) (fun o ho w hSw => ?_) (by assumption) ?_
        rotate_left
        · (simp only [List.getElem?_toArray,List.getElem?_cons_succ,List.getElem?_cons_zero,Option.some.injEq] at ho;subst ho;(try dsimp only at hSw);go_simp;try with_reducible rfl)
        try simp only [Act.put,List.setIfInBounds_toArray,List.set_cons_zero,List.set_cons_succ]
        refine takeH 13 58 ?_ (by kernel_rfl) (by kernel_rfl) (by kernel_rfl) (by kernel_rfl) (fun _ _ _ h => h) (by kernel_rfl) (fun o ho w hSw => ?_) (by assumption) ?_
        rotate_left
        · (simp only [List.getElem?_toArray,List.getElem?_cons_succ,List.getElem?_cons_zero,Option.some.injEq] at ho;subst ho;(try dsimp only at hSw);go_simp;try with_reducible rfl)
        try simp only [Act.put,List.setIfInBounds_toArray,List.set_cons_zero,List.set_cons_succ]
        replace HR1 := Lib.hid (HR1.out.later (Below.refl _ _).drew);replace HR2 := Lib.hid (HR2.out.later (Below.refl _ _).drew);replace HK := Lib.hid (HK.out.later (Below.refl _ _).drew);replace HB := Lib.hid HB.out.drew;replace HT1 := Lib.hid (HT1.out.later (Below.refl _ _).drew);replace HT2 := Lib.hid (HT2.out.later (Below.refl _ _).drew)
        refine callH 14 (by kernel_rfl) (by kernel_rfl) (fun o ho K hK => ?_)
        simp only [List.getElem?_toArray,List.getElem?_cons_succ,List.getElem?_cons_zero,Option.some.injEq] at ho;subst ho
        rw [if_pos (by rfl)]
        go_simp
        go_at_call 35
        with_reducible refine (short35X_t HR1.out (Nat.le_trans HL1.out.1 (by decide)) (Nat.le_trans HL1.out.2 (by decide))).mono ?_
        rw [HS1.out]
        rintro e w6 ⟨rfl,hb⟩
        replace HK := Lib.hid (HK.out.later hb);replace HB := Lib.hid (bthen HB.out hb);replace HR1 := Lib.hid (HR1.out.later hb);replace HR2 := Lib.hid (HR2.out.later hb);replace HT1 := Lib.hid (HT1.out.later hb);replace HT2 := Lib.hid (HT2.out.later hb);clear hb t0 t1 t2 u0 u1 u2 c2 kf k0 k1 k2 k3 k4 k5 k6;obtain ⟨t0,t1,t2,-,-,-,-⟩ := HT1.out.tri;obtain ⟨u0,u1,u2,-,-,-,-⟩ := HT2.out.tri;obtain ⟨-,-,c2,-,-⟩ := HD.out _ HB.out;have kf := HK.out.free;obtain ⟨k0,k1,k2,k3,k4,k5,k6⟩ := HK.out.sev
        refine hK.out _ _ ?_ (fun hHeld2 => ?_)
        · exact ⟨t0,t1,t2,u0,u1,u2,c2⟩
        clear hK K hHeld
        have hHeld := hHeld2
        clear hHeld2
        try simp only [Act.put,List.setIfInBounds_toArray,List.set_cons_zero,List.set_cons_succ]
        refine takeH 15 60 ?_ (by kernel_rfl) (by kernel_rfl) (by kernel_rfl) (by kernel_rfl) (fun _ _ _ h => h) (by kernel_rfl) (fun o ho w hSw => ?_) (by assumption) ?_
        rotate_left
        · (simp only [List.getElem?_toArray,List.getElem?_cons_succ,List.getElem?_cons_zero,Option.some.injEq] at ho;subst ho;(try dsimp only at hSw);go_simp;try with_reducible rfl)
        try simp only [Act.put,List.setIfInBounds_toArray,List.set_cons_zero,List.set_cons_succ]
        refine takeH 16 61 ?_ (by kernel_rfl) (by kernel_rfl) (by kernel_rfl) (by kernel_rfl) (fun _ _ _ h => h) (by kernel_rfl) (fun o ho w hSw => ?_) (by assumption) ?_
        rotate_left
        · (simp only [List.getElem?_toArray,List.getElem?_cons_succ,List.getElem?_cons_zero,Option.some.injEq] at ho;subst ho;(try dsimp only at hSw);go_simp;try with_reducible rfl)
        try simp only [Act.put,List.setIfInBounds_toArray,List.set_cons_zero,List.set_cons_succ]
        refine skipH 17 62 (by kernel_rfl) (by kernel_rfl) (by kernel_rfl) (by kernel_rfl) (fun _ _ _ h => h) (by kernel_rfl) (by assumption) ?_
        try simp only [Act.put,List.setIfInBounds_toArray,List.set_cons_zero,List.set_cons_succ]
        refine skipH 18 63 (by kernel_rfl) (by kernel_rfl) (by kernel_rfl) (by kernel_rfl) (fun _ _ _ h => h) (by kernel_rfl) (by assumption) ?_
        try simp only [Act.put,List.setIfInBounds_toArray,List.set_cons_zero,List.set_cons_succ]
        refine takeH 19 64 ?_ (by kernel_rfl) (by kernel_rfl) (by kernel_rfl) (by kernel_rfl) (fun _ _ _ h => h) (by kernel_rfl) (fun o ho w hSw => ?_) (by assumption) ?_
        rotate_left
        · (simp only [List.getElem?_toArray,List.getElem?_cons_succ,List.getElem?_cons_zero,Option.some.injEq] at ho;subst ho;(try dsimp only at hSw);go_simp;try with_reducible rfl)
        try simp only [Act.put,List.setIfInBounds_toArray,List.set_cons_zero,List.set_cons_succ]
        refine callH 20 (by kernel_rfl) (by kernel_rfl) (fun o ho K hK => ?_)
        simp only [List.getElem?_toArray,List.getElem?_cons_succ,List.getElem?_cons_zero,Option.some.injEq] at ho;subst ho
        rw [if_pos (by rfl)]
        go_simp
        refine hK.out _ _ ?_ (fun hHeld2 => ?_)
        · exact ⟨cell_put7n t0 hne1 _ _ _ _ _ _ _,cell_put7n t1 hne1 _ _ _ _ _ _ _,cell_put7n t2 hne1 _ _ _ _ _ _ _,cell_put7n u0 hne2 _ _ _ _ _ _ _,cell_put7n u1 hne2 _ _ _ _ _ _ _,cell_put7n u2 hne2 _ _ _ _ _ _ _,cell_put7n c2 hne3 _ _ _ _ _ _ _⟩
        clear hK K hHeld
        have hHeld := hHeld2
        clear hHeld2
        try simp only [Act.put,List.setIfInBounds_toArray,List.set_cons_zero,List.set_cons_succ]
        refine takeH 21 3 ?_ (by kernel_rfl) (by kernel_rfl) (by kernel_rfl) (by kernel_rfl) (fun _ _ _ h => h) (by kernel_rfl) (fun o ho w hSw => ?_) (by assumption) ?_
        rotate_left
        · (simp only [List.getElem?_toArray,List.getElem?_cons_succ,List.getElem?_cons_zero,Option.some.injEq] at ho;subst ho;(try dsimp only at hSw);go_simp;try with_reducible rfl)
        try simp only [Act.put,List.setIfInBounds_toArray,List.set_cons_zero,List.set_cons_succ]
        refine wpAnyH_done (by kernel_rfl) ?_ _
        clear hHeld
        go_wp2_with fail
        exact bodyPost_ret (v := .tuple #[.agg #[.bool r1.s,.slice r1.a r1.n r1.c,.slice r1.b r1.m r1.d,.string x2,.bool r2.s,.slice r2.a r2.n r2.c,.slice r2.b r2.m r2.d],.bool false]) (by simp [results,Tryz.results37,go_sem, *]) rfl (HC2.out _ _ (rch_two false S2 HO1.out HO2.out HS1.out HS3.out (HR1.out.only (only_put7 _ _ _ _ _ _ _ _ _) (fun g hgm => by rw [List.mem_singleton] at hgm;subst hgm;exact HK.out.noU (by simp))) (HR2.out.only (only_put7 _ _ _ _ _ _ _ _ _) (fun g hgm => by rw [List.mem_singleton] at hgm;subst hgm;exact HK.out.noU (by simp))) false rfl (below_put7 HB.out (Nat.le_refl _) _ _ _ _ _ _ _)))
    · have he2 : (E2 == 0) = false := beq_eq_false_iff_ne.2 e2
      replace HO2 := Lib.hid (show numS x4 = none by have := HO2.out;rwa [if_neg e2] at this)
      have he1 : (E1 == 0) = true := beq_iff_eq.2 e1
      clear e1 e2
      have hne1 : g1≠w.heap.size := by omega
      have hne2 : g2≠w.heap.size := by omega
      have hne3 : bk≠w.heap.size := by omega
      refine wp_region_held_drew (S := fun w' => w'.cell? ⟨g1,0,none⟩ = some (.bool r1.s)∧w'.cell? ⟨g1,1,none⟩ = some (.slice r1.a r1.n r1.c)∧w'.cell? ⟨g1,2,none⟩ = some (.slice r1.b r1.m r1.d)∧w'.cell? ⟨g2,0,none⟩ = some (.bool r2.s)∧w'.cell? ⟨g2,1,none⟩ = some (.slice r2.a r2.n r2.c)∧w'.cell? ⟨g2,2,none⟩ = some (.slice r2.b r2.m r2.d)∧w'.cell? ⟨bk,off + 2,none⟩ = some (.string x2)) (by kernel_rfl) ⟨t0,t1,t2,u0,u1,u2,c2⟩ (fun hHeld => ?_)
      refine takeH 0 45 ?_ (by kernel_rfl) (by kernel_rfl) (by kernel_rfl) (by kernel_rfl) (fun _ _ _ h => h) (by kernel_rfl) (fun o ho w hSw => ?_) (by assumption) ?_
      rotate_left
      · (simp only [List.getElem?_toArray,List.getElem?_cons_succ,List.getElem?_cons_zero,Option.some.injEq] at ho;subst ho;(try dsimp only at hSw);go_simp;try with_reducible rfl)
      try simp only [Act.put,List.setIfInBounds_toArray,List.set_cons_zero,List.set_cons_succ]
      refine takeH 1 46 ?_ (by kernel_rfl) (by kernel_rfl) (by kernel_rfl) (by kernel_rfl) (fun _ _ _ h => h) (by kernel_rfl) (fun o ho w hSw => ?_) (by assumption) ?_
      rotate_left
      · (simp only [List.getElem?_toArray,List.getElem?_cons_succ,List.getElem?_cons_zero,Option.some.injEq] at ho;subst ho;(try dsimp only at hSw);go_simp;try with_reducible rfl)
      try simp only [Act.put,List.setIfInBounds_toArray,List.set_cons_zero,List.set_cons_succ]
      refine takeH 2 47 ?_ (by kernel_rfl) (by kernel_rfl) (by kernel_rfl) (by kernel_rfl) (fun _ _ _ h => h) (by kernel_rfl) (fun o ho w hSw => ?_) (by assumption) ?_
      rotate_left
      · (simp only [List.getElem?_toArray,List.getElem?_cons_succ,List.getElem?_cons_zero,Option.some.injEq] at ho;subst ho;(try dsimp only at hSw);go_simp;try with_reducible rfl)
      try simp only [Act.put,List.setIfInBounds_toArray,List.set_cons_zero,List.set_cons_succ]
      refine takeH 3 48 ?_ (by kernel_rfl) (by kernel_rfl) (by kernel_rfl) (by kernel_rfl) (fun _ _ _ h => h) (by kernel_rfl) (fun o ho w hSw => ?_) (by assumption) ?_
      rotate_left
      · (simp only [List.getElem?_toArray,List.getElem?_cons_succ,List.getElem?_cons_zero,Option.some.injEq] at ho;subst ho;(try dsimp only at hSw);go_simp;try with_reducible rfl)
      try simp only [Act.put,List.setIfInBounds_toArray,List.set_cons_zero,List.set_cons_succ]
      refine takeH 4 49 ?_ (by kernel_rfl) (by kernel_rfl) (by kernel_rfl) (by kernel_rfl) (fun _ _ _ h => h) (by kernel_rfl) (fun o ho w hSw => ?_) (by assumption) ?_
      rotate_left
      · (simp only [List.getElem?_toArray,List.getElem?_cons_succ,List.getElem?_cons_zero,Option.some.injEq] at ho;subst ho;(try dsimp only at hSw);go_simp;try with_reducible rfl)
      try simp only [Act.put,List.setIfInBounds_toArray,List.set_cons_zero,List.set_cons_succ]
      refine takeH 5 50 ?_ (by kernel_rfl) (by kernel_rfl) (by kernel_rfl) (by kernel_rfl) (fun _ _ _ h => h) (by kernel_rfl) (fun o ho w hSw => ?_) (by assumption) ?_
      rotate_left
      · (simp only [List.getElem?_toArray,List.getElem?_cons_succ,List.getElem?_cons_zero,Option.some.injEq] at ho;subst ho;(try dsimp only at hSw);go_simp;try with_reducible rfl)
      try simp only [Act.put,List.setIfInBounds_toArray,List.set_cons_zero,List.set_cons_succ]
      refine takeH 6 51 ?_ (by kernel_rfl) (by kernel_rfl) (by kernel_rfl) (by kernel_rfl) (fun _ _ _ h => h) (by kernel_rfl) (fun o ho w hSw => ?_) (by assumption) ?_
      rotate_left
      · (simp only [List.getElem?_toArray,List.getElem?_cons_succ,List.getElem?_cons_zero,Option.some.injEq] at ho;subst ho;(try dsimp only at hSw);go_simp;try with_reducible rfl)
      try simp only [Act.put,List.setIfInBounds_toArray,List.set_cons_zero,List.set_cons_succ]
      refine takeH 7 52 ?_ (by kernel_rfl) (by kernel_rfl) (by kernel_rfl) (by kernel_rfl) (fun _ _ _ h => h) (by kernel_rfl) (fun o ho w hSw => ?_) (by assumption) ?_
      rotate_left
      · (simp only [List.getElem?_toArray,List.getElem?_cons_succ,List.getElem?_cons_zero,Option.some.injEq] at ho;subst ho;(try dsimp only at hSw);go_simp;try with_reducible rfl)
      try simp only [Act.put,List.setIfInBounds_toArray,List.set_cons_zero,List.set_cons_succ]
      refine takeH 8 53 ?_ (by kernel_rfl) (by kernel_rfl) (by kernel_rfl) (by kernel_rfl) (fun _ _ _ h => h) (by kernel_rfl) (fun o ho w hSw => ?_) (by assumption) ?_
      rotate_left
      · (simp only [List.getElem?_toArray,List.getElem?_cons_succ,List.getElem?_cons_zero,Option.some.injEq] at ho;subst ho;(try dsimp only at hSw);go_simp;try with_reducible rfl)
      try simp only [Act.put,List.setIfInBounds_toArray,List.set_cons_zero,List.set_cons_succ]
      refine takeH 9 54 ?_ (by kernel_rfl) (by kernel_rfl) (by kernel_rfl) (by kernel_rfl) (fun _ _ _ h => h) (by kernel_rfl) (fun o ho w hSw => ?_) (by assumption) ?_
      rotate_left
      · (simp only [List.getElem?_toArray,List.getElem?_cons_succ,List.getElem?_cons_zero,Option.some.injEq] at ho;subst ho;(try dsimp only at hSw);go_simp;try with_reducible rfl)
      try simp only [Act.put,List.setIfInBounds_toArray,List.set_cons_zero,List.set_cons_succ]
      refine takeH 10 55 ?_ (by kernel_rfl) (by kernel_rfl) (by kernel_rfl) (by kernel_rfl) (fun _ _ _ h => h) (by kernel_rfl) (fun o ho w hSw => ?_) (by assumption) ?_
      rotate_left
      · (simp only [List.getElem?_toArray,List.getElem?_cons_succ,List.getElem?_cons_zero,Option.some.injEq] at ho;subst ho;(try dsimp only at hSw);go_simp;try with_reducible rfl)
      try simp only [Act.put,List.setIfInBounds_toArray,List.set_cons_zero,List.set_cons_succ]
      refine takeH 11 56 ?_ (by kernel_rfl) (by kernel_rfl) (by kernel_rfl) (by kernel_rfl) (fun _ _ _ h => h) (by kernel_rfl) (fun o ho w hSw => ?_) (by assumption) ?_
      rotate_left
      · (simp only [List.getElem?_toArray,List.getElem?_cons_succ,List.getElem?_cons_zero,Option.some.injEq] at ho;subst ho;(try dsimp only at hSw);go_simp;try with_reducible rfl)
      try simp only [Act.put,List.setIfInBounds_toArray,List.set_cons_zero,List.set_cons_succ]
      refine takeH 12 57 ?_ (by kernel_rfl) (by kernel_rfl) (by kernel_rfl) (by kernel_rfl) (fun _ _ _ h => h) (by kernel_rfl) (fun o ho w hSw => ?_) (by assumption) ?_
      rotate_left
      · (simp only [List.getElem?_toArray,List.getElem?_cons_succ,List.getElem?_cons_zero,Option.some.injEq] at ho;subst ho;(try dsimp only at hSw);go_simp;try with_reducible rfl)
      try simp only [Act.put,List.setIfInBounds_toArray,List.set_cons_zero,List.set_cons_succ]
      refine skipH 13 58 (by kernel_rfl) (by kernel_rfl) (by kernel_rfl) (by kernel_rfl) (fun _ _ _ h => h) (by kernel_rfl) (by assumption) ?_
      try simp only [Act.put,List.setIfInBounds_toArray,List.set_cons_zero,List.set_cons_succ]
      refine skipH 14 59 (by kernel_rfl) (by kernel_rfl) (by kernel_rfl) (by kernel_rfl) (fun _ _ _ h => h) (by kernel_rfl) (by assumption) ?_
      try simp only [Act.put,List.setIfInBounds_toArray,List.set_cons_zero,List.set_cons_succ]
      refine takeH 15 60 ?_ (by kernel_rfl) (by kernel_rfl) (by kernel_rfl) (by kernel_rfl) (fun _ _ _ h => h) (by kernel_rfl) (fun o ho w hSw => ?_) (by assumption) ?_
      rotate_left
      · (simp only [List.getElem?_toArray,List.getElem?_cons_succ,List.getElem?_cons_zero,Option.some.injEq] at ho;subst ho;(try dsimp only at hSw);go_simp;try with_reducible rfl)
      try simp only [Act.put,List.setIfInBounds_toArray,List.set_cons_zero,List.set_cons_succ]
      refine takeH 16 61 ?_ (by kernel_rfl) (by kernel_rfl) (by kernel_rfl) (by kernel_rfl) (fun _ _ _ h => h) (by kernel_rfl) (fun o ho w hSw => ?_) (by assumption) ?_
      rotate_left
      · (simp only [List.getElem?_toArray,List.getElem?_cons_succ,List.getElem?_cons_zero,Option.some.injEq] at ho;subst ho;(try dsimp only at hSw);go_simp;try with_reducible rfl)
      try simp only [Act.put,List.setIfInBounds_toArray,List.set_cons_zero,List.set_cons_succ]
      refine skipH 17 62 (by kernel_rfl) (by kernel_rfl) (by kernel_rfl) (by kernel_rfl) (fun _ _ _ h => h) (by kernel_rfl) (by assumption) ?_
      try simp only [Act.put,List.setIfInBounds_toArray,List.set_cons_zero,List.set_cons_succ]
      refine skipH 18 63 (by kernel_rfl) (by kernel_rfl) (by kernel_rfl) (by kernel_rfl) (fun _ _ _ h => h) (by kernel_rfl) (by assumption) ?_
      try simp only [Act.put,List.setIfInBounds_toArray,List.set_cons_zero,List.set_cons_succ]
      refine takeH 19 64 ?_ (by kernel_rfl) (by kernel_rfl) (by kernel_rfl) (by kernel_rfl) (fun _ _ _ h => h) (by kernel_rfl) (fun o ho w hSw => ?_) (by assumption) ?_
      rotate_left
      · (simp only [List.getElem?_toArray,List.getElem?_cons_succ,List.getElem?_cons_zero,Option.some.injEq] at ho;subst ho;(try dsimp only at hSw);go_simp;try with_reducible rfl)
      try simp only [Act.put,List.setIfInBounds_toArray,List.set_cons_zero,List.set_cons_succ]
      refine callH 20 (by kernel_rfl) (by kernel_rfl) (fun o ho K hK => ?_)
      simp only [List.getElem?_toArray,List.getElem?_cons_succ,List.getElem?_cons_zero,Option.some.injEq] at ho;subst ho
      rw [if_pos (by rfl)]
      go_simp
      refine hK.out _ _ ?_ (fun hHeld2 => ?_)
      · exact ⟨cell_put7 t0 hne1 _ _ _ _ _ _ _,cell_put7 t1 hne1 _ _ _ _ _ _ _,cell_put7 t2 hne1 _ _ _ _ _ _ _,cell_put7 u0 hne2 _ _ _ _ _ _ _,cell_put7 u1 hne2 _ _ _ _ _ _ _,cell_put7 u2 hne2 _ _ _ _ _ _ _,cell_put7 c2 hne3 _ _ _ _ _ _ _⟩
      clear hK K hHeld
      have hHeld := hHeld2
      clear hHeld2
      try simp only [Act.put,List.setIfInBounds_toArray,List.set_cons_zero,List.set_cons_succ]
      refine takeH 21 3 ?_ (by kernel_rfl) (by kernel_rfl) (by kernel_rfl) (by kernel_rfl) (fun _ _ _ h => h) (by kernel_rfl) (fun o ho w hSw => ?_) (by assumption) ?_
      rotate_left
      · (simp only [List.getElem?_toArray,List.getElem?_cons_succ,List.getElem?_cons_zero,Option.some.injEq] at ho;subst ho;(try dsimp only at hSw);go_simp;try with_reducible rfl)
      try simp only [Act.put,List.setIfInBounds_toArray,List.set_cons_zero,List.set_cons_succ]
      refine wpAnyH_done (by kernel_rfl) ?_ _
      clear hHeld
      go_wp2_with fail
      exact bodyPost_ret (v := .tuple #[.agg #[.bool r1.s,.slice r1.a r1.n r1.c,.slice r1.b r1.m r1.d,.string x2,.bool r2.s,.slice r2.a r2.n r2.c,.slice r2.b r2.m r2.d],.bool false]) (by simp [results,Tryz.results37,go_sem, *]) rfl (HC2.out _ _ (rch_no4 HO2.out (HR1.out.only (only_put7 _ _ _ _ _ _ _ _ _).drew (fun g hgm => by rw [List.mem_singleton] at hgm;subst hgm;exact HK.out.noU (by simp))) (HR2.out.only (only_put7 _ _ _ _ _ _ _ _ _).drew (fun g hgm => by rw [List.mem_singleton] at hgm;subst hgm;exact HK.out.noU (by simp))) (below_put7 HB.out (Nat.le_refl _) _ _ _ _ _ _ _).drew))
  · have he1 : (E1 == 0) = false := beq_eq_false_iff_ne.2 e1
    replace HO1 := Lib.hid (show numS x1 = none by have := HO1.out;rwa [if_neg e1] at this)
    clear e1
    have hne1 : g1≠w.heap.size := by omega
    have hne2 : g2≠w.heap.size := by omega
    have hne3 : bk≠w.heap.size := by omega
    refine wp_region_held_drew (S := fun w' => w'.cell? ⟨g1,0,none⟩ = some (.bool r1.s)∧w'.cell? ⟨g1,1,none⟩ = some (.slice r1.a r1.n r1.c)∧w'.cell? ⟨g1,2,none⟩ = some (.slice r1.b r1.m r1.d)∧w'.cell? ⟨g2,0,none⟩ = some (.bool r2.s)∧w'.cell? ⟨g2,1,none⟩ = some (.slice r2.a r2.n r2.c)∧w'.cell? ⟨g2,2,none⟩ = some (.slice r2.b r2.m r2.d)∧w'.cell? ⟨bk,off + 2,none⟩ = some (.string x2)) (by kernel_rfl) ⟨t0,t1,t2,u0,u1,u2,c2⟩ (fun hHeld => ?_)
    refine takeH 0 45 ?_ (by kernel_rfl) (by kernel_rfl) (by kernel_rfl) (by kernel_rfl) (fun _ _ _ h => h) (by kernel_rfl) (fun o ho w hSw => ?_) (by assumption) ?_
    rotate_left
    · (simp only [List.getElem?_toArray,List.getElem?_cons_succ,List.getElem?_cons_zero,Option.some.injEq] at ho;subst ho;(try dsimp only at hSw);go_simp;try with_reducible rfl)
    try simp only [Act.put,List.setIfInBounds_toArray,List.set_cons_zero,List.set_cons_succ]
    refine takeH 1 46 ?_ (by kernel_rfl) (by kernel_rfl) (by kernel_rfl) (by kernel_rfl) (fun _ _ _ h => h) (by kernel_rfl) (fun o ho w hSw => ?_) (by assumption) ?_
    rotate_left
    · (simp only [List.getElem?_toArray,List.getElem?_cons_succ,List.getElem?_cons_zero,Option.some.injEq] at ho;subst ho;(try dsimp only at hSw);go_simp;try with_reducible rfl)
    try simp only [Act.put,List.setIfInBounds_toArray,List.set_cons_zero,List.set_cons_succ]
    refine takeH 2 47 ?_ (by kernel_rfl) (by kernel_rfl) (by kernel_rfl) (by kernel_rfl) (fun _ _ _ h => h) (by kernel_rfl) (fun o ho w hSw => ?_) (by assumption) ?_
    rotate_left
    · (simp only [List.getElem?_toArray,List.getElem?_cons_succ,List.getElem?_cons_zero,Option.some.injEq] at ho;subst ho;(try dsimp only at hSw);go_simp;try with_reducible rfl)
    try simp only [Act.put,List.setIfInBounds_toArray,List.set_cons_zero,List.set_cons_succ]
    refine takeH 3 48 ?_ (by kernel_rfl) (by kernel_rfl) (by kernel_rfl) (by kernel_rfl) (fun _ _ _ h => h) (by kernel_rfl) (fun o ho w hSw => ?_) (by assumption) ?_
    rotate_left
    · (simp only [List.getElem?_toArray,List.getElem?_cons_succ,List.getElem?_cons_zero,Option.some.injEq] at ho;subst ho;(try dsimp only at hSw);go_simp;try with_reducible rfl)
    try simp only [Act.put,List.setIfInBounds_toArray,List.set_cons_zero,List.set_cons_succ]
    refine takeH 4 49 ?_ (by kernel_rfl) (by kernel_rfl) (by kernel_rfl) (by kernel_rfl) (fun _ _ _ h => h) (by kernel_rfl) (fun o ho w hSw => ?_) (by assumption) ?_
    rotate_left
    · (simp only [List.getElem?_toArray,List.getElem?_cons_succ,List.getElem?_cons_zero,Option.some.injEq] at ho;subst ho;(try dsimp only at hSw);go_simp;try with_reducible rfl)
    try simp only [Act.put,List.setIfInBounds_toArray,List.set_cons_zero,List.set_cons_succ]
    refine takeH 5 50 ?_ (by kernel_rfl) (by kernel_rfl) (by kernel_rfl) (by kernel_rfl) (fun _ _ _ h => h) (by kernel_rfl) (fun o ho w hSw => ?_) (by assumption) ?_
    rotate_left
    · (simp only [List.getElem?_toArray,List.getElem?_cons_succ,List.getElem?_cons_zero,Option.some.injEq] at ho;subst ho;(try dsimp only at hSw);go_simp;try with_reducible rfl)
    try simp only [Act.put,List.setIfInBounds_toArray,List.set_cons_zero,List.set_cons_succ]
    refine takeH 6 51 ?_ (by kernel_rfl) (by kernel_rfl) (by kernel_rfl) (by kernel_rfl) (fun _ _ _ h => h) (by kernel_rfl) (fun o ho w hSw => ?_) (by assumption) ?_
    rotate_left
    · (simp only [List.getElem?_toArray,List.getElem?_cons_succ,List.getElem?_cons_zero,Option.some.injEq] at ho;subst ho;(try dsimp only at hSw);go_simp;try with_reducible rfl)
    try simp only [Act.put,List.setIfInBounds_toArray,List.set_cons_zero,List.set_cons_succ]
    refine takeH 7 52 ?_ (by kernel_rfl) (by kernel_rfl) (by kernel_rfl) (by kernel_rfl) (fun _ _ _ h => h) (by kernel_rfl) (fun o ho w hSw => ?_) (by assumption) ?_
    rotate_left
    · (simp only [List.getElem?_toArray,List.getElem?_cons_succ,List.getElem?_cons_zero,Option.some.injEq] at ho;subst ho;(try dsimp only at hSw);go_simp;try with_reducible rfl)
    try simp only [Act.put,List.setIfInBounds_toArray,List.set_cons_zero,List.set_cons_succ]
    refine takeH 8 53 ?_ (by kernel_rfl) (by kernel_rfl) (by kernel_rfl) (by kernel_rfl) (fun _ _ _ h => h) (by kernel_rfl) (fun o ho w hSw => ?_) (by assumption) ?_
    rotate_left
    · (simp only [List.getElem?_toArray,List.getElem?_cons_succ,List.getElem?_cons_zero,Option.some.injEq] at ho;subst ho;(try dsimp only at hSw);go_simp;try with_reducible rfl)
    try simp only [Act.put,List.setIfInBounds_toArray,List.set_cons_zero,List.set_cons_succ]
    refine skipH 9 54 (by kernel_rfl) (by kernel_rfl) (by kernel_rfl) (by kernel_rfl) (fun _ _ _ h => h) (by kernel_rfl) (by assumption) ?_
    try simp only [Act.put,List.setIfInBounds_toArray,List.set_cons_zero,List.set_cons_succ]
    refine skipH 10 55 (by kernel_rfl) (by kernel_rfl) (by kernel_rfl) (by kernel_rfl) (fun _ _ _ h => h) (by kernel_rfl) (by assumption) ?_
    try simp only [Act.put,List.setIfInBounds_toArray,List.set_cons_zero,List.set_cons_succ]
    refine takeH 11 56 ?_ (by kernel_rfl) (by kernel_rfl) (by kernel_rfl) (by kernel_rfl) (fun _ _ _ h => h) (by kernel_rfl) (fun o ho w hSw => ?_) (by assumption) ?_
    rotate_left
    · (simp only [List.getElem?_toArray,List.getElem?_cons_succ,List.getElem?_cons_zero,Option.some.injEq] at ho;subst ho;(try dsimp only at hSw);go_simp;try with_reducible rfl)
    try simp only [Act.put,List.setIfInBounds_toArray,List.set_cons_zero,List.set_cons_succ]
    refine takeH 12 57 ?_ (by kernel_rfl) (by kernel_rfl) (by kernel_rfl) (by kernel_rfl) (fun _ _ _ h => h) (by kernel_rfl) (fun o ho w hSw => ?_) (by assumption) ?_
    rotate_left
    · (simp only [List.getElem?_toArray,List.getElem?_cons_succ,List.getElem?_cons_zero,Option.some.injEq] at ho;subst ho;(try dsimp only at hSw);go_simp;try with_reducible rfl)
    try simp only [Act.put,List.setIfInBounds_toArray,List.set_cons_zero,List.set_cons_succ]
    refine skipH 13 58 (by kernel_rfl) (by kernel_rfl) (by kernel_rfl) (by kernel_rfl) (fun _ _ _ h => h) (by kernel_rfl) (by assumption) ?_
    try simp only [Act.put,List.setIfInBounds_toArray,List.set_cons_zero,List.set_cons_succ]
    refine skipH 14 59 (by kernel_rfl) (by kernel_rfl) (by kernel_rfl) (by kernel_rfl) (fun _ _ _ h => h) (by kernel_rfl) (by assumption) ?_
    try simp only [Act.put,List.setIfInBounds_toArray,List.set_cons_zero,List.set_cons_succ]
    refine takeH 15 60 ?_ (by kernel_rfl) (by kernel_rfl) (by kernel_rfl) (by kernel_rfl) (fun _ _ _ h => h) (by kernel_rfl) (fun o ho w hSw => ?_) (by assumption) ?_
    rotate_left
    · (simp only [List.getElem?_toArray,List.getElem?_cons_succ,List.getElem?_cons_zero,Option.some.injEq] at ho;subst ho;(try dsimp only at hSw);go_simp;try with_reducible rfl)
    try simp only [Act.put,List.setIfInBounds_toArray,List.set_cons_zero,List.set_cons_succ]
    refine takeH 16 61 ?_ (by kernel_rfl) (by kernel_rfl) (by kernel_rfl) (by kernel_rfl) (fun _ _ _ h => h) (by kernel_rfl) (fun o ho w hSw => ?_) (by assumption) ?_
    rotate_left
    · (simp only [List.getElem?_toArray,List.getElem?_cons_succ,List.getElem?_cons_zero,Option.some.injEq] at ho;subst ho;(try dsimp only at hSw);go_simp;try with_reducible rfl)
    try simp only [Act.put,List.setIfInBounds_toArray,List.set_cons_zero,List.set_cons_succ]
    refine skipH 17 62 (by kernel_rfl) (by kernel_rfl) (by kernel_rfl) (by kernel_rfl) (fun _ _ _ h => h) (by kernel_rfl) (by assumption) ?_
    try simp only [Act.put,List.setIfInBounds_toArray,List.set_cons_zero,List.set_cons_succ]
    refine skipH 18 63 (by kernel_rfl) (by kernel_rfl) (by kernel_rfl) (by kernel_rfl) (fun _ _ _ h => h) (by kernel_rfl) (by assumption) ?_
    try simp only [Act.put,List.setIfInBounds_toArray,List.set_cons_zero,List.set_cons_succ]
    refine takeH 19 64 ?_ (by kernel_rfl) (by kernel_rfl) (by kernel_rfl) (by kernel_rfl) (fun _ _ _ h => h) (by kernel_rfl) (fun o ho w hSw => ?_) (by assumption) ?_
    rotate_left
    · (simp only [List.getElem?_toArray,List.getElem?_cons_succ,List.getElem?_cons_zero,Option.some.injEq] at ho;subst ho;(try dsimp only at hSw);go_simp;try with_reducible rfl)
    try simp only [Act.put,List.setIfInBounds_toArray,List.set_cons_zero,List.set_cons_succ]
    refine callH 20 (by kernel_rfl) (by kernel_rfl) (fun o ho K hK => ?_)
    simp only [List.getElem?_toArray,List.getElem?_cons_succ,List.getElem?_cons_zero,Option.some.injEq] at ho;subst ho
    rw [if_pos (by rfl)]
    go_simp
    refine hK.out _ _ ?_ (fun hHeld2 => ?_)
    · exact ⟨cell_put7 t0 hne1 _ _ _ _ _ _ _,cell_put7 t1 hne1 _ _ _ _ _ _ _,cell_put7 t2 hne1 _ _ _ _ _ _ _,cell_put7 u0 hne2 _ _ _ _ _ _ _,cell_put7 u1 hne2 _ _ _ _ _ _ _,cell_put7 u2 hne2 _ _ _ _ _ _ _,cell_put7 c2 hne3 _ _ _ _ _ _ _⟩
    clear hK K hHeld
    have hHeld := hHeld2
    clear hHeld2
    try simp only [Act.put,List.setIfInBounds_toArray,List.set_cons_zero,List.set_cons_succ]
    refine takeH 21 3 ?_ (by kernel_rfl) (by kernel_rfl) (by kernel_rfl) (by kernel_rfl) (fun _ _ _ h => h) (by kernel_rfl) (fun o ho w hSw => ?_) (by assumption) ?_
    rotate_left
    · (simp only [List.getElem?_toArray,List.getElem?_cons_succ,List.getElem?_cons_zero,Option.some.injEq] at ho;subst ho;(try dsimp only at hSw);go_simp;try with_reducible rfl)
    try simp only [Act.put,List.setIfInBounds_toArray,List.set_cons_zero,List.set_cons_succ]
    refine wpAnyH_done (by kernel_rfl) ?_ _
    clear hHeld
    go_wp2_with fail
    exact bodyPost_ret (v := .tuple #[.agg #[.bool r1.s,.slice r1.a r1.n r1.c,.slice r1.b r1.m r1.d,.string x2,.bool r2.s,.slice r2.a r2.n r2.c,.slice r2.b r2.m r2.d],.bool false]) (by simp [results,Tryz.results37,go_sem, *]) rfl (HC2.out _ _ (rch_no1 HO1.out (HR1.out.only (only_put7 _ _ _ _ _ _ _ _ _).drew (fun g hgm => by rw [List.mem_singleton] at hgm;subst hgm;exact HK.out.noU (by simp))) (HR2.out.only (only_put7 _ _ _ _ _ _ _ _ _).drew (fun g hgm => by rw [List.mem_singleton] at hgm;subst hgm;exact HK.out.noU (by simp))) (below_put7 HB.out (Nat.le_refl _) _ _ _ _ _ _ _).drew))
end Go.Proofs.YtkcgikoploohkaaGreatDoor
namespace Go.Proofs.YtkcgikoploohkaaGreatDoor
set_option linter.unusedVariables false
set_option linter.unusedSimpArgs false
set_option maxRecDepth 100000
open Go.RowKit Go.Shelf Nums
theorem rchange_t (a : Option Addr) (n c : Nat) (L : List ByteArray) (w : World) (hg : Gl w) (h : SRow w a n c L) (hz : ∀ x∈L,x.size≤1000000) : Calls Tryz.prog 37 #[.slice a n c] w (ChRes (changeM numS L) w) := by
  by_cases hn : n = 5
  · obtain ⟨x0,x1,x2,x3,x4,rfl⟩ := five (h.1.trans hn)
    by_cases hy : x0 = bAT∧nameB x2.data.toList = true∧x3 = bEQ
    · obtain ⟨rfl,h2,rfl⟩ := hy
      exact rchange_ok a n c x1 x2 x1 x4 w hg h h2 (hz x1 (by simp)) (hz x2 (by simp)) (hz x4 (by simp))
    · exact rchange_no a n c x0 x1 x2 x3 x4 w h (hz x2 (by simp)) hy
  · exact rchange_len a n c L w h hn
noncomputable def stageM : Nat→Rat→Int→Int→List UInt8→List (Rat × ByteArray × Rat)→Nat ⊕ ScT
  | 0,_,_,_,rest,_ => parseM numS rest
  | 1,h,_,_,rest,_ => match lineM (wordM bCAS cntS) rest with
    | none => .inl 2
    | some (c,r2) => match lineM (wordM bBITS cntS) r2 with
      | none => .inl 3
      | some (t,r3) => endM h c t (loopM numS (r3.length + 1) r3 3 [])
  | 2,h,c,_,rest,_ => match lineM (wordM bBITS cntS) rest with
    | none => .inl 3
    | some (t,r3) => endM h c t (loopM numS (r3.length + 1) r3 3 [])
  | k + 3,h,c,t,rest,acc => endM h c t (loopM numS (rest.length + 1) rest (k + 3) acc)
theorem loopM_fuel : ∀ (f f' : Nat) (rest : List UInt8) (k : Nat) (acc : List (Rat × ByteArray × Rat)),rest.length < f→rest.length < f'→loopM numS f rest k acc = loopM numS f' rest k acc
  | 0,_,_,_,_,h,_ => by omega
  | _ + 1,0,_,_,_,_,h => by omega
  | f + 1, f' + 1, rest, k, acc, h, h' => by
    by_cases hr : rest = []
    · rw [hr,loopM_end (by omega),loopM_end (by omega)]
    · cases hc : lineM (changeM numS) rest with
      | none => rw [loopM_no hr hc,loopM_no hr hc]
      | some p =>
        obtain ⟨x,r⟩ := p
        rw [loopM_yes hr hc,loopM_yes hr hc]
        have hlt : r.length < rest.length := by
          unfold lineM at hc
          cases ht : takeM rest with
          | none => rw [ht] at hc;cases hc
          | some q =>
            obtain ⟨L,r'⟩ := q
            rw [ht] at hc
            replace hc : ((changeM numS L).map fun x => (x,r')) = some (x,r) := hc
            have := takeM_len ht
            cases hx : changeM numS L with
            | none => rw [hx] at hc;cases hc
            | some y =>
              rw [hx] at hc
              replace hc : some (y,r') = some (x,r) := hc
              injection hc with hc
              injection hc with _ hc
              subst hc
              omega
        exact loopM_fuel f f' r (k + 1) _ (by omega) (by omega)
theorem st_0 {rest r : List UInt8} {q : Rat} {h : Rat} {c t : Int} {acc : List (Rat × ByteArray × Rat)} (hl : lineM (wordM bHOR numS) rest = some (q,r)) : stageM 0 h c t rest acc = stageM 1 q 0 0 r [] := by
  show parseM numS rest = _
  unfold parseM
  rw [hl]
  dsimp only [stageM]
  cases lineM (wordM bCAS cntS) r with
  | none => rfl
  | some p =>
    obtain ⟨c,r2⟩ := p
    dsimp only
    cases lineM (wordM bBITS cntS) r2 with
    | none => rfl
    | some p =>
      obtain ⟨t,r3⟩ := p
      dsimp only
      unfold endM
      cases loopM numS (r3.length + 1) r3 3 [] <;> rfl
theorem st_1 {rest r : List UInt8} {h : Rat} {c c' t : Int} {acc : List (Rat × ByteArray × Rat)} (hl : lineM (wordM bCAS cntS) rest = some (c',r)) : stageM 1 h c t rest acc = stageM 2 h c' t r acc := by
  simp only [stageM,hl]
theorem st_2 {rest r : List UInt8} {h : Rat} {c t t' : Int} {acc : List (Rat × ByteArray × Rat)} (hl : lineM (wordM bBITS cntS) rest = some (t',r)) : stageM 2 h c t rest acc = stageM 3 h c t' r [] := by
  simp only [stageM,hl]
theorem st_3 {rest r : List UInt8} {h : Rat} {c t : Int} {k : Nat} {x : Rat × ByteArray × Rat} {acc : List (Rat × ByteArray × Rat)} (hr : rest≠[]) (hlt : r.length < rest.length) (hl : lineM (changeM numS) rest = some (x,r)) : stageM (k + 3) h c t rest acc = stageM (k + 4) h c t r (acc ++ [x]) := by
  show endM h c t (loopM numS (rest.length + 1) rest (k + 3) acc) = endM h c t (loopM numS (r.length + 1) r (k + 4) (acc ++ [x]))
  rw [loopM_yes hr hl,loopM_fuel rest.length (r.length + 1) r _ _ hlt (by omega)]
theorem st_end {h : Rat} {c t : Int} {k : Nat} {acc : List (Rat × ByteArray × Rat)} : stageM (k + 3) h c t [] acc = .inr ⟨h,c,t,acc⟩ := by
  show endM h c t (loopM numS 1 [] (k + 3) acc) = _
  rw [loopM_end (by omega)]
  rfl
theorem st_no0 {rest : List UInt8} {h : Rat} {c t : Int} {acc : List (Rat × ByteArray × Rat)} (hl : lineM (wordM bHOR numS) rest = none) : stageM 0 h c t rest acc = .inl 1 := parse_0 hl
theorem st_no1 {rest : List UInt8} {h : Rat} {c t : Int} {acc : List (Rat × ByteArray × Rat)} (hl : lineM (wordM bCAS cntS) rest = none) : stageM 1 h c t rest acc = .inl 2 := by
  simp only [stageM,hl]
theorem st_no2 {rest : List UInt8} {h : Rat} {c t : Int} {acc : List (Rat × ByteArray × Rat)} (hl : lineM (wordM bBITS cntS) rest = none) : stageM 2 h c t rest acc = .inl 3 := by
  simp only [stageM,hl]
theorem st_no3 {rest : List UInt8} {h : Rat} {c t : Int} {k : Nat} {acc : List (Rat × ByteArray × Rat)} (hr : rest≠[]) (hl : lineM (changeM numS) rest = none) : stageM (k + 3) h c t rest acc = .inl (k + 4) := by
  show endM h c t (loopM numS (rest.length + 1) rest (k + 3) acc) = _
  rw [loopM_no hr hl]
  rfl
theorem line_none {α : Type} {f : List ByteArray→Option α} {rest : List UInt8} (h : cutL 10 rest = none) : lineM f rest = none := lineM_no (.inl (take_no h))
theorem line_words {α : Type} {f : List ByteArray→Option α} {rest x r : List UInt8} (h : cutL 10 rest = some (x,r)) : lineM f rest = (f (wordsM (bsL x))).map fun y => (y,r) := by
  unfold lineM
  rw [take_yes h]
theorem line_len {rest x r : List UInt8} (h : cutL 10 rest = some (x,r)) : x.length + r.length + 1 = rest.length := by
  rw [(cutL_parts h).1,List.length_append,List.length_cons];omega
end Go.Proofs.YtkcgikoploohkaaGreatDoor
