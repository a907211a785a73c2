import Derived.Test.YtkcgikoploohkaaGreatDoorZSc1ToSc4
import Derived.RegionTactic
namespace Go.Proofs.YtkcgikoploohkaaGreatDoor
set_option linter.unusedVariables false
set_option linter.unusedSimpArgs false
set_option maxRecDepth 100000
open Go.RowKit Go.Shelf Nums
theorem ne_list {a : ByteArray} {l : List UInt8} (h : a≠⟨l.toArray⟩) : (a.toList == l) = false := by
  rw [beq_eq_false_iff_ne]
  intro e
  rw [ByteArray.toList_eq] at e
  exact h (by rw [←e])
theorem ne_list' {a : ByteArray} {l : List UInt8} (h : a≠⟨l.toArray⟩) : (a.toList != l) = true := by rw [bne,ne_list h];rfl
def CM.Fit (x : CM) : Prop := x.t.Fit x.p∧x.v.Fit x.q
def ChOk (b : Bool) (o : Option (Rat × ByteArray × Rat)) (x : CM) : Prop := if b = true then o = some x.told∧x.Fit else o = none
def ChRes (o : Option (Rat × ByteArray × Rat)) (w : World) (e : Ending) (w' : World) : Prop := ∃ (x : CM) (b : Bool),e = .returned (.tuple #[.agg #[.bool x.t.s,.slice x.t.a x.t.n x.t.c,.slice x.t.b x.t.m x.t.d,.string x.nm,.bool x.v.s,.slice x.v.a x.v.n x.v.c,.slice x.v.b x.v.m x.v.d],.bool b])∧x.t.Is x.t.n x.t.m x.p w'∧x.v.Is x.v.n x.v.m x.q w'∧ChOk b o x∧Below w.heap.size w w'
def cm0 : CM := ⟨rv0,⟨#[]⟩,rv0,0,0⟩
theorem chRes_none {o : Option (Rat × ByteArray × Rat)} {w w' : World} (h : o = none) (hb : Below w.heap.size w w') : ChRes o w (.returned (.tuple #[.agg #[.bool false,.slice none 0 0,.slice none 0 0,.string ⟨#[]⟩,.bool false,.slice none 0 0,.slice none 0 0],.bool false])) w' := ⟨cm0,false,rfl,rv0_is w',rv0_is w',h,hb⟩
theorem below_put7 {B g : Nat} {a w : World} (h : Below B a w) (hg : B≤g) (x0 x1 x2 x3 x4 x5 x6 : Value) : Below B a (((((((w.setCell ⟨g,0,none⟩ x0).setCell ⟨g,1,none⟩ x1).setCell ⟨g,2,none⟩ x2).setCell ⟨g,3,none⟩ x3).setCell ⟨g,4,none⟩ x4).setCell ⟨g,5,none⟩ x5).setCell ⟨g,6,none⟩ x6) := ((((((h.setCell hg _).setCell hg _).setCell hg _).setCell hg _).setCell hg _).setCell hg _).setCell hg _
theorem only_put7 (w : World) (g : Nat) (x0 x1 x2 x3 x4 x5 x6 : Value) : Only [g] w (((((((w.setCell ⟨g,0,none⟩ x0).setCell ⟨g,1,none⟩ x1).setCell ⟨g,2,none⟩ x2).setCell ⟨g,3,none⟩ x3).setCell ⟨g,4,none⟩ x4).setCell ⟨g,5,none⟩ x5).setCell ⟨g,6,none⟩ x6) := by
  have k : ∀ (i : Nat) (u : World) (x : Value),Only [g] u (u.setCell ⟨g,i,none⟩ x) := fun i u x => Only.set (List.mem_singleton.2 rfl) i u x
  exact (((((((k 0 _ _).trans (k 1 _ _)).trans (k 2 _ _)).trans (k 3 _ _)).trans (k 4 _ _)).trans (k 5 _ _)).trans (k 6 _ _))
theorem five {L : List ByteArray} (h : L.length = 5) : ∃ a b c d e,L = [a,b,c,d,e] := by
  match L,h with
  | [a,b,c,d,e],_ => exact ⟨a,b,c,d,e,rfl⟩
theorem srow5 {w : World} {a : Option Addr} {n c : Nat} {x0 x1 x2 x3 x4 : ByteArray} (h : SRow w a n c [x0,x1,x2,x3,x4]) : ∃ b off,a = some ⟨b,off,none⟩∧n = 5∧b < w.heap.size∧w.cell? ⟨b,off,none⟩ = some (.string x0)∧w.cell? ⟨b,off + 1,none⟩ = some (.string x1)∧w.cell? ⟨b,off + 2,none⟩ = some (.string x2)∧w.cell? ⟨b,off + 3,none⟩ = some (.string x3)∧w.cell? ⟨b,off + 4,none⟩ = some (.string x4) := by
  obtain ⟨h1,-,-,b,off,h4,h5⟩ := h
  refine ⟨b,off,h4.resolve_right (by simp at h1;omega),h1.symm,(h5 0 _ rfl).1,(h5 0 _ rfl).2,(h5 1 _ rfl).2,(h5 2 _ rfl).2,(h5 3 _ rfl).2,(h5 4 _ rfl).2⟩
theorem changeM_len {num : ByteArray→Option Rat} {L : List ByteArray} (h : L.length≠5) : changeM num L = none := by
  match L,h with
  | [],_ => rfl
  | [_],_ => rfl
  | [_,_],_ => rfl
  | [_,_,_],_ => rfl
  | [_,_,_,_],_ => rfl
  | [_,_,_,_,_],h => exact absurd rfl h
  | _ :: _ :: _ :: _ :: _ :: _ :: _,_ => rfl
theorem changeM_no {num : ByteArray→Option Rat} {a b c d e : ByteArray} (h : ¬ (a = bAT∧nameB c.data.toList = true∧d = bEQ)) : changeM num [a,b,c,d,e] = none := if_neg h
theorem changeM_yes {num : ByteArray→Option Rat} {b c e : ByteArray} (h : nameB c.data.toList = true) : changeM num [bAT,b,c,bEQ,e] = pairM c (num b) (num e) := if_pos ⟨rfl,h,rfl⟩
set_option maxHeartbeats 4000000 in
theorem change_len (a : Option Addr) (n c : Nat) (L : List ByteArray) (w : World) (h : SRow w a n c L) (hn : n≠5) : Calls Tryz.prog 31 #[.slice a n c] w (ChRes (changeM numS L) w) := by
  have hm : c≤maxLen := h.2.2.1
  have hnc := h.2.1
  unfold maxLen at hm
  have HC := Lib.hid (changeM_len (num := numS) (L := L) (by rw [h.1];exact hn))
  have HK := Lib.hid (Blk.new w 43 #[.bool false,.slice none 0 0,.slice none 0 0,.string ⟨#[]⟩,.bool false,.slice none 0 0,.slice none 0 0])
  have HB := Lib.hid (below_one w (.cells #[.bool false,.slice none 0 0,.slice none 0 0,.string ⟨#[]⟩,.bool false,.slice none 0 0,.slice none 0 0] 43))
  have h5 : ((n : Int) == 5) = false := by rw [beq_eq_false_iff_ne];omega
  have h5' : ((n : Int) != 5) = true := by rw [bne_iff_ne];omega
  have hkk := HK.out.sev
  obtain ⟨k0,k1,k2,k3,k4,k5,k6⟩ := hkk
  clear h hn hm hnc
  go_enter Tryz.func31,Tryz.ntmps31
  go_wp2
  exact bodyPost_ret (v := .tuple #[.agg #[.bool false,.slice none 0 0,.slice none 0 0,.string ⟨#[]⟩,.bool false,.slice none 0 0,.slice none 0 0],.bool false]) (by simp [results,Tryz.results31,go_sem, *]) rfl (chRes_none HC.out HB.out)
end Go.Proofs.YtkcgikoploohkaaGreatDoor
namespace Go.Proofs.YtkcgikoploohkaaGreatDoor
set_option linter.unusedVariables false
set_option linter.unusedSimpArgs false
set_option maxRecDepth 100000
open Go.RowKit Go.Shelf Nums
set_option maxHeartbeats 4000000 in
theorem change_at (a : Option Addr) (n c : Nat) (x0 x1 x2 x3 x4 : ByteArray) (w : World) (h : SRow w a n c [x0,x1,x2,x3,x4]) (h0 : x0≠bAT) : Calls Tryz.prog 31 #[.slice a n c] w (ChRes (changeM numS [x0,x1,x2,x3,x4]) w) := by
  have HC := Lib.hid (changeM_no (num := numS) (a := x0) (b := x1) (c := x2) (d := x3) (e := x4) (fun q => h0 q.1))
  have e1 := ne_list (l := [97,116]) h0
  have e2 := ne_list' (l := [97,116]) h0
  obtain ⟨bk,off,rfl,rfl,hbk,d0,d1,d2,d3,d4⟩ := srow5 h
  have hm : c≤maxLen := h.2.2.1
  have hnc : 5≤c := h.2.1
  unfold maxLen at hm
  clear h
  have HB := Lib.hid (below_one w (.cells #[.bool false,.slice none 0 0,.slice none 0 0,.string ⟨#[]⟩,.bool false,.slice none 0 0,.slice none 0 0] 43))
  have HK := Lib.hid (Blk.new w 43 #[.bool false,.slice none 0 0,.slice none 0 0,.string ⟨#[]⟩,.bool false,.slice none 0 0,.slice none 0 0])
  have HD := Lib.hid (show ∀ W,Below w.heap.size w W→W.cell? ⟨bk,off,none⟩ = some (.string x0)∧W.cell? ⟨bk,off + 1,none⟩ = some (.string x1)∧W.cell? ⟨bk,off + 2,none⟩ = some (.string x2)∧W.cell? ⟨bk,off + 3,none⟩ = some (.string x3)∧W.cell? ⟨bk,off + 4,none⟩ = some (.string x4) from fun W hb => ⟨(hb.cell (p := ⟨bk,off,none⟩) hbk).trans d0,(hb.cell (p := ⟨bk,off + 1,none⟩) hbk).trans d1,(hb.cell (p := ⟨bk,off + 2,none⟩) hbk).trans d2,(hb.cell (p := ⟨bk,off + 3,none⟩) hbk).trans d3,(hb.cell (p := ⟨bk,off + 4,none⟩) hbk).trans d4⟩)
  clear h0 d0 d1 d2 d3 d4
  obtain ⟨c0,c1,c2,c3,c4⟩ := HD.out _ (Below.refl _ _)
  go_enter Tryz.func31,Tryz.ntmps31
  go_wp2
  exact bodyPost_ret (v := .tuple #[.agg #[.bool false,.slice none 0 0,.slice none 0 0,.string ⟨#[]⟩,.bool false,.slice none 0 0,.slice none 0 0],.bool false]) (by simp [results,Tryz.results31,go_sem, *]) rfl (chRes_none HC.out HB.out)
set_option maxHeartbeats 4000000 in
theorem change_name (a : Option Addr) (n c : Nat) (x1 x2 x3 x4 : ByteArray) (w : World) (h : SRow w a n c [bAT,x1,x2,x3,x4]) (h0 : nameB x2.data.toList = false) : Calls Tryz.prog 31 #[.slice a n c] w (ChRes (changeM numS [bAT,x1,x2,x3,x4]) w) := by
  have HC := Lib.hid (changeM_no (num := numS) (a := bAT) (b := x1) (c := x2) (d := x3) (e := x4) (fun q => by rw [h0] at q;exact absurd q.2.1 (by decide)))
  have HN := Lib.hid h0
  generalize hx0 : bAT = x0 at h
  obtain rfl : x0 = ⟨#[97,116]⟩ := hx0.symm
  obtain ⟨bk,off,rfl,rfl,hbk,d0,d1,d2,d3,d4⟩ := srow5 h
  have hm : c≤maxLen := h.2.2.1
  have hnc : 5≤c := h.2.1
  unfold maxLen at hm
  clear h
  have HB := Lib.hid (below_one w (.cells #[.bool false,.slice none 0 0,.slice none 0 0,.string ⟨#[]⟩,.bool false,.slice none 0 0,.slice none 0 0] 43))
  have HK := Lib.hid (Blk.new w 43 #[.bool false,.slice none 0 0,.slice none 0 0,.string ⟨#[]⟩,.bool false,.slice none 0 0,.slice none 0 0])
  have HD := Lib.hid (show ∀ W,Below w.heap.size w W→W.cell? ⟨bk,off,none⟩ = some (.string ⟨#[97,116]⟩)∧W.cell? ⟨bk,off + 1,none⟩ = some (.string x1)∧W.cell? ⟨bk,off + 2,none⟩ = some (.string x2)∧W.cell? ⟨bk,off + 3,none⟩ = some (.string x3)∧W.cell? ⟨bk,off + 4,none⟩ = some (.string x4) from fun W hb => ⟨(hb.cell (p := ⟨bk,off,none⟩) hbk).trans d0,(hb.cell (p := ⟨bk,off + 1,none⟩) hbk).trans d1,(hb.cell (p := ⟨bk,off + 2,none⟩) hbk).trans d2,(hb.cell (p := ⟨bk,off + 3,none⟩) hbk).trans d3,(hb.cell (p := ⟨bk,off + 4,none⟩) hbk).trans d4⟩)
  clear h0 d0 d1 d2 d3 d4 hx0
  obtain ⟨c0,c1,c2,c3,c4⟩ := HD.out _ (Below.refl _ _)
  go_enter Tryz.func31,Tryz.ntmps31
  go_wp2_with (go_at_call 47;(with_reducible refine (isName_t _ _).mono ?_);rw [HN.out];rintro e w2 ⟨rfl,hb⟩;have HK2 := Lib.hid (HK.out.later hb);have HB2 := Lib.hid (bthen HB.out hb);obtain ⟨c0,c1,c2,c3,c4⟩ := HD.out _ HB2.out;obtain ⟨k0,k1,k2,k3,k4,k5,k6⟩ := HK2.out.sev;have kf := HK2.out.free;clear hb)
  exact bodyPost_ret (v := .tuple #[.agg #[.bool false,.slice none 0 0,.slice none 0 0,.string ⟨#[]⟩,.bool false,.slice none 0 0,.slice none 0 0],.bool false]) (by simp [results,Tryz.results31,go_sem, *]) rfl (chRes_none HC.out (below_put7 HB2.out (Nat.le_refl _) _ _ _ _ _ _ _))
set_option maxHeartbeats 4000000 in
theorem change_eq (a : Option Addr) (n c : Nat) (x1 x2 x3 x4 : ByteArray) (w : World) (h : SRow w a n c [bAT,x1,x2,x3,x4]) (hN : nameB x2.data.toList = true) (h0 : x3≠bEQ) : Calls Tryz.prog 31 #[.slice a n c] w (ChRes (changeM numS [bAT,x1,x2,x3,x4]) w) := by
  have HC := Lib.hid (changeM_no (num := numS) (a := bAT) (b := x1) (c := x2) (d := x3) (e := x4) (fun q => h0 q.2.2))
  have HN := Lib.hid hN
  have e1 := ne_list (l := [61]) h0
  have e2 := ne_list' (l := [61]) h0
  generalize hx0 : bAT = x0 at h
  obtain rfl : x0 = ⟨#[97,116]⟩ := hx0.symm
  obtain ⟨bk,off,rfl,rfl,hbk,d0,d1,d2,d3,d4⟩ := srow5 h
  have hm : c≤maxLen := h.2.2.1
  have hnc : 5≤c := h.2.1
  unfold maxLen at hm
  clear h
  have HB := Lib.hid (below_one w (.cells #[.bool false,.slice none 0 0,.slice none 0 0,.string ⟨#[]⟩,.bool false,.slice none 0 0,.slice none 0 0] 43))
  have HK := Lib.hid (Blk.new w 43 #[.bool false,.slice none 0 0,.slice none 0 0,.string ⟨#[]⟩,.bool false,.slice none 0 0,.slice none 0 0])
  have HD := Lib.hid (show ∀ W,Below w.heap.size w W→W.cell? ⟨bk,off,none⟩ = some (.string ⟨#[97,116]⟩)∧W.cell? ⟨bk,off + 1,none⟩ = some (.string x1)∧W.cell? ⟨bk,off + 2,none⟩ = some (.string x2)∧W.cell? ⟨bk,off + 3,none⟩ = some (.string x3)∧W.cell? ⟨bk,off + 4,none⟩ = some (.string x4) from fun W hb => ⟨(hb.cell (p := ⟨bk,off,none⟩) hbk).trans d0,(hb.cell (p := ⟨bk,off + 1,none⟩) hbk).trans d1,(hb.cell (p := ⟨bk,off + 2,none⟩) hbk).trans d2,(hb.cell (p := ⟨bk,off + 3,none⟩) hbk).trans d3,(hb.cell (p := ⟨bk,off + 4,none⟩) hbk).trans d4⟩)
  clear h0 d0 d1 d2 d3 d4 hx0 hN
  obtain ⟨c0,c1,c2,c3,c4⟩ := HD.out _ (Below.refl _ _)
  go_enter Tryz.func31,Tryz.ntmps31
  go_wp2_with (go_at_call 47;(with_reducible refine (isName_t _ _).mono ?_);rw [HN.out];rintro e w2 ⟨rfl,hb⟩;have HK2 := Lib.hid (HK.out.later hb);have HB2 := Lib.hid (bthen HB.out hb);obtain ⟨c0,c1,c2,c3,c4⟩ := HD.out _ HB2.out;obtain ⟨k0,k1,k2,k3,k4,k5,k6⟩ := HK2.out.sev;have kf := HK2.out.free;clear hb)
  exact bodyPost_ret (v := .tuple #[.agg #[.bool false,.slice none 0 0,.slice none 0 0,.string ⟨#[]⟩,.bool false,.slice none 0 0,.slice none 0 0],.bool false]) (by simp [results,Tryz.results31,go_sem, *]) rfl (chRes_none HC.out (below_put7 HB2.out (Nat.le_refl _) _ _ _ _ _ _ _))
end Go.Proofs.YtkcgikoploohkaaGreatDoor
namespace Go.Proofs.YtkcgikoploohkaaGreatDoor
set_option linter.unusedVariables false
set_option linter.unusedSimpArgs false
set_option maxRecDepth 100000
open Go.RowKit Go.Shelf Nums
theorem pair_o {b1 b2 : Bool} {o1 o2 : Option Rat} {r1 r2 : RV} {q1 q2 : Rat} {nm : ByteArray} (h1 : NumOk b1 o1 r1 q1) (h2 : NumOk b2 o2 r2 q2) : ChOk (b1 && b2) (pairM nm o1 o2) ⟨r1,nm,r2,q1,q2⟩ := by
  cases b1
  · have e : o1 = none := h1
    subst e
    exact (rfl : pairM nm none o2 = none)
  · obtain ⟨e,f⟩ : o1 = some q1∧r1.Fit q1 := h1
    subst e
    cases b2
    · have e2 : o2 = none := h2
      subst e2
      exact (rfl : pairM nm (some q1) none = none)
    · obtain ⟨e2,f2⟩ : o2 = some q2∧r2.Fit q2 := h2
      subst e2
      exact ⟨rfl,f,f2⟩
theorem NumT.at_ {s : ByteArray} {o : Option Rat} {w : World} (h : NumT s o) (hg : Gl w) : Calls Tryz.prog 26 #[.string s] w (NumRes o w) := h w hg
set_option maxHeartbeats 8000000 in
theorem change_ok (a : Option Addr) (n c : Nat) (x1 x2 x3 x4 : ByteArray) (w : World) (hg : Gl w) (h : SRow w a n c [bAT,x1,x2,bEQ,x4]) (hN : nameB x2.data.toList = true) (s1 : x1.size≤1000000) (s4 : x4.size≤1000000) : Calls Tryz.prog 31 #[.slice a n c] w (ChRes (changeM numS [bAT,x1,x2,bEQ,x4]) w) := by
  have HC := Lib.hid (changeM_yes (num := numS) (b := x1) (c := x2) (e := x4) hN)
  have HN := Lib.hid hN
  have HG := Lib.hid hg
  have HN1 := Lib.hid (numS_is s1)
  have HN4 := Lib.hid (numS_is s4)
  generalize hx0 : bAT = x0 at h
  obtain rfl : x0 = ⟨#[97,116]⟩ := hx0.symm
  generalize hx3 : bEQ = x3 at h
  obtain rfl : x3 = ⟨#[61]⟩ := hx3.symm
  obtain ⟨bk,off,rfl,rfl,hbk,d0,d1,d2,d3,d4⟩ := srow5 h
  have hm : c≤maxLen := h.2.2.1
  have hnc : 5≤c := h.2.1
  unfold maxLen at hm
  clear h
  have HB := Lib.hid (below_one w (.cells #[.bool false,.slice none 0 0,.slice none 0 0,.string ⟨#[]⟩,.bool false,.slice none 0 0,.slice none 0 0] 43))
  have HK := Lib.hid (Blk.new w 43 #[.bool false,.slice none 0 0,.slice none 0 0,.string ⟨#[]⟩,.bool false,.slice none 0 0,.slice none 0 0])
  have HD := Lib.hid (show ∀ W,Below w.heap.size w W→W.cell? ⟨bk,off,none⟩ = some (.string ⟨#[97,116]⟩)∧W.cell? ⟨bk,off + 1,none⟩ = some (.string x1)∧W.cell? ⟨bk,off + 2,none⟩ = some (.string x2)∧W.cell? ⟨bk,off + 3,none⟩ = some (.string ⟨#[61]⟩)∧W.cell? ⟨bk,off + 4,none⟩ = some (.string x4) from fun W hb => ⟨(hb.cell (p := ⟨bk,off,none⟩) hbk).trans d0,(hb.cell (p := ⟨bk,off + 1,none⟩) hbk).trans d1,(hb.cell (p := ⟨bk,off + 2,none⟩) hbk).trans d2,(hb.cell (p := ⟨bk,off + 3,none⟩) hbk).trans d3,(hb.cell (p := ⟨bk,off + 4,none⟩) hbk).trans d4⟩)
  clear d0 d1 d2 d3 d4 hx0 hx3 hN hg s1 s4
  obtain ⟨c0,c1,c2,c3,c4⟩ := HD.out _ HB.out;obtain ⟨k0,k1,k2,k3,k4,k5,k6⟩ := HK.out.sev;have kf := HK.out.free
  go_enter Tryz.func31,Tryz.ntmps31
  go_wp2_with (first
    | (go_at_call 47;(with_reducible refine (isName_t _ _).mono ?_);rw [HN.out];rintro e w2 ⟨rfl,hb⟩;clear c0 c1 c2 c3 c4 k0 k1 k2 k3 k4 k5 k6 kf;replace HK := Lib.hid (HK.out.later hb);replace HB := Lib.hid (bthen HB.out hb);obtain ⟨c0,c1,c2,c3,c4⟩ := HD.out _ HB.out;obtain ⟨k0,k1,k2,k3,k4,k5,k6⟩ := HK.out.sev;have kf := HK.out.free;clear hb)
    | (have mk := HT1;go_at_call 26;(with_reducible refine (HN4.out.at_ (HG.out.later HB.out)).mono ?_);rintro e w4 ⟨r2,b2,q2,rfl,hr,ho,hb⟩;clear c0 c1 c2 c3 c4 k0 k1 k2 k3 k4 k5 k6 kf;have hb1 := bthen hb (below_one w4 (.cells #[.bool r2.s,.slice r2.a r2.n r2.c,.slice r2.b r2.m r2.d] 27));replace HK := Lib.hid (HK.out.later hb1);replace HB := Lib.hid (bthen HB.out hb1);replace HR1 := Lib.hid (HR1.out.later hb1);have HR2 := Lib.hid (hr.later (below_one w4 (.cells #[.bool r2.s,.slice r2.a r2.n r2.c,.slice r2.b r2.m r2.d] 27)));have HO2 := Lib.hid ho;have HT1b := Lib.hid (HT1.out.later hb1);have HT2 := Lib.hid (Blk.new w4 27 #[.bool r2.s,.slice r2.a r2.n r2.c,.slice r2.b r2.m r2.d]);obtain ⟨c0,c1,c2,c3,c4⟩ := HD.out _ HB.out;obtain ⟨k0,k1,k2,k3,k4,k5,k6⟩ := HK.out.sev;have kf := HK.out.free;obtain ⟨t0,t1,t2,-,-,-,-⟩ := HT1b.out.tri;obtain ⟨u0,u1,u2,-,-,-,-⟩ := HT2.out.tri;have hlt1 : w3.heap.size < w4.heap.size := Nat.lt_of_lt_of_le (by simp) hb.size;clear hb hb1 hr ho)
    | (go_at_call 26;(with_reducible refine (HN1.out.at_ (HG.out.later HB.out)).mono ?_);rintro e w3 ⟨r1,b1,q1,rfl,hr,ho,hb⟩;clear c0 c1 c2 c3 c4 k0 k1 k2 k3 k4 k5 k6 kf;have hb1 := bthen hb (below_one w3 (.cells #[.bool r1.s,.slice r1.a r1.n r1.c,.slice r1.b r1.m r1.d] 27));replace HK := Lib.hid (HK.out.later hb1);replace HB := Lib.hid (bthen HB.out hb1);have HR1 := Lib.hid (hr.later (below_one w3 (.cells #[.bool r1.s,.slice r1.a r1.n r1.c,.slice r1.b r1.m r1.d] 27)));have HO1 := Lib.hid ho;have HT1 := Lib.hid (Blk.new w3 27 #[.bool r1.s,.slice r1.a r1.n r1.c,.slice r1.b r1.m r1.d]);obtain ⟨c0,c1,c2,c3,c4⟩ := HD.out _ HB.out;obtain ⟨k0,k1,k2,k3,k4,k5,k6⟩ := HK.out.sev;have kf := HK.out.free;clear hb hb1 hr ho))
  cases b1
  · go_region
    all_goals
      go_wp2
      exact bodyPost_ret (v := .tuple #[.agg #[.bool r1.s,.slice r1.a r1.n r1.c,.slice r1.b r1.m r1.d,.string x2,.bool r2.s,.slice r2.a r2.n r2.c,.slice r2.b r2.m r2.d],.bool false]) (by simp [results,Tryz.results31,go_sem, *]) rfl ⟨⟨r1,x2,r2,q1,q2⟩,false,rfl,HR1.out.only (only_put7 _ _ _ _ _ _ _ _ _).drew (fun g hgm => by rw [List.mem_singleton] at hgm;subst hgm;exact HK.out.noU (by simp)),HR2.out.only (only_put7 _ _ _ _ _ _ _ _ _).drew (fun g hgm => by rw [List.mem_singleton] at hgm;subst hgm;exact HK.out.noU (by simp)),by rw [show changeM numS [⟨#[97,116]⟩,x1,x2,⟨#[61]⟩,x4] = _ from HC.out];exact pair_o HO1.out HO2.out,(below_put7 HB.out (Nat.le_refl _) _ _ _ _ _ _ _).drew⟩
  · go_region
    all_goals
      go_wp2
      exact bodyPost_ret (v := .tuple #[.agg #[.bool r1.s,.slice r1.a r1.n r1.c,.slice r1.b r1.m r1.d,.string x2,.bool r2.s,.slice r2.a r2.n r2.c,.slice r2.b r2.m r2.d],.bool b2]) (by simp [results,Tryz.results31,go_sem, *]) rfl ⟨⟨r1,x2,r2,q1,q2⟩,b2,rfl,HR1.out.only (only_put7 _ _ _ _ _ _ _ _ _).drew (fun g hgm => by rw [List.mem_singleton] at hgm;subst hgm;exact HK.out.noU (by simp)),HR2.out.only (only_put7 _ _ _ _ _ _ _ _ _).drew (fun g hgm => by rw [List.mem_singleton] at hgm;subst hgm;exact HK.out.noU (by simp)),by rw [show changeM numS [⟨#[97,116]⟩,x1,x2,⟨#[61]⟩,x4] = _ from HC.out];exact pair_o HO1.out HO2.out,(below_put7 HB.out (Nat.le_refl _) _ _ _ _ _ _ _).drew⟩
end Go.Proofs.YtkcgikoploohkaaGreatDoor
namespace Go.Proofs.YtkcgikoploohkaaGreatDoor
set_option linter.unusedVariables false
set_option linter.unusedSimpArgs false
set_option maxRecDepth 100000
open Go.RowKit Go.Shelf Nums
theorem change_t (a : Option Addr) (n c : Nat) (L : List ByteArray) (w : World) (hg : Gl w) (h : SRow w a n c L) (hs : ∀ x∈L,x.size≤1000000) : Calls Tryz.prog 31 #[.slice a n c] w (ChRes (changeM numS L) w) := by
  by_cases hn : L.length = 5
  · obtain ⟨x0,x1,x2,x3,x4,rfl⟩ := five hn
    by_cases h0 : x0 = bAT
    · subst h0
      cases h1 : nameB x2.data.toList with
      | false => exact change_name a n c x1 x2 x3 x4 w h h1
      | true =>
        by_cases h3 : x3 = bEQ
        · subst h3
          exact change_ok a n c x1 x2 bEQ x4 w hg h h1 (hs _ (by simp)) (hs _ (by simp))
        · exact change_eq a n c x1 x2 x3 x4 w h h1 h3
    · exact change_at a n c x0 x1 x2 x3 x4 w h h0
  · exact change_len a n c L w h (by rw [←h.1];exact hn)
def SBlk (w : World) (g : Nat) (v : SV) : Prop := Blk w g 30 #[.bool v.h.s,.slice v.h.a v.h.n v.h.c,.slice v.h.b v.h.m v.h.d,.int .i64 v.cas,.int .i64 v.bits,.slice v.a v.n v.c]
theorem SBlk.cells {w : World} {g : Nat} {v : SV} (h : SBlk w g v) : w.cell? ⟨g,0,none⟩ = some (.bool v.h.s)∧w.cell? ⟨g,1,none⟩ = some (.slice v.h.a v.h.n v.h.c)∧w.cell? ⟨g,2,none⟩ = some (.slice v.h.b v.h.m v.h.d)∧w.cell? ⟨g,3,none⟩ = some (.int .i64 v.cas)∧w.cell? ⟨g,4,none⟩ = some (.int .i64 v.bits)∧w.cell? ⟨g,5,none⟩ = some (.slice v.a v.n v.c) :=
  ⟨Blk.cell h 0 rfl,Blk.cell h 1 rfl,Blk.cell h 2 rfl,Blk.cell h 3 rfl,Blk.cell h 4 rfl,Blk.cell h 5 rfl⟩
theorem SBlk.noU {w : World} {g : Nat} {v : SV} (h : SBlk w g v) : NoU w g := Blk.noU h (by simp)
theorem SBlk.later {w w' : World} {g : Nat} {v : SV} (h : SBlk w g v) (hb : Below w.heap.size w w') : SBlk w' g v := Blk.later h hb
theorem noU_one {w : World} {g : Nat} (h : NoU w g) : ∀ i∈[g],NoU w i := fun i hi => by rw [List.mem_singleton] at hi;subst hi;exact h
def RdH (o : Option Rat) (g : Nat) (v : SV) (w : World) (e : Ending) (w' : World) : Prop := ∃ (r : RV) (b : Bool) (q : Rat),e = .returned (.bool b)∧SBlk w' g { v with h := r }∧r.Is r.n r.m q w'∧NumOk b o r q∧Only [g] w w'
def CntOk (b : Bool) (o : Option Int) (n : Int) : Prop := if b = true then o = some n else o = none
def RdC (o : Option Int) (g : Nat) (v : SV) (w : World) (e : Ending) (w' : World) : Prop := ∃ (n : Int) (b : Bool),e = .returned (.bool b)∧SBlk w' g { v with cas := n }∧CntOk b o n∧Only [g] w w'
def RdB (o : Option Int) (g : Nat) (v : SV) (w : World) (e : Ending) (w' : World) : Prop := ∃ (n : Int) (b : Bool),e = .returned (.bool b)∧SBlk w' g { v with bits := n }∧CntOk b o n∧Only [g] w w'
set_option maxHeartbeats 2000000 in
theorem rdH_t (x : ByteArray) (g : Nat) (v : SV) (w : World) (hg : Gl w) (hk : SBlk w g v) (hx : x.size≤1000000) : Calls Tryz.prog 25 #[.string x,.pointer (some ⟨g,0,none⟩)] w (RdH (numS x) g v w) := by
  have HN := Lib.hid (numS_is hx)
  have HG := Lib.hid hg
  have HK := Lib.hid hk
  clear hg hk
  go_enter Tryz.func25,Tryz.ntmps25
  go_wp2_with (go_at_call 26;(with_reducible refine (HN.out.at_ HG.out).mono ?_);rintro e w2 ⟨r,b,q,rfl,hr,ho,hb⟩;have HK2 := Lib.hid (HK.out.later hb);have HR := Lib.hid hr;have HO := Lib.hid ho;have HB := Lib.hid hb;obtain ⟨k0,k1,k2,-,-,-⟩ := HK2.out.cells;have kf := Blk.free HK2.out;clear hr ho hb)
  go_ret
  have ho : Only [g] w2 (((w2.setCell ⟨g,0,none⟩ (.bool r.s)).setCell ⟨g,1,none⟩ (.slice r.a r.n r.c)).setCell ⟨g,2,none⟩ (.slice r.b r.m r.d)) :=
    ((Only.set (List.mem_singleton.2 rfl) 0 _ _).trans (Only.set (List.mem_singleton.2 rfl) 1 _ _)).trans (Only.set (List.mem_singleton.2 rfl) 2 _ _)
  exact ⟨r,b,q,rfl,((Blk.set HK2.out 0 _).set 1 _).set 2 _,HR.out.only ho (noU_one HK2.out.noU),HO.out,(Only.of_below HB.out).trans ho⟩
set_option maxHeartbeats 2000000 in
theorem rdC_t (x : ByteArray) (g : Nat) (v : SV) (w : World) (hg : Gl w) (hk : SBlk w g v) (hx : x.size≤maxLen) : Calls Tryz.prog 27 #[.string x,.pointer (some ⟨g,0,none⟩)] w (RdC (cntS x) g v w) := by
  have HG := Lib.hid hg
  have HK := Lib.hid hk
  have HX := Lib.hid hx
  clear hg hk hx
  go_enter Tryz.func27,Tryz.ntmps27
  go_wp2_with (go_at_call 28;(with_reducible refine (count_t _ _ HG.out HX.out).mono ?_);rintro e w2 ⟨n,b,rfl,ho,hb⟩;have HK2 := Lib.hid (HK.out.later hb);have HO := Lib.hid (show CntOk b (cntS x) n from ho);have HB := Lib.hid hb;obtain ⟨-,-,-,k3,-,-⟩ := HK2.out.cells;have kf := Blk.free HK2.out;clear ho hb)
  go_ret
  exact ⟨n,b,rfl,Blk.set HK2.out 3 _,HO.out,(Only.of_below HB.out).trans (Only.set (List.mem_singleton.2 rfl) 3 _ _)⟩
set_option maxHeartbeats 2000000 in
theorem rdB_t (x : ByteArray) (g : Nat) (v : SV) (w : World) (hg : Gl w) (hk : SBlk w g v) (hx : x.size≤maxLen) : Calls Tryz.prog 29 #[.string x,.pointer (some ⟨g,0,none⟩)] w (RdB (cntS x) g v w) := by
  have HG := Lib.hid hg
  have HK := Lib.hid hk
  have HX := Lib.hid hx
  clear hg hk hx
  go_enter Tryz.func29,Tryz.ntmps29
  go_wp2_with (go_at_call 28;(with_reducible refine (count_t _ _ HG.out HX.out).mono ?_);rintro e w2 ⟨n,b,rfl,ho,hb⟩;have HK2 := Lib.hid (HK.out.later hb);have HO := Lib.hid (show CntOk b (cntS x) n from ho);have HB := Lib.hid hb;obtain ⟨-,-,-,-,k4,-⟩ := HK2.out.cells;have kf := Blk.free HK2.out;clear ho hb)
  go_ret
  exact ⟨n,b,rfl,Blk.set HK2.out 4 _,HO.out,(Only.of_below HB.out).trans (Only.set (List.mem_singleton.2 rfl) 4 _ _)⟩
end Go.Proofs.YtkcgikoploohkaaGreatDoor
namespace Go.Proofs.YtkcgikoploohkaaGreatDoor
set_option linter.unusedVariables false
set_option linter.unusedSimpArgs false
set_option maxRecDepth 100000
open Go.RowKit Go.Shelf Nums
structure St (w : World) (g gr gl : Nat) (v : SV) (rest : List UInt8) (k : Nat) : Prop where
  s : SBlk w g v
  r : Blk w gr 9 #[.string (bsL rest)]
  l : Blk w gl 3 #[.int .i64 (k : Int)]
  a : g≠gr∧g≠gl∧gr≠gl
  b : 9≤g∧9≤gr∧9≤gl
theorem St.later {w w' : World} {g gr gl : Nat} {v : SV} {rest : List UInt8} {k : Nat} (h : St w g gr gl v rest k) (hb : Below w.heap.size w w') : St w' g gr gl v rest k := ⟨h.s.later hb,h.r.later hb,h.l.later hb,h.a,h.b⟩
theorem Gl.only {S : List Nat} {w w' : World} (h : Gl w) (ho : Only S w w') (hS : ∀ i∈S,9≤i) : Gl w' := h.keep ho.size fun i hi => ho.block i (Nat.lt_of_lt_of_le hi h.s) (fun hm => by have := hS i hm;omega)
def IfB (b : Bool) (Y N : Prop) : Prop := if b = true then Y else N
def OutG (Y : SV→World→Prop) (N : Prop) (S : List Nat) (g : Nat) (w : World) (e : Ending) (w' : World) : Prop := ∃ (v' : SV) (b : Bool),e = .returned (.bool b)∧SBlk w' g v'∧IfB b (Y v' w') N∧Only S w w'
def TkOut (Y : List ByteArray→SV→World→Prop) (N : List ByteArray→Prop) (S : List Nat) (g gr gl : Nat) (rest : List UInt8) (k : Nat) (w : World) (e : Ending) (w' : World) : Prop :=
  ∃ (v' : SV) (b : Bool) (rest' : List UInt8),e = .returned (.bool b)∧St w' g gr gl v' rest' (k + 1)∧IfB b (∃ L,takeM rest = some (L,rest')∧Y L v' w') (takeM rest = none∨∃ L r,takeM rest = some (L,r)∧N L)∧Only (gr :: gl :: S) w w'
theorem takeM_yes {rest x r : List UInt8} (h : cutL 10 rest = some (x,r)) : takeM rest = some ((spl 32 x).map bsL,r) := by unfold takeM;rw [h];rfl
theorem takeM_no {rest : List UInt8} (h : cutL 10 rest = none) : takeM rest = none := by unfold takeM;rw [h];rfl
theorem St.next {w : World} {g gr gl : Nat} {v : SV} {rest : List UInt8} {k : Nat} (h : St w g gr gl v rest k) (r : List UInt8) : St ((w.setCell ⟨gr,0,none⟩ (.string (bsL r))).setCell ⟨gl,0,none⟩ (.int .i64 ((k : Int) + 1))) g gr gl v r (k + 1) := by
  refine ⟨?_, ?_, ?_,h.a,h.b⟩
  · exact (Blk.other h.s h.a.1).other h.a.2.1
  · exact (Blk.set h.r 0 _).other h.a.2.2
  · have := Blk.set (h.l.other (h := gr) (o := 0) (u := .string (bsL r)) h.a.2.2.symm) 0 (.int .i64 ((k : Int) + 1))
    rw [show (((k + 1 : Nat)) : Int) = (k : Int) + 1 by omega]
    exact this
theorem only_next (S : List Nat) (w : World) (gr gl : Nat) (x y : Value) : Only (gr :: gl :: S) w ((w.setCell ⟨gr,0,none⟩ x).setCell ⟨gl,0,none⟩ y) := (Only.set (by simp) 0 _ _).trans (Only.set (by simp) 0 _ _)
theorem only_next2 (w : World) (gr gl : Nat) (x y : Value) : Only [gr,gl] w ((w.setCell ⟨gr,0,none⟩ x).setCell ⟨gl,0,none⟩ y) := (Only.set (by simp) 0 _ _).trans (Only.set (by simp) 0 _ _)
theorem st_read {w w' : World} {g gr gl : Nat} {v v' : SV} {rest : List UInt8} {k : Nat} {S : List Nat} (h : St w g gr gl v rest k) (ho : Only S w w') (hr : gr ∉ S) (hl : gl ∉ S) (hs : SBlk w' g v') : St w' g gr gl v' rest k :=
  ⟨hs,h.r.only ho hr,h.l.only ho hl,h.a,h.b⟩
theorem spl_size {x : List UInt8} {y : ByteArray} {c : UInt8} (h : y∈(spl c x).map bsL) (hx : x.length≤1000000) : y.size≤1000000 := by
  obtain ⟨z,hz,rfl⟩ := List.mem_map.1 h
  rw [bsL_size]
  have key : ∀ (l : List UInt8),∀ z∈spl c l,z.length≤l.length := by
    intro l
    induction l with
    | nil => intro z hz;simp [spl] at hz;subst hz;simp
    | cons b l ih =>
      intro z hz
      by_cases e : b = c
      · rw [spl_hit l e] at hz
        rcases List.mem_cons.1 hz with h1 | h1
        · subst h1;simp
        · have := ih z h1;simp;omega
      · obtain ⟨x0,r0,hs⟩ : ∃ x r,spl c l = x :: r := by
          have := spl_ne c l
          cases hs : spl c l with
          | nil => exact absurd hs this
          | cons x r => exact ⟨x,r,rfl⟩
        rw [spl_miss e hs] at hz
        rcases List.mem_cons.1 hz with h1 | h1
        · subst h1
          have := ih x0 (by rw [hs];exact List.mem_cons_self)
          simp;omega
        · have := ih z (by rw [hs];exact List.mem_cons_of_mem _ h1)
          simp;omega
  exact Nat.le_trans (key x z hz) hx
theorem split_b (x : List UInt8) (w : World) (hg : Gl w) (hs : (bsL x).size < 4294967281) : Calls Tryz.prog 22 #[.string (bsL x),.string ⟨#[32]⟩] w fun e w' => ∃ bk,e = .returned (.slice (some ⟨bk,0,none⟩) (spl 32 x).length (spl 32 x).length)∧SRow w' (some ⟨bk,0,none⟩) (spl 32 x).length (spl 32 x).length ((spl 32 x).map bsL)∧Below w.heap.size w w' :=
  (split_t 32 (bsL x) w hg hs).mono fun e w' h => ⟨_,h⟩
theorem takeM_if {rest r : List UInt8} {L : List ByteArray} {b : Bool} {Y : List ByteArray→SV→World→Prop} {N : List ByteArray→Prop} {v' : SV} {w' : World} (ht : takeM rest = some (L,r)) (h : IfB b (Y L v' w') (N L)) : IfB b (∃ L,takeM rest = some (L,r)∧Y L v' w') (takeM rest = none∨∃ L r,takeM rest = some (L,r)∧N L) := by
  cases b
  · exact .inr ⟨L,r,ht,h⟩
  · exact ⟨L,ht,h⟩
set_option maxHeartbeats 4000000 in
theorem take_word (g gr gl : Nat) (t3 t4 : Nat) (v : SV) (rest : List UInt8) (k : Nat) (w : World) (Y : List ByteArray→SV→World→Prop) (N : List ByteArray→Prop) (S : List Nat) (hSr : gr ∉ S) (hSl : gl ∉ S) (hg : Gl w) (hs : St w g gr gl v rest k) (hl : rest.length≤1000000) (hk : k≤1000000)
    (hread : ∀ (W : World) (a : Option Addr) (n c : Nat) (L : List ByteArray),Gl W→SRow W a n c L→SBlk W g v→(∀ x∈L,x.size≤1000000)→Only [gr,gl] w W→Calls Tryz.prog 24 #[.slice a n c,.pointer (some ⟨t3,0,none⟩),.pointer (some ⟨t4,0,none⟩)] W (OutG (Y L) (N L) S g W)) :
    Calls Tryz.prog 20 #[.func (.func 24) #[] #[.pointer (some ⟨t3,0,none⟩),.pointer (some ⟨t4,0,none⟩)],.pointer (some ⟨gr,0,none⟩),.pointer (some ⟨gl,0,none⟩)] w (TkOut Y N S g gr gl rest k w) := by
  have HG := Lib.hid hg
  have HS := Lib.hid hs
  have HR := Lib.hid hread
  have HZ := Lib.hid (show (bsL rest).size < 4294967281 by rw [bsL_size];omega)
  have r0 := hs.r.cell 0 rfl
  have hk' : (k : Int)≤1000000 := by omega
  have hk2 : (0 : Int)≤(k : Int) := by omega
  clear hg hs hread hk
  cases hc : cutL 10 rest with
  | none =>
    have HC := Lib.hid (show cutL 10 (bsL rest).data.toList = none from hc)
    have HT := Lib.hid (takeM_no hc)
    clear hc hl
    go_enter Tryz.func20,Tryz.ntmps20
    go_wp2_with (go_at_call 21;(with_reducible refine (cut_no HG.out HZ.out HC.out).mono ?_);rintro e w1 ⟨rfl,hb⟩;have HS1 := Lib.hid (HS.out.later hb);have HB := Lib.hid hb;clear hb r0;have f1 := HS1.out.r.free 0;have f2 := HS1.out.l.free 0;have r1 := HS1.out.r.cell 0 rfl;have l1 := HS1.out.l.cell 0 rfl;have l2 : (w1.setCell ⟨gr,0,none⟩ (.string ⟨#[]⟩)).cell? ⟨gl,0,none⟩ = some (.int .i64 (k : Int)) := (HS1.out.l.other HS1.out.a.2.2.symm).cell 0 rfl)
    go_ret
    exact ⟨v,false,[],rfl,HS1.out.next [],.inl HT.out,(Only.of_below HB.out).trans (only_next _ _ _ _ _ _)⟩
  | some xr =>
    obtain ⟨x,r⟩ := xr
    have HC := Lib.hid (show cutL 10 (bsL rest).data.toList = some (x,r) from hc)
    have HT := Lib.hid (takeM_yes hc)
    have hxl := cutL_len hc
    have HXZ := Lib.hid (show (bsL x).size < 4294967281 by rw [bsL_size];omega)
    have HXW := Lib.hid (show ∀ y∈(spl 32 x).map bsL,y.size≤1000000 from fun y hy => spl_size hy (by omega))
    clear hc hl hxl
    go_enter Tryz.func20,Tryz.ntmps20
    go_wp2_with (first
      | (go_at_call 21;(with_reducible refine (cut_yes HG.out HZ.out HC.out).mono ?_);rintro e w1 ⟨rfl,hb⟩;have HS1 := Lib.hid (HS.out.later hb);have HB := Lib.hid hb;clear hb r0;have f1 := HS1.out.r.free 0;have f2 := HS1.out.l.free 0;have r1 := HS1.out.r.cell 0 rfl;have l1 := HS1.out.l.cell 0 rfl;have l2 : (w1.setCell ⟨gr,0,none⟩ (.string (bsL r))).cell? ⟨gl,0,none⟩ = some (.int .i64 (k : Int)) := (HS1.out.l.other HS1.out.a.2.2.symm).cell 0 rfl)
      | (go_at_call 22;have HS2 := Lib.hid (HS1.out.next r);have HO2 := Lib.hid ((Only.of_below (S := [gr,gl]) HB.out).trans (only_next2 w1 gr gl (.string (bsL r)) (.int .i64 ((k : Int) + 1))));have hb9 := HS2.out.b;have HG2 := Lib.hid (HG.out.only HO2.out (fun i hi => by (simp at hi;omega)));(with_reducible refine (split_b x _ HG2.out HXZ.out).mono ?_);rintro e w3 ⟨bk,rfl,hsr,hb⟩;have HS3 := Lib.hid (HS2.out.later hb);have HO3 := Lib.hid (HO2.out.trans (Only.of_below hb));have HSR := Lib.hid hsr;have HG3 := Lib.hid (HG2.out.later hb);clear hb hsr hb9)
      | (go_at_call 24;(with_reducible refine (HR.out _ _ _ _ _ HG3.out HSR.out HS3.out.s HXW.out HO3.out).mono ?_);rintro e w4 ⟨v',b,rfl,hs4,hi,ho⟩;have HS4 := Lib.hid (st_read HS3.out ho hSr hSl hs4);have HI := Lib.hid hi;have HO4 := Lib.hid ((HO3.out.weak (S' := gr :: gl :: S) (fun j hj => by (simp at hj ⊢;omega))).trans (ho.weak (S' := gr :: gl :: S) (fun j hj => by (simp;exact .inr (.inr hj)))));clear hs4 hi ho))
    go_ret
    exact ⟨v',b,r,rfl,HS4.out,takeM_if HT.out HI.out,HO4.out⟩
set_option maxHeartbeats 4000000 in
theorem take_change (g gr gl : Nat)  (v : SV) (rest : List UInt8) (k : Nat) (w : World) (Y : List ByteArray→SV→World→Prop) (N : List ByteArray→Prop) (S : List Nat) (hSr : gr ∉ S) (hSl : gl ∉ S) (hg : Gl w) (hs : St w g gr gl v rest k) (hl : rest.length≤1000000) (hk : k≤1000000)
    (hread : ∀ (W : World) (a : Option Addr) (n c : Nat) (L : List ByteArray),Gl W→SRow W a n c L→SBlk W g v→(∀ x∈L,x.size≤1000000)→Only [gr,gl] w W→Calls Tryz.prog 30 #[.slice a n c,.pointer (some ⟨g,0,none⟩)] W (OutG (Y L) (N L) S g W)) :
    Calls Tryz.prog 20 #[.func (.func 30) #[] #[.pointer (some ⟨g,0,none⟩)],.pointer (some ⟨gr,0,none⟩),.pointer (some ⟨gl,0,none⟩)] w (TkOut Y N S g gr gl rest k w) := by
  have HG := Lib.hid hg
  have HS := Lib.hid hs
  have HR := Lib.hid hread
  have HZ := Lib.hid (show (bsL rest).size < 4294967281 by rw [bsL_size];omega)
  have r0 := hs.r.cell 0 rfl
  have hk' : (k : Int)≤1000000 := by omega
  have hk2 : (0 : Int)≤(k : Int) := by omega
  clear hg hs hread hk
  cases hc : cutL 10 rest with
  | none =>
    have HC := Lib.hid (show cutL 10 (bsL rest).data.toList = none from hc)
    have HT := Lib.hid (takeM_no hc)
    clear hc hl
    go_enter Tryz.func20,Tryz.ntmps20
    go_wp2_with (go_at_call 21;(with_reducible refine (cut_no HG.out HZ.out HC.out).mono ?_);rintro e w1 ⟨rfl,hb⟩;have HS1 := Lib.hid (HS.out.later hb);have HB := Lib.hid hb;clear hb r0;have f1 := HS1.out.r.free 0;have f2 := HS1.out.l.free 0;have r1 := HS1.out.r.cell 0 rfl;have l1 := HS1.out.l.cell 0 rfl;have l2 : (w1.setCell ⟨gr,0,none⟩ (.string ⟨#[]⟩)).cell? ⟨gl,0,none⟩ = some (.int .i64 (k : Int)) := (HS1.out.l.other HS1.out.a.2.2.symm).cell 0 rfl)
    go_ret
    exact ⟨v,false,[],rfl,HS1.out.next [],.inl HT.out,(Only.of_below HB.out).trans (only_next _ _ _ _ _ _)⟩
  | some xr =>
    obtain ⟨x,r⟩ := xr
    have HC := Lib.hid (show cutL 10 (bsL rest).data.toList = some (x,r) from hc)
    have HT := Lib.hid (takeM_yes hc)
    have hxl := cutL_len hc
    have HXZ := Lib.hid (show (bsL x).size < 4294967281 by rw [bsL_size];omega)
    have HXW := Lib.hid (show ∀ y∈(spl 32 x).map bsL,y.size≤1000000 from fun y hy => spl_size hy (by omega))
    clear hc hl hxl
    go_enter Tryz.func20,Tryz.ntmps20
    go_wp2_with (first
      | (go_at_call 21;(with_reducible refine (cut_yes HG.out HZ.out HC.out).mono ?_);rintro e w1 ⟨rfl,hb⟩;have HS1 := Lib.hid (HS.out.later hb);have HB := Lib.hid hb;clear hb r0;have f1 := HS1.out.r.free 0;have f2 := HS1.out.l.free 0;have r1 := HS1.out.r.cell 0 rfl;have l1 := HS1.out.l.cell 0 rfl;have l2 : (w1.setCell ⟨gr,0,none⟩ (.string (bsL r))).cell? ⟨gl,0,none⟩ = some (.int .i64 (k : Int)) := (HS1.out.l.other HS1.out.a.2.2.symm).cell 0 rfl)
      | (go_at_call 22;have HS2 := Lib.hid (HS1.out.next r);have HO2 := Lib.hid ((Only.of_below (S := [gr,gl]) HB.out).trans (only_next2 w1 gr gl (.string (bsL r)) (.int .i64 ((k : Int) + 1))));have hb9 := HS2.out.b;have HG2 := Lib.hid (HG.out.only HO2.out (fun i hi => by (simp at hi;omega)));(with_reducible refine (split_b x _ HG2.out HXZ.out).mono ?_);rintro e w3 ⟨bk,rfl,hsr,hb⟩;have HS3 := Lib.hid (HS2.out.later hb);have HO3 := Lib.hid (HO2.out.trans (Only.of_below hb));have HSR := Lib.hid hsr;have HG3 := Lib.hid (HG2.out.later hb);clear hb hsr hb9)
      | (go_at_call 30;(with_reducible refine (HR.out _ _ _ _ _ HG3.out HSR.out HS3.out.s HXW.out HO3.out).mono ?_);rintro e w4 ⟨v',b,rfl,hs4,hi,ho⟩;have HS4 := Lib.hid (st_read HS3.out ho hSr hSl hs4);have HI := Lib.hid hi;have HO4 := Lib.hid ((HO3.out.weak (S' := gr :: gl :: S) (fun j hj => by (simp at hj ⊢;omega))).trans (ho.weak (S' := gr :: gl :: S) (fun j hj => by (simp;exact .inr (.inr hj)))));clear hs4 hi ho))
    go_ret
    exact ⟨v',b,r,rfl,HS4.out,takeM_if HT.out HI.out,HO4.out⟩
end Go.Proofs.YtkcgikoploohkaaGreatDoor
