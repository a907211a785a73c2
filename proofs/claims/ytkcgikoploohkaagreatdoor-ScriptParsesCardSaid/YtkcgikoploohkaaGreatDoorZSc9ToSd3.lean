import Derived.Test.YtkcgikoploohkaaGreatDoorZSc2ToSc8
import Derived.RegionTactic
import Derived.Deep.RegionWith
import Derived.Deep.DeepCutAuto
namespace Go.Proofs.YtkcgikoploohkaaGreatDoor
set_option linter.unusedVariables false
set_option linter.unusedSimpArgs false
set_option maxRecDepth 100000
open Go.RowKit Go.Shelf Nums
theorem two {L : List ByteArray} (h : L.length = 2) : ∃ a b,L = [a,b] := by
  match L,h with
  | [a,b],_ => exact ⟨a,b,rfl⟩
theorem srow2 {w : World} {a : Option Addr} {n c : Nat} {x0 x1 : ByteArray} (h : SRow w a n c [x0,x1]) : ∃ b off,a = some ⟨b,off,none⟩∧n = 2∧b < w.heap.size∧w.cell? ⟨b,off,none⟩ = some (.string x0)∧w.cell? ⟨b,off + 1,none⟩ = some (.string x1) := by
  obtain ⟨h1,-,-,b,off,h4,h5⟩ := h
  exact ⟨b,off,h4.resolve_right (by simp at h1;omega),h1.symm,(h5 0 _ rfl).1,(h5 0 _ rfl).2,(h5 1 _ rfl).2⟩
theorem wordM_len {α : Type} {x : ByteArray} {f : ByteArray→Option α} {L : List ByteArray} (h : L.length≠2) : wordM x f L = none := by
  match L,h with
  | [],_ => rfl
  | [_],_ => rfl
  | [_,_],h => exact absurd rfl h
  | _ :: _ :: _ :: _,_ => rfl
theorem wordM_ne {α : Type} {x a b : ByteArray} {f : ByteArray→Option α} (h : a≠x) : wordM x f [a,b] = none := if_neg h
theorem wordM_eq {α : Type} {x b : ByteArray} {f : ByteArray→Option α} : wordM x f [x,b] = f b := if_pos rfl
def YH (v : SV) (L : List ByteArray) (v' : SV) (w' : World) : Prop := ∃ q,wordM bHOR numS L = some q∧v' = { v with h := v'.h }∧v'.h.Is v'.h.n v'.h.m q w'∧v'.h.Fit q
def YC (v : SV) (L : List ByteArray) (v' : SV) (w' : World) : Prop := ∃ n,wordM bCAS cntS L = some n∧v' = { v with cas := n }
def YB (v : SV) (L : List ByteArray) (v' : SV) (w' : World) : Prop := ∃ n,wordM bBITS cntS L = some n∧v' = { v with bits := n }
def NH (L : List ByteArray) : Prop := wordM bHOR numS L = none
def NC (L : List ByteArray) : Prop := wordM bCAS cntS L = none
def NB (L : List ByteArray) : Prop := wordM bBITS cntS L = none
theorem outG_no {Y : SV→World→Prop} {N : Prop} {g : Nat} {v : SV} {w w' : World} (h : N) (hs : SBlk w g v) (hb : Below w.heap.size w w') : OutG Y N [g] g w (.returned (.bool false)) w' := ⟨v,false,rfl,hs.later hb,h,Only.of_below hb⟩
theorem outG_H {g : Nat} {v : SV} {L : List ByteArray} {y : ByteArray} {w : World} {e : Ending} {w' : World} (hL : wordM bHOR numS L = numS y) (h : RdH (numS y) g v w e w') : OutG (YH v L) (NH L) [g] g w e w' := by
  obtain ⟨r,b,q,rfl,hs,hr,ho,hb⟩ := h
  refine ⟨_,b,rfl,hs, ?_,hb⟩
  cases b
  · exact hL.trans ho
  · obtain ⟨ho,hf⟩ : numS y = some q∧r.Fit q := ho
    exact ⟨q,hL.trans ho,rfl,hr,hf⟩
theorem outG_C {g : Nat} {v : SV} {L : List ByteArray} {y : ByteArray} {w : World} {e : Ending} {w' : World} (hL : wordM bCAS cntS L = cntS y) (h : RdC (cntS y) g v w e w') : OutG (YC v L) (NC L) [g] g w e w' := by
  obtain ⟨n,b,rfl,hs,ho,hb⟩ := h
  refine ⟨_,b,rfl,hs, ?_,hb⟩
  cases b
  · exact hL.trans ho
  · exact ⟨n,hL.trans ho,rfl⟩
theorem outG_B {g : Nat} {v : SV} {L : List ByteArray} {y : ByteArray} {w : World} {e : Ending} {w' : World} (hL : wordM bBITS cntS L = cntS y) (h : RdB (cntS y) g v w e w') : OutG (YB v L) (NB L) [g] g w e w' := by
  obtain ⟨n,b,rfl,hs,ho,hb⟩ := h
  refine ⟨_,b,rfl,hs, ?_,hb⟩
  cases b
  · exact hL.trans ho
  · exact ⟨n,hL.trans ho,rfl⟩
theorem outG_mk {Y : SV→World→Prop} {N : Prop} {g : Nat} {v : SV} {b : Bool} {w u w' : World} (h0 : Only [g] w u) (hs : SBlk w' g v) (hi : IfB b (Y v w') N) (ho : Only [g] u w') : OutG Y N [g] g w (.returned (.bool b)) w' := ⟨v,b,rfl,hs,hi,h0.trans ho⟩
theorem outG_drew {Y : SV→World→Prop} {N : Prop} {g : Nat} {w : World} {e : Ending} {w' : World} (hY : ∀ v u,Y v u→Y v u.drew) (h : OutG Y N [g] g w e w') : OutG Y N [g] g w e w'.drew := by
  obtain ⟨v,b,he,hs,hi,ho⟩ := h
  refine ⟨v,b,he,hs.later (Below.refl _ _).drew, ?_,ho.drew⟩
  cases b
  · exact hi
  · exact hY _ _ hi
theorem yH_drew {v : SV} {L : List ByteArray} (v' : SV) (u : World) (h : YH v L v' u) : YH v L v' u.drew := by
  obtain ⟨q,h1,h2,h3,h4⟩ := h;exact ⟨q,h1,h2,h3.later (Below.refl _ _).drew,h4⟩
set_option maxHeartbeats 4000000 in
theorem word_H (a : Option Addr) (n c : Nat) (L : List ByteArray) (t3 t4 g : Nat) (v : SV) (w : World) (hg : Gl w) (h : SRow w a n c L) (k3 : Blk w t3 9 #[.string ⟨#[104,111,114,105,122,111,110]⟩]) (k4 : Blk w t4 52 #[.func (.func 25) #[] #[.pointer (some ⟨g,0,none⟩)]]) (hs : SBlk w g v) (hz : ∀ x∈L,x.size≤1000000) :
    Calls Tryz.prog 24 #[.slice a n c,.pointer (some ⟨t3,0,none⟩),.pointer (some ⟨t4,0,none⟩)] w (OutG (YH v L) (NH L) [g] g w) := by
  have hm : c≤maxLen := h.2.2.1
  have hnc := h.2.1
  unfold maxLen at hm
  have HS := Lib.hid hs
  have c3 : w.cell? ⟨t3,0,none⟩ = some (.string ⟨#[104,111,114,105,122,111,110]⟩) := k3.cell 0 rfl
  have c4 : w.cell? ⟨t4,0,none⟩ = some (.func (.func 25) #[] #[.pointer (some ⟨g,0,none⟩)]) := k4.cell 0 rfl
  by_cases hn : L.length = 2
  · obtain ⟨x,y,rfl⟩ := two hn
    obtain ⟨bk,off,rfl,rfl,hbk,d0,d1⟩ := srow2 h
    by_cases hx : x = bHOR
    · subst hx
      have HL := Lib.hid (wordM_eq (x := bHOR) (f := numS) (b := y))
      have HG := Lib.hid hg
      have HZ := Lib.hid (hz y (by simp))
      generalize hx : bHOR = x at d0 HL
      have HX := Lib.hid hx
      obtain rfl : x = ⟨#[104,111,114,105,122,111,110]⟩ := hx.symm
      clear h hn hs hz hg k3 k4 hm hx hbk
      go_enter Tryz.func24,Tryz.ntmps24
      go_wp2_with fail
      go_region_with (go_at_call 25;(with_reducible refine (rdH_t y g v _ (HG.out.later (Below.refl _ _).drew) (HS.out.later (Below.refl _ _).drew) HZ.out).mono ?_);rintro e w9 hrd;obtain ⟨v9,b9,he9,hs9,hi9,ho9⟩ := outG_H HL.out hrd;subst he9;have HR := Lib.hid (outG_mk (Only.of_below (Below.refl _ _).drew) hs9 hi9 ho9);clear hrd hs9 hi9 ho9)
      all_goals
        go_wp2
        go_ret
        first | exact HR.out | exact outG_drew (yH_drew) HR.out
    · have HN := Lib.hid (show NH [x,y] from wordM_ne hx)
      have e1 := ne_list (l := [104,111,114,105,122,111,110]) hx
      have e2 := ne_list' (l := [104,111,114,105,122,111,110]) hx
      clear h hn hs hz hg k3 k4 hm hx hbk
      go_enter Tryz.func24,Tryz.ntmps24
      go_wp2_with fail
      go_region
      all_goals
        go_wp2
        go_ret
        exact outG_no HN.out HS.out (Below.refl _ _).drew
  · have HN := Lib.hid (show NH L from wordM_len hn)
    have h2 : ((n : Int) == 2) = false := by rw [beq_eq_false_iff_ne];rw [h.1] at hn;omega
    clear h hn hs hz hg k3 k4
    go_enter Tryz.func24,Tryz.ntmps24
    go_wp2_with fail
    go_region
    all_goals
      go_wp2
      go_ret
      exact outG_no HN.out HS.out (Below.refl _ _).drew
set_option maxHeartbeats 4000000 in
theorem word_C (a : Option Addr) (n c : Nat) (L : List ByteArray) (t3 t4 g : Nat) (v : SV) (w : World) (hg : Gl w) (h : SRow w a n c L) (k3 : Blk w t3 9 #[.string ⟨#[99,97,115,99,97,100,101]⟩]) (k4 : Blk w t4 52 #[.func (.func 27) #[] #[.pointer (some ⟨g,0,none⟩)]]) (hs : SBlk w g v) (hz : ∀ x∈L,x.size≤1000000) :
    Calls Tryz.prog 24 #[.slice a n c,.pointer (some ⟨t3,0,none⟩),.pointer (some ⟨t4,0,none⟩)] w (OutG (YC v L) (NC L) [g] g w) := by
  have hm : c≤maxLen := h.2.2.1
  have hnc := h.2.1
  unfold maxLen at hm
  have HS := Lib.hid hs
  have c3 : w.cell? ⟨t3,0,none⟩ = some (.string ⟨#[99,97,115,99,97,100,101]⟩) := k3.cell 0 rfl
  have c4 : w.cell? ⟨t4,0,none⟩ = some (.func (.func 27) #[] #[.pointer (some ⟨g,0,none⟩)]) := k4.cell 0 rfl
  by_cases hn : L.length = 2
  · obtain ⟨x,y,rfl⟩ := two hn
    obtain ⟨bk,off,rfl,rfl,hbk,d0,d1⟩ := srow2 h
    by_cases hx : x = bCAS
    · subst hx
      have HL := Lib.hid (wordM_eq (x := bCAS) (f := cntS) (b := y))
      have HG := Lib.hid hg
      have HZ := Lib.hid (hz y (by simp))
      generalize hx : bCAS = x at d0 HL
      have HX := Lib.hid hx
      obtain rfl : x = ⟨#[99,97,115,99,97,100,101]⟩ := hx.symm
      clear h hn hs hz hg k3 k4 hm hx hbk
      go_enter Tryz.func24,Tryz.ntmps24
      go_wp2_with fail
      go_region_with (go_at_call 27;(with_reducible refine (rdC_t y g v _ (HG.out.later (Below.refl _ _).drew) (HS.out.later (Below.refl _ _).drew) (by have := HZ.out;unfold maxLen;omega)).mono ?_);rintro e w9 hrd;obtain ⟨v9,b9,he9,hs9,hi9,ho9⟩ := outG_C HL.out hrd;subst he9;have HR := Lib.hid (outG_mk (Only.of_below (Below.refl _ _).drew) hs9 hi9 ho9);clear hrd hs9 hi9 ho9)
      all_goals
        go_wp2
        go_ret
        first | exact HR.out | exact outG_drew (fun _ _ h => h) HR.out
    · have HN := Lib.hid (show NC [x,y] from wordM_ne hx)
      have e1 := ne_list (l := [99,97,115,99,97,100,101]) hx
      have e2 := ne_list' (l := [99,97,115,99,97,100,101]) hx
      clear h hn hs hz hg k3 k4 hm hx hbk
      go_enter Tryz.func24,Tryz.ntmps24
      go_wp2_with fail
      go_region
      all_goals
        go_wp2
        go_ret
        exact outG_no HN.out HS.out (Below.refl _ _).drew
  · have HN := Lib.hid (show NC L from wordM_len hn)
    have h2 : ((n : Int) == 2) = false := by rw [beq_eq_false_iff_ne];rw [h.1] at hn;omega
    clear h hn hs hz hg k3 k4
    go_enter Tryz.func24,Tryz.ntmps24
    go_wp2_with fail
    go_region
    all_goals
      go_wp2
      go_ret
      exact outG_no HN.out HS.out (Below.refl _ _).drew
set_option maxHeartbeats 4000000 in
theorem word_B (a : Option Addr) (n c : Nat) (L : List ByteArray) (t3 t4 g : Nat) (v : SV) (w : World) (hg : Gl w) (h : SRow w a n c L) (k3 : Blk w t3 9 #[.string ⟨#[98,105,116,115]⟩]) (k4 : Blk w t4 52 #[.func (.func 29) #[] #[.pointer (some ⟨g,0,none⟩)]]) (hs : SBlk w g v) (hz : ∀ x∈L,x.size≤1000000) :
    Calls Tryz.prog 24 #[.slice a n c,.pointer (some ⟨t3,0,none⟩),.pointer (some ⟨t4,0,none⟩)] w (OutG (YB v L) (NB L) [g] g w) := by
  have hm : c≤maxLen := h.2.2.1
  have hnc := h.2.1
  unfold maxLen at hm
  have HS := Lib.hid hs
  have c3 : w.cell? ⟨t3,0,none⟩ = some (.string ⟨#[98,105,116,115]⟩) := k3.cell 0 rfl
  have c4 : w.cell? ⟨t4,0,none⟩ = some (.func (.func 29) #[] #[.pointer (some ⟨g,0,none⟩)]) := k4.cell 0 rfl
  by_cases hn : L.length = 2
  · obtain ⟨x,y,rfl⟩ := two hn
    obtain ⟨bk,off,rfl,rfl,hbk,d0,d1⟩ := srow2 h
    by_cases hx : x = bBITS
    · subst hx
      have HL := Lib.hid (wordM_eq (x := bBITS) (f := cntS) (b := y))
      have HG := Lib.hid hg
      have HZ := Lib.hid (hz y (by simp))
      generalize hx : bBITS = x at d0 HL
      have HX := Lib.hid hx
      obtain rfl : x = ⟨#[98,105,116,115]⟩ := hx.symm
      clear h hn hs hz hg k3 k4 hm hx hbk
      go_enter Tryz.func24,Tryz.ntmps24
      go_wp2_with fail
      go_region_with (go_at_call 29;(with_reducible refine (rdB_t y g v _ (HG.out.later (Below.refl _ _).drew) (HS.out.later (Below.refl _ _).drew) (by have := HZ.out;unfold maxLen;omega)).mono ?_);rintro e w9 hrd;obtain ⟨v9,b9,he9,hs9,hi9,ho9⟩ := outG_B HL.out hrd;subst he9;have HR := Lib.hid (outG_mk (Only.of_below (Below.refl _ _).drew) hs9 hi9 ho9);clear hrd hs9 hi9 ho9)
      all_goals
        go_wp2
        go_ret
        first | exact HR.out | exact outG_drew (fun _ _ h => h) HR.out
    · have HN := Lib.hid (show NB [x,y] from wordM_ne hx)
      have e1 := ne_list (l := [98,105,116,115]) hx
      have e2 := ne_list' (l := [98,105,116,115]) hx
      clear h hn hs hz hg k3 k4 hm hx hbk
      go_enter Tryz.func24,Tryz.ntmps24
      go_wp2_with fail
      go_region
      all_goals
        go_wp2
        go_ret
        exact outG_no HN.out HS.out (Below.refl _ _).drew
  · have HN := Lib.hid (show NB L from wordM_len hn)
    have h2 : ((n : Int) == 2) = false := by rw [beq_eq_false_iff_ne];rw [h.1] at hn;omega
    clear h hn hs hz hg k3 k4
    go_enter Tryz.func24,Tryz.ntmps24
    go_wp2_with fail
    go_region
    all_goals
      go_wp2
      go_ret
      exact outG_no HN.out HS.out (Below.refl _ _).drew
end Go.Proofs.YtkcgikoploohkaaGreatDoor
namespace Go.Proofs.YtkcgikoploohkaaGreatDoor
set_option linter.unusedVariables false
set_option linter.unusedSimpArgs false
set_option maxRecDepth 100000
open Go.RowKit Go.Shelf Nums
theorem TkOut.before {Y : List ByteArray→SV→World→Prop} {N : List ByteArray→Prop} {S : List Nat} {g gr gl k : Nat} {rest : List UInt8} {w u : World} {e : Ending} {w' : World} (hb : Below w.heap.size w u) (h : TkOut Y N S g gr gl rest k u e w') : TkOut Y N S g gr gl rest k w e w' := by
  obtain ⟨v',b,r',he,hs,hi,ho⟩ := h
  exact ⟨v',b,r',he,hs,hi,(Only.of_below hb).trans ho⟩
set_option maxHeartbeats 4000000 in
theorem tkw_H (g gr gl gt : Nat) (v : SV) (rest : List UInt8) (k : Nat) (w : World) (hg : Gl w) (hs : St w g gr gl v rest k) (ht : Blk w gt 51 #[.func (.func 20) #[] #[.pointer (some ⟨gr,0,none⟩),.pointer (some ⟨gl,0,none⟩)]]) (hl : rest.length≤1000000) (hk : k≤1000000) :
    Calls Tryz.prog 23 #[.string ⟨#[104,111,114,105,122,111,110]⟩,.func (.func 25) #[] #[.pointer (some ⟨g,0,none⟩)],.pointer (some ⟨gt,0,none⟩)] w (TkOut (YH v) NH [g] g gr gl rest k w) := by
  obtain ⟨W1,hW1⟩ : ∃ W1,W1 = w.alloc (.cells #[.string ⟨#[104,111,114,105,122,111,110]⟩] 9) := ⟨_,rfl⟩
  obtain ⟨W2,hW2⟩ : ∃ W2,W2 = W1.alloc (.cells #[.func (.func 25) #[] #[.pointer (some ⟨g,0,none⟩)]] 52) := ⟨_,rfl⟩
  have hb1 : Below w.heap.size w W1 := by rw [hW1];exact below_one _ _
  have hb2 : Below W1.heap.size W1 W2 := by rw [hW2];exact below_one _ _
  have k3 : Blk W2 w.heap.size 9 #[.string ⟨#[104,111,114,105,122,111,110]⟩] := (show Blk W1 w.heap.size 9 #[.string ⟨#[104,111,114,105,122,111,110]⟩] by rw [hW1];exact Blk.new _ _ _).later hb2
  have k4 : Blk W2 W1.heap.size 52 #[.func (.func 25) #[] #[.pointer (some ⟨g,0,none⟩)]] := by rw [hW2];exact Blk.new _ _ _
  have hbb := bthen hb1 hb2
  have HBB := Lib.hid hbb
  have HS := Lib.hid (hs.later hbb)
  have HG := Lib.hid (hg.later hbb)
  have c0 : W2.cell? ⟨gt,0,none⟩ = some (.func (.func 20) #[] #[.pointer (some ⟨gr,0,none⟩),.pointer (some ⟨gl,0,none⟩)]) := (ht.later hbb).cell 0 rfl
  have hgr := hs.r.lt
  have hgl := hs.l.lt
  have hw1 : w.heap.size≤W1.heap.size := hb1.size
  have HR := Lib.hid (show ∀ (W : World) (a : Option Addr) (n c : Nat) (L : List ByteArray),Gl W→SRow W a n c L→SBlk W g v→(∀ x∈L,x.size≤1000000)→Only [gr,gl] W2 W→Calls Tryz.prog 24 #[.slice a n c,.pointer (some ⟨w.heap.size,0,none⟩),.pointer (some ⟨W1.heap.size,0,none⟩)] W (OutG (YH v L) (NH L) [g] g W) from
    fun W a n c L q1 q2 q3 q4 q5 => word_H a n c L w.heap.size W1.heap.size g v W q1 q2 (k3.only q5 (by simp;omega)) (k4.only q5 (by simp;omega)) q3 q4)
  have HN1 := Lib.hid (show gr ∉ [g] by simp;exact fun e => hs.a.1 e.symm)
  have HN2 := Lib.hid (show gl ∉ [g] by simp;exact fun e => hs.a.2.1 e.symm)
  have HL := Lib.hid hl
  have HK := Lib.hid hk
  have HS1 := Lib.hid (show w.heap.size + 1 = W1.heap.size by rw [hW1];simp)
  have HW1 := Lib.hid hW1
  have HW2 := Lib.hid hW2
  clear hb1 hb2 k3 k4 hbb hs hg ht hgr hgl hw1 hl hk hW1 hW2
  go_enter Tryz.func23,Tryz.ntmps23
  go_upto_region 1 with fail
  rw [←HW1.out,←HW2.out];simp only [HS1.out];clear HW1 HW2 HS1
  go_wp2_with (go_at_call 20;(with_reducible refine (take_word g gr gl w.heap.size W1.heap.size v rest k _ (YH v) NH [g] HN1.out HN2.out HG.out HS.out HL.out HK.out HR.out).mono ?_);rintro e w9 ht;obtain ⟨v9,b9,r9,he9,hs9,hi9,ho9⟩ := ht;subst he9;have HT := Lib.hid (show TkOut (YH v) NH [g] g gr gl rest k w (.returned (.bool b9)) w9 from TkOut.before HBB.out ⟨v9,b9,r9,rfl,hs9,hi9,ho9⟩);clear hs9 hi9 ho9)
  go_ret
  exact HT.out
set_option maxHeartbeats 4000000 in
theorem tkw_C (g gr gl gt : Nat) (v : SV) (rest : List UInt8) (k : Nat) (w : World) (hg : Gl w) (hs : St w g gr gl v rest k) (ht : Blk w gt 51 #[.func (.func 20) #[] #[.pointer (some ⟨gr,0,none⟩),.pointer (some ⟨gl,0,none⟩)]]) (hl : rest.length≤1000000) (hk : k≤1000000) :
    Calls Tryz.prog 23 #[.string ⟨#[99,97,115,99,97,100,101]⟩,.func (.func 27) #[] #[.pointer (some ⟨g,0,none⟩)],.pointer (some ⟨gt,0,none⟩)] w (TkOut (YC v) NC [g] g gr gl rest k w) := by
  obtain ⟨W1,hW1⟩ : ∃ W1,W1 = w.alloc (.cells #[.string ⟨#[99,97,115,99,97,100,101]⟩] 9) := ⟨_,rfl⟩
  obtain ⟨W2,hW2⟩ : ∃ W2,W2 = W1.alloc (.cells #[.func (.func 27) #[] #[.pointer (some ⟨g,0,none⟩)]] 52) := ⟨_,rfl⟩
  have hb1 : Below w.heap.size w W1 := by rw [hW1];exact below_one _ _
  have hb2 : Below W1.heap.size W1 W2 := by rw [hW2];exact below_one _ _
  have k3 : Blk W2 w.heap.size 9 #[.string ⟨#[99,97,115,99,97,100,101]⟩] := (show Blk W1 w.heap.size 9 #[.string ⟨#[99,97,115,99,97,100,101]⟩] by rw [hW1];exact Blk.new _ _ _).later hb2
  have k4 : Blk W2 W1.heap.size 52 #[.func (.func 27) #[] #[.pointer (some ⟨g,0,none⟩)]] := by rw [hW2];exact Blk.new _ _ _
  have hbb := bthen hb1 hb2
  have HBB := Lib.hid hbb
  have HS := Lib.hid (hs.later hbb)
  have HG := Lib.hid (hg.later hbb)
  have c0 : W2.cell? ⟨gt,0,none⟩ = some (.func (.func 20) #[] #[.pointer (some ⟨gr,0,none⟩),.pointer (some ⟨gl,0,none⟩)]) := (ht.later hbb).cell 0 rfl
  have hgr := hs.r.lt
  have hgl := hs.l.lt
  have hw1 : w.heap.size≤W1.heap.size := hb1.size
  have HR := Lib.hid (show ∀ (W : World) (a : Option Addr) (n c : Nat) (L : List ByteArray),Gl W→SRow W a n c L→SBlk W g v→(∀ x∈L,x.size≤1000000)→Only [gr,gl] W2 W→Calls Tryz.prog 24 #[.slice a n c,.pointer (some ⟨w.heap.size,0,none⟩),.pointer (some ⟨W1.heap.size,0,none⟩)] W (OutG (YC v L) (NC L) [g] g W) from
    fun W a n c L q1 q2 q3 q4 q5 => word_C a n c L w.heap.size W1.heap.size g v W q1 q2 (k3.only q5 (by simp;omega)) (k4.only q5 (by simp;omega)) q3 q4)
  have HN1 := Lib.hid (show gr ∉ [g] by simp;exact fun e => hs.a.1 e.symm)
  have HN2 := Lib.hid (show gl ∉ [g] by simp;exact fun e => hs.a.2.1 e.symm)
  have HL := Lib.hid hl
  have HK := Lib.hid hk
  have HS1 := Lib.hid (show w.heap.size + 1 = W1.heap.size by rw [hW1];simp)
  have HW1 := Lib.hid hW1
  have HW2 := Lib.hid hW2
  clear hb1 hb2 k3 k4 hbb hs hg ht hgr hgl hw1 hl hk hW1 hW2
  go_enter Tryz.func23,Tryz.ntmps23
  go_upto_region 1 with fail
  rw [←HW1.out,←HW2.out];simp only [HS1.out];clear HW1 HW2 HS1
  go_wp2_with (go_at_call 20;(with_reducible refine (take_word g gr gl w.heap.size W1.heap.size v rest k _ (YC v) NC [g] HN1.out HN2.out HG.out HS.out HL.out HK.out HR.out).mono ?_);rintro e w9 ht;obtain ⟨v9,b9,r9,he9,hs9,hi9,ho9⟩ := ht;subst he9;have HT := Lib.hid (show TkOut (YC v) NC [g] g gr gl rest k w (.returned (.bool b9)) w9 from TkOut.before HBB.out ⟨v9,b9,r9,rfl,hs9,hi9,ho9⟩);clear hs9 hi9 ho9)
  go_ret
  exact HT.out
set_option maxHeartbeats 4000000 in
theorem tkw_B (g gr gl gt : Nat) (v : SV) (rest : List UInt8) (k : Nat) (w : World) (hg : Gl w) (hs : St w g gr gl v rest k) (ht : Blk w gt 51 #[.func (.func 20) #[] #[.pointer (some ⟨gr,0,none⟩),.pointer (some ⟨gl,0,none⟩)]]) (hl : rest.length≤1000000) (hk : k≤1000000) :
    Calls Tryz.prog 23 #[.string ⟨#[98,105,116,115]⟩,.func (.func 29) #[] #[.pointer (some ⟨g,0,none⟩)],.pointer (some ⟨gt,0,none⟩)] w (TkOut (YB v) NB [g] g gr gl rest k w) := by
  obtain ⟨W1,hW1⟩ : ∃ W1,W1 = w.alloc (.cells #[.string ⟨#[98,105,116,115]⟩] 9) := ⟨_,rfl⟩
  obtain ⟨W2,hW2⟩ : ∃ W2,W2 = W1.alloc (.cells #[.func (.func 29) #[] #[.pointer (some ⟨g,0,none⟩)]] 52) := ⟨_,rfl⟩
  have hb1 : Below w.heap.size w W1 := by rw [hW1];exact below_one _ _
  have hb2 : Below W1.heap.size W1 W2 := by rw [hW2];exact below_one _ _
  have k3 : Blk W2 w.heap.size 9 #[.string ⟨#[98,105,116,115]⟩] := (show Blk W1 w.heap.size 9 #[.string ⟨#[98,105,116,115]⟩] by rw [hW1];exact Blk.new _ _ _).later hb2
  have k4 : Blk W2 W1.heap.size 52 #[.func (.func 29) #[] #[.pointer (some ⟨g,0,none⟩)]] := by rw [hW2];exact Blk.new _ _ _
  have hbb := bthen hb1 hb2
  have HBB := Lib.hid hbb
  have HS := Lib.hid (hs.later hbb)
  have HG := Lib.hid (hg.later hbb)
  have c0 : W2.cell? ⟨gt,0,none⟩ = some (.func (.func 20) #[] #[.pointer (some ⟨gr,0,none⟩),.pointer (some ⟨gl,0,none⟩)]) := (ht.later hbb).cell 0 rfl
  have hgr := hs.r.lt
  have hgl := hs.l.lt
  have hw1 : w.heap.size≤W1.heap.size := hb1.size
  have HR := Lib.hid (show ∀ (W : World) (a : Option Addr) (n c : Nat) (L : List ByteArray),Gl W→SRow W a n c L→SBlk W g v→(∀ x∈L,x.size≤1000000)→Only [gr,gl] W2 W→Calls Tryz.prog 24 #[.slice a n c,.pointer (some ⟨w.heap.size,0,none⟩),.pointer (some ⟨W1.heap.size,0,none⟩)] W (OutG (YB v L) (NB L) [g] g W) from
    fun W a n c L q1 q2 q3 q4 q5 => word_B a n c L w.heap.size W1.heap.size g v W q1 q2 (k3.only q5 (by simp;omega)) (k4.only q5 (by simp;omega)) q3 q4)
  have HN1 := Lib.hid (show gr ∉ [g] by simp;exact fun e => hs.a.1 e.symm)
  have HN2 := Lib.hid (show gl ∉ [g] by simp;exact fun e => hs.a.2.1 e.symm)
  have HL := Lib.hid hl
  have HK := Lib.hid hk
  have HS1 := Lib.hid (show w.heap.size + 1 = W1.heap.size by rw [hW1];simp)
  have HW1 := Lib.hid hW1
  have HW2 := Lib.hid hW2
  clear hb1 hb2 k3 k4 hbb hs hg ht hgr hgl hw1 hl hk hW1 hW2
  go_enter Tryz.func23,Tryz.ntmps23
  go_upto_region 1 with fail
  rw [←HW1.out,←HW2.out];simp only [HS1.out];clear HW1 HW2 HS1
  go_wp2_with (go_at_call 20;(with_reducible refine (take_word g gr gl w.heap.size W1.heap.size v rest k _ (YB v) NB [g] HN1.out HN2.out HG.out HS.out HL.out HK.out HR.out).mono ?_);rintro e w9 ht;obtain ⟨v9,b9,r9,he9,hs9,hi9,ho9⟩ := ht;subst he9;have HT := Lib.hid (show TkOut (YB v) NB [g] g gr gl rest k w (.returned (.bool b9)) w9 from TkOut.before HBB.out ⟨v9,b9,r9,rfl,hs9,hi9,ho9⟩);clear hs9 hi9 ho9)
  go_ret
  exact HT.out
end Go.Proofs.YtkcgikoploohkaaGreatDoor
