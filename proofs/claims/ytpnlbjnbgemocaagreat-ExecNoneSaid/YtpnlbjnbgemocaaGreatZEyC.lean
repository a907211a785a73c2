import Derived.Test.YtpnlbjnbgemocaaGreatZIFToEyBN4
import Derived.Deep.DeepCutAuto
namespace Go.Proofs.YtpnlbjnbgemocaaGreat
set_option linter.unusedVariables false
set_option linter.unusedSimpArgs false
set_option maxRecDepth 100000
open Go.RowKit
theorem len7 {vs:List Value}(h:vs.length=7):∃ v0 v1 v2 v3 v4 v5 v6,vs=[v0,v1,v2,v3,v4,v5,v6]:=by
  match vs,h with
  | [v0,v1,v2,v3,v4,v5,v6],_=>exact⟨v0,v1,v2,v3,v4,v5,v6,rfl⟩
theorem Blk.putI {w:World}{g T:Nat}{vs:Array Value}(h:Blk w g T vs)(j:Nat)(u:Value):Blk (w.setCell ⟨g,j,none⟩ u) g T (vs.setIfInBounds j u):=by
  unfold Blk World.setCell at *
  simp only [Array.getElem?_modify,h]
  simp
set_option maxHeartbeats 4000000 in
theorem ownIns_t (q:InsP)(a r:Option Addr×Nat×Nat)(l1 l2 l3 l4:Value)(w:World)(ha:IRow w w.heap.size a.1 a.2.1 a.2.2 q.args)(hr:IRow w w.heap.size r.1 r.2.1 r.2.2 q.resets)(han:a.2.1≤1000000)(hrn:r.2.1≤1000000) :
    Calls Tryz.prog 113 #[.agg #[.string q.op,.int .i64 q.dst,.slice a.1 a.2.1 a.2.2,.int .i64 q.k,.int .i64 0,l1,l2,l3,l4,.int .i64 q.guard,.slice r.1 r.2.1 r.2.2]] w fun e w'=>(∃ a' r':Option Addr×Nat×Nat,e=.returned (.agg #[.string q.op,.int .i64 q.dst,.slice a'.1 a'.2.1 a'.2.2,.int .i64 q.k,.int .i64 0,.bool false,.slice none 0 0,.slice none 0 0,.string ⟨#[]⟩,.int .i64 q.guard,.slice r'.1 r'.2.1 r'.2.2])∧IRowP (fun b=>w.heap.size≤b∧b<w'.heap.size) w' a'.1 a'.2.1 a'.2.2 q.args∧IRowP (fun b=>w.heap.size≤b∧b<w'.heap.size) w' r'.1 r'.2.1 r'.2.2 q.resets)∧Below w.heap.size w w':=by
  obtain⟨W1,hW1⟩:∃ W1,W1=w.alloc (.cells #[.string q.op,.int .i64 q.dst,.slice a.1 a.2.1 a.2.2,.int .i64 q.k,.int .i64 0,l1,l2,l3,l4,.int .i64 q.guard,.slice r.1 r.2.1 r.2.2] 96):=⟨_,rfl⟩
  obtain⟨W2,hW2⟩:∃ W2,W2=W1.alloc (.cells zIns 96):=⟨_,rfl⟩
  have hb1:Below w.heap.size w W1:=by rw [hW1];exact(Below.refl _ _).alloc (Nat.le_refl _) _
  have hb2:Below W1.heap.size W1 W2:=by rw [hW2];exact(Below.refl _ _).alloc (Nat.le_refl _) _
  have HK1:=Lib.hid ((show Blk W1 w.heap.size 96 #[.string q.op,.int .i64 q.dst,.slice a.1 a.2.1 a.2.2,.int .i64 q.k,.int .i64 0,l1,l2,l3,l4,.int .i64 q.guard,.slice r.1 r.2.1 r.2.2] by rw [hW1];exact Blk.new _ _ _).later hb2)
  have HK2:=Lib.hid (show Blk W2 W1.heap.size 96 zIns by rw [hW2];exact Blk.new _ _ _)
  have HB:=Lib.hid (hb1.trans (hb2.mono hb1.size))
  have HL:=Lib.hid (show w.heap.size<W1.heap.size by rw [hW1];simp)
  have HS1:=Lib.hid (show w.heap.size+1=W1.heap.size by rw [hW1];simp)
  have HA:=Lib.hid ((ha.below HB.out).more HB.out.size)
  have HR:=Lib.hid ((hr.below HB.out).more HB.out.size)
  have HN:=Lib.hid (And.intro han hrn)
  have HW1:=Lib.hid hW1
  have HW2:=Lib.hid hW2
  clear hb1 hb2 hW1 hW2 ha hr han hrn
  unfold zIns at HW2
  go_enter Tryz.func113,Tryz.ntmps113
  go_upto_region 1 with fail
  rw [←HW1.out,←HW2.out];simp only [HS1.out];clear HW1 HW2 HS1
  refine wp_region_held_drew (S:=fun _=>True) (by kernel_rfl) trivial (fun _=>?_)
  refine takeH 0 3 ?_ (by kernel_rfl) (by kernel_rfl) (by kernel_rfl) (by kernel_rfl) (fun _ _ _ h=>h) (by kernel_rfl) (fun o ho w hSw=>?_) (by trivial) ?_
  rotate_left
  · (simp only [List.getElem?_toArray,List.getElem?_cons_succ,List.getElem?_cons_zero,Option.some.injEq] at ho;subst ho;(try dsimp only at hSw);go_simp;try with_reducible rfl)
  try simp only [Act.put,List.setIfInBounds_toArray,List.set_cons_zero,List.set_cons_succ]
  refine takeH 3 6 ?_ (by kernel_rfl) (by kernel_rfl) (by kernel_rfl) (by kernel_rfl) (fun _ _ _ h=>h) (by kernel_rfl) (fun o ho w hSw=>?_) (by trivial) ?_
  rotate_left
  · (simp only [List.getElem?_toArray,List.getElem?_cons_succ,List.getElem?_cons_zero,Option.some.injEq] at ho;subst ho;(try dsimp only at hSw);go_simp;try with_reducible rfl)
  try simp only [Act.put,List.setIfInBounds_toArray,List.set_cons_zero,List.set_cons_succ]
  refine takeH 6 9 ?_ (by kernel_rfl) (by kernel_rfl) (by kernel_rfl) (by kernel_rfl) (fun _ _ _ h=>h) (by kernel_rfl) (fun o ho w hSw=>?_) (by trivial) ?_
  rotate_left
  · (simp only [List.getElem?_toArray,List.getElem?_cons_succ,List.getElem?_cons_zero,Option.some.injEq] at ho;subst ho;(try dsimp only at hSw);go_simp;try with_reducible rfl)
  try simp only [Act.put,List.setIfInBounds_toArray,List.set_cons_zero,List.set_cons_succ]
  refine anyOrder [1,2,4,5,7,8,9] #[true,false,false,true,false,false,true,false,false,false,false,false,false,false,false] (okE [(1,0),(3,2),(3,1),(5,4),(5,3),(6,0),(6,1),(6,2),(6,4)]) 5 (fun vs=>{ tmps:=#[.agg #[.string q.op,.int .i64 q.dst,.slice a.1 a.2.1 a.2.2,.int .i64 q.k,.int .i64 0,l1,l2,l3,l4,.int .i64 q.guard,.slice r.1 r.2.1 r.2.2],.pointer (some ⟨w.heap.size,0,none⟩),.pointer (some ⟨W1.heap.size,0,none⟩),.pointer (some ⟨w.heap.size,2,none⟩),vs.getD 0 undef,vs.getD 1 undef,.pointer (some ⟨w.heap.size,10,none⟩),vs.getD 2 undef,vs.getD 3 undef,.pointer (some ⟨w.heap.size,4,none⟩),vs.getD 4 undef,vs.getD 5 undef,vs.getD 6 undef,undef,undef,undef],defers:=[] })
    (fun k v W=>match k with
      | 0=>v=.slice a.1 a.2.1 a.2.2
      | 1=>∃ c':Option Addr×Nat,v=.slice c'.1 a.2.1 c'.2∧IRowP (fun b=>W2.heap.size≤b∧b<W.heap.size) W c'.1 a.2.1 c'.2 q.args
      | 2=>v=.slice r.1 r.2.1 r.2.2
      | 3=>∃ c':Option Addr×Nat,v=.slice c'.1 r.2.1 c'.2∧IRowP (fun b=>W2.heap.size≤b∧b<W.heap.size) W c'.1 r.2.1 c'.2 q.resets
      | 4=>v=.agg #[.int .i64 0,l1,l2,l3,l4]
      | 5=>v=.agg zVal
      | _=>v=.pointer (some ⟨w.heap.size,2,none⟩)) (fun _=>false) (fun _=>0) (fun W=>Below W2.heap.size W2 W) (fun W W'=>Below W.heap.size W W')
    (by kernel_rfl) ?_ (fun k v w h=>by cases h) (fun _ _=>trivial) ?_ ?_ 7 [false,false,false,false,false,false,false] [undef,undef,undef,undef,undef,undef,undef] _ rfl rfl rfl rfl (fun k v h=>?_) (fun j k u v hj hk mj=>by cases mj) (Below.refl _ _).drew
  · intro k v W W' h hb
    match k,h with
    | 0,h=>exact h
    | 1,h=>obtain⟨c',e,hr⟩:=h;exact⟨c',e,hr.keep (keepB hb fun b h=>⟨h.2,h.1,Nat.lt_of_lt_of_le h.2 hb.size⟩)⟩
    | 2,h=>exact h
    | 3,h=>obtain⟨c',e,hr⟩:=h;exact⟨c',e,hr.keep (keepB hb fun b h=>⟨h.2,h.1,Nat.lt_of_lt_of_le h.2 hb.size⟩)⟩
    | 4,h=>exact h
    | 5,h=>exact h
    | k+6,h=>exact h
  · intro k i p vs W hki hpl hvl hok hrd hF hG
    obtain⟨v0,v1,v2,v3,v4,v5,v6,rfl⟩:=len7 hvl
    have HG:=Lib.hid hG
    have HKW:=Lib.hid (HK1.out.later hG)
    have HAW:=Lib.hid ((HA.out.below hG).more hG.size)
    have HRW:=Lib.hid ((HR.out.below hG).more hG.size)
    clear hG hvl
    match k,hki with
    | 0,hki=>
      obtain rfl:i=1:=by simpa using hki.symm
      refine opStep (by kernel_rfl) (fun o ho K' hK=>?_)
      simp only [List.getElem?_toArray,List.getElem?_cons_succ,List.getElem?_cons_zero,Option.some.injEq] at ho;subst ho
      have c2:=HKW.out.cell 2 rfl
      go_simp
      exact hK.out _ _ ⟨_,rfl,rfl,(fun h=>by cases h),Below.refl _ _,HG.out⟩
    | 1,hki=>
      obtain rfl:i=2:=by simpa using hki.symm
      obtain rfl:v0=.slice a.1 a.2.1 a.2.2:=hF 0 v0 (need_spec (i:=2) (j:=0) (by kernel_rfl) hpl hok hrd) rfl
      refine opStep (by kernel_rfl) (fun o ho K' hK=>?_)
      simp only [List.getElem?_toArray,List.getElem?_cons_succ,List.getElem?_cons_zero,Option.some.injEq] at ho;subst ho
      go_simp
      go_at_call 158
      refine(cloneI_t HAW.out HN.out.1).mono ?_
      rintro e w' ⟨⟨a',c',rfl,hr⟩,hb⟩
      exact hK.out _ _ ⟨_,rfl,⟨(a',c'),rfl,hr.weak fun b h=>⟨Nat.le_trans HG.out.size h.1,h.2⟩⟩,(fun h=>by cases h),hb,HG.out.trans (hb.mono HG.out.size)⟩
    | 2,hki=>
      obtain rfl:i=4:=by simpa using hki.symm
      refine opStep (by kernel_rfl) (fun o ho K' hK=>?_)
      simp only [List.getElem?_toArray,List.getElem?_cons_succ,List.getElem?_cons_zero,Option.some.injEq] at ho;subst ho
      have c6:=HKW.out.cell 10 rfl
      go_simp
      exact hK.out _ _ ⟨_,rfl,rfl,(fun h=>by cases h),Below.refl _ _,HG.out⟩
    | 3,hki=>
      obtain rfl:i=5:=by simpa using hki.symm
      obtain rfl:v2=.slice r.1 r.2.1 r.2.2:=hF 2 v2 (need_spec (i:=5) (j:=2) (by kernel_rfl) hpl hok hrd) rfl
      refine opStep (by kernel_rfl) (fun o ho K' hK=>?_)
      simp only [List.getElem?_toArray,List.getElem?_cons_succ,List.getElem?_cons_zero,Option.some.injEq] at ho;subst ho
      go_simp
      go_at_call 158
      refine(cloneI_t HRW.out HN.out.2).mono ?_
      rintro e w' ⟨⟨a',c',rfl,hr⟩,hb⟩
      exact hK.out _ _ ⟨_,rfl,⟨(a',c'),rfl,hr.weak fun b h=>⟨Nat.le_trans HG.out.size h.1,h.2⟩⟩,(fun h=>by cases h),hb,HG.out.trans (hb.mono HG.out.size)⟩
    | 4,hki=>
      obtain rfl:i=7:=by simpa using hki.symm
      refine opStep (by kernel_rfl) (fun o ho K' hK=>?_)
      simp only [List.getElem?_toArray,List.getElem?_cons_succ,List.getElem?_cons_zero,Option.some.injEq] at ho;subst ho
      have c4:=HKW.out.cell 4 rfl
      have c5:=HKW.out.cell 5 rfl
      have c6:=HKW.out.cell 6 rfl
      have c7:=HKW.out.cell 7 rfl
      have c8:=HKW.out.cell 8 rfl
      go_simp
      exact hK.out _ _ ⟨_,rfl,rfl,(fun h=>by cases h),Below.refl _ _,HG.out⟩
    | 5,hki=>
      obtain rfl:i=8:=by simpa using hki.symm
      obtain rfl:v4=.agg #[.int .i64 0,l1,l2,l3,l4]:=hF 4 v4 (need_spec (i:=8) (j:=4) (by kernel_rfl) hpl hok hrd) rfl
      refine opStep (by kernel_rfl) (fun o ho K' hK=>?_)
      simp only [List.getElem?_toArray,List.getElem?_cons_succ,List.getElem?_cons_zero,Option.some.injEq] at ho;subst ho
      go_simp
      go_at_call 111
      refine(plain_no l1 l2 l3 l4 _).mono ?_
      rintro e w' ⟨rfl,hb⟩
      exact hK.out _ _ ⟨_,rfl,rfl,(fun h=>by cases h),hb,HG.out.trans (hb.mono HG.out.size)⟩
    | 6,hki=>
      obtain rfl:i=9:=by simpa using hki.symm
      refine opStep (by kernel_rfl) (fun o ho K' hK=>?_)
      simp only [List.getElem?_toArray,List.getElem?_cons_succ,List.getElem?_cons_zero,Option.some.injEq] at ho;subst ho
      go_simp
      exact hK.out _ _ ⟨_,rfl,rfl,(fun h=>by cases h),Below.refl _ _,HG.out⟩
    | k+7,hki=>simp at hki
  · intro vs W hvl hF hD hG
    obtain⟨v0,v1,v2,v3,v4,v5,v6,rfl⟩:=len7 hvl
    obtain⟨a',e1,HA'⟩:=hF 1 v1 (by decide) rfl
    obtain⟨r',e3,HR'⟩:=hF 3 v3 (by decide) rfl
    have e5:v5=.agg #[.int .i64 0,.bool false,.slice none 0 0,.slice none 0 0,.string ⟨#[]⟩]:=hF 5 v5 (by decide) rfl
    have e6:v6=.pointer (some ⟨w.heap.size,2,none⟩):=hF 6 v6 (by decide) rfl
    subst e1 e3 e5 e6
    have HKW:=Lib.hid (HK1.out.later hG)
    have HKR:=Lib.hid (HK2.out.later hG)
    have HBW:=Lib.hid (HB.out.trans (hG.mono HB.out.size))
    have HRA:=Lib.hid HA'
    have HRR:=Lib.hid HR'
    have HS2:=Lib.hid (show W1.heap.size<W2.heap.size from HK2.out.lt)
    have HWL:=Lib.hid hG.size
    clear hG hF hD hvl HA' HR'
    have p2:=HKW.out.cell 2 rfl
    have p10:=HKW.out.cell 10 rfl
    have p4:=HKW.out.cell 4 rfl
    have p5:=HKW.out.cell 5 rfl
    have p6:=HKW.out.cell 6 rfl
    have p7:=HKW.out.cell 7 rfl
    have p8:=HKW.out.cell 8 rfl
    have f2:=HKW.out.free 2
    have f10:=HKW.out.free 10
    have f4:=HKW.out.free 4
    have f5:=HKW.out.free 5
    have f6:=HKW.out.free 6
    have f7:=HKW.out.free 7
    have f8:=HKW.out.free 8
    refine callH 10 (by kernel_rfl) (by kernel_rfl) (fun o ho K' hK=>?_)
    simp only [List.getElem?_toArray,List.getElem?_cons_succ,List.getElem?_cons_zero,Option.some.injEq] at ho;subst ho
    go_simp
    refine hK.out _ _ trivial (fun _=>?_)
    try simp only [Act.put,List.setIfInBounds_toArray,List.set_cons_zero,List.set_cons_succ]
    refine takeH 11 13 ?_ (by kernel_rfl) (by kernel_rfl) (by kernel_rfl) (by kernel_rfl) (fun _ _ _ h=>h) (by kernel_rfl) (fun o ho w hSw=>?_) (by trivial) ?_
    rotate_left
    · (simp only [List.getElem?_toArray,List.getElem?_cons_succ,List.getElem?_cons_zero,Option.some.injEq] at ho;subst ho;(try dsimp only at hSw);go_simp;try with_reducible rfl)
    try simp only [Act.put,List.setIfInBounds_toArray,List.set_cons_zero,List.set_cons_succ]
    refine callH 12 (by kernel_rfl) (by kernel_rfl) (fun o ho K' hK=>?_)
    simp only [List.getElem?_toArray,List.getElem?_cons_succ,List.getElem?_cons_zero,Option.some.injEq] at ho;subst ho
    go_simp
    refine hK.out _ _ trivial (fun _=>?_)
    try simp only [Act.put,List.setIfInBounds_toArray,List.set_cons_zero,List.set_cons_succ]
    refine takeH 13 14 ?_ (by kernel_rfl) (by kernel_rfl) (by kernel_rfl) (by kernel_rfl) (fun _ _ _ h=>h) (by kernel_rfl) (fun o ho w hSw=>?_) (by trivial) ?_
    rotate_left
    · (simp only [List.getElem?_toArray,List.getElem?_cons_succ,List.getElem?_cons_zero,Option.some.injEq] at ho;subst ho;(try dsimp only at hSw);go_simp;try with_reducible rfl)
    try simp only [Act.put,List.setIfInBounds_toArray,List.set_cons_zero,List.set_cons_succ]
    refine callH 14 (by kernel_rfl) (by kernel_rfl) (fun o ho K' hK=>?_)
    simp only [List.getElem?_toArray,List.getElem?_cons_succ,List.getElem?_cons_zero,Option.some.injEq] at ho;subst ho
    go_simp
    refine hK.out _ _ trivial (fun _=>?_)
    try simp only [Act.put,List.setIfInBounds_toArray,List.set_cons_zero,List.set_cons_succ]
    refine wpAnyH_done (by kernel_rfl) ?_ _
    clear p2 p10 p4 p5 p6 p7 p8 f2 f10 f4 f5 f6 f7 f8
    have HKA:=Lib.hid (show Blk (((((((W.setCell ⟨w.heap.size,2,none⟩ (Value.slice a'.1 a.2.1 a'.2)).setCell ⟨w.heap.size,10,none⟩ (Value.slice r'.1 r.2.1 r'.2)).setCell ⟨w.heap.size,4,none⟩ (Value.int .i64 0)).setCell ⟨w.heap.size,5,none⟩ (Value.bool false)).setCell ⟨w.heap.size,6,none⟩ (Value.slice none 0 0)).setCell ⟨w.heap.size,7,none⟩ (Value.slice none 0 0)).setCell ⟨w.heap.size,8,none⟩ (Value.string ⟨#[]⟩)) w.heap.size 96 #[.string q.op,.int .i64 q.dst,.slice a'.1 a.2.1 a'.2,.int .i64 q.k,.int .i64 0,.bool false,.slice none 0 0,.slice none 0 0,.string ⟨#[]⟩,.int .i64 q.guard,.slice r'.1 r.2.1 r'.2] from((((((HKW.out.putI 2 _).putI 10 _).putI 4 _).putI 5 _).putI 6 _).putI 7 _).putI 8 _)
    have HOS:=Lib.hid (show Only [some w.heap.size] W (((((((W.setCell ⟨w.heap.size,2,none⟩ (Value.slice a'.1 a.2.1 a'.2)).setCell ⟨w.heap.size,10,none⟩ (Value.slice r'.1 r.2.1 r'.2)).setCell ⟨w.heap.size,4,none⟩ (Value.int .i64 0)).setCell ⟨w.heap.size,5,none⟩ (Value.bool false)).setCell ⟨w.heap.size,6,none⟩ (Value.slice none 0 0)).setCell ⟨w.heap.size,7,none⟩ (Value.slice none 0 0)).setCell ⟨w.heap.size,8,none⟩ (Value.string ⟨#[]⟩)) from((((((Only.set (S:=[some w.heap.size]) (by simp) _ _ _).trans (Only.set (by simp) _ _ _)).trans (Only.set (by simp) _ _ _)).trans (Only.set (by simp) _ _ _)).trans (Only.set (by simp) _ _ _)).trans (Only.set (by simp) _ _ _)).trans (Only.set (by simp) _ _ _))
    have HSZ:=Lib.hid (show(((((((W.setCell ⟨w.heap.size,2,none⟩ (Value.slice a'.1 a.2.1 a'.2)).setCell ⟨w.heap.size,10,none⟩ (Value.slice r'.1 r.2.1 r'.2)).setCell ⟨w.heap.size,4,none⟩ (Value.int .i64 0)).setCell ⟨w.heap.size,5,none⟩ (Value.bool false)).setCell ⟨w.heap.size,6,none⟩ (Value.slice none 0 0)).setCell ⟨w.heap.size,7,none⟩ (Value.slice none 0 0)).setCell ⟨w.heap.size,8,none⟩ (Value.string ⟨#[]⟩)).heap.size=W.heap.size by simp)
    generalize (((((((W.setCell ⟨w.heap.size,2,none⟩ (Value.slice a'.1 a.2.1 a'.2)).setCell ⟨w.heap.size,10,none⟩ (Value.slice r'.1 r.2.1 r'.2)).setCell ⟨w.heap.size,4,none⟩ (Value.int .i64 0)).setCell ⟨w.heap.size,5,none⟩ (Value.bool false)).setCell ⟨w.heap.size,6,none⟩ (Value.slice none 0 0)).setCell ⟨w.heap.size,7,none⟩ (Value.slice none 0 0)).setCell ⟨w.heap.size,8,none⟩ (Value.string ⟨#[]⟩))=W5 at HKA HOS HSZ ⊢
    have HKB:=Lib.hid (HKR.out.only HOS.out (by simp;have:=HL.out;omega))
    have p0:=HKA.out.cell 0 rfl
    have p1:=HKA.out.cell 1 rfl
    have p2:=HKA.out.cell 2 rfl
    have p3:=HKA.out.cell 3 rfl
    have p4:=HKA.out.cell 4 rfl
    have p5:=HKA.out.cell 5 rfl
    have p6:=HKA.out.cell 6 rfl
    have p7:=HKA.out.cell 7 rfl
    have p8:=HKA.out.cell 8 rfl
    have p9:=HKA.out.cell 9 rfl
    have p10:=HKA.out.cell 10 rfl
    have z0:=HKB.out.cell 0 rfl
    have z1:=HKB.out.cell 1 rfl
    have z2:=HKB.out.cell 2 rfl
    have z3:=HKB.out.cell 3 rfl
    have z4:=HKB.out.cell 4 rfl
    have z5:=HKB.out.cell 5 rfl
    have z6:=HKB.out.cell 6 rfl
    have z7:=HKB.out.cell 7 rfl
    have z8:=HKB.out.cell 8 rfl
    have z9:=HKB.out.cell 9 rfl
    have z10:=HKB.out.cell 10 rfl
    have y0:=HKB.out.free 0
    have y1:=HKB.out.free 1
    have y2:=HKB.out.free 2
    have y3:=HKB.out.free 3
    have y4:=HKB.out.free 4
    have y5:=HKB.out.free 5
    have y6:=HKB.out.free 6
    have y7:=HKB.out.free 7
    have y8:=HKB.out.free 8
    have y9:=HKB.out.free 9
    have y10:=HKB.out.free 10
    have HON:=Lib.hid (show Only [some w.heap.size,some W1.heap.size] W (((((((((((W5.setCell ⟨W1.heap.size,0,none⟩ (Value.string q.op)).setCell ⟨W1.heap.size,1,none⟩ (Value.int .i64 q.dst)).setCell ⟨W1.heap.size,2,none⟩ (Value.slice a'.1 a.2.1 a'.2)).setCell ⟨W1.heap.size,3,none⟩ (Value.int .i64 q.k)).setCell ⟨W1.heap.size,4,none⟩ (Value.int .i64 0)).setCell ⟨W1.heap.size,5,none⟩ (Value.bool false)).setCell ⟨W1.heap.size,6,none⟩ (Value.slice none 0 0)).setCell ⟨W1.heap.size,7,none⟩ (Value.slice none 0 0)).setCell ⟨W1.heap.size,8,none⟩ (Value.string ⟨#[]⟩)).setCell ⟨W1.heap.size,9,none⟩ (Value.int .i64 q.guard)).setCell ⟨W1.heap.size,10,none⟩ (Value.slice r'.1 r.2.1 r'.2)) from(HOS.out.weak (by intro j hj;simp at hj ⊢;exact Or.inl hj)).trans (((((((((((Only.set (by simp) 0 _ _).trans (Only.set (by simp) 1 _ _)).trans (Only.set (by simp) 2 _ _)).trans (Only.set (by simp) 3 _ _)).trans (Only.set (by simp) 4 _ _)).trans (Only.set (by simp) 5 _ _)).trans (Only.set (by simp) 6 _ _)).trans (Only.set (by simp) 7 _ _)).trans (Only.set (by simp) 8 _ _)).trans (Only.set (by simp) 9 _ _)).trans (Only.set (by simp) 10 _ _)))
    have HSQ:=Lib.hid (show(((((((((((W5.setCell ⟨W1.heap.size,0,none⟩ (Value.string q.op)).setCell ⟨W1.heap.size,1,none⟩ (Value.int .i64 q.dst)).setCell ⟨W1.heap.size,2,none⟩ (Value.slice a'.1 a.2.1 a'.2)).setCell ⟨W1.heap.size,3,none⟩ (Value.int .i64 q.k)).setCell ⟨W1.heap.size,4,none⟩ (Value.int .i64 0)).setCell ⟨W1.heap.size,5,none⟩ (Value.bool false)).setCell ⟨W1.heap.size,6,none⟩ (Value.slice none 0 0)).setCell ⟨W1.heap.size,7,none⟩ (Value.slice none 0 0)).setCell ⟨W1.heap.size,8,none⟩ (Value.string ⟨#[]⟩)).setCell ⟨W1.heap.size,9,none⟩ (Value.int .i64 q.guard)).setCell ⟨W1.heap.size,10,none⟩ (Value.slice r'.1 r.2.1 r'.2)).heap.size=W5.heap.size by simp)
    have HBQ:=Lib.hid (show Below w.heap.size w (((((((((((W5.setCell ⟨W1.heap.size,0,none⟩ (Value.string q.op)).setCell ⟨W1.heap.size,1,none⟩ (Value.int .i64 q.dst)).setCell ⟨W1.heap.size,2,none⟩ (Value.slice a'.1 a.2.1 a'.2)).setCell ⟨W1.heap.size,3,none⟩ (Value.int .i64 q.k)).setCell ⟨W1.heap.size,4,none⟩ (Value.int .i64 0)).setCell ⟨W1.heap.size,5,none⟩ (Value.bool false)).setCell ⟨W1.heap.size,6,none⟩ (Value.slice none 0 0)).setCell ⟨W1.heap.size,7,none⟩ (Value.slice none 0 0)).setCell ⟨W1.heap.size,8,none⟩ (Value.string ⟨#[]⟩)).setCell ⟨W1.heap.size,9,none⟩ (Value.int .i64 q.guard)).setCell ⟨W1.heap.size,10,none⟩ (Value.slice r'.1 r.2.1 r'.2)) from(((((((((((((HBW.out.trans (HOS.out.below (B:=w.heap.size) (by have:=HBW.out.size;omega) (by intro j hj;simp at hj;omega))):Below w.heap.size w W5)).setCell (p:=⟨W1.heap.size,0,none⟩) (Nat.le_of_lt HL.out) _).setCell (p:=⟨W1.heap.size,1,none⟩) (Nat.le_of_lt HL.out) _).setCell (p:=⟨W1.heap.size,2,none⟩) (Nat.le_of_lt HL.out) _).setCell (p:=⟨W1.heap.size,3,none⟩) (Nat.le_of_lt HL.out) _).setCell (p:=⟨W1.heap.size,4,none⟩) (Nat.le_of_lt HL.out) _).setCell (p:=⟨W1.heap.size,5,none⟩) (Nat.le_of_lt HL.out) _).setCell (p:=⟨W1.heap.size,6,none⟩) (Nat.le_of_lt HL.out) _).setCell (p:=⟨W1.heap.size,7,none⟩) (Nat.le_of_lt HL.out) _).setCell (p:=⟨W1.heap.size,8,none⟩) (Nat.le_of_lt HL.out) _).setCell (p:=⟨W1.heap.size,9,none⟩) (Nat.le_of_lt HL.out) _).setCell (p:=⟨W1.heap.size,10,none⟩) (Nat.le_of_lt HL.out) _)
    go_wp2_with fail
    have HKP:=Lib.hid (show KeepP (fun b=>W2.heap.size≤b∧b<W.heap.size) (fun b=>w.heap.size≤b∧b<(((((((((((W5.setCell ⟨W1.heap.size,0,none⟩ (Value.string q.op)).setCell ⟨W1.heap.size,1,none⟩ (Value.int .i64 q.dst)).setCell ⟨W1.heap.size,2,none⟩ (Value.slice a'.1 a.2.1 a'.2)).setCell ⟨W1.heap.size,3,none⟩ (Value.int .i64 q.k)).setCell ⟨W1.heap.size,4,none⟩ (Value.int .i64 0)).setCell ⟨W1.heap.size,5,none⟩ (Value.bool false)).setCell ⟨W1.heap.size,6,none⟩ (Value.slice none 0 0)).setCell ⟨W1.heap.size,7,none⟩ (Value.slice none 0 0)).setCell ⟨W1.heap.size,8,none⟩ (Value.string ⟨#[]⟩)).setCell ⟨W1.heap.size,9,none⟩ (Value.int .i64 q.guard)).setCell ⟨W1.heap.size,10,none⟩ (Value.slice r'.1 r.2.1 r'.2)).heap.size) W (((((((((((W5.setCell ⟨W1.heap.size,0,none⟩ (Value.string q.op)).setCell ⟨W1.heap.size,1,none⟩ (Value.int .i64 q.dst)).setCell ⟨W1.heap.size,2,none⟩ (Value.slice a'.1 a.2.1 a'.2)).setCell ⟨W1.heap.size,3,none⟩ (Value.int .i64 q.k)).setCell ⟨W1.heap.size,4,none⟩ (Value.int .i64 0)).setCell ⟨W1.heap.size,5,none⟩ (Value.bool false)).setCell ⟨W1.heap.size,6,none⟩ (Value.slice none 0 0)).setCell ⟨W1.heap.size,7,none⟩ (Value.slice none 0 0)).setCell ⟨W1.heap.size,8,none⟩ (Value.string ⟨#[]⟩)).setCell ⟨W1.heap.size,9,none⟩ (Value.int .i64 q.guard)).setCell ⟨W1.heap.size,10,none⟩ (Value.slice r'.1 r.2.1 r'.2)) from keepOnly HON.out (fun b h=>⟨h.2,by have:=HL.out;have:=HS2.out;simp;omega,by rw [HSQ.out,HSZ.out];have:=HL.out;have:=HS2.out;exact⟨by omega,h.2⟩⟩))
    exact bodyPost_ret (v:=.agg #[.string q.op,.int .i64 q.dst,.slice a'.1 a.2.1 a'.2,.int .i64 q.k,.int .i64 0,.bool false,.slice none 0 0,.slice none 0 0,.string ⟨#[]⟩,.int .i64 q.guard,.slice r'.1 r.2.1 r'.2]) (by simp [results,Tryz.results113,go_sem, *]) rfl ⟨⟨(a'.1,a.2.1,a'.2),(r'.1,r.2.1,r'.2),rfl,HRA.out.keep HKP.out,HRR.out.keep HKP.out⟩,HBQ.out⟩
  · match k,h with
    | 0,h=>simp at h
    | 1,h=>simp at h
    | 2,h=>simp at h
    | 3,h=>simp at h
    | 4,h=>simp at h
    | 5,h=>simp at h
    | 6,h=>simp at h
    | k+7,h=>simp at h
end Go.Proofs.YtpnlbjnbgemocaaGreat
