import Derived.Test.YtpnlbjnbgemocaaGreatZEyDToRpRN7
import Derived.Deep.DeepCutAuto
namespace Go.Proofs.YtpnlbjnbgemocaaGreat
set_option linter.unusedVariables false
set_option linter.unusedSimpArgs false
set_option maxRecDepth 100000
open Go.RowKit Nums
theorem len5 {vs:List Value}(h:vs.length=5):∃ v0 v1 v2 v3 v4,vs=[v0,v1,v2,v3,v4]:=by
  match vs,h with
  | [v0,v1,v2,v3,v4],_=>exact⟨v0,v1,v2,v3,v4,rfl⟩
def SmallIns (xs:List InsP):Prop:=∀ q∈xs,q.args.length≤1000000∧q.resets.length≤1000000∧q.lit.kind=0
set_option maxHeartbeats 16000000 in
theorem ownCode_t (i0 i1 i2 i3 i4:Int)(ma ca:Option Addr)(mc cc:Nat)(s d x:Option Addr×Nat×Nat)(xs ys zs:List InsP)(w:World)
    (hs:SRow 11 InsAt w w.heap.size s.1 s.2.1 s.2.2 xs) (hd:SRow 11 InsAt w w.heap.size d.1 d.2.1 d.2.2 ys) (hx:SRow 11 InsAt w w.heap.size x.1 x.2.1 x.2.2 zs)
    (hn:s.2.1≤100000∧d.2.1≤100000∧x.2.1≤100000) (hl:SmallIns xs∧SmallIns ys∧SmallIns zs) :
    Calls Tryz.prog 63 #[.agg #[.int .i64 i0,.int .i64 i1,.int .i64 i2,.int .i64 i3,.int .i64 i4,.slice ma 0 mc,.slice ca 0 cc,.slice s.1 s.2.1 s.2.2,.slice d.1 d.2.1 d.2.2,.slice x.1 x.2.1 x.2.2]] w fun e w'=>(∃(gm gc:Nat) (s' d' x':Option Addr×Nat×Nat),e=.returned (.agg #[.int .i64 i0,.int .i64 i1,.int .i64 i2,.int .i64 i3,.int .i64 i4,.slice (some ⟨gm,0,none⟩) 0 0,.slice (some ⟨gc,0,none⟩) 0 0,.slice s'.1 s'.2.1 s'.2.2,.slice d'.1 d'.2.1 d'.2.2,.slice x'.1 x'.2.1 x'.2.2])∧RowN w' w.heap.size s' xs∧RowN w' w.heap.size d' ys∧RowN w' w.heap.size x' zs)∧Below w.heap.size w w':=by
  have HCO:=Lib.hid (show ∀ W,Below w.heap.size w W→SRow 11 InsAt W w.heap.size s.1 s.2.1 s.2.2 xs∧SRow 11 InsAt W w.heap.size d.1 d.2.1 d.2.2 ys∧SRow 11 InsAt W w.heap.size x.1 x.2.1 x.2.2 zs from fun W hb=>
    ⟨hs.keep fun _ _ _ hb' r=>r.keep hb' fun _ hp=>hb.cell hp,hd.keep fun _ _ _ hb' r=>r.keep hb' fun _ hp=>hb.cell hp,hx.keep fun _ _ _ hb' r=>r.keep hb' fun _ hp=>hb.cell hp⟩)
  have HN:=Lib.hid hn
  have HX:=Lib.hid hl
  clear hs hd hx hn hl
  obtain⟨W1,hW1⟩:∃ W1,W1=w.alloc (.cells #[.int .i64 i0,.int .i64 i1,.int .i64 i2,.int .i64 i3,.int .i64 i4,.slice ma 0 mc,.slice ca 0 cc,.slice s.1 s.2.1 s.2.2,.slice d.1 d.2.1 d.2.2,.slice x.1 x.2.1 x.2.2] 25):=⟨_,rfl⟩
  obtain⟨W2,hW2⟩:∃ W2,W2=W1.alloc (.cells #[.int .i64 0,.int .i64 0,.int .i64 0,.int .i64 0,.int .i64 0,.slice none 0 0,.slice none 0 0,.slice none 0 0,.slice none 0 0,.slice none 0 0] 25):=⟨_,rfl⟩
  have hb1:Below w.heap.size w W1:=by rw [hW1];exact(Below.refl _ _).alloc (Nat.le_refl _) _
  have hb2:Below W1.heap.size W1 W2:=by rw [hW2];exact(Below.refl _ _).alloc (Nat.le_refl _) _
  have HK1:=Lib.hid ((show Blk W1 w.heap.size 25 #[.int .i64 i0,.int .i64 i1,.int .i64 i2,.int .i64 i3,.int .i64 i4,.slice ma 0 mc,.slice ca 0 cc,.slice s.1 s.2.1 s.2.2,.slice d.1 d.2.1 d.2.2,.slice x.1 x.2.1 x.2.2] by rw [hW1];exact Blk.new _ _ _).later hb2)
  have HK2:=Lib.hid (show Blk W2 W1.heap.size 25 #[.int .i64 0,.int .i64 0,.int .i64 0,.int .i64 0,.int .i64 0,.slice none 0 0,.slice none 0 0,.slice none 0 0,.slice none 0 0,.slice none 0 0] by rw [hW2];exact Blk.new _ _ _)
  have HB:=Lib.hid (hb1.trans (hb2.mono hb1.size))
  have HL:=Lib.hid (show w.heap.size<W1.heap.size by rw [hW1];simp)
  have HS1:=Lib.hid (show w.heap.size+1=W1.heap.size by rw [hW1];simp)
  have HW1:=Lib.hid hW1
  have HW2:=Lib.hid hW2
  clear hb1 hb2 hW1 hW2
  go_enter Tryz.func63,Tryz.ntmps63
  go_upto_region 1 with fail
  rw [←HW1.out,←HW2.out];simp only [HS1.out];clear HW1 HW2 HS1
  refine wp_region_held_drew (S:=fun _=>True) (by kernel_rfl) trivial (fun _=>?_)
  refine takeH 0 3 ?_ (by kernel_rfl) (by kernel_rfl) (by kernel_rfl) (by kernel_rfl) (fun _ _ _ h=>h) (by kernel_rfl) (fun o ho w hSw=>?_) (by trivial) ?_
  rotate_left
  · (simp only [List.getElem?_toArray,List.getElem?_cons_succ,List.getElem?_cons_zero,Option.some.injEq] at ho;subst ho;(try dsimp only at hSw);go_simp;try with_reducible rfl)
  try simp only [Act.put,List.setIfInBounds_toArray,List.set_cons_zero,List.set_cons_succ]
  refine takeH 3 6 ?_ (by kernel_rfl) (by kernel_rfl) (by kernel_rfl) (by kernel_rfl) (fun _ _ _ h=>h) (by kernel_rfl) (fun o ho w hSw=>?_) (by trivial) ?_
  rotate_left
  · (simp only [List.getElem?_toArray,List.getElem?_cons_succ,List.getElem?_cons_zero,Option.some.injEq] at ho;subst ho;(try dsimp only at hSw);go_simp;try with_reducible rfl)
  try simp only [Act.put,List.setIfInBounds_toArray,List.set_cons_zero,List.set_cons_succ]
  refine anyOrder [1,2,4,5,6] #[true,false,false,true,false,false,false,false,false,false] (okE [(1,0),(3,2),(3,1),(4,0),(4,1),(4,2)]) 3 (fun vs=>{ tmps:=#[.agg #[.int .i64 i0,.int .i64 i1,.int .i64 i2,.int .i64 i3,.int .i64 i4,.slice ma 0 mc,.slice ca 0 cc,.slice s.1 s.2.1 s.2.2,.slice d.1 d.2.1 d.2.2,.slice x.1 x.2.1 x.2.2],.pointer (some ⟨w.heap.size,0,none⟩),.pointer (some ⟨W1.heap.size,0,none⟩),.pointer (some ⟨w.heap.size,5,none⟩),vs.getD 0 undef,vs.getD 1 undef,.pointer (some ⟨w.heap.size,6,none⟩),vs.getD 2 undef,vs.getD 3 undef,vs.getD 4 undef,undef,undef,undef,undef,undef,undef,undef,undef,undef,undef,undef,undef,undef,undef],defers:=[] })
    (fun(k:Nat) (v:Value) (W:World)=>match k with
    | 0=>v=.slice ma 0 mc
    | 1=>∃ g:Nat,v=.slice (some ⟨g,0,none⟩) 0 0
    | 2=>v=.slice ca 0 cc
    | 3=>∃ g:Nat,v=.slice (some ⟨g,0,none⟩) 0 0
    | _=>v=.pointer (some ⟨w.heap.size,5,none⟩)) (fun _=>false) (fun _=>0) (fun W=>Below W2.heap.size W2 W) (fun W W'=>Below W.heap.size W W')
    (by kernel_rfl) ?_ (fun k v w h=>by cases h) (fun _ _=>trivial) ?_ ?_ 5 [false,false,false,false,false] [undef,undef,undef,undef,undef] _ rfl rfl rfl rfl (fun k v h=>?_) (fun j k u v hj hk mj=>by cases mj) (Below.refl _ _).drew
  · intro k v W W' h hb
    match k,h with
    | 0,h=>exact h
    | 1,h=>exact h
    | 2,h=>exact h
    | 3,h=>exact h
    | k+4,h=>exact h
  · intro k i p vs W hki hpl hvl hok hrd hF hG
    obtain⟨v0,v1,v2,v3,v4,rfl⟩:=len5 hvl
    have HG:=Lib.hid hG
    have HKW:=Lib.hid (HK1.out.later hG)
    clear hG hvl
    match k,hki with
    | 0,hki=>
      obtain rfl:i=1:=by simpa using hki.symm
      refine opStep (by kernel_rfl) (fun o ho K' hK=>?_)
      simp only [List.getElem?_toArray,List.getElem?_cons_succ,List.getElem?_cons_zero,Option.some.injEq] at ho;subst ho
      have fc0:=HKW.out.cell 5 rfl
      go_simp
      exact hK.out _ _ ⟨_,rfl,rfl,(fun h=>by cases h),Below.refl _ _,HG.out⟩
    | 1,hki=>
      obtain rfl:i=2:=by simpa using hki.symm
      obtain rfl:v0=.slice ma 0 mc:=hF 0 v0 (need_spec (i:=2) (j:=0) (by kernel_rfl) hpl hok hrd) rfl
      refine opStep (by kernel_rfl) (fun o ho K' hK=>?_)
      simp only [List.getElem?_toArray,List.getElem?_cons_succ,List.getElem?_cons_zero,Option.some.injEq] at ho;subst ho
      go_simp
      go_at_call 37
      refine(eachV_none ma mc _).mono ?_
      rintro e w' ⟨rfl,rfl⟩
      exact hK.out _ _ ⟨_,rfl,⟨_,rfl⟩,(fun h=>by cases h),(Below.refl _ _).alloc (Nat.le_refl _) _,HG.out.alloc HG.out.size _⟩
    | 2,hki=>
      obtain rfl:i=4:=by simpa using hki.symm
      refine opStep (by kernel_rfl) (fun o ho K' hK=>?_)
      simp only [List.getElem?_toArray,List.getElem?_cons_succ,List.getElem?_cons_zero,Option.some.injEq] at ho;subst ho
      have fc0:=HKW.out.cell 6 rfl
      go_simp
      exact hK.out _ _ ⟨_,rfl,rfl,(fun h=>by cases h),Below.refl _ _,HG.out⟩
    | 3,hki=>
      obtain rfl:i=5:=by simpa using hki.symm
      obtain rfl:v2=.slice ca 0 cc:=hF 2 v2 (need_spec (i:=5) (j:=2) (by kernel_rfl) hpl hok hrd) rfl
      refine opStep (by kernel_rfl) (fun o ho K' hK=>?_)
      simp only [List.getElem?_toArray,List.getElem?_cons_succ,List.getElem?_cons_zero,Option.some.injEq] at ho;subst ho
      go_simp
      go_at_call 37
      refine(eachV_none ca cc _).mono ?_
      rintro e w' ⟨rfl,rfl⟩
      exact hK.out _ _ ⟨_,rfl,⟨_,rfl⟩,(fun h=>by cases h),(Below.refl _ _).alloc (Nat.le_refl _) _,HG.out.alloc HG.out.size _⟩
    | 4,hki=>
      obtain rfl:i=6:=by simpa using hki.symm
      refine opStep (by kernel_rfl) (fun o ho K' hK=>?_)
      simp only [List.getElem?_toArray,List.getElem?_cons_succ,List.getElem?_cons_zero,Option.some.injEq] at ho;subst ho
      go_simp
      exact hK.out _ _ ⟨_,rfl,rfl,(fun h=>by cases h),Below.refl _ _,HG.out⟩
    | k+5,hki=>simp at hki
  · intro vs W hvl hF hD hG
    obtain⟨v0,v1,v2,v3,v4,rfl⟩:=len5 hvl
    have e0:v0=.slice ma 0 mc:=hF 0 v0 (by decide) rfl
    have e2:v2=.slice ca 0 cc:=hF 2 v2 (by decide) rfl
    subst e0 e2
    obtain⟨gm,e1⟩:=hF 1 v1 (by decide) rfl
    obtain⟨gc,e3⟩:=hF 3 v3 (by decide) rfl
    have e4:v4=.pointer (some ⟨w.heap.size,5,none⟩):=hF 4 v4 (by decide) rfl
    subst e1 e3 e4
    have HKW:=Lib.hid (HK1.out.later hG)
    have HKR:=Lib.hid (HK2.out.later hG)
    have HBW:=Lib.hid (HB.out.trans (hG.mono HB.out.size))
    clear hG hF hD hvl
    have p5:=HKW.out.cell 5 rfl
    have p6:=HKW.out.cell 6 rfl
    have f5:=HKW.out.free 5
    have f6:=HKW.out.free 6
    refine callH 7 (by kernel_rfl) (by kernel_rfl) (fun o ho K' hK=>?_)
    simp only [List.getElem?_toArray,List.getElem?_cons_succ,List.getElem?_cons_zero,Option.some.injEq] at ho;subst ho
    go_simp
    refine hK.out _ _ trivial (fun _=>?_)
    try simp only [Act.put,List.setIfInBounds_toArray,List.set_cons_zero,List.set_cons_succ]
    refine takeH 8 10 ?_ (by kernel_rfl) (by kernel_rfl) (by kernel_rfl) (by kernel_rfl) (fun _ _ _ h=>h) (by kernel_rfl) (fun o ho w hSw=>?_) (by trivial) ?_
    rotate_left
    · (simp only [List.getElem?_toArray,List.getElem?_cons_succ,List.getElem?_cons_zero,Option.some.injEq] at ho;subst ho;(try dsimp only at hSw);go_simp;try with_reducible rfl)
    try simp only [Act.put,List.setIfInBounds_toArray,List.set_cons_zero,List.set_cons_succ]
    refine callH 9 (by kernel_rfl) (by kernel_rfl) (fun o ho K' hK=>?_)
    simp only [List.getElem?_toArray,List.getElem?_cons_succ,List.getElem?_cons_zero,Option.some.injEq] at ho;subst ho
    go_simp
    refine hK.out _ _ trivial (fun _=>?_)
    try simp only [Act.put,List.setIfInBounds_toArray,List.set_cons_zero,List.set_cons_succ]
    refine wpAnyH_done (by kernel_rfl) ?_ _
    clear p5 p6 f5 f6
    have HKA:=Lib.hid (show Blk ((W.setCell ⟨w.heap.size,5,none⟩ (Value.slice (some ⟨gm,0,none⟩) 0 0)).setCell ⟨w.heap.size,6,none⟩ (Value.slice (some ⟨gc,0,none⟩) 0 0)) w.heap.size 25 #[.int .i64 i0,.int .i64 i1,.int .i64 i2,.int .i64 i3,.int .i64 i4,.slice (some ⟨gm,0,none⟩) 0 0,.slice (some ⟨gc,0,none⟩) 0 0,.slice s.1 s.2.1 s.2.2,.slice d.1 d.2.1 d.2.2,.slice x.1 x.2.1 x.2.2] from(HKW.out.putI 5 _).putI 6 _)
    have HOS:=Lib.hid (show Only [some w.heap.size] W ((W.setCell ⟨w.heap.size,5,none⟩ (Value.slice (some ⟨gm,0,none⟩) 0 0)).setCell ⟨w.heap.size,6,none⟩ (Value.slice (some ⟨gc,0,none⟩) 0 0)) from(Only.set (S:=[some w.heap.size]) (by simp) _ _ _).trans (Only.set (by simp) _ _ _))
    generalize ((W.setCell ⟨w.heap.size,5,none⟩ (Value.slice (some ⟨gm,0,none⟩) 0 0)).setCell ⟨w.heap.size,6,none⟩ (Value.slice (some ⟨gc,0,none⟩) 0 0))=W5 at HKA HOS ⊢
    have HBB:=Lib.hid (andOnlyB HBW.out HBW.out.size HOS.out)
    have HKB:=Lib.hid (HKR.out.only HOS.out (by simp;have:=HL.out;omega))
    clear HKW HKR HBW HOS
    go_upto_region 2 with fail
    refine wp_region_held_drew (S:=fun _=>True) (by kernel_rfl) trivial (fun _=>?_)
    refine takeH 0 11 ?_ (by kernel_rfl) (by kernel_rfl) (by kernel_rfl) (by kernel_rfl) (fun _ _ _ h=>h) (by kernel_rfl) (fun o ho w hSw=>?_) (by trivial) ?_
    rotate_left
    · (simp only [List.getElem?_toArray,List.getElem?_cons_succ,List.getElem?_cons_zero,Option.some.injEq] at ho;subst ho;(try dsimp only at hSw);go_simp;try with_reducible rfl)
    try simp only [Act.put,List.setIfInBounds_toArray,List.set_cons_zero,List.set_cons_succ]
    refine takeH 3 14 ?_ (by kernel_rfl) (by kernel_rfl) (by kernel_rfl) (by kernel_rfl) (fun _ _ _ h=>h) (by kernel_rfl) (fun o ho w hSw=>?_) (by trivial) ?_
    rotate_left
    · (simp only [List.getElem?_toArray,List.getElem?_cons_succ,List.getElem?_cons_zero,Option.some.injEq] at ho;subst ho;(try dsimp only at hSw);go_simp;try with_reducible rfl)
    try simp only [Act.put,List.setIfInBounds_toArray,List.set_cons_zero,List.set_cons_succ]
    refine takeH 6 17 ?_ (by kernel_rfl) (by kernel_rfl) (by kernel_rfl) (by kernel_rfl) (fun _ _ _ h=>h) (by kernel_rfl) (fun o ho w hSw=>?_) (by trivial) ?_
    rotate_left
    · (simp only [List.getElem?_toArray,List.getElem?_cons_succ,List.getElem?_cons_zero,Option.some.injEq] at ho;subst ho;(try dsimp only at hSw);go_simp;try with_reducible rfl)
    try simp only [Act.put,List.setIfInBounds_toArray,List.set_cons_zero,List.set_cons_succ]
    refine anyOrder [1,2,4,5,7,8,9] #[true,false,false,true,false,false,true,false,false,false,false,false,false,false,false] (okE [(1,0),(3,2),(3,1),(5,4),(5,3),(6,0),(6,1),(6,2),(6,4)]) 5 (fun vs=>{ tmps:=#[.agg #[.int .i64 i0,.int .i64 i1,.int .i64 i2,.int .i64 i3,.int .i64 i4,.slice ma 0 mc,.slice ca 0 cc,.slice s.1 s.2.1 s.2.2,.slice d.1 d.2.1 d.2.2,.slice x.1 x.2.1 x.2.2],.pointer (some ⟨w.heap.size,0,none⟩),.pointer (some ⟨W1.heap.size,0,none⟩),.pointer (some ⟨w.heap.size,5,none⟩),.slice ma 0 mc,.slice (some ⟨gm,0,none⟩) 0 0,.pointer (some ⟨w.heap.size,6,none⟩),.slice ca 0 cc,.slice (some ⟨gc,0,none⟩) 0 0,.pointer (some ⟨w.heap.size,5,none⟩),.pointer (some ⟨w.heap.size,6,none⟩),.pointer (some ⟨w.heap.size,7,none⟩),vs.getD 0 undef,vs.getD 1 undef,.pointer (some ⟨w.heap.size,8,none⟩),vs.getD 2 undef,vs.getD 3 undef,.pointer (some ⟨w.heap.size,9,none⟩),vs.getD 4 undef,vs.getD 5 undef,vs.getD 6 undef,undef,undef,undef],defers:=[] })
      (fun(k:Nat) (v:Value) (W:World)=>match k with
      | 0=>v=.slice s.1 s.2.1 s.2.2
      | 1=>∃ n:Option Addr×Nat×Nat,v=.slice n.1 n.2.1 n.2.2∧RowN W W5.heap.size n xs
      | 2=>v=.slice d.1 d.2.1 d.2.2
      | 3=>∃ n:Option Addr×Nat×Nat,v=.slice n.1 n.2.1 n.2.2∧RowN W W5.heap.size n ys
      | 4=>v=.slice x.1 x.2.1 x.2.2
      | 5=>∃ n:Option Addr×Nat×Nat,v=.slice n.1 n.2.1 n.2.2∧RowN W W5.heap.size n zs
      | _=>v=.pointer (some ⟨w.heap.size,7,none⟩)) (fun _=>false) (fun _=>0) (fun W=>Below W5.heap.size W5 W) (fun W W'=>Below W.heap.size W W')
      (by kernel_rfl) ?_ (fun k v w h=>by cases h) (fun _ _=>trivial) ?_ ?_ 7 [false,false,false,false,false,false,false] [undef,undef,undef,undef,undef,undef,undef] _ rfl rfl rfl rfl (fun k v h=>?_) (fun j k u v hj hk mj=>by cases mj) (Below.refl _ _).drew
    · intro k v W W' h hb
      match k,h with
      | 0,h=>exact h
      | 1,h=>obtain⟨n,e,hr⟩:=h;exact⟨n,e,hr.later hb⟩
      | 2,h=>exact h
      | 3,h=>obtain⟨n,e,hr⟩:=h;exact⟨n,e,hr.later hb⟩
      | 4,h=>exact h
      | 5,h=>obtain⟨n,e,hr⟩:=h;exact⟨n,e,hr.later hb⟩
      | k+6,h=>exact h
    · intro k i p vs W hki hpl hvl hok hrd hF hG
      obtain⟨v0,v1,v2,v3,v4,v5,v6,rfl⟩:=len7 hvl
      have HG:=Lib.hid hG
      have HKW:=Lib.hid (HKA.out.later hG)
      have HCW:=Lib.hid (HCO.out W (HBB.out.trans (hG.mono HBB.out.size)))
      have HSW:=Lib.hid (Nat.le_trans HBB.out.size hG.size)
      clear hG hvl
      match k,hki with
      | 0,hki=>
        obtain rfl:i=1:=by simpa using hki.symm
        refine opStep (by kernel_rfl) (fun o ho K' hK=>?_)
        simp only [List.getElem?_toArray,List.getElem?_cons_succ,List.getElem?_cons_zero,Option.some.injEq] at ho;subst ho
        have fc0:=HKW.out.cell 7 rfl
        go_simp
        exact hK.out _ _ ⟨_,rfl,rfl,(fun h=>by cases h),Below.refl _ _,HG.out⟩
      | 1,hki=>
        obtain rfl:i=2:=by simpa using hki.symm
        obtain rfl:v0=.slice s.1 s.2.1 s.2.2:=hF 0 v0 (need_spec (i:=2) (j:=0) (by kernel_rfl) hpl hok hrd) rfl
        refine opStep (by kernel_rfl) (fun o ho K' hK=>?_)
        simp only [List.getElem?_toArray,List.getElem?_cons_succ,List.getElem?_cons_zero,Option.some.injEq] at ho;subst ho
        go_simp
        go_at_call 112
        refine(eachI_r w.heap.size s xs _ (HCW.out.1) HSW.out HN.out.1 HX.out.1).mono ?_
        rintro e w' ⟨⟨n,rfl,hr⟩,hb⟩
        exact hK.out _ _ ⟨_,rfl,⟨n,rfl,hr.weakB HG.out.size⟩,(fun h=>by cases h),hb,HG.out.trans (hb.mono HG.out.size)⟩
      | 2,hki=>
        obtain rfl:i=4:=by simpa using hki.symm
        refine opStep (by kernel_rfl) (fun o ho K' hK=>?_)
        simp only [List.getElem?_toArray,List.getElem?_cons_succ,List.getElem?_cons_zero,Option.some.injEq] at ho;subst ho
        have fc0:=HKW.out.cell 8 rfl
        go_simp
        exact hK.out _ _ ⟨_,rfl,rfl,(fun h=>by cases h),Below.refl _ _,HG.out⟩
      | 3,hki=>
        obtain rfl:i=5:=by simpa using hki.symm
        obtain rfl:v2=.slice d.1 d.2.1 d.2.2:=hF 2 v2 (need_spec (i:=5) (j:=2) (by kernel_rfl) hpl hok hrd) rfl
        refine opStep (by kernel_rfl) (fun o ho K' hK=>?_)
        simp only [List.getElem?_toArray,List.getElem?_cons_succ,List.getElem?_cons_zero,Option.some.injEq] at ho;subst ho
        go_simp
        go_at_call 112
        refine(eachI_r w.heap.size d ys _ (HCW.out.2.1) HSW.out HN.out.2.1 HX.out.2.1).mono ?_
        rintro e w' ⟨⟨n,rfl,hr⟩,hb⟩
        exact hK.out _ _ ⟨_,rfl,⟨n,rfl,hr.weakB HG.out.size⟩,(fun h=>by cases h),hb,HG.out.trans (hb.mono HG.out.size)⟩
      | 4,hki=>
        obtain rfl:i=7:=by simpa using hki.symm
        refine opStep (by kernel_rfl) (fun o ho K' hK=>?_)
        simp only [List.getElem?_toArray,List.getElem?_cons_succ,List.getElem?_cons_zero,Option.some.injEq] at ho;subst ho
        have fc0:=HKW.out.cell 9 rfl
        go_simp
        exact hK.out _ _ ⟨_,rfl,rfl,(fun h=>by cases h),Below.refl _ _,HG.out⟩
      | 5,hki=>
        obtain rfl:i=8:=by simpa using hki.symm
        obtain rfl:v4=.slice x.1 x.2.1 x.2.2:=hF 4 v4 (need_spec (i:=8) (j:=4) (by kernel_rfl) hpl hok hrd) rfl
        refine opStep (by kernel_rfl) (fun o ho K' hK=>?_)
        simp only [List.getElem?_toArray,List.getElem?_cons_succ,List.getElem?_cons_zero,Option.some.injEq] at ho;subst ho
        go_simp
        go_at_call 112
        refine(eachI_r w.heap.size x zs _ (HCW.out.2.2) HSW.out HN.out.2.2 HX.out.2.2).mono ?_
        rintro e w' ⟨⟨n,rfl,hr⟩,hb⟩
        exact hK.out _ _ ⟨_,rfl,⟨n,rfl,hr.weakB HG.out.size⟩,(fun h=>by cases h),hb,HG.out.trans (hb.mono HG.out.size)⟩
      | 6,hki=>
        obtain rfl:i=9:=by simpa using hki.symm
        refine opStep (by kernel_rfl) (fun o ho K' hK=>?_)
        simp only [List.getElem?_toArray,List.getElem?_cons_succ,List.getElem?_cons_zero,Option.some.injEq] at ho;subst ho
        go_simp
        exact hK.out _ _ ⟨_,rfl,rfl,(fun h=>by cases h),Below.refl _ _,HG.out⟩
      | k+7,hki=>simp at hki
    · intro vs W hvl hF hD hG
      obtain⟨v0,v1,v2,v3,v4,v5,v6,rfl⟩:=len7 hvl
      obtain⟨s',e1,HS'⟩:=hF 1 v1 (by decide) rfl
      obtain⟨d',e3,HD'⟩:=hF 3 v3 (by decide) rfl
      obtain⟨x',e5,HX'⟩:=hF 5 v5 (by decide) rfl
      have e6:v6=.pointer (some ⟨w.heap.size,7,none⟩):=hF 6 v6 (by decide) rfl
      subst e1 e3 e5 e6
      have HKW:=Lib.hid (HKA.out.later hG)
      have HKR:=Lib.hid (HKB.out.later hG)
      have HBW:=Lib.hid (HBB.out.trans (hG.mono HBB.out.size))
      have HRS:=Lib.hid HS'
      have HRD:=Lib.hid HD'
      have HRX:=Lib.hid HX'
      have HS5:=Lib.hid (show W1.heap.size<W5.heap.size from HKB.out.lt)
      have HWL:=Lib.hid hG.size
      clear hG hF hD hvl HS' HD' HX'
      have p7:=HKW.out.cell 7 rfl
      have p8:=HKW.out.cell 8 rfl
      have p9:=HKW.out.cell 9 rfl
      have f7:=HKW.out.free 7
      have f8:=HKW.out.free 8
      have f9:=HKW.out.free 9
      refine callH 10 (by kernel_rfl) (by kernel_rfl) (fun o ho K' hK=>?_)
      simp only [List.getElem?_toArray,List.getElem?_cons_succ,List.getElem?_cons_zero,Option.some.injEq] at ho;subst ho
      go_simp
      refine hK.out _ _ trivial (fun _=>?_)
      try simp only [Act.put,List.setIfInBounds_toArray,List.set_cons_zero,List.set_cons_succ]
      refine takeH 11 21 ?_ (by kernel_rfl) (by kernel_rfl) (by kernel_rfl) (by kernel_rfl) (fun _ _ _ h=>h) (by kernel_rfl) (fun o ho w hSw=>?_) (by trivial) ?_
      rotate_left
      · (simp only [List.getElem?_toArray,List.getElem?_cons_succ,List.getElem?_cons_zero,Option.some.injEq] at ho;subst ho;(try dsimp only at hSw);go_simp;try with_reducible rfl)
      try simp only [Act.put,List.setIfInBounds_toArray,List.set_cons_zero,List.set_cons_succ]
      refine callH 12 (by kernel_rfl) (by kernel_rfl) (fun o ho K' hK=>?_)
      simp only [List.getElem?_toArray,List.getElem?_cons_succ,List.getElem?_cons_zero,Option.some.injEq] at ho;subst ho
      go_simp
      refine hK.out _ _ trivial (fun _=>?_)
      try simp only [Act.put,List.setIfInBounds_toArray,List.set_cons_zero,List.set_cons_succ]
      refine takeH 13 22 ?_ (by kernel_rfl) (by kernel_rfl) (by kernel_rfl) (by kernel_rfl) (fun _ _ _ h=>h) (by kernel_rfl) (fun o ho w hSw=>?_) (by trivial) ?_
      rotate_left
      · (simp only [List.getElem?_toArray,List.getElem?_cons_succ,List.getElem?_cons_zero,Option.some.injEq] at ho;subst ho;(try dsimp only at hSw);go_simp;try with_reducible rfl)
      try simp only [Act.put,List.setIfInBounds_toArray,List.set_cons_zero,List.set_cons_succ]
      refine callH 14 (by kernel_rfl) (by kernel_rfl) (fun o ho K' hK=>?_)
      simp only [List.getElem?_toArray,List.getElem?_cons_succ,List.getElem?_cons_zero,Option.some.injEq] at ho;subst ho
      go_simp
      refine hK.out _ _ trivial (fun _=>?_)
      try simp only [Act.put,List.setIfInBounds_toArray,List.set_cons_zero,List.set_cons_succ]
      refine wpAnyH_done (by kernel_rfl) ?_ _
      clear p7 p8 p9 f7 f8 f9
      have HKE:=Lib.hid (show Blk (((W.setCell ⟨w.heap.size,7,none⟩ (Value.slice s'.1 s'.2.1 s'.2.2)).setCell ⟨w.heap.size,8,none⟩ (Value.slice d'.1 d'.2.1 d'.2.2)).setCell ⟨w.heap.size,9,none⟩ (Value.slice x'.1 x'.2.1 x'.2.2)) w.heap.size 25 #[.int .i64 i0,.int .i64 i1,.int .i64 i2,.int .i64 i3,.int .i64 i4,.slice (some ⟨gm,0,none⟩) 0 0,.slice (some ⟨gc,0,none⟩) 0 0,.slice s'.1 s'.2.1 s'.2.2,.slice d'.1 d'.2.1 d'.2.2,.slice x'.1 x'.2.1 x'.2.2] from((HKW.out.putI 7 _).putI 8 _).putI 9 _)
      have HOS:=Lib.hid (show Only [some w.heap.size] W (((W.setCell ⟨w.heap.size,7,none⟩ (Value.slice s'.1 s'.2.1 s'.2.2)).setCell ⟨w.heap.size,8,none⟩ (Value.slice d'.1 d'.2.1 d'.2.2)).setCell ⟨w.heap.size,9,none⟩ (Value.slice x'.1 x'.2.1 x'.2.2)) from((Only.set (S:=[some w.heap.size]) (by simp) _ _ _).trans (Only.set (by simp) _ _ _)).trans (Only.set (by simp) _ _ _))
      have HSZ:=Lib.hid (show(((W.setCell ⟨w.heap.size,7,none⟩ (Value.slice s'.1 s'.2.1 s'.2.2)).setCell ⟨w.heap.size,8,none⟩ (Value.slice d'.1 d'.2.1 d'.2.2)).setCell ⟨w.heap.size,9,none⟩ (Value.slice x'.1 x'.2.1 x'.2.2)).heap.size=W.heap.size by simp)
      generalize (((W.setCell ⟨w.heap.size,7,none⟩ (Value.slice s'.1 s'.2.1 s'.2.2)).setCell ⟨w.heap.size,8,none⟩ (Value.slice d'.1 d'.2.1 d'.2.2)).setCell ⟨w.heap.size,9,none⟩ (Value.slice x'.1 x'.2.1 x'.2.2))=W6 at HKE HOS HSZ ⊢
      have HB6:=Lib.hid (andOnlyB HBW.out HBW.out.size HOS.out)
      have HKF:=Lib.hid (HKR.out.only HOS.out (by simp;have:=HL.out;omega))
      have p0:=HKE.out.cell 0 rfl
      have p1:=HKE.out.cell 1 rfl
      have p2:=HKE.out.cell 2 rfl
      have p3:=HKE.out.cell 3 rfl
      have p4:=HKE.out.cell 4 rfl
      have p5:=HKE.out.cell 5 rfl
      have p6:=HKE.out.cell 6 rfl
      have p7:=HKE.out.cell 7 rfl
      have p8:=HKE.out.cell 8 rfl
      have p9:=HKE.out.cell 9 rfl
      have z0:=HKF.out.cell 0 rfl
      have z1:=HKF.out.cell 1 rfl
      have z2:=HKF.out.cell 2 rfl
      have z3:=HKF.out.cell 3 rfl
      have z4:=HKF.out.cell 4 rfl
      have z5:=HKF.out.cell 5 rfl
      have z6:=HKF.out.cell 6 rfl
      have z7:=HKF.out.cell 7 rfl
      have z8:=HKF.out.cell 8 rfl
      have z9:=HKF.out.cell 9 rfl
      have y0:=HKF.out.free 0
      have y1:=HKF.out.free 1
      have y2:=HKF.out.free 2
      have y3:=HKF.out.free 3
      have y4:=HKF.out.free 4
      have y5:=HKF.out.free 5
      have y6:=HKF.out.free 6
      have y7:=HKF.out.free 7
      have y8:=HKF.out.free 8
      have y9:=HKF.out.free 9
      have HON:=Lib.hid (show Only [some w.heap.size,some W1.heap.size] W ((((((((((W6.setCell ⟨W1.heap.size,0,none⟩ (Value.int .i64 i0)).setCell ⟨W1.heap.size,1,none⟩ (Value.int .i64 i1)).setCell ⟨W1.heap.size,2,none⟩ (Value.int .i64 i2)).setCell ⟨W1.heap.size,3,none⟩ (Value.int .i64 i3)).setCell ⟨W1.heap.size,4,none⟩ (Value.int .i64 i4)).setCell ⟨W1.heap.size,5,none⟩ (Value.slice (some ⟨gm,0,none⟩) 0 0)).setCell ⟨W1.heap.size,6,none⟩ (Value.slice (some ⟨gc,0,none⟩) 0 0)).setCell ⟨W1.heap.size,7,none⟩ (Value.slice s'.1 s'.2.1 s'.2.2)).setCell ⟨W1.heap.size,8,none⟩ (Value.slice d'.1 d'.2.1 d'.2.2)).setCell ⟨W1.heap.size,9,none⟩ (Value.slice x'.1 x'.2.1 x'.2.2)) from(HOS.out.weak (by intro j hj;simp at hj ⊢;exact Or.inl hj)).trans ((((((((((Only.set (by simp) 0 _ _).trans (Only.set (by simp) 1 _ _)).trans (Only.set (by simp) 2 _ _)).trans (Only.set (by simp) 3 _ _)).trans (Only.set (by simp) 4 _ _)).trans (Only.set (by simp) 5 _ _)).trans (Only.set (by simp) 6 _ _)).trans (Only.set (by simp) 7 _ _)).trans (Only.set (by simp) 8 _ _)).trans (Only.set (by simp) 9 _ _)))
      have HBQ:=Lib.hid (show Below w.heap.size w ((((((((((W6.setCell ⟨W1.heap.size,0,none⟩ (Value.int .i64 i0)).setCell ⟨W1.heap.size,1,none⟩ (Value.int .i64 i1)).setCell ⟨W1.heap.size,2,none⟩ (Value.int .i64 i2)).setCell ⟨W1.heap.size,3,none⟩ (Value.int .i64 i3)).setCell ⟨W1.heap.size,4,none⟩ (Value.int .i64 i4)).setCell ⟨W1.heap.size,5,none⟩ (Value.slice (some ⟨gm,0,none⟩) 0 0)).setCell ⟨W1.heap.size,6,none⟩ (Value.slice (some ⟨gc,0,none⟩) 0 0)).setCell ⟨W1.heap.size,7,none⟩ (Value.slice s'.1 s'.2.1 s'.2.2)).setCell ⟨W1.heap.size,8,none⟩ (Value.slice d'.1 d'.2.1 d'.2.2)).setCell ⟨W1.heap.size,9,none⟩ (Value.slice x'.1 x'.2.1 x'.2.2)) from((((((((((HB6.out).setCell (p:=⟨W1.heap.size,0,none⟩) (Nat.le_of_lt HL.out) _).setCell (p:=⟨W1.heap.size,1,none⟩) (Nat.le_of_lt HL.out) _).setCell (p:=⟨W1.heap.size,2,none⟩) (Nat.le_of_lt HL.out) _).setCell (p:=⟨W1.heap.size,3,none⟩) (Nat.le_of_lt HL.out) _).setCell (p:=⟨W1.heap.size,4,none⟩) (Nat.le_of_lt HL.out) _).setCell (p:=⟨W1.heap.size,5,none⟩) (Nat.le_of_lt HL.out) _).setCell (p:=⟨W1.heap.size,6,none⟩) (Nat.le_of_lt HL.out) _).setCell (p:=⟨W1.heap.size,7,none⟩) (Nat.le_of_lt HL.out) _).setCell (p:=⟨W1.heap.size,8,none⟩) (Nat.le_of_lt HL.out) _).setCell (p:=⟨W1.heap.size,9,none⟩) (Nat.le_of_lt HL.out) _)
      have hjS:∀ j,some j∈[some w.heap.size,some W1.heap.size]→j<W5.heap.size:=by intro j hj;simp at hj;have:=HL.out;have:=HS5.out;omega
      have HQS:=Lib.hid ((HRS.out.only HON.out hjS).weakB HBB.out.size)
      have HQD:=Lib.hid ((HRD.out.only HON.out hjS).weakB HBB.out.size)
      have HQX:=Lib.hid ((HRX.out.only HON.out hjS).weakB HBB.out.size)
      clear hjS
      go_wp2_with fail
      exact bodyPost_ret (v:=.agg #[.int .i64 i0,.int .i64 i1,.int .i64 i2,.int .i64 i3,.int .i64 i4,.slice (some ⟨gm,0,none⟩) 0 0,.slice (some ⟨gc,0,none⟩) 0 0,.slice s'.1 s'.2.1 s'.2.2,.slice d'.1 d'.2.1 d'.2.2,.slice x'.1 x'.2.1 x'.2.2]) (by simp [results,Tryz.results63,go_sem, *]) rfl ⟨⟨gm,gc,s',d',x',rfl,HQS.out,HQD.out,HQX.out⟩,HBQ.out⟩
    · match k,h with
      | 0,h=>simp at h
      | 1,h=>simp at h
      | 2,h=>simp at h
      | 3,h=>simp at h
      | 4,h=>simp at h
      | 5,h=>simp at h
      | 6,h=>simp at h
      | k+7,h=>simp at h
  · match k,h with
    | 0,h=>simp at h
    | 1,h=>simp at h
    | 2,h=>simp at h
    | 3,h=>simp at h
    | 4,h=>simp at h
    | k+5,h=>simp at h
end Go.Proofs.YtpnlbjnbgemocaaGreat
