import Derived.Test.YtpnlbjnbgemocaaGreatZCdAToSfGN6
import Derived.Deep.RegionWith
import Derived.Deep.RegionHeld3
import Derived.Deep.DeepCutAuto
namespace Go.Proofs.YtpnlbjnbgemocaaGreat
set_option linter.unusedVariables false
set_option linter.unusedSimpArgs false
set_option maxRecDepth 100000
open Go.RowKit
theorem hasEnough_b (q:InsP)(ho:OkA q)(a m d r:Option Addr×Nat×Nat)(b:Bool)(w:World)(hm:a.2.1≤maxLen)(h:enS q.op a.2.1=b):Calls Tryz.prog 149 #[.agg #[.string q.op,.int .i64 q.dst,.slice a.1 a.2.1 a.2.2,.int .i64 q.k,.int .i64 q.lit.kind,.bool q.lit.neg,.slice m.1 m.2.1 m.2.2,.slice d.1 d.2.1 d.2.2,.string q.lit.name,.int .i64 q.guard,.slice r.1 r.2.1 r.2.2]] w fun e w'=>e=.returned (.bool b)∧Below w.heap.size w w':=by
  subst h;exact hasEnough_t q ho a m d r w hm
theorem hasPlace_b (c:CodeM)(v:CodeV)(B g S N gs gl:Nat)(W L:List Int)(q:InsP)(ho:OkA q)(a m d r:Option Addr×Nat×Nat)(b:Bool)(w:World)(hr:Rd w B g c v S N gs gl W L)(h:plK q.op q.k c.ins c.outs v.mems.2.1 v.conts.2.1 c.crosses=b):Calls Tryz.prog 150 #[.pointer (some ⟨g,0,none⟩),.agg #[.string q.op,.int .i64 q.dst,.slice a.1 a.2.1 a.2.2,.int .i64 q.k,.int .i64 q.lit.kind,.bool q.lit.neg,.slice m.1 m.2.1 m.2.2,.slice d.1 d.2.1 d.2.2,.string q.lit.name,.int .i64 q.guard,.slice r.1 r.2.1 r.2.2]] w fun e w'=>e=.returned (.bool b)∧Below w.heap.size w w':=by
  subst h;exact hasPlace_t c v B g S N gs gl W L q ho a m d r w hr
theorem isEnd_b (op:ByteArray)(b:Bool)(w:World)(h:isEnd op=b):Calls Tryz.prog 154 #[.string op] w fun e w'=>e=.returned (.bool b)∧w'=w:=by
  subst h;exact isEnd_t op w
theorem mayGuard_q (gs S:Nat)(W:List Int)(i:Int)(b:Bool)(w:World)(k:Nat)(hm:BMem w gs (mkB S W))(hS:S≤65536)(h:gdB S W i=b) :
    Calls Tryz.prog 152 #[.slice (some ⟨gs,0,none⟩) S S,.int .i64 i] (w.drewN k) fun e w'=>e=.returned (.bool b)∧w'=w.drewN k:=
  mayGuard_t gs S W i b (w.drewN k) (show BMem (w.drewN k) gs (mkB S W) from hm) hS h
theorem allW_q (A:Option Addr)(n c B:Nat)(xs:List Int)(gs S:Nat)(W:List Int)(b:Bool)(w:World)(k:Nat)(hr:IRow w B A n c xs)(hm:BMem w gs (mkB S W))(hS:S≤65536)(h:xs.all (wrB S W)=b) :
    Calls Tryz.prog 105 #[.slice A n c,.func (.func 153) #[.slice (some ⟨gs,0,none⟩) S S] #[]] (w.drewN k) fun e w'=>e=.returned (.bool b)∧w'=w.drewN k:=
  allW_t A n c B xs gs S W b (w.drewN k) (show IRow (w.drewN k) B A n c xs from hr) (show BMem (w.drewN k) gs (mkB S W) from hm) hS h
theorem Rd.drewN {w:World}{B g:Nat}{c:CodeM}{v:CodeV}{S N gs gl k:Nat}{W L:List Int}(h:Rd w B g c v S N gs gl W L):Rd (w.drewN k) B g c v S N gs gl W L:=h.later (below_drewN (Below.refl _ _))
def wNext (W:List Int)(q:InsP):List Int:=if isEnd q.op=true then W else W++[q.dst]
def StPost (B g:Nat)(c:CodeM)(v:CodeV)(S N gs gl:Nat)(W L:List Int)(q:InsP)(w:World)(e:Ending)(w':World):Prop:=
  ∃ b,e=.returned (.bool b)∧stB c W q=b∧(b=true→Rd w' B g c v S N gs gl (wNext W q) L)∧Below B w w'
theorem st_eq {w:World}{B g:Nat}{c:CodeM}{v:CodeV}{S N gs gl:Nat}{W L:List Int}{q:InsP}{a m d r:Option Addr×Nat×Nat}(hr:Rd w B g c v S N gs gl W L)(hx:InsW w B q a m d r) :
    stB c W q=(enS q.op a.2.1&&plK q.op q.k c.ins c.outs v.mems.2.1 v.conts.2.1 c.crosses&&(decide (r.2.1=0)||mayB q.op)&&(gdB S W q.guard&&q.args.all (wrB S W)&&q.resets.all (wrB S W))&&(isEnd q.op||inB q.dst S)):=by
  unfold stB
  rw [hx.args.1,hx.resets.1,hr.is.mems.1,hr.is.conts.1,hr.slots]
set_option maxHeartbeats 1000000 in
theorem st_zE (B g:Nat)(c:CodeM)(v:CodeV)(S N gs gl:Nat)(W L:List Int)(q:InsP)(ho:OkA q)(a m d r:Option Addr×Nat×Nat)(w:World)(hr:Rd w B g c v S N gs gl W L)(hx:InsW w B q a m d r)(h1:enS q.op a.2.1=true)(h2:plK q.op q.k c.ins c.outs v.mems.2.1 v.conts.2.1 c.crosses=true)(h0:r.2.1=0)(hg:gdB S W q.guard=true)(ha:q.args.all (wrB S W)=true)(hrs:q.resets.all (wrB S W)=true)(he:isEnd q.op=true):Calls Tryz.prog 108 #[.pointer (some ⟨g,0,none⟩),.agg #[.string q.op,.int .i64 q.dst,.slice a.1 a.2.1 a.2.2,.int .i64 q.k,.int .i64 q.lit.kind,.bool q.lit.neg,.slice m.1 m.2.1 m.2.2,.slice d.1 d.2.1 d.2.2,.string q.lit.name,.int .i64 q.guard,.slice r.1 r.2.1 r.2.2]] w (StPost B g c v S N gs gl W L q w):=by
  have HO:=Lib.hid ho
  clear ho
  obtain⟨r1,rn,rc⟩:=r
  obtain rfl:rn=0:=h0
  have HR0:Hid ((r1,0,rc).2.1=(0:Nat)):=Lib.hid rfl
  obtain⟨W1,hW1⟩:∃ W1,W1=w.alloc (.cells #[.string q.op,.int .i64 q.dst,.slice a.1 a.2.1 a.2.2,.int .i64 q.k,.int .i64 q.lit.kind,.bool q.lit.neg,.slice m.1 m.2.1 m.2.2,.slice d.1 d.2.1 d.2.2,.string q.lit.name,.int .i64 q.guard,.slice r1 0 rc] 96):=⟨_,rfl⟩
  have hb1:Below w.heap.size w W1:=by rw [hW1];exact(Below.refl _ _).alloc (Nat.le_refl _) _
  have HX:=Lib.hid (show Blk W1 w.heap.size 96 (ics q a m d (r1,0,rc)) from by rw [hW1];exact Blk.new _ _ _)
  have HR:=Lib.hid (hr.later hb1)
  have HB:=Lib.hid (hb1.mono hr.hB)
  have HW:=Lib.hid (hx.keep HB.out)
  have HV:=Lib.hid (st_eq hr hx)
  have HGW:Hid (gs<w.heap.size):=Lib.hid hr.ms.lt
  have hma:=hx.args.len_le
  have hmr:=hx.resets.len_le
  have HMA:=Lib.hid hma
  have hq0:w.heap.size<W1.heap.size:=HX.out.lt
  have H1:=Lib.hid h1
  clear h1
  have H2:=Lib.hid h2
  clear h2
  have HG:=Lib.hid hg
  clear hg
  have HA:=Lib.hid ha
  clear ha
  have HRS:=Lib.hid hrs
  clear hrs
  have HE:=Lib.hid he
  clear he
  unfold maxLen at hma hmr
  obtain⟨x0,x1,x2,x3,x4,x5,x6,x7,x8,x9,x10⟩:=HX.out.elev
  obtain⟨n0,n1,n2,n3,n4,n5,n6,n7,n8,n9,n10,n11⟩:=HR.out.cells
  clear n0 n1 n2 n3 n4 n5 n6 n7 n8 n9 hb1 hr hx
  go_enter Tryz.func108,Tryz.ntmps108
  go_upto_region 1 with fail
  rw [←hW1]
  clear hW1
  go_upto_region 3 with (first | (go_at_call 149;(with_reducible refine(hasEnough_b q HO.out a m d (r1,0,rc) true _ HMA.out H1.out).mono ?_);rintro e w2 ⟨rfl,hb2⟩;have HX:=Lib.hid (HX.out.later hb2);have HW:=Lib.hid (HW.out.keep (hb2.mono HR.out.hB));have HB:=Lib.hid (HB.out.trans (hb2.mono HR.out.hB));have HR:=Lib.hid (HR.out.later hb2);clear hb2 x0 x1 x2 x3 x4 x5 x6 x7 x8 x9 x10 n10 n11 hq0;obtain⟨x0,x1,x2,x3,x4,x5,x6,x7,x8,x9,x10⟩:=HX.out.elev;obtain⟨n0,n1,n2,n3,n4,n5,n6,n7,n8,n9,n10,n11⟩:=HR.out.cells;clear n0 n1 n2 n3 n4 n5 n6 n7 n8 n9;have hq0:=HX.out.lt) | (go_at_call 150;(with_reducible refine(hasPlace_b c v B g S N gs gl W L q HO.out a m d (r1,0,rc) true _ HR.out H2.out).mono ?_);rintro e w3 ⟨rfl,hb3⟩;have HX:=Lib.hid (HX.out.later hb3);have HW:=Lib.hid (HW.out.keep (hb3.mono HR.out.hB));have HB:=Lib.hid (HB.out.trans (hb3.mono HR.out.hB));have HR:=Lib.hid (HR.out.later hb3);clear hb3 x0 x1 x2 x3 x4 x5 x6 x7 x8 x9 x10 n10 n11 hq0;obtain⟨x0,x1,x2,x3,x4,x5,x6,x7,x8,x9,x10⟩:=HX.out.elev;obtain⟨n0,n1,n2,n3,n4,n5,n6,n7,n8,n9,n10,n11⟩:=HR.out.cells;clear n0 n1 n2 n3 n4 n5 n6 n7 n8 n9;have hq0:=HX.out.lt))
  have HMS:=Lib.hid HR.out.ms
  have HSS:=Lib.hid HR.out.sS
  have HWA:=Lib.hid HW.out.args
  have HWR:=Lib.hid HW.out.resets
  go_quiet ((first | (go_at_call 152;exact Calls.quiet_of_same (mayGuard_q gs S W q.guard true _ _ HMS.out HSS.out HG.out)) | (go_at_call 105;with_reducible exact Calls.quiet_of_same (allW_q a.1 a.2.1 a.2.2 B q.args gs S W true _ _ HWA.out HMS.out HSS.out HA.out)) | (go_at_call 105;with_reducible exact Calls.quiet_of_same (allW_q r1 0 rc B q.resets gs S W true _ _ HWR.out HMS.out HSS.out HRS.out))))
  go_upto_region 5 with fail
  generalize hw5:World.drewN _ _=w5
  have HB5:=Lib.hid (show Below B w w5 from by rw [←hw5];exact below_drewN HB.out)
  have HR5:=Lib.hid (show Rd w5 B g c v S N gs gl W L from by rw [←hw5];exact HR.out.drewN)
  have HX5:=Lib.hid (show Blk w5 w.heap.size 96 (ics q a m d (r1,0,rc)) from by rw [←hw5];exact HX.out)
  clear hw5 x0 x1 x2 x3 x4 x5 x6 x7 x8 x9 x10 n10 n11
  have n10:=HR5.out.blk.cell 10 rfl
  obtain⟨x0,x1,x2,x3,x4,x5,x6,x7,x8,x9,x10⟩:=HX5.out.elev
  go_quiet ((go_at_call 154;exact Calls.quiet_of_same (isEnd_b q.op true _ HE.out)))
  go_wp2
  go_ret
  exact⟨true,rfl,by rw [HV.out,H1.out,H2.out,decide_eq_true HR0.out,HG.out,HA.out,HRS.out,HE.out];simp,fun _=>by unfold wNext;rw [if_pos HE.out];exact HR5.out.drewN,below_drewN HB5.out⟩
set_option maxHeartbeats 1000000 in
theorem st_zT (B g:Nat)(c:CodeM)(v:CodeV)(S N gs gl:Nat)(W L:List Int)(q:InsP)(ho:OkA q)(a m d r:Option Addr×Nat×Nat)(w:World)(hr:Rd w B g c v S N gs gl W L)(hx:InsW w B q a m d r)(h1:enS q.op a.2.1=true)(h2:plK q.op q.k c.ins c.outs v.mems.2.1 v.conts.2.1 c.crosses=true)(h0:r.2.1=0)(hg:gdB S W q.guard=true)(ha:q.args.all (wrB S W)=true)(hrs:q.resets.all (wrB S W)=true)(he:isEnd q.op=false)(hi:inB q.dst S=true):Calls Tryz.prog 108 #[.pointer (some ⟨g,0,none⟩),.agg #[.string q.op,.int .i64 q.dst,.slice a.1 a.2.1 a.2.2,.int .i64 q.k,.int .i64 q.lit.kind,.bool q.lit.neg,.slice m.1 m.2.1 m.2.2,.slice d.1 d.2.1 d.2.2,.string q.lit.name,.int .i64 q.guard,.slice r.1 r.2.1 r.2.2]] w (StPost B g c v S N gs gl W L q w):=by
  have HO:=Lib.hid ho
  clear ho
  obtain⟨r1,rn,rc⟩:=r
  obtain rfl:rn=0:=h0
  have HR0:Hid ((r1,0,rc).2.1=(0:Nat)):=Lib.hid rfl
  obtain⟨W1,hW1⟩:∃ W1,W1=w.alloc (.cells #[.string q.op,.int .i64 q.dst,.slice a.1 a.2.1 a.2.2,.int .i64 q.k,.int .i64 q.lit.kind,.bool q.lit.neg,.slice m.1 m.2.1 m.2.2,.slice d.1 d.2.1 d.2.2,.string q.lit.name,.int .i64 q.guard,.slice r1 0 rc] 96):=⟨_,rfl⟩
  have hb1:Below w.heap.size w W1:=by rw [hW1];exact(Below.refl _ _).alloc (Nat.le_refl _) _
  have HX:=Lib.hid (show Blk W1 w.heap.size 96 (ics q a m d (r1,0,rc)) from by rw [hW1];exact Blk.new _ _ _)
  have HR:=Lib.hid (hr.later hb1)
  have HB:=Lib.hid (hb1.mono hr.hB)
  have HW:=Lib.hid (hx.keep HB.out)
  have HV:=Lib.hid (st_eq hr hx)
  have HGW:Hid (gs<w.heap.size):=Lib.hid hr.ms.lt
  have hma:=hx.args.len_le
  have hmr:=hx.resets.len_le
  have HMA:=Lib.hid hma
  have hq0:w.heap.size<W1.heap.size:=HX.out.lt
  have H1:=Lib.hid h1
  clear h1
  have H2:=Lib.hid h2
  clear h2
  have HG:=Lib.hid hg
  clear hg
  have HA:=Lib.hid ha
  clear ha
  have HRS:=Lib.hid hrs
  clear hrs
  have HE:=Lib.hid he
  clear he
  obtain⟨j,hj,hjS⟩:=inB_yes hi
  have HI:=Lib.hid hi
  have HJ:=Lib.hid hj
  clear hi hj
  unfold maxLen at hma hmr
  obtain⟨x0,x1,x2,x3,x4,x5,x6,x7,x8,x9,x10⟩:=HX.out.elev
  obtain⟨n0,n1,n2,n3,n4,n5,n6,n7,n8,n9,n10,n11⟩:=HR.out.cells
  clear n0 n1 n2 n3 n4 n5 n6 n7 n8 n9 hb1 hr hx
  go_enter Tryz.func108,Tryz.ntmps108
  go_upto_region 1 with fail
  rw [←hW1]
  clear hW1
  go_upto_region 3 with (first | (go_at_call 149;(with_reducible refine(hasEnough_b q HO.out a m d (r1,0,rc) true _ HMA.out H1.out).mono ?_);rintro e w2 ⟨rfl,hb2⟩;have HX:=Lib.hid (HX.out.later hb2);have HW:=Lib.hid (HW.out.keep (hb2.mono HR.out.hB));have HB:=Lib.hid (HB.out.trans (hb2.mono HR.out.hB));have HR:=Lib.hid (HR.out.later hb2);clear hb2 x0 x1 x2 x3 x4 x5 x6 x7 x8 x9 x10 n10 n11 hq0;obtain⟨x0,x1,x2,x3,x4,x5,x6,x7,x8,x9,x10⟩:=HX.out.elev;obtain⟨n0,n1,n2,n3,n4,n5,n6,n7,n8,n9,n10,n11⟩:=HR.out.cells;clear n0 n1 n2 n3 n4 n5 n6 n7 n8 n9;have hq0:=HX.out.lt) | (go_at_call 150;(with_reducible refine(hasPlace_b c v B g S N gs gl W L q HO.out a m d (r1,0,rc) true _ HR.out H2.out).mono ?_);rintro e w3 ⟨rfl,hb3⟩;have HX:=Lib.hid (HX.out.later hb3);have HW:=Lib.hid (HW.out.keep (hb3.mono HR.out.hB));have HB:=Lib.hid (HB.out.trans (hb3.mono HR.out.hB));have HR:=Lib.hid (HR.out.later hb3);clear hb3 x0 x1 x2 x3 x4 x5 x6 x7 x8 x9 x10 n10 n11 hq0;obtain⟨x0,x1,x2,x3,x4,x5,x6,x7,x8,x9,x10⟩:=HX.out.elev;obtain⟨n0,n1,n2,n3,n4,n5,n6,n7,n8,n9,n10,n11⟩:=HR.out.cells;clear n0 n1 n2 n3 n4 n5 n6 n7 n8 n9;have hq0:=HX.out.lt))
  have HMS:=Lib.hid HR.out.ms
  have HSS:=Lib.hid HR.out.sS
  have HWA:=Lib.hid HW.out.args
  have HWR:=Lib.hid HW.out.resets
  go_quiet ((first | (go_at_call 152;exact Calls.quiet_of_same (mayGuard_q gs S W q.guard true _ _ HMS.out HSS.out HG.out)) | (go_at_call 105;with_reducible exact Calls.quiet_of_same (allW_q a.1 a.2.1 a.2.2 B q.args gs S W true _ _ HWA.out HMS.out HSS.out HA.out)) | (go_at_call 105;with_reducible exact Calls.quiet_of_same (allW_q r1 0 rc B q.resets gs S W true _ _ HWR.out HMS.out HSS.out HRS.out))))
  go_upto_region 5 with fail
  generalize hw5:World.drewN _ _=w5
  have HB5:=Lib.hid (show Below B w w5 from by rw [←hw5];exact below_drewN HB.out)
  have HR5:=Lib.hid (show Rd w5 B g c v S N gs gl W L from by rw [←hw5];exact HR.out.drewN)
  have HX5:=Lib.hid (show Blk w5 w.heap.size 96 (ics q a m d (r1,0,rc)) from by rw [←hw5];exact HX.out)
  clear hw5 x0 x1 x2 x3 x4 x5 x6 x7 x8 x9 x10 n10 n11
  have HR6:=Lib.hid HR5.out.drew
  have HX6:=Lib.hid (show Blk w5.drew w.heap.size 96 (ics q a m d (r1,0,rc)) from HX5.out)
  have HP:=Lib.hid (show w5.drew.cell? ⟨g,10,none⟩=some (.slice (some ⟨gs,0,none⟩) S S)∧w5.drew.cell? ⟨w.heap.size,0,none⟩=some (.string q.op)∧w5.drew.cell? ⟨w.heap.size,1,none⟩=some (.int .i64 (j:Int)) from⟨HR6.out.blk.cell 10 rfl,HX6.out.cell 0 rfl,by rw [←HJ.out];exact HX6.out.cell 1 rfl⟩)
  go_region_held3 (fun w'=>w'.cell? ⟨g,10,none⟩=some (.slice (some ⟨gs,0,none⟩) S S)∧w'.cell? ⟨w.heap.size,0,none⟩=some (.string q.op)∧w'.cell? ⟨w.heap.size,1,none⟩=some (.int .i64 (j:Int))) (first | with_reducible exact HP.out | exact HPa.out) (first
    | (go_at_call 154;(with_reducible refine(isEnd_b q.op false _ HE.out).mono ?_);rintro e w6 ⟨rfl,rfl⟩)
    | (go_at_call 155;(with_reducible refine(write_yes gs S W j _ HR6.out.ms HSS.out (by rw [←HJ.out];exact HI.out)).mono ?_);rintro e w7 ⟨rfl,rfl⟩;have HR7:=Lib.hid (HR6.out.putS j);have HPa:=Lib.hid (show(w5.drew.setCell ⟨gs,j,none⟩ (.bool true)).cell? ⟨g,10,none⟩=some (.slice (some ⟨gs,0,none⟩) S S)∧(w5.drew.setCell ⟨gs,j,none⟩ (.bool true)).cell? ⟨w.heap.size,0,none⟩=some (.string q.op)∧(w5.drew.setCell ⟨gs,j,none⟩ (.bool true)).cell? ⟨w.heap.size,1,none⟩=some (.int .i64 (j:Int)) from⟨HR7.out.blk.cell 10 rfl,(World.cell?_of_block (Below.heap_setCell _ _ _ w.heap.size (Nat.ne_of_gt HGW.out))).trans HP.out.2.1,(World.cell?_of_block (Below.heap_setCell _ _ _ w.heap.size (Nat.ne_of_gt HGW.out))).trans HP.out.2.2⟩)))
  go_wp2
  go_ret
  exact⟨true,rfl,by rw [HV.out,H1.out,H2.out,decide_eq_true HR0.out,HG.out,HA.out,HRS.out,HE.out,HI.out];simp,fun _=>by unfold wNext;rw [if_neg (by rw [HE.out];simp),HJ.out];exact HR6.out.putS j,HB5.out.drew.setCell HR5.out.hs _⟩
theorem step_yes (B g:Nat)(c:CodeM)(v:CodeV)(S N gs gl:Nat)(W L:List Int)(q:InsP)(ho:OkA q)(a m d r:Option Addr×Nat×Nat)(w:World)(hr:Rd w B g c v S N gs gl W L)(hx:InsW w B q a m d r)(h:stB c W q=true):Calls Tryz.prog 108 #[.pointer (some ⟨g,0,none⟩),.agg #[.string q.op,.int .i64 q.dst,.slice a.1 a.2.1 a.2.2,.int .i64 q.k,.int .i64 q.lit.kind,.bool q.lit.neg,.slice m.1 m.2.1 m.2.2,.slice d.1 d.2.1 d.2.2,.string q.lit.name,.int .i64 q.guard,.slice r.1 r.2.1 r.2.2]] w fun e w'=>e=.returned (.bool true)∧Rd w' B g c v S N gs gl (wNext W q) L∧Below B w w':=by
  have h0:r.2.1=0:=by rw [←hx.resets.1];exact ho.2
  have he:=st_eq hr hx
  rw [h] at he
  have he:=he.symm
  simp only [Bool.and_eq_true] at he
  obtain⟨⟨⟨⟨h1,h2⟩,-⟩,⟨hg,ha⟩,hrs⟩,hi⟩:=he
  have k:Calls Tryz.prog 108 #[.pointer (some ⟨g,0,none⟩),.agg #[.string q.op,.int .i64 q.dst,.slice a.1 a.2.1 a.2.2,.int .i64 q.k,.int .i64 q.lit.kind,.bool q.lit.neg,.slice m.1 m.2.1 m.2.2,.slice d.1 d.2.1 d.2.2,.string q.lit.name,.int .i64 q.guard,.slice r.1 r.2.1 r.2.2]] w (StPost B g c v S N gs gl W L q w):=by
    cases hq:isEnd q.op with
    | true=>exact st_zE B g c v S N gs gl W L q ho a m d r w hr hx h1 h2 h0 hg ha hrs hq
    | false=>
      rw [hq] at hi
      exact st_zT B g c v S N gs gl W L q ho a m d r w hr hx h1 h2 h0 hg ha hrs hq (by simpa using hi)
  exact k.mono fun e w' ⟨b,h1,h2,h3,h4⟩=>⟨by rw [h1,←h2,h],h3 (by rw [←h2,h]),h4⟩
end Go.Proofs.YtpnlbjnbgemocaaGreat
