import Derived.Test.YtpnlbjnbgemocaaGreatZExWEyGExD
import Derived.Deep.DeepCutAuto
namespace Go.Proofs.YtpnlbjnbgemocaaGreat
set_option linter.unusedVariables false
set_option linter.unusedSimpArgs false
set_option maxRecDepth 100000
open Go.RowKit Nums
theorem len6 {vs:List Value}(h:vs.length=6):∃ v0 v1 v2 v3 v4 v5,vs=[v0,v1,v2,v3,v4,v5]:=by
  match vs,h with
  | [v0,v1,v2,v3,v4,v5],_=>exact⟨v0,v1,v2,v3,v4,v5,rfl⟩
set_option maxHeartbeats 16000000 in
theorem new_t (c:CodeM)(S O Ln:Nat)(ma ca:Option Addr)(mn mc cn cc:Nat)(s d x:Option Addr×Nat×Nat)(w:World)(h:CodeIs w w.heap.size c ⟨(ma,mn,mc),(ca,cn,cc),s,d,x⟩)(hm:c.mems=[])(hc:c.conts=[])(hS:c.slots=(S:Int))(hO:c.outs=(O:Int))(hLn:c.lines=(Ln:Int))(hR:RightC c)(hA:∀(i:Nat) (x:InsP),c.step[i]?=some x→OkA x)(hD:c.deriv=[])(hX:c.cross=[])
    (hn:s.2.1≤100000∧d.2.1≤100000∧x.2.1≤100000) (hl:SmallIns c.step∧SmallIns c.deriv∧SmallIns c.cross) (hb0:S≤1000000∧O≤1000000∧Ln≤1000000) :
    Calls Tryz.prog 30 #[codeV c ⟨(ma,mn,mc),(ca,cn,cc),s,d,x⟩] w fun e w'=>(∃(C g sb mb cb ob rb lb gm gc:Nat) (s' d' x':Option Addr×Nat×Nat),e=.returned (.tuple #[.pointer (some ⟨g,0,none⟩),.int .i64 0])∧Blk w' g 65 #[.int .i64 0,.bool false,.bool false,.bool true,.int .i64 c.ins,.int .i64 (O:Int),.int .i64 (S:Int),.int .i64 c.crosses,.int .i64 (Ln:Int),.slice (some ⟨gm,0,none⟩) 0 0,.slice (some ⟨gc,0,none⟩) 0 0,.slice s'.1 s'.2.1 s'.2.2,.slice d'.1 d'.2.1 d'.2.2,.slice x'.1 x'.2.1 x'.2.2,.slice (some ⟨sb,0,none⟩) S S,.slice (some ⟨mb,0,none⟩) 0 0,.slice (some ⟨cb,0,none⟩) 0 0,.slice (some ⟨ob,0,none⟩) O O,.slice (some ⟨rb,0,none⟩) 0 0,.slice (some ⟨lb,0,none⟩) Ln Ln,.bool false,.slice none 0 0]∧RowC w' C s' c.step∧RowC w' C d' c.deriv∧RowC w' C x' c.cross∧Blk w' sb 51 (madeCells zVal (S*5))∧Blk w' ob 51 (madeCells zVal (O*5))∧sb≠ob∧C≤sb∧C≤ob∧sb<g∧ob<g∧w.heap.size≤C)∧Below w.heap.size w w':=by
  have hmn:mn=0:=by have:=h.mems.1;rw [hm] at this;exact this.symm
  have hcn:cn=0:=by have:=h.conts.1;rw [hc] at this;exact this.symm
  subst hmn hcn
  have HRT:=Lib.hid (fun(W:World) (hb:Below w.heap.size w W)=>sright_t w.heap.size c _ W (h.below hb) hb.size hR hA hD hX)
  have HOC:=Lib.hid (fun(W:World) (hb:Below w.heap.size w W)=>ownCode_t c.ins O S c.crosses Ln ma ca mc cc s d x c.step c.deriv c.cross W ((h.below hb).more hb.size).step ((h.below hb).more hb.size).deriv ((h.below hb).more hb.size).cross hn hl)
  have HBS:=Lib.hid hb0
  have HRC:=Lib.hid hR
  obtain⟨W1,hW1⟩:∃ W1,W1=w.alloc (.cells #[.int .i64 c.ins,.int .i64 (O:Int),.int .i64 (S:Int),.int .i64 c.crosses,.int .i64 (Ln:Int),.slice ma 0 mc,.slice ca 0 cc,.slice s.1 s.2.1 s.2.2,.slice d.1 d.2.1 d.2.2,.slice x.1 x.2.1 x.2.2] 25):=⟨_,rfl⟩
  have HB1:=Lib.hid (show Below w.heap.size w W1 by rw [hW1];exact(Below.refl _ _).alloc (Nat.le_refl _) _)
  have HK1:=Lib.hid (show Blk W1 w.heap.size 25 #[.int .i64 c.ins,.int .i64 (O:Int),.int .i64 (S:Int),.int .i64 c.crosses,.int .i64 (Ln:Int),.slice ma 0 mc,.slice ca 0 cc,.slice s.1 s.2.1 s.2.2,.slice d.1 d.2.1 d.2.2,.slice x.1 x.2.1 x.2.2] by rw [hW1];exact Blk.new _ _ _)
  have HW1:=Lib.hid hW1
  clear h hm hc hR hA hD hX hn hl hb0 hW1
  unfold codeV at HRT ⊢
  simp only [hS,hO,hLn] at HRT ⊢
  clear hS hO hLn
  have p0:=HK1.out.cell 0 rfl
  have p1:=HK1.out.cell 1 rfl
  have p2:=HK1.out.cell 2 rfl
  have p3:=HK1.out.cell 3 rfl
  have p4:=HK1.out.cell 4 rfl
  have p5:=HK1.out.cell 5 rfl
  have p6:=HK1.out.cell 6 rfl
  have p7:=HK1.out.cell 7 rfl
  have p8:=HK1.out.cell 8 rfl
  have p9:=HK1.out.cell 9 rfl
  go_enter Tryz.func30,Tryz.ntmps30
  go_upto_region 1 with fail
  rw [←HW1.out];clear HW1
  go_upto_region 3 with (go_at_call 62;(with_reducible refine(HRT.out _ HB1.out).mono ?_);rintro e w3 ⟨b,rfl,hb,hb3⟩;obtain rfl:=hb.2 HRC.out;have HB3:=Lib.hid (HB1.out.trans (hb3.mono HB1.out.size));have HK3:=Lib.hid (HK1.out.later hb3);clear hb hb3 p0 p1 p2 p3 p4 p5 p6 p7 p8 p9;have p0:=HK3.out.cell 0 rfl;have p1:=HK3.out.cell 1 rfl;have p2:=HK3.out.cell 2 rfl;have p3:=HK3.out.cell 3 rfl;have p4:=HK3.out.cell 4 rfl;have p5:=HK3.out.cell 5 rfl;have p6:=HK3.out.cell 6 rfl;have p7:=HK3.out.cell 7 rfl;have p8:=HK3.out.cell 8 rfl;have p9:=HK3.out.cell 9 rfl)
  go_upto_region 4 with (go_at_call 63;(with_reducible refine(HOC.out _ HB3.out).mono ?_);rintro e w4 ⟨⟨gm,gc,s',d',x',rfl,hs,hd,hx⟩,hb4⟩;have HB4:=Lib.hid (HB3.out.trans (hb4.mono HB3.out.size));have HKW:=Lib.hid (HK3.out.later hb4);have HRS:=Lib.hid hs;have HRD:=Lib.hid hd;have HRX:=Lib.hid hx;have HLT:=Lib.hid (show w.heap.size<w3.heap.size from HK3.out.lt);clear hb4 hs hd hx p0 p1 p2 p3 p4 p5 p6 p7 p8 p9;have q0:=HKW.out.cell 0 rfl;have f0:=HKW.out.free 0;have q1:=HKW.out.cell 1 rfl;have f1:=HKW.out.free 1;have q2:=HKW.out.cell 2 rfl;have f2:=HKW.out.free 2;have q3:=HKW.out.cell 3 rfl;have f3:=HKW.out.free 3;have q4:=HKW.out.cell 4 rfl;have f4:=HKW.out.free 4;have q5:=HKW.out.cell 5 rfl;have f5:=HKW.out.free 5;have q6:=HKW.out.cell 6 rfl;have f6:=HKW.out.free 6;have q7:=HKW.out.cell 7 rfl;have f7:=HKW.out.free 7;have q8:=HKW.out.cell 8 rfl;have f8:=HKW.out.free 8;have q9:=HKW.out.cell 9 rfl;have f9:=HKW.out.free 9)
  have b0:Blk (w4.setCell ⟨w.heap.size,0,none⟩ (Value.int .i64 c.ins)) w.heap.size 25 #[.int .i64 c.ins,.int .i64 (O:Int),.int .i64 (S:Int),.int .i64 c.crosses,.int .i64 (Ln:Int),.slice ma 0 mc,.slice ca 0 cc,.slice s.1 s.2.1 s.2.2,.slice d.1 d.2.1 d.2.2,.slice x.1 x.2.1 x.2.2]:=HKW.out.putI 0 _
  have b1:Blk ((w4.setCell ⟨w.heap.size,0,none⟩ (Value.int .i64 c.ins)).setCell ⟨w.heap.size,1,none⟩ (Value.int .i64 (O:Int))) w.heap.size 25 #[.int .i64 c.ins,.int .i64 (O:Int),.int .i64 (S:Int),.int .i64 c.crosses,.int .i64 (Ln:Int),.slice ma 0 mc,.slice ca 0 cc,.slice s.1 s.2.1 s.2.2,.slice d.1 d.2.1 d.2.2,.slice x.1 x.2.1 x.2.2]:=b0.putI 1 _
  have b2:Blk (((w4.setCell ⟨w.heap.size,0,none⟩ (Value.int .i64 c.ins)).setCell ⟨w.heap.size,1,none⟩ (Value.int .i64 (O:Int))).setCell ⟨w.heap.size,2,none⟩ (Value.int .i64 (S:Int))) w.heap.size 25 #[.int .i64 c.ins,.int .i64 (O:Int),.int .i64 (S:Int),.int .i64 c.crosses,.int .i64 (Ln:Int),.slice ma 0 mc,.slice ca 0 cc,.slice s.1 s.2.1 s.2.2,.slice d.1 d.2.1 d.2.2,.slice x.1 x.2.1 x.2.2]:=b1.putI 2 _
  have b3:Blk ((((w4.setCell ⟨w.heap.size,0,none⟩ (Value.int .i64 c.ins)).setCell ⟨w.heap.size,1,none⟩ (Value.int .i64 (O:Int))).setCell ⟨w.heap.size,2,none⟩ (Value.int .i64 (S:Int))).setCell ⟨w.heap.size,3,none⟩ (Value.int .i64 c.crosses)) w.heap.size 25 #[.int .i64 c.ins,.int .i64 (O:Int),.int .i64 (S:Int),.int .i64 c.crosses,.int .i64 (Ln:Int),.slice ma 0 mc,.slice ca 0 cc,.slice s.1 s.2.1 s.2.2,.slice d.1 d.2.1 d.2.2,.slice x.1 x.2.1 x.2.2]:=b2.putI 3 _
  have b4:Blk (((((w4.setCell ⟨w.heap.size,0,none⟩ (Value.int .i64 c.ins)).setCell ⟨w.heap.size,1,none⟩ (Value.int .i64 (O:Int))).setCell ⟨w.heap.size,2,none⟩ (Value.int .i64 (S:Int))).setCell ⟨w.heap.size,3,none⟩ (Value.int .i64 c.crosses)).setCell ⟨w.heap.size,4,none⟩ (Value.int .i64 (Ln:Int))) w.heap.size 25 #[.int .i64 c.ins,.int .i64 (O:Int),.int .i64 (S:Int),.int .i64 c.crosses,.int .i64 (Ln:Int),.slice ma 0 mc,.slice ca 0 cc,.slice s.1 s.2.1 s.2.2,.slice d.1 d.2.1 d.2.2,.slice x.1 x.2.1 x.2.2]:=b3.putI 4 _
  have b5:Blk ((((((w4.setCell ⟨w.heap.size,0,none⟩ (Value.int .i64 c.ins)).setCell ⟨w.heap.size,1,none⟩ (Value.int .i64 (O:Int))).setCell ⟨w.heap.size,2,none⟩ (Value.int .i64 (S:Int))).setCell ⟨w.heap.size,3,none⟩ (Value.int .i64 c.crosses)).setCell ⟨w.heap.size,4,none⟩ (Value.int .i64 (Ln:Int))).setCell ⟨w.heap.size,5,none⟩ (Value.slice (some ⟨gm,0,none⟩) 0 0)) w.heap.size 25 #[.int .i64 c.ins,.int .i64 (O:Int),.int .i64 (S:Int),.int .i64 c.crosses,.int .i64 (Ln:Int),.slice (some ⟨gm,0,none⟩) 0 0,.slice ca 0 cc,.slice s.1 s.2.1 s.2.2,.slice d.1 d.2.1 d.2.2,.slice x.1 x.2.1 x.2.2]:=b4.putI 5 _
  have b6:Blk (((((((w4.setCell ⟨w.heap.size,0,none⟩ (Value.int .i64 c.ins)).setCell ⟨w.heap.size,1,none⟩ (Value.int .i64 (O:Int))).setCell ⟨w.heap.size,2,none⟩ (Value.int .i64 (S:Int))).setCell ⟨w.heap.size,3,none⟩ (Value.int .i64 c.crosses)).setCell ⟨w.heap.size,4,none⟩ (Value.int .i64 (Ln:Int))).setCell ⟨w.heap.size,5,none⟩ (Value.slice (some ⟨gm,0,none⟩) 0 0)).setCell ⟨w.heap.size,6,none⟩ (Value.slice (some ⟨gc,0,none⟩) 0 0)) w.heap.size 25 #[.int .i64 c.ins,.int .i64 (O:Int),.int .i64 (S:Int),.int .i64 c.crosses,.int .i64 (Ln:Int),.slice (some ⟨gm,0,none⟩) 0 0,.slice (some ⟨gc,0,none⟩) 0 0,.slice s.1 s.2.1 s.2.2,.slice d.1 d.2.1 d.2.2,.slice x.1 x.2.1 x.2.2]:=b5.putI 6 _
  have b7:Blk ((((((((w4.setCell ⟨w.heap.size,0,none⟩ (Value.int .i64 c.ins)).setCell ⟨w.heap.size,1,none⟩ (Value.int .i64 (O:Int))).setCell ⟨w.heap.size,2,none⟩ (Value.int .i64 (S:Int))).setCell ⟨w.heap.size,3,none⟩ (Value.int .i64 c.crosses)).setCell ⟨w.heap.size,4,none⟩ (Value.int .i64 (Ln:Int))).setCell ⟨w.heap.size,5,none⟩ (Value.slice (some ⟨gm,0,none⟩) 0 0)).setCell ⟨w.heap.size,6,none⟩ (Value.slice (some ⟨gc,0,none⟩) 0 0)).setCell ⟨w.heap.size,7,none⟩ (Value.slice s'.1 s'.2.1 s'.2.2)) w.heap.size 25 #[.int .i64 c.ins,.int .i64 (O:Int),.int .i64 (S:Int),.int .i64 c.crosses,.int .i64 (Ln:Int),.slice (some ⟨gm,0,none⟩) 0 0,.slice (some ⟨gc,0,none⟩) 0 0,.slice s'.1 s'.2.1 s'.2.2,.slice d.1 d.2.1 d.2.2,.slice x.1 x.2.1 x.2.2]:=b6.putI 7 _
  have b8:Blk (((((((((w4.setCell ⟨w.heap.size,0,none⟩ (Value.int .i64 c.ins)).setCell ⟨w.heap.size,1,none⟩ (Value.int .i64 (O:Int))).setCell ⟨w.heap.size,2,none⟩ (Value.int .i64 (S:Int))).setCell ⟨w.heap.size,3,none⟩ (Value.int .i64 c.crosses)).setCell ⟨w.heap.size,4,none⟩ (Value.int .i64 (Ln:Int))).setCell ⟨w.heap.size,5,none⟩ (Value.slice (some ⟨gm,0,none⟩) 0 0)).setCell ⟨w.heap.size,6,none⟩ (Value.slice (some ⟨gc,0,none⟩) 0 0)).setCell ⟨w.heap.size,7,none⟩ (Value.slice s'.1 s'.2.1 s'.2.2)).setCell ⟨w.heap.size,8,none⟩ (Value.slice d'.1 d'.2.1 d'.2.2)) w.heap.size 25 #[.int .i64 c.ins,.int .i64 (O:Int),.int .i64 (S:Int),.int .i64 c.crosses,.int .i64 (Ln:Int),.slice (some ⟨gm,0,none⟩) 0 0,.slice (some ⟨gc,0,none⟩) 0 0,.slice s'.1 s'.2.1 s'.2.2,.slice d'.1 d'.2.1 d'.2.2,.slice x.1 x.2.1 x.2.2]:=b7.putI 8 _
  have b9:Blk ((((((((((w4.setCell ⟨w.heap.size,0,none⟩ (Value.int .i64 c.ins)).setCell ⟨w.heap.size,1,none⟩ (Value.int .i64 (O:Int))).setCell ⟨w.heap.size,2,none⟩ (Value.int .i64 (S:Int))).setCell ⟨w.heap.size,3,none⟩ (Value.int .i64 c.crosses)).setCell ⟨w.heap.size,4,none⟩ (Value.int .i64 (Ln:Int))).setCell ⟨w.heap.size,5,none⟩ (Value.slice (some ⟨gm,0,none⟩) 0 0)).setCell ⟨w.heap.size,6,none⟩ (Value.slice (some ⟨gc,0,none⟩) 0 0)).setCell ⟨w.heap.size,7,none⟩ (Value.slice s'.1 s'.2.1 s'.2.2)).setCell ⟨w.heap.size,8,none⟩ (Value.slice d'.1 d'.2.1 d'.2.2)).setCell ⟨w.heap.size,9,none⟩ (Value.slice x'.1 x'.2.1 x'.2.2)) w.heap.size 25 #[.int .i64 c.ins,.int .i64 (O:Int),.int .i64 (S:Int),.int .i64 c.crosses,.int .i64 (Ln:Int),.slice (some ⟨gm,0,none⟩) 0 0,.slice (some ⟨gc,0,none⟩) 0 0,.slice s'.1 s'.2.1 s'.2.2,.slice d'.1 d'.2.1 d'.2.2,.slice x'.1 x'.2.1 x'.2.2]:=b8.putI 9 _
  have HKC:=Lib.hid b9
  clear b0 b1 b2 b3 b4 b5 b6 b7 b8 b9
  have HOS:=Lib.hid (show Only [some w.heap.size] w4 ((((((((((w4.setCell ⟨w.heap.size,0,none⟩ (Value.int .i64 c.ins)).setCell ⟨w.heap.size,1,none⟩ (Value.int .i64 (O:Int))).setCell ⟨w.heap.size,2,none⟩ (Value.int .i64 (S:Int))).setCell ⟨w.heap.size,3,none⟩ (Value.int .i64 c.crosses)).setCell ⟨w.heap.size,4,none⟩ (Value.int .i64 (Ln:Int))).setCell ⟨w.heap.size,5,none⟩ (Value.slice (some ⟨gm,0,none⟩) 0 0)).setCell ⟨w.heap.size,6,none⟩ (Value.slice (some ⟨gc,0,none⟩) 0 0)).setCell ⟨w.heap.size,7,none⟩ (Value.slice s'.1 s'.2.1 s'.2.2)).setCell ⟨w.heap.size,8,none⟩ (Value.slice d'.1 d'.2.1 d'.2.2)).setCell ⟨w.heap.size,9,none⟩ (Value.slice x'.1 x'.2.1 x'.2.2)) from(((((((((Only.set (S:=[some w.heap.size]) (by simp) _ _ _).trans (Only.set (by simp) _ _ _)).trans (Only.set (by simp) _ _ _)).trans (Only.set (by simp) _ _ _)).trans (Only.set (by simp) _ _ _)).trans (Only.set (by simp) _ _ _)).trans (Only.set (by simp) _ _ _)).trans (Only.set (by simp) _ _ _)).trans (Only.set (by simp) _ _ _)).trans (Only.set (by simp) _ _ _))
  generalize ((((((((((w4.setCell ⟨w.heap.size,0,none⟩ (Value.int .i64 c.ins)).setCell ⟨w.heap.size,1,none⟩ (Value.int .i64 (O:Int))).setCell ⟨w.heap.size,2,none⟩ (Value.int .i64 (S:Int))).setCell ⟨w.heap.size,3,none⟩ (Value.int .i64 c.crosses)).setCell ⟨w.heap.size,4,none⟩ (Value.int .i64 (Ln:Int))).setCell ⟨w.heap.size,5,none⟩ (Value.slice (some ⟨gm,0,none⟩) 0 0)).setCell ⟨w.heap.size,6,none⟩ (Value.slice (some ⟨gc,0,none⟩) 0 0)).setCell ⟨w.heap.size,7,none⟩ (Value.slice s'.1 s'.2.1 s'.2.2)).setCell ⟨w.heap.size,8,none⟩ (Value.slice d'.1 d'.2.1 d'.2.2)).setCell ⟨w.heap.size,9,none⟩ (Value.slice x'.1 x'.2.1 x'.2.2))=W5 at HKC HOS ⊢
  have HB5:=Lib.hid (andOnlyB HB4.out HB4.out.size HOS.out)
  have HCS:=Lib.hid ((HRS.out.only HOS.out (by intro j hj;simp at hj;have:=HLT.out;omega)).toC)
  have HCD:=Lib.hid ((HRD.out.only HOS.out (by intro j hj;simp at hj;have:=HLT.out;omega)).toC)
  have HCX:=Lib.hid ((HRX.out.only HOS.out (by intro j hj;simp at hj;have:=HLT.out;omega)).toC)
  clear HRS HRD HRX HOS HKW q0 f0 q1 f1 q2 f2 q3 f3 q4 f4 q5 f5 q6 f6 q7 f7 q8 f8 q9 f9
  refine wp_region_held_drew (S:=fun w'=>w'.cell? ⟨w.heap.size,0,none⟩=some (.int .i64 c.ins)∧w'.cell? ⟨w.heap.size,1,none⟩=some (.int .i64 (O:Int))∧w'.cell? ⟨w.heap.size,2,none⟩=some (.int .i64 (S:Int))∧w'.cell? ⟨w.heap.size,3,none⟩=some (.int .i64 c.crosses)∧w'.cell? ⟨w.heap.size,4,none⟩=some (.int .i64 (Ln:Int))∧w'.cell? ⟨w.heap.size,5,none⟩=some (.slice (some ⟨gm,0,none⟩) 0 0)∧w'.cell? ⟨w.heap.size,6,none⟩=some (.slice (some ⟨gc,0,none⟩) 0 0)∧w'.cell? ⟨w.heap.size,7,none⟩=some (.slice s'.1 s'.2.1 s'.2.2)∧w'.cell? ⟨w.heap.size,8,none⟩=some (.slice d'.1 d'.2.1 d'.2.2)∧w'.cell? ⟨w.heap.size,9,none⟩=some (.slice x'.1 x'.2.1 x'.2.2)) (by kernel_rfl) (by have h:=HKC.out.later (Below.refl _ _).drew;exact⟨h.cell 0 rfl,h.cell 1 rfl,h.cell 2 rfl,h.cell 3 rfl,h.cell 4 rfl,h.cell 5 rfl,h.cell 6 rfl,h.cell 7 rfl,h.cell 8 rfl,h.cell 9 rfl⟩) (fun hHeld=>?_)
  refine takeH 0 9 ?_ (by kernel_rfl) (by kernel_rfl) (by kernel_rfl) (by kernel_rfl) (fun _ _ _ h=>h) (by kernel_rfl) (fun o ho w hSw=>?_) (by assumption) ?_
  rotate_left
  · (simp only [List.getElem?_toArray,List.getElem?_cons_succ,List.getElem?_cons_zero,Option.some.injEq] at ho;subst ho;(try dsimp only at hSw);go_simp;try with_reducible rfl)
  try simp only [Act.put,List.setIfInBounds_toArray,List.set_cons_zero,List.set_cons_succ]
  refine takeH 1 10 ?_ (by kernel_rfl) (by kernel_rfl) (by kernel_rfl) (by kernel_rfl) (fun _ _ _ h=>h) (by kernel_rfl) (fun o ho w hSw=>?_) (by assumption) ?_
  rotate_left
  · (simp only [List.getElem?_toArray,List.getElem?_cons_succ,List.getElem?_cons_zero,Option.some.injEq] at ho;subst ho;(try dsimp only at hSw);go_simp;try with_reducible rfl)
  try simp only [Act.put,List.setIfInBounds_toArray,List.set_cons_zero,List.set_cons_succ]
  refine takeH 2 11 ?_ (by kernel_rfl) (by kernel_rfl) (by kernel_rfl) (by kernel_rfl) (fun _ _ _ h=>h) (by kernel_rfl) (fun o ho w hSw=>?_) (by assumption) ?_
  rotate_left
  · (simp only [List.getElem?_toArray,List.getElem?_cons_succ,List.getElem?_cons_zero,Option.some.injEq] at ho;subst ho;(try dsimp only at hSw);go_simp;try with_reducible rfl)
  try simp only [Act.put,List.setIfInBounds_toArray,List.set_cons_zero,List.set_cons_succ]
  refine takeH 4 13 ?_ (by kernel_rfl) (by kernel_rfl) (by kernel_rfl) (by kernel_rfl) (fun _ _ _ h=>h) (by kernel_rfl) (fun o ho w hSw=>?_) (by assumption) ?_
  rotate_left
  · (simp only [List.getElem?_toArray,List.getElem?_cons_succ,List.getElem?_cons_zero,Option.some.injEq] at ho;subst ho;(try dsimp only at hSw);go_simp;try with_reducible rfl)
  try simp only [Act.put,List.setIfInBounds_toArray,List.set_cons_zero,List.set_cons_succ]
  refine takeH 5 14 ?_ (by kernel_rfl) (by kernel_rfl) (by kernel_rfl) (by kernel_rfl) (fun _ _ _ h=>h) (by kernel_rfl) (fun o ho w hSw=>?_) (by assumption) ?_
  rotate_left
  · (simp only [List.getElem?_toArray,List.getElem?_cons_succ,List.getElem?_cons_zero,Option.some.injEq] at ho;subst ho;(try dsimp only at hSw);go_simp;try with_reducible rfl)
  try simp only [Act.put,List.setIfInBounds_toArray,List.set_cons_zero,List.set_cons_succ]
  refine takeH 7 16 ?_ (by kernel_rfl) (by kernel_rfl) (by kernel_rfl) (by kernel_rfl) (fun _ _ _ h=>h) (by kernel_rfl) (fun o ho w hSw=>?_) (by assumption) ?_
  rotate_left
  · (simp only [List.getElem?_toArray,List.getElem?_cons_succ,List.getElem?_cons_zero,Option.some.injEq] at ho;subst ho;(try dsimp only at hSw);go_simp;try with_reducible rfl)
  try simp only [Act.put,List.setIfInBounds_toArray,List.set_cons_zero,List.set_cons_succ]
  refine takeH 8 17 ?_ (by kernel_rfl) (by kernel_rfl) (by kernel_rfl) (by kernel_rfl) (fun _ _ _ h=>h) (by kernel_rfl) (fun o ho w hSw=>?_) (by assumption) ?_
  rotate_left
  · (simp only [List.getElem?_toArray,List.getElem?_cons_succ,List.getElem?_cons_zero,Option.some.injEq] at ho;subst ho;(try dsimp only at hSw);go_simp;try with_reducible rfl)
  try simp only [Act.put,List.setIfInBounds_toArray,List.set_cons_zero,List.set_cons_succ]
  refine takeH 10 19 ?_ (by kernel_rfl) (by kernel_rfl) (by kernel_rfl) (by kernel_rfl) (fun _ _ _ h=>h) (by kernel_rfl) (fun o ho w hSw=>?_) (by assumption) ?_
  rotate_left
  · (simp only [List.getElem?_toArray,List.getElem?_cons_succ,List.getElem?_cons_zero,Option.some.injEq] at ho;subst ho;(try dsimp only at hSw);go_simp;try with_reducible rfl)
  try simp only [Act.put,List.setIfInBounds_toArray,List.set_cons_zero,List.set_cons_succ]
  refine takeH 11 20 ?_ (by kernel_rfl) (by kernel_rfl) (by kernel_rfl) (by kernel_rfl) (fun _ _ _ h=>h) (by kernel_rfl) (fun o ho w hSw=>?_) (by assumption) ?_
  rotate_left
  · (simp only [List.getElem?_toArray,List.getElem?_cons_succ,List.getElem?_cons_zero,Option.some.injEq] at ho;subst ho;(try dsimp only at hSw);go_simp;try with_reducible rfl)
  try simp only [Act.put,List.setIfInBounds_toArray,List.set_cons_zero,List.set_cons_succ]
  refine takeH 13 22 ?_ (by kernel_rfl) (by kernel_rfl) (by kernel_rfl) (by kernel_rfl) (fun _ _ _ h=>h) (by kernel_rfl) (fun o ho w hSw=>?_) (by assumption) ?_
  rotate_left
  · (simp only [List.getElem?_toArray,List.getElem?_cons_succ,List.getElem?_cons_zero,Option.some.injEq] at ho;subst ho;(try dsimp only at hSw);go_simp;try with_reducible rfl)
  try simp only [Act.put,List.setIfInBounds_toArray,List.set_cons_zero,List.set_cons_succ]
  refine takeH 14 23 ?_ (by kernel_rfl) (by kernel_rfl) (by kernel_rfl) (by kernel_rfl) (fun _ _ _ h=>h) (by kernel_rfl) (fun o ho w hSw=>?_) (by assumption) ?_
  rotate_left
  · (simp only [List.getElem?_toArray,List.getElem?_cons_succ,List.getElem?_cons_zero,Option.some.injEq] at ho;subst ho;(try dsimp only at hSw);go_simp;try with_reducible rfl)
  try simp only [Act.put,List.setIfInBounds_toArray,List.set_cons_zero,List.set_cons_succ]
  refine takeH 15 24 ?_ (by kernel_rfl) (by kernel_rfl) (by kernel_rfl) (by kernel_rfl) (fun _ _ _ h=>h) (by kernel_rfl) (fun o ho w hSw=>?_) (by assumption) ?_
  rotate_left
  · (simp only [List.getElem?_toArray,List.getElem?_cons_succ,List.getElem?_cons_zero,Option.some.injEq] at ho;subst ho;(try dsimp only at hSw);go_simp;try with_reducible rfl)
  try simp only [Act.put,List.setIfInBounds_toArray,List.set_cons_zero,List.set_cons_succ]
  refine takeH 17 26 ?_ (by kernel_rfl) (by kernel_rfl) (by kernel_rfl) (by kernel_rfl) (fun _ _ _ h=>h) (by kernel_rfl) (fun o ho w hSw=>?_) (by assumption) ?_
  rotate_left
  · (simp only [List.getElem?_toArray,List.getElem?_cons_succ,List.getElem?_cons_zero,Option.some.injEq] at ho;subst ho;(try dsimp only at hSw);go_simp;try with_reducible rfl)
  try simp only [Act.put,List.setIfInBounds_toArray,List.set_cons_zero,List.set_cons_succ]
  refine takeH 18 27 ?_ (by kernel_rfl) (by kernel_rfl) (by kernel_rfl) (by kernel_rfl) (fun _ _ _ h=>h) (by kernel_rfl) (fun o ho w hSw=>?_) (by assumption) ?_
  rotate_left
  · (simp only [List.getElem?_toArray,List.getElem?_cons_succ,List.getElem?_cons_zero,Option.some.injEq] at ho;subst ho;(try dsimp only at hSw);go_simp;try with_reducible rfl)
  try simp only [Act.put,List.setIfInBounds_toArray,List.set_cons_zero,List.set_cons_succ]
  refine anyOrder [3,6,9,12,16,19] #[true,true,true,false,true,true,false,true,true,false,true,true,false,true,true,true,false,true,true,false,false,false,false,false] (okE [(2,1)]) 4 (fun vs=>{ tmps:=#[.agg #[.int .i64 c.ins,.int .i64 (O:Int),.int .i64 (S:Int),.int .i64 c.crosses,.int .i64 (Ln:Int),.slice ma 0 mc,.slice ca 0 cc,.slice s.1 s.2.1 s.2.2,.slice d.1 d.2.1 d.2.2,.slice x.1 x.2.1 x.2.2],.pointer (some ⟨w.heap.size,0,none⟩),.pointer none,.int .i64 0,.agg #[.int .i64 c.ins,.int .i64 (O:Int),.int .i64 (S:Int),.int .i64 c.crosses,.int .i64 (Ln:Int),.slice ma 0 mc,.slice ca 0 cc,.slice s.1 s.2.1 s.2.2,.slice d.1 d.2.1 d.2.2,.slice x.1 x.2.1 x.2.2],.bool true,.bool false,.agg #[.int .i64 c.ins,.int .i64 (O:Int),.int .i64 (S:Int),.int .i64 c.crosses,.int .i64 (Ln:Int),.slice ma 0 mc,.slice ca 0 cc,.slice s.1 s.2.1 s.2.2,.slice d.1 d.2.1 d.2.2,.slice x.1 x.2.1 x.2.2],.agg #[.int .i64 c.ins,.int .i64 (O:Int),.int .i64 (S:Int),.int .i64 c.crosses,.int .i64 (Ln:Int),.slice (some ⟨gm,0,none⟩) 0 0,.slice (some ⟨gc,0,none⟩) 0 0,.slice s'.1 s'.2.1 s'.2.2,.slice d'.1 d'.2.1 d'.2.2,.slice x'.1 x'.2.1 x'.2.2],.agg #[.int .i64 c.ins,.int .i64 (O:Int),.int .i64 (S:Int),.int .i64 c.crosses,.int .i64 (Ln:Int),.slice (some ⟨gm,0,none⟩) 0 0,.slice (some ⟨gc,0,none⟩) 0 0,.slice s'.1 s'.2.1 s'.2.2,.slice d'.1 d'.2.1 d'.2.2,.slice x'.1 x'.2.1 x'.2.2],.pointer (some ⟨w.heap.size,2,none⟩),.int .i64 (S:Int),vs.getD 0 undef,.pointer (some ⟨w.heap.size,5,none⟩),.slice (some ⟨gm,0,none⟩) 0 0,vs.getD 1 undef,.pointer (some ⟨w.heap.size,6,none⟩),.slice (some ⟨gc,0,none⟩) 0 0,vs.getD 2 undef,.pointer (some ⟨w.heap.size,1,none⟩),.int .i64 (O:Int),vs.getD 3 undef,.pointer (some ⟨w.heap.size,6,none⟩),.slice (some ⟨gc,0,none⟩) 0 0,.int .i64 0,vs.getD 4 undef,.pointer (some ⟨w.heap.size,4,none⟩),.int .i64 (Ln:Int),vs.getD 5 undef,undef,undef],defers:=[] })
    (fun(k:Nat) (v:Value) (W:World)=>match k with
    | 0=>∃ g:Nat,v=.slice (some ⟨g,0,none⟩) S S∧Blk W g 51 (madeCells zVal (S*5))∧W5.heap.size≤g
    | 1=>∃ g:Nat,v=.slice (some ⟨g,0,none⟩) 0 0∧g<W.heap.size
    | 2=>∃ g:Nat,v=.slice (some ⟨g,0,none⟩) 0 0∧g<W.heap.size
    | 3=>∃ g:Nat,v=.slice (some ⟨g,0,none⟩) O O∧Blk W g 51 (madeCells zVal (O*5))∧W5.heap.size≤g
    | 4=>∃ g:Nat,v=.slice (some ⟨g,0,none⟩) 0 0∧g<W.heap.size
    | _=>∃ g:Nat,v=.slice (some ⟨g,0,none⟩) Ln Ln∧Blk W g 106 (madeCells zLine (Ln*10))∧W5.heap.size≤g) (fun _=>true) (fun v=>match v with | .slice (some p) _ _=>p.block | _=>0) (fun W=>Below W5.heap.size W5 W) (fun W W'=>Below W.heap.size W W')
    (by kernel_rfl) ?_ (fun k v W _ h=>by
      match k,h with
      | 0,h=>(obtain⟨g,rfl,hk,_⟩:=h;exact hk.lt)
      | 1,h=>(obtain⟨g,rfl,hk⟩:=h;exact hk)
      | 2,h=>(obtain⟨g,rfl,hk⟩:=h;exact hk)
      | 3,h=>(obtain⟨g,rfl,hk,_⟩:=h;exact hk.lt)
      | 4,h=>(obtain⟨g,rfl,hk⟩:=h;exact hk)
      | k+5,h=>(obtain⟨g,rfl,hk,_⟩:=h;exact hk.lt)) (fun W hG=>by have h:=HKC.out.later hG;exact⟨h.cell 0 rfl,h.cell 1 rfl,h.cell 2 rfl,h.cell 3 rfl,h.cell 4 rfl,h.cell 5 rfl,h.cell 6 rfl,h.cell 7 rfl,h.cell 8 rfl,h.cell 9 rfl⟩) ?_ ?_ 6 [false,false,false,false,false,false] [undef,undef,undef,undef,undef,undef] _ rfl rfl rfl rfl (fun k v h=>?_) (fun j k u v hj=>by match j,hj with
      | 0,h=>simp at h
      | 1,h=>simp at h
      | 2,h=>simp at h
      | 3,h=>simp at h
      | 4,h=>simp at h
      | 5,h=>simp at h
      | k+6,h=>simp at h) (Below.refl _ _).drew
  · intro k v W W' h hb
    match k,h with
    | 0,h=>obtain⟨g,e,hk,hge⟩:=h;exact⟨g,e,hk.later hb,hge⟩
    | 1,h=>obtain⟨g,e,hk⟩:=h;exact⟨g,e,Nat.lt_of_lt_of_le hk hb.size⟩
    | 2,h=>obtain⟨g,e,hk⟩:=h;exact⟨g,e,Nat.lt_of_lt_of_le hk hb.size⟩
    | 3,h=>obtain⟨g,e,hk,hge⟩:=h;exact⟨g,e,hk.later hb,hge⟩
    | 4,h=>obtain⟨g,e,hk⟩:=h;exact⟨g,e,Nat.lt_of_lt_of_le hk hb.size⟩
    | k+5,h=>obtain⟨g,e,hk,hge⟩:=h;exact⟨g,e,hk.later hb,hge⟩
  · intro k i p vs W hki hpl hvl hok hrd hF hG
    obtain⟨v0,v1,v2,v3,v4,v5,rfl⟩:=len6 hvl
    have HG:=Lib.hid hG
    clear hG hvl
    match k,hki with
    | 0,hki=>
      obtain rfl:i=3:=by simpa using hki.symm
      refine opStep (by kernel_rfl) (fun o ho K' hK=>?_)
      simp only [List.getElem?_toArray,List.getElem?_cons_succ,List.getElem?_cons_zero,Option.some.injEq] at ho;subst ho
      refine mkStep 22 51 zVal 5 80 Tryz.underlying22 Tryz.zInfo51 zVal_cells (by omega) rfl _ rfl S rfl (HBS.out.1) ?_
      exact hK.out _ _ ⟨_,rfl,⟨_,rfl,Blk.new _ _ _,HG.out.size⟩,(fun _=>Nat.le_refl _),(Below.refl _ _).alloc (Nat.le_refl _) _,HG.out.alloc HG.out.size _⟩
    | 1,hki=>
      obtain rfl:i=6:=by simpa using hki.symm
      refine opStep (by kernel_rfl) (fun o ho K' hK=>?_)
      simp only [List.getElem?_toArray,List.getElem?_cons_succ,List.getElem?_cons_zero,Option.some.injEq] at ho;subst ho
      go_simp
      go_at_call 48
      refine(cloneV_none gm _).mono ?_
      rintro e w' ⟨rfl,rfl⟩
      exact hK.out _ _ ⟨_,rfl,⟨_,rfl,by simp⟩,(fun _=>Nat.le_refl _),(Below.refl _ _).alloc (Nat.le_refl _) _,HG.out.alloc HG.out.size _⟩
    | 2,hki=>
      obtain rfl:i=9:=by simpa using hki.symm
      refine opStep (by kernel_rfl) (fun o ho K' hK=>?_)
      simp only [List.getElem?_toArray,List.getElem?_cons_succ,List.getElem?_cons_zero,Option.some.injEq] at ho;subst ho
      go_simp
      go_at_call 48
      refine(cloneV_none gc _).mono ?_
      rintro e w' ⟨rfl,rfl⟩
      exact hK.out _ _ ⟨_,rfl,⟨_,rfl,by simp⟩,(fun _=>Nat.le_refl _),(Below.refl _ _).alloc (Nat.le_refl _) _,HG.out.alloc HG.out.size _⟩
    | 3,hki=>
      obtain rfl:i=12:=by simpa using hki.symm
      refine opStep (by kernel_rfl) (fun o ho K' hK=>?_)
      simp only [List.getElem?_toArray,List.getElem?_cons_succ,List.getElem?_cons_zero,Option.some.injEq] at ho;subst ho
      refine mkStep 22 51 zVal 5 80 Tryz.underlying22 Tryz.zInfo51 zVal_cells (by omega) rfl _ rfl O rfl (HBS.out.2.1) ?_
      exact hK.out _ _ ⟨_,rfl,⟨_,rfl,Blk.new _ _ _,HG.out.size⟩,(fun _=>Nat.le_refl _),(Below.refl _ _).alloc (Nat.le_refl _) _,HG.out.alloc HG.out.size _⟩
    | 4,hki=>
      obtain rfl:i=16:=by simpa using hki.symm
      refine opStep (by kernel_rfl) (fun o ho K' hK=>?_)
      simp only [List.getElem?_toArray,List.getElem?_cons_succ,List.getElem?_cons_zero,Option.some.injEq] at ho;subst ho
      refine mkStep 62 100 zRate 6 88 Tryz.underlying62 Tryz.zInfo100 zRate_cells (by omega) rfl _ rfl 0 rfl (by omega) ?_
      exact hK.out _ _ ⟨_,rfl,⟨_,rfl,by simp⟩,(fun _=>Nat.le_refl _),(Below.refl _ _).alloc (Nat.le_refl _) _,HG.out.alloc HG.out.size _⟩
    | 5,hki=>
      obtain rfl:i=19:=by simpa using hki.symm
      refine opStep (by kernel_rfl) (fun o ho K' hK=>?_)
      simp only [List.getElem?_toArray,List.getElem?_cons_succ,List.getElem?_cons_zero,Option.some.injEq] at ho;subst ho
      refine mkStep 63 106 zLine 10 160 Tryz.underlying63 Tryz.zInfo105 zLine_cells (by omega) rfl _ rfl Ln rfl (HBS.out.2.2) ?_
      exact hK.out _ _ ⟨_,rfl,⟨_,rfl,Blk.new _ _ _,HG.out.size⟩,(fun _=>Nat.le_refl _),(Below.refl _ _).alloc (Nat.le_refl _) _,HG.out.alloc HG.out.size _⟩
    | k+6,hki=>simp at hki
  · intro vs W hvl hF hD hG
    obtain⟨v0,v1,v2,v3,v4,v5,rfl⟩:=len6 hvl
    have HF0:=hF 0 v0 (by decide) rfl
    have HF1:=hF 1 v1 (by decide) rfl
    have HF2:=hF 2 v2 (by decide) rfl
    have HF3:=hF 3 v3 (by decide) rfl
    have HF4:=hF 4 v4 (by decide) rfl
    have HF5:=hF 5 v5 (by decide) rfl
    obtain⟨sb,rfl,hsb,hsg⟩:=HF0
    obtain⟨mb,rfl,hmb⟩:=HF1
    obtain⟨cb,rfl,hcb⟩:=HF2
    obtain⟨ob,rfl,hob,hog⟩:=HF3
    obtain⟨rb,rfl,hrb⟩:=HF4
    obtain⟨lb,rfl,hlb,_⟩:=HF5
    have hne:sb≠ob:=hD 0 3 _ _ (by decide) (by decide) rfl rfl rfl rfl (by decide)
    obtain⟨W7,hW7⟩:∃ W7,W7=W.alloc (.cells #[.int .i64 0,.bool false,.bool false,.bool true,.int .i64 c.ins,.int .i64 (O:Int),.int .i64 (S:Int),.int .i64 c.crosses,.int .i64 (Ln:Int),.slice (some ⟨gm,0,none⟩) 0 0,.slice (some ⟨gc,0,none⟩) 0 0,.slice s'.1 s'.2.1 s'.2.2,.slice d'.1 d'.2.1 d'.2.2,.slice x'.1 x'.2.1 x'.2.2,.slice (some ⟨sb,0,none⟩) S S,.slice (some ⟨mb,0,none⟩) 0 0,.slice (some ⟨cb,0,none⟩) 0 0,.slice (some ⟨ob,0,none⟩) O O,.slice (some ⟨rb,0,none⟩) 0 0,.slice (some ⟨lb,0,none⟩) Ln Ln,.bool false,.slice none 0 0] 65):=⟨_,rfl⟩
    have HB7:=Lib.hid (show Below W.heap.size W W7 by rw [hW7];exact(Below.refl _ _).alloc (Nat.le_refl _) _)
    have HK7:=Lib.hid (show Blk W7 W.heap.size 65 #[.int .i64 0,.bool false,.bool false,.bool true,.int .i64 c.ins,.int .i64 (O:Int),.int .i64 (S:Int),.int .i64 c.crosses,.int .i64 (Ln:Int),.slice (some ⟨gm,0,none⟩) 0 0,.slice (some ⟨gc,0,none⟩) 0 0,.slice s'.1 s'.2.1 s'.2.2,.slice d'.1 d'.2.1 d'.2.2,.slice x'.1 x'.2.1 x'.2.2,.slice (some ⟨sb,0,none⟩) S S,.slice (some ⟨mb,0,none⟩) 0 0,.slice (some ⟨cb,0,none⟩) 0 0,.slice (some ⟨ob,0,none⟩) O O,.slice (some ⟨rb,0,none⟩) 0 0,.slice (some ⟨lb,0,none⟩) Ln Ln,.bool false,.slice none 0 0] by rw [hW7];exact Blk.new _ _ _)
    have HW7:=Lib.hid hW7
    have HSB:=Lib.hid hsb
    have HOB:=Lib.hid hob
    have HNE:=Lib.hid hne
    have HGE:=Lib.hid (And.intro hsg hog)
    have HGW:=Lib.hid hG
    have HMO:=Lib.hid (And.intro hmb hcb)
    have HG7:=Lib.hid (show Below W5.heap.size W5 W7 from hG.trans (HB7.out.mono hG.size))
    clear hW7 hsb hob hne hF hD hvl hG hmb hcb hrb hlb hsg hog
    refine takeH 20 29 ?_ (by kernel_rfl) (by kernel_rfl) (by kernel_rfl) (by kernel_rfl) (fun _ _ _ h=>h) (by kernel_rfl) (fun o ho w hSw=>?_) (by have h:=HKC.out.later HGW.out;exact⟨h.cell 0 rfl,h.cell 1 rfl,h.cell 2 rfl,h.cell 3 rfl,h.cell 4 rfl,h.cell 5 rfl,h.cell 6 rfl,h.cell 7 rfl,h.cell 8 rfl,h.cell 9 rfl⟩) ?_
    rotate_left
    · (simp only [List.getElem?_toArray,List.getElem?_cons_succ,List.getElem?_cons_zero,Option.some.injEq] at ho;subst ho;(try dsimp only at hSw);go_simp;try with_reducible rfl)
    try simp only [Act.put,List.setIfInBounds_toArray,List.set_cons_zero,List.set_cons_succ]
    refine callH 21 (by kernel_rfl) (by kernel_rfl) (fun o ho K' hK=>?_)
    simp only [List.getElem?_toArray,List.getElem?_cons_succ,List.getElem?_cons_zero,Option.some.injEq] at ho;subst ho
    go_simp
    rw [←HW7.out]
    refine hK.out _ _ (by have h:=HKC.out.later HG7.out;exact⟨h.cell 0 rfl,h.cell 1 rfl,h.cell 2 rfl,h.cell 3 rfl,h.cell 4 rfl,h.cell 5 rfl,h.cell 6 rfl,h.cell 7 rfl,h.cell 8 rfl,h.cell 9 rfl⟩) (fun _=>?_)
    try simp only [Act.put,List.setIfInBounds_toArray,List.set_cons_zero,List.set_cons_succ]
    refine takeH 22 2 ?_ (by kernel_rfl) (by kernel_rfl) (by kernel_rfl) (by kernel_rfl) (fun _ _ _ h=>h) (by kernel_rfl) (fun o ho w hSw=>?_) (by have h:=HKC.out.later HG7.out;exact⟨h.cell 0 rfl,h.cell 1 rfl,h.cell 2 rfl,h.cell 3 rfl,h.cell 4 rfl,h.cell 5 rfl,h.cell 6 rfl,h.cell 7 rfl,h.cell 8 rfl,h.cell 9 rfl⟩) ?_
    rotate_left
    · (simp only [List.getElem?_toArray,List.getElem?_cons_succ,List.getElem?_cons_zero,Option.some.injEq] at ho;subst ho;(try dsimp only at hSw);go_simp;try with_reducible rfl)
    try simp only [Act.put,List.setIfInBounds_toArray,List.set_cons_zero,List.set_cons_succ]
    refine takeH 23 3 ?_ (by kernel_rfl) (by kernel_rfl) (by kernel_rfl) (by kernel_rfl) (fun _ _ _ h=>h) (by kernel_rfl) (fun o ho w hSw=>?_) (by have h:=HKC.out.later HG7.out;exact⟨h.cell 0 rfl,h.cell 1 rfl,h.cell 2 rfl,h.cell 3 rfl,h.cell 4 rfl,h.cell 5 rfl,h.cell 6 rfl,h.cell 7 rfl,h.cell 8 rfl,h.cell 9 rfl⟩) ?_
    rotate_left
    · (simp only [List.getElem?_toArray,List.getElem?_cons_succ,List.getElem?_cons_zero,Option.some.injEq] at ho;subst ho;(try dsimp only at hSw);go_simp;try with_reducible rfl)
    try simp only [Act.put,List.setIfInBounds_toArray,List.set_cons_zero,List.set_cons_succ]
    refine wpAnyH_done (by kernel_rfl) ?_ _
    clear HW7
    go_wp2_with fail
    go_ret2
    exact⟨⟨W5.heap.size,W.heap.size,sb,mb,cb,ob,rb,lb,gm,gc,s',d',x',rfl,HK7.out,HCS.out.below HG7.out,HCD.out.below HG7.out,HCX.out.below HG7.out,HSB.out.later HB7.out,HOB.out.later HB7.out,HNE.out,HGE.out.1,HGE.out.2,HSB.out.lt,HOB.out.lt,HB5.out.size⟩,HB5.out.trans (HG7.out.mono HB5.out.size)⟩
  · match k,h with
    | 0,h=>simp at h
    | 1,h=>simp at h
    | 2,h=>simp at h
    | 3,h=>simp at h
    | 4,h=>simp at h
    | 5,h=>simp at h
    | k+6,h=>simp at h
end Go.Proofs.YtpnlbjnbgemocaaGreat
