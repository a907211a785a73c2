import Derived.Test.YtpnlbjnbgemocaaGreatZExOToExAN6
import Derived.Deep.DeepCutAuto
import Derived.Test.YtpnlbjnbgemocaaGreatZEyF
import Derived.Test.YtpnlbjnbgemocaaGreatZSfL
import Derived.Test.YtpnlbjnbgemocaaGreatZExC
namespace Go.Proofs.YtpnlbjnbgemocaaGreat
set_option linter.unusedVariables false
set_option linter.unusedSimpArgs false
set_option maxRecDepth 100000
open Go.RowKit Nums
theorem begin_t {w:World}{g T:Nat}{vs:Array Value}(x0 x1 x2:Value)(bits:Int)(h:Blk w g T vs)(h0:vs[0]?=some x0)(h1:vs[1]?=some x1)(h2:vs[2]?=some x2) :
    Calls Tryz.prog 41 #[.pointer (some ⟨g,0,none⟩),.int .i64 bits] w fun e w'=>e=.returned (.tuple #[])∧w'=((w.setCell ⟨g,0,none⟩ (.int .i64 bits)).setCell ⟨g,1,none⟩ (.bool false)).setCell ⟨g,2,none⟩ (.bool false):=by
  have c0:=h.cell 0 h0
  have c1:=h.cell 1 h1
  have c2:=h.cell 2 h2
  have f0:=h.free 0
  have f1:=h.free 1
  have f2:=h.free 2
  clear h h0 h1 h2
  go_enter Tryz.func41,Tryz.ntmps41
  go_wp2
  first | exact⟨rfl,rfl⟩ | exact⟨rfl,rfl,rfl⟩ | (unfold bodyPost;simp [results,Tryz.results41,go_sem])
theorem wrong_t {w:World}{g:Nat}{bits:Int}{dv bg:Bool}(h:FAt w g bits dv bg) :
    Calls Tryz.prog 43 #[.pointer (some ⟨g,0,none⟩)] w fun e w'=>e=.returned (.tuple #[.bool dv,.bool bg])∧Below w.heap.size w w':=by
  have c1:=h.div
  have c2:=h.big
  clear h
  go_enter Tryz.func43,Tryz.ntmps43
  go_wp2_with fail
  go_region
  all_goals
    go_wp2_with fail
    exact bodyPost_ret (v:=.tuple #[.bool dv,.bool bg]) (by simp [results,Tryz.results43,go_sem, *]) rfl ⟨rfl,(Below.refl _ _).drew⟩
end Go.Proofs.YtpnlbjnbgemocaaGreat
namespace Go.Proofs.YtpnlbjnbgemocaaGreat
set_option linter.unusedVariables false
set_option linter.unusedSimpArgs false
set_option maxRecDepth 100000
open Go.RowKit Nums
theorem mkStep {w:World}{ops:Array Oper}{o:Oper}{a:Act}{K:Act→World→Prop}{Q:Exit→Act→World→Prop}{E:Prop}(T Ty:TypeId)(zc:Array Value)(sz b:Nat)(hu:Tryz.prog.underlying T=some (.slice Ty))(hinfo:(Tryz.prog.info? Ty).map (fun i=>(i.zero,i.size,i.bytes))=some (some (.agg zc),sz,b))(hz:(Value.agg zc).cells=zc)(hb:b≤1000)
    (hgd:o.guard=none) (l:Operand) (hop:o.op=Op.makeSlice T l l) (n:Nat) (hl:a.eval l=.int .i64 (n:Int)) (hn:n≤1000000)
    (hK:K (a.put o.dst (.slice (some ⟨w.heap.size,0,none⟩) n n)) (w.alloc (.cells (madeCells zc (n*sz)) Ty))) :
    if Region.wanted o (yielded ops a.tmps)=true then Oper.wp Tryz.prog o a w K Q else E:=by
  have hw:Region.wanted o (yielded ops a.tmps)=true:=by simp [Region.wanted,hgd]
  rw [if_pos hw]
  have hr:=mk_run T Ty zc sz b hu hinfo hz hb n hn w
  unfold Oper.wp
  simp [execOp,hop,hl,hr,Result.andThen]
  exact hK
theorem cloneV_none (g:Nat)(w:World):Calls Tryz.prog 48 #[.slice (some ⟨g,0,none⟩) 0 0] w fun e w'=>e=.returned (.slice (some ⟨w.heap.size,0,none⟩) 0 0)∧w'=w.alloc (.cells #[] 51):=by
  have qs:∀(w:World) (a:Option Addr) (n c n' c':Nat),(binOp .eql 22 (.slice a n c) (.slice none n' c')).run Tryz.prog w=.ok (.bool a.isNone) w:=fun w a n c n' c'=>Lib.run_eql_slice_nil w _ _ a n c n' c' Tryz.underlying22
  go_enter Tryz.func48,Tryz.ntmps48
  go_wp2
  go_ret
  exact⟨rfl,rfl⟩
def RowC (w:World)(C:Nat)(n:Option Addr×Nat×Nat)(xs:List InsP):Prop:=∃ g arr,n=(some ⟨g,0,none⟩,xs.length,xs.length)∧g<C∧Blk w g 96 arr∧arr.size=xs.length*11∧∀ i q,xs[i]?=some q→InsN (fun b=>b<C) w arr i q
theorem RowN.toC {w:World}{B:Nat}{n:Option Addr×Nat×Nat}{xs:List InsP}(h:RowN w B n xs):RowC w w.heap.size n xs:=by
  obtain⟨g,arr,h1,h2,h3,h4,h5⟩:=h
  exact⟨g,arr,h1,h3.lt,h3,h4,fun i q hq=>(h5 i q hq).keep fun b h=>⟨h.2,fun _=>rfl⟩⟩
theorem RowC.below {w w':World}{C:Nat}{n:Option Addr×Nat×Nat}{xs:List InsP}(h:RowC w C n xs)(hb:Below C w w'):RowC w' C n xs:=by
  obtain⟨g,arr,h1,h2,h3,h4,h5⟩:=h
  exact⟨g,arr,h1,h2,h3.below hb h2,h4,fun i q hq=>(h5 i q hq).keep (keepB hb fun b h=>⟨h,h⟩)⟩
end Go.Proofs.YtpnlbjnbgemocaaGreat
namespace Go.Proofs.YtpnlbjnbgemocaaGreat
set_option linter.unusedVariables false
set_option linter.unusedSimpArgs false
set_option maxRecDepth 100000
open Go.RowKit
structure DeedIs (w:World) (B:Nat) (d:DeedM) (i f m q:Option Addr×Nat×Nat):Prop where
  kind:-9223372036854775808≤d.kind∧d.kind≤9223372036854775807
  ins:SRow 3 RatAt w B i.1 i.2.1 i.2.2 d.ins
  flags:SRow 1 BoolAt w B f.1 f.2.1 f.2.2 d.flags
  mag:URow w B m.1 m.2.1 m.2.2 d.dt.mag
  den:URow w B q.1 q.2.1 q.2.2 d.dt.den
  bits:-9223372036854775808≤d.bits∧d.bits≤9223372036854775807
theorem URow.moreD {w:World}{B B':Nat}{a:Option Addr}{n c:Nat}{xs:List Nat}(h:URow w B a n c xs)(hB:B≤B'):URow w B' a n c xs:=by
  obtain⟨h1,h2,h3,h4,h5,h8,b,off,h6,h7⟩:=h
  exact⟨h1,h2,h3,h4,h5,h8,b,off,h6,fun i hi=>⟨Nat.lt_of_lt_of_le (h7 i hi).1 hB,(h7 i hi).2⟩⟩
theorem SRow.moreD {α:Type}{sz:Nat}{R:World→Nat→Nat→Nat→α→Prop}{w:World}{B B':Nat}{a:Option Addr}{n c:Nat}{xs:List α}(h:SRow sz R w B a n c xs)(hB:B≤B')(hR:∀ b o x,R w B b o x→R w B' b o x):SRow sz R w B' a n c xs:=by
  obtain⟨h1,h2,h3,b,off,h6,h7⟩:=h
  exact⟨h1,h2,h3,b,off,h6,fun i x hx=>⟨Nat.lt_of_lt_of_le (h7 i x hx).1 hB,hR b _ x (h7 i x hx).2⟩⟩
theorem UsAt.moreD {w:World}{B B' b o:Nat}{x:List Nat}(h:UsAt w B b o x)(hB:B≤B'):UsAt w B' b o x:=by
  obtain⟨A,L,C,h1,h2⟩:=h;exact⟨A,L,C,h1,h2.moreD hB⟩
theorem RatAt.moreD {w:World}{B B' b o:Nat}{x:RatM}(h:RatAt w B b o x)(hB:B≤B'):RatAt w B' b o x:=⟨h.neg,h.mag.moreD hB,h.den.moreD hB⟩
theorem DeedIs.below {w w':World}{B:Nat}{d:DeedM}{i f m q:Option Addr×Nat×Nat}(h:DeedIs w B d i f m q)(hb:Below B w w'):DeedIs w' B d i f m q:=
  ⟨h.kind,rats_below h.ins hb,SRow.keep h.flags fun _ _ _ p r=>r.keep p fun _ hp=>hb.cell hp,h.mag.keep fun _ hp=>hb.cell hp,h.den.keep fun _ hp=>hb.cell hp,h.bits⟩
theorem DeedIs.row {w:World}{B g T:Nat}{d:DeedM}{i f m q:Option Addr×Nat×Nat}(h:DeedIs w B d i f m q)(hk:Blk w g T #[.int .i64 d.kind,.slice i.1 i.2.1 i.2.2,.slice f.1 f.2.1 f.2.2,.bool d.dt.neg,.slice m.1 m.2.1 m.2.2,.slice q.1 q.2.1 q.2.2,.int .i64 d.bits])(hB:B≤g):SRow 7 DeedAt w (g+1) (some ⟨g,0,none⟩) 1 1 [d]:=by
  have hB':B≤g+1:=by omega
  refine⟨rfl,Nat.le_refl _,by unfold maxLen;omega,g,0,.inl rfl,fun j x hx=>?_⟩
  match j,hx with
  | 0,hx=>
    simp at hx
    subst hx
    refine⟨by omega, ?_⟩
    rw [Nat.zero_mul,Nat.zero_add]
    exact⟨⟨hk.cell 0 rfl,h.kind⟩,⟨_,_,_,hk.cell 1 rfl,h.ins.moreD hB' fun _ _ _ r=>r.moreD hB'⟩,⟨_,_,_,hk.cell 2 rfl,h.flags.moreD hB' fun _ _ _ r=>r⟩,
      ⟨hk.cell 3 rfl,⟨_,_,_,hk.cell 4 rfl,h.mag.moreD hB'⟩,⟨_,_,_,hk.cell 5 rfl,h.den.moreD hB'⟩⟩,⟨hk.cell 6 rfl,h.bits⟩⟩
  | j+1,hx=>simp at hx
theorem Blk.seven {w:World}{g T:Nat}{x0 x1 x2 x3 x4 x5 x6:Value}(h:Blk w g T #[x0,x1,x2,x3,x4,x5,x6]):w.cell? ⟨g,0,none⟩=some x0∧w.cell? ⟨g,1,none⟩=some x1∧w.cell? ⟨g,2,none⟩=some x2∧w.cell? ⟨g,3,none⟩=some x3∧w.cell? ⟨g,4,none⟩=some x4∧w.cell? ⟨g,5,none⟩=some x5∧w.cell? ⟨g,6,none⟩=some x6:=⟨h.cell 0 rfl,h.cell 1 rfl,h.cell 2 rfl,h.cell 3 rfl,h.cell 4 rfl,h.cell 5 rfl,h.cell 6 rfl⟩
set_option maxHeartbeats 4000000 in
theorem execNone_walk (haw:∀ w:World,Calls Tryz.prog 10 #[] w fun e w'=>e=.returned (.bool true)∧Below w.heap.size w w')(d:DeedM)(i f m q:Option Addr×Nat×Nat)(w:World)(h:DeedIs w w.heap.size d i f m q) :
    Calls Tryz.prog 6 #[.agg #[.int .i64 d.kind,.slice i.1 i.2.1 i.2.2,.slice f.1 f.2.1 f.2.2,.bool d.dt.neg,.slice m.1 m.2.1 m.2.2,.slice q.1 q.2.1 q.2.2,.int .i64 d.bits]] w fun e w'=>e=.returned (.bool true)∧Below w.heap.size w w':=by
  have HAW:=Lib.hid haw
  obtain⟨W1,hW1⟩:∃ W1,W1=w.alloc (.cells #[.int .i64 d.kind,.slice i.1 i.2.1 i.2.2,.slice f.1 f.2.1 f.2.2,.bool d.dt.neg,.slice m.1 m.2.1 m.2.2,.slice q.1 q.2.1 q.2.2,.int .i64 d.bits] 48):=⟨_,rfl⟩
  have hb1:Below w.heap.size w W1:=by rw [hW1];exact(Below.refl _ _).alloc (Nat.le_refl _) _
  have HK1:=Lib.hid (show Blk W1 w.heap.size 48 #[.int .i64 d.kind,.slice i.1 i.2.1 i.2.2,.slice f.1 f.2.1 f.2.2,.bool d.dt.neg,.slice m.1 m.2.1 m.2.2,.slice q.1 q.2.1 q.2.2,.int .i64 d.bits] from by rw [hW1];exact Blk.new _ _ _)
  obtain⟨W2,hW2⟩:∃ W2,W2=W1.alloc (.cells #[.int .i64 d.kind,.slice i.1 i.2.1 i.2.2,.slice f.1 f.2.1 f.2.2,.bool d.dt.neg,.slice m.1 m.2.1 m.2.2,.slice q.1 q.2.1 q.2.2,.int .i64 d.bits] 48):=⟨_,rfl⟩
  have hb2:Below W1.heap.size W1 W2:=by rw [hW2];exact(Below.refl _ _).alloc (Nat.le_refl _) _
  have HK2:=Lib.hid (show Blk W2 W1.heap.size 48 #[.int .i64 d.kind,.slice i.1 i.2.1 i.2.2,.slice f.1 f.2.1 f.2.2,.bool d.dt.neg,.slice m.1 m.2.1 m.2.2,.slice q.1 q.2.1 q.2.2,.int .i64 d.bits] from by rw [hW2];exact Blk.new _ _ _)
  have HB2:=Lib.hid (hb1.trans (hb2.mono hb1.size))
  have HIS:=Lib.hid (h.below (hb1.trans (hb2.mono hb1.size)))
  have hs2:W2.heap.size=W1.heap.size+1:=by rw [hW2];simp
  have HFW:=Lib.hid (few17_t (W1.heap.size+1) (some ⟨W1.heap.size,0,none⟩) 1 1 [d] W2 (HIS.out.row HK2.out hb1.size) (by omega))
  have HK:=Lib.hid (HK1.out.later hb2)
  clear h hb1 hb2 haw hs2
  obtain⟨p0,p1,p2,p3,p4,p5,p6⟩:=HK1.out.seven
  have hq1:w.heap.size<W1.heap.size:=HK1.out.lt
  go_enter Tryz.func6,Tryz.ntmps6
  go_upto_region 1 with fail
  rw [←hW1]
  clear hW1
  go_wp2_with (rw [←hW2];go_at_call 8;(with_reducible refine HFW.out.mono ?_);rintro e w3 ⟨⟨b,rfl,hb⟩,hb3⟩;have HB3:=Lib.hid hb3;clear hb hb3 p0 p1 p2 p3 p4 p5 p6 hW2;cases b)
  · go_ret
    exact⟨rfl,HB2.out.trans (HB3.out.mono HB2.out.size)⟩
  have HB4:=Lib.hid (HB2.out.trans (HB3.out.mono HB2.out.size))
  obtain⟨W4,hW4⟩:∃ W4,W4=w3.alloc (.cells #[.int .i64 0,.bool false,.bool false,.bool false,.int .i64 0,.int .i64 0,.int .i64 0,.int .i64 0,.int .i64 0,.slice none 0 0,.slice none 0 0,.slice none 0 0,.slice none 0 0,.slice none 0 0,.slice none 0 0,.slice none 0 0,.slice none 0 0,.slice none 0 0,.slice none 0 0,.slice none 0 0,.bool false,.slice none 0 0] 65):=⟨_,rfl⟩
  have HM4:=Lib.hid (show Blk W4 w3.heap.size 65 #[.int .i64 0,.bool false,.bool false,.bool false,.int .i64 0,.int .i64 0,.int .i64 0,.int .i64 0,.int .i64 0,.slice none 0 0,.slice none 0 0,.slice none 0 0,.slice none 0 0,.slice none 0 0,.slice none 0 0,.slice none 0 0,.slice none 0 0,.slice none 0 0,.slice none 0 0,.slice none 0 0,.bool false,.slice none 0 0] from by rw [hW4];exact Blk.new _ _ _)
  have HB5:=Lib.hid (show Below w3.heap.size w3 W4 from by rw [hW4];exact(Below.refl _ _).alloc (Nat.le_refl _) _)
  obtain⟨W5,hW5⟩:∃ W5,W5=W4.alloc (.cells #[.pointer none,.pointer (some ⟨w3.heap.size,0,none⟩)] 29):=⟨_,rfl⟩
  have HR5:=Lib.hid (show Blk W5 W4.heap.size 29 #[.pointer none,.pointer (some ⟨w3.heap.size,0,none⟩)] from by rw [hW5];exact Blk.new _ _ _)
  have HB6:=Lib.hid (show Below W4.heap.size W4 W5 from by rw [hW5];exact(Below.refl _ _).alloc (Nat.le_refl _) _)
  have HM5:=Lib.hid (HM4.out.later HB6.out)
  have HKD:=Lib.hid (((HK.out.later HB3.out).later HB5.out).later HB6.out)
  have HBW:=Lib.hid (HB4.out.trans ((HB5.out.trans (HB6.out.mono HB5.out.size)).mono HB4.out.size))
  have hs4:w3.heap.size+1=W4.heap.size:=by rw [hW4];simp
  go_upto_region 4 with fail
  rw [←hW4,←hW5,hs4]
  clear hW4 hW5 hs4 HK1 HK2 HIS HFW HK HM4 HB3 HB2 hq1 HB5 HB6 HB4
  go_loopw [4] (fun t wr=>∃ k:Nat,k≤2∧t=.int .i64 k∧Hid (Below W5.heap.size W5 wr)) (fun t _=>2-(intOf t).toNat)
  case atStart=>exact⟨0,by omega,rfl,Lib.hid (Below.refl _ _)⟩
  case round=>
    obtain⟨k,hk,rfl,HBr⟩:=hrel
    obtain⟨p0,p1,p2,p3,p4,p5,p6⟩:=(HKD.out.later HBr.out).seven
    have r0:=(HR5.out.later HBr.out).cell 0 rfl
    have r1:=(HR5.out.later HBr.out).cell 1 rfl
    have HN0:Hid (NoM wr (.pointer none)):=Lib.hid (.inl rfl)
    have HN1:Hid (NoM wr (.pointer (some ⟨w3.heap.size,0,none⟩))):=Lib.hid (.inr ⟨_,rfl,(HM5.out.later HBr.out).lt,(HM5.out.later HBr.out).cell 3 rfl⟩)
    have HZ:Hid (Below wr.heap.size wr wr):=Lib.hid (Below.refl _ _)
    rcases(show k=0∨k=1∨k=2 by omega) with rfl | rfl | rfl
    · go_wp2_with (first
        | (go_at_call 26;(with_reducible refine(stepM_no HN0.out _ _ _).mono ?_);rintro e w6 ⟨rfl,rfl⟩)
        | (go_at_call 15;(with_reducible refine(derivM_no HN0.out).mono ?_);rintro e w6 ⟨rfl,rfl⟩)
        | (go_at_call 16;(with_reducible refine(crossM_no HN0.out _).mono ?_);rintro e w6 ⟨rfl,rfl⟩)
        | (go_at_call 20;(with_reducible refine(move_no HN0.out _ _ _ _ _ _ _ _).mono ?_);rintro e w6 ⟨rfl,hb6⟩;replace HZ:=Lib.hid (HZ.out.trans (hb6.mono HZ.out.size));replace HN0:=Lib.hid (HN0.out.later hb6);clear hb6 p0 p1 p2 p3 p4 p5 p6 r0 r1)
        | (go_at_call 13;(with_reducible refine(outs_no HN0.out).mono ?_);rintro e w6 ⟨rfl,rfl⟩)
        | (go_at_call 11;(with_reducible refine(mems_no HN0.out).mono ?_);rintro e w6 ⟨rfl,rfl⟩)
        | (go_at_call 12;(with_reducible refine(conts_no HN0.out).mono ?_);rintro e w6 ⟨rfl,rfl⟩)
        | (go_at_call 17;(with_reducible refine(states_no HN0.out).mono ?_);rintro e w6 ⟨rfl,rfl⟩)
        | (go_at_call 14;(with_reducible refine(again_no HN0.out).mono ?_);rintro e w6 ⟨rfl,rfl⟩))
      go_roundw
      case rel=>exact⟨1,by omega,by first | rfl | go_num,Lib.hid (HBr.out.trans (HZ.out.mono HBr.out.size))⟩
      case measure=>simp [intOf]
    · go_wp2_with (first
        | (go_at_call 26;(with_reducible refine(stepM_no HN1.out _ _ _).mono ?_);rintro e w6 ⟨rfl,rfl⟩)
        | (go_at_call 15;(with_reducible refine(derivM_no HN1.out).mono ?_);rintro e w6 ⟨rfl,rfl⟩)
        | (go_at_call 16;(with_reducible refine(crossM_no HN1.out _).mono ?_);rintro e w6 ⟨rfl,rfl⟩)
        | (go_at_call 20;(with_reducible refine(move_no HN1.out _ _ _ _ _ _ _ _).mono ?_);rintro e w6 ⟨rfl,hb6⟩;replace HZ:=Lib.hid (HZ.out.trans (hb6.mono HZ.out.size));replace HN1:=Lib.hid (HN1.out.later hb6);clear hb6 p0 p1 p2 p3 p4 p5 p6 r0 r1)
        | (go_at_call 13;(with_reducible refine(outs_no HN1.out).mono ?_);rintro e w6 ⟨rfl,rfl⟩)
        | (go_at_call 11;(with_reducible refine(mems_no HN1.out).mono ?_);rintro e w6 ⟨rfl,rfl⟩)
        | (go_at_call 12;(with_reducible refine(conts_no HN1.out).mono ?_);rintro e w6 ⟨rfl,rfl⟩)
        | (go_at_call 17;(with_reducible refine(states_no HN1.out).mono ?_);rintro e w6 ⟨rfl,rfl⟩)
        | (go_at_call 14;(with_reducible refine(again_no HN1.out).mono ?_);rintro e w6 ⟨rfl,rfl⟩))
      go_roundw
      case rel=>exact⟨2,by omega,by first | rfl | go_num,Lib.hid (HBr.out.trans (HZ.out.mono HBr.out.size))⟩
      case measure=>simp [intOf]
    · go_wp2_with (go_at_call 10;refine(HAW.out _).mono ?_;rintro e w6 ⟨rfl,hb6⟩)
      go_ret
      exact⟨rfl,(HBW.out.trans (HBr.out.mono HBW.out.size)).trans (hb6.mono (HBW.out.trans (HBr.out.mono HBW.out.size)).size)⟩
end Go.Proofs.YtpnlbjnbgemocaaGreat
