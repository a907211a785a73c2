import Derived.Test.YtpnlbjnbgemocaaGreatZQJ
import Derived.Test.YtpnlbjnbgemocaaGreatZQFToMdHN6
import Derived.Deep.RegionHeld3
import Derived.Test.YtpnlbjnbgemocaaGreatZFlAToHpKN11
import Derived.Laws.NewBlocks
import Derived.Deep.DeepCutAuto
namespace Go.Proofs.YtpnlbjnbgemocaaGreat
set_option linter.unusedVariables false
set_option linter.unusedSimpArgs false
set_option maxRecDepth 100000
open Go.RowKit Nums
end Go.Proofs.YtpnlbjnbgemocaaGreat
namespace Go.Proofs.YtpnlbjnbgemocaaGreat
set_option linter.unusedVariables false
set_option linter.unusedSimpArgs false
set_option maxRecDepth 100000
open Go.RowKit Nums
theorem Blk.tri {w:World}{g T:Nat}{u v x:Value}(h:Blk w g T #[u,v,x]):Tri w g u v x:=
  ⟨h.cell 0 rfl,h.cell 1 rfl,h.cell 2 rfl,h.free 0,h.free 1,h.free 2,h.lt⟩
structure RV where
  s:Bool
  a:Option Addr
  n:Nat
  c:Nat
  b:Option Addr
  m:Nat
  d:Nat
def RV.Is (r:RV)(k j:Nat)(q:Rat)(w:World):Prop:=∃ xs ys,Row w r.a r.n r.c xs∧Row w r.b r.m r.d ys∧mkRat (sv r.s (val xs)) (val ys)=q∧r.n≤k∧r.m≤j
theorem RV.Is.later {r:RV}{k j:Nat}{q:Rat}{w w':World}(h:r.Is k j q w)(hb:Below w.heap.size w w'):r.Is k j q w':=by
  obtain⟨xs,ys,h1,h2,h3⟩:=h;exact⟨xs,ys,h1.later hb,h2.later hb,h3⟩
theorem RV.Is.more {r:RV}{k j k' j':Nat}{q:Rat}{w:World}(h:r.Is k j q w)(hk:k≤k')(hj:j≤j'):r.Is k' j' q w:=by
  obtain⟨xs,ys,h1,h2,h3,h4,h5⟩:=h;exact⟨xs,ys,h1,h2,h3,Nat.le_trans h4 hk,Nat.le_trans h5 hj⟩
def RatV (k j:Nat)(q:Rat)(w:World)(e:Ending)(w':World):Prop:=∃ r:RV,e=.returned (.agg #[.bool r.s,.slice r.a r.n r.c,.slice r.b r.m r.d])∧r.Is k j q w'∧Below w.heap.size w w'
theorem ratK_V {k j:Nat}{q:Rat}{w:World}:∀ e w',RatK k j q w e w'→RatV k j q w e w':=by
  rintro e w' ⟨a,n,c,b,m,d,rfl,hn,hm,h1,h2,hb⟩
  exact⟨⟨_,a,n,c,b,m,d⟩,rfl,⟨_,_,h1,h2,rat_limbs q,hn,hm⟩,hb⟩
section ops
variable {w:World}
theorem neg_v {r:RV}{k j:Nat}{p:Rat}(h:r.Is k j p w)(hk:k≤95)(hj:j≤95)(hj1:1≤j):Calls Tryz.prog 178 #[.agg #[.bool r.s,.slice r.a r.n r.c,.slice r.b r.m r.d]] w (RatV k j (-p) w):=by
  obtain⟨xs,ys,h1,h2,h3,h4,h5⟩:=h;exact(negR k j (-p) h1 h2 (by rw [h3,Rat.neg_neg]) h4 h5 hk hj1 hj).mono ratK_V
end ops
theorem Blk.putR {w:World}{g T:Nat}{vs:Array Value}(h:Blk w g T vs)(j:Nat)(u:Value):Blk (w.setCell ⟨g,j,none⟩ u) g T (vs.setIfInBounds j u):=by
  unfold Blk World.setCell at *
  simp only [Array.getElem?_modify,h]
  simp
theorem Blk.fiveR {w:World}{g T:Nat}{x0 x1 x2 x3 x4:Value}(h:Blk w g T #[x0,x1,x2,x3,x4]):w.cell? ⟨g,0,none⟩=some x0∧w.cell? ⟨g,1,none⟩=some x1∧w.cell? ⟨g,2,none⟩=some x2∧w.cell? ⟨g,3,none⟩=some x3∧w.cell? ⟨g,4,none⟩=some x4:=⟨h.cell 0 rfl,h.cell 1 rfl,h.cell 2 rfl,h.cell 3 rfl,h.cell 4 rfl⟩
end Go.Proofs.YtpnlbjnbgemocaaGreat
namespace Go.Proofs.YtpnlbjnbgemocaaGreat
set_option linter.unusedVariables false
set_option linter.unusedSimpArgs false
set_option maxRecDepth 100000
open Go.RowKit Nums
theorem isNothing_t (k:Int)(r:RV)(nm:ByteArray)(w:World):Calls Tryz.prog 165 #[.agg #[.int .i64 k,.bool r.s,.slice r.a r.n r.c,.slice r.b r.m r.d,.string nm]] w fun e w'=>e=.returned (.bool (decide (k=0)))∧Below w.heap.size w w':=by
  obtain⟨W1,hW1⟩:∃ W1,W1=w.alloc (.cells #[.int .i64 k,.bool r.s,.slice r.a r.n r.c,.slice r.b r.m r.d,.string nm] 51):=⟨_,rfl⟩
  have hb1:Below w.heap.size w W1:=by rw [hW1];exact below_one _ _
  have HB:=Lib.hid hb1
  have HK:=Lib.hid (show Blk W1 w.heap.size 51 #[.int .i64 k,.bool r.s,.slice r.a r.n r.c,.slice r.b r.m r.d,.string nm] by rw [hW1];exact Blk.new _ _ _)
  have HW1:=Lib.hid hW1
  clear hb1 hW1
  by_cases hk:k=0
  · subst hk
    obtain⟨p0,p1,p2,p3,p4⟩:=HK.out.fiveR
    go_enter Tryz.func165,Tryz.ntmps165
    go_upto_region 1 with fail
    rw [←HW1.out];clear HW1
    go_wp2_with fail
    go_ret
    exact⟨rfl,HB.out⟩
  · rw [decide_eq_false hk]
    obtain⟨p0,p1,p2,p3,p4⟩:=HK.out.fiveR
    go_enter Tryz.func165,Tryz.ntmps165
    go_upto_region 1 with fail
    rw [←HW1.out];clear HW1
    go_wp2_with fail
    go_ret
    exact⟨show Ending.returned (.bool (k==0))=_ by simp [hk],HB.out⟩
end Go.Proofs.YtpnlbjnbgemocaaGreat
namespace Go.Proofs.YtpnlbjnbgemocaaGreat
set_option linter.unusedVariables false
set_option linter.unusedSimpArgs false
set_option maxRecDepth 100000
open Go.RowKit Nums
def ValV (k:Int)(K J:Nat)(q:Rat)(nm:ByteArray)(w:World)(e:Ending)(w':World):Prop:=∃ r:RV,e=.returned (.agg #[.int .i64 k,.bool r.s,.slice r.a r.n r.c,.slice r.b r.m r.d,.string nm])∧r.Is K J q w'∧Below w.heap.size w w'
theorem RV.Is.setB {r:RV}{k j g T i:Nat}{q:Rat}{w:World}{vs:Array Value}{u:Value}(h:r.Is k j q w)(hx:Blk w g T vs)(hi:vs[i]?=some u)(hu:∀ x,u≠.int .u32 x)(y:Value):r.Is k j q (w.setCell ⟨g,i,none⟩ y):=by
  obtain⟨xs,ys,h1,h2,h3⟩:=h
  exact⟨xs,ys,h1.set (hx.cell i hi) hu y,h2.set (hx.cell i hi) hu y,h3⟩
theorem RV.Is.put5 {r:RV}{k j g T:Nat}{q:Rat}{w:World}(h:r.Is k j q w)(b0:Blk w g T #[.int .i64 0,.bool false,.slice none 0 0,.slice none 0 0,.string ⟨#[]⟩])(y0 y1 y2 y3 y4:Value):r.Is k j q (((((w.setCell ⟨g,0,none⟩ y0).setCell ⟨g,1,none⟩ y1).setCell ⟨g,2,none⟩ y2).setCell ⟨g,3,none⟩ y3).setCell ⟨g,4,none⟩ y4):=by
  have b1:Blk _ g T #[y0,.bool false,.slice none 0 0,.slice none 0 0,.string ⟨#[]⟩]:=b0.putR 0 y0
  have b2:Blk _ g T #[y0,y1,.slice none 0 0,.slice none 0 0,.string ⟨#[]⟩]:=b1.putR 1 y1
  have b3:Blk _ g T #[y0,y1,y2,.slice none 0 0,.string ⟨#[]⟩]:=b2.putR 2 y2
  have b4:Blk _ g T #[y0,y1,y2,y3,.string ⟨#[]⟩]:=b3.putR 3 y3
  have h1:=h.setB (i:=0) (u:=.int .i64 0) b0 rfl (by intro x;simp) y0
  have h2:=h1.setB (i:=1) (u:=.bool false) b1 rfl (by intro x;simp) y1
  have h3:=h2.setB (i:=2) (u:=.slice none 0 0) b2 rfl (by intro x;simp) y2
  have h4:=h3.setB (i:=3) (u:=.slice none 0 0) b3 rfl (by intro x;simp) y3
  exact h4.setB (i:=4) (u:=.string ⟨#[]⟩) b4 rfl (by intro x;simp) y4
theorem below_put5 {B g:Nat}{a w:World}(h:Below B a w)(hg:B≤g)(y0 y1 y2 y3 y4:Value):Below B a (((((w.setCell ⟨g,0,none⟩ y0).setCell ⟨g,1,none⟩ y1).setCell ⟨g,2,none⟩ y2).setCell ⟨g,3,none⟩ y3).setCell ⟨g,4,none⟩ y4):=((((h.setCell hg _).setCell hg _).setCell hg _).setCell hg _).setCell hg _
theorem Blk.fiveF {w:World}{g T:Nat}{vs:Array Value}(h:Blk w g T vs):w.frozen? ⟨g,0,none⟩=false∧w.frozen? ⟨g,1,none⟩=false∧w.frozen? ⟨g,2,none⟩=false∧w.frozen? ⟨g,3,none⟩=false∧w.frozen? ⟨g,4,none⟩=false:=⟨h.free 0,h.free 1,h.free 2,h.free 3,h.free 4⟩
end Go.Proofs.YtpnlbjnbgemocaaGreat
