import Derived.Test.YtpnlbjnbgemocaaGreatZICToIDN4
import Derived.Deep.RegionWith
import Derived.Shelf.Strings.Search2
import Derived.Shelf.Strings.Prefix
import Derived.Shelf.Strings.Repeat
import Derived.Test.YtpnlbjnbgemocaaGreatProg
import Derived.Test.YtpnlbjnbgemocaaGreatZIA
import Derived.Test.YtpnlbjnbgemocaaGreatZEyAToFlTN4
import Derived.Test.YtpnlbjnbgemocaaGreatZNdAToPlanMN6
import Derived.Test.YtpnlbjnbgemocaaGreatZSfAToFlPN13
import Derived.Test.YtpnlbjnbgemocaaGreatZPlEToExBN12
import Derived.Test.YtpnlbjnbgemocaaGreatZMdC
import Derived.Deep.DeepCutAuto
namespace Go.Proofs.YtpnlbjnbgemocaaGreat
set_option linter.unusedVariables false
set_option linter.unusedSimpArgs false
set_option maxRecDepth 100000
open Go.RowKit Nums
end Go.Proofs.YtpnlbjnbgemocaaGreat
/- What the document's answer's Div tells, signs apart. -/
namespace Go.Proofs.YtpnlbjnbgemocaaGreat
set_option linter.unusedVariables false
set_option linter.unusedSimpArgs false
set_option maxRecDepth 100000
open Go.RowKit Nums
end Go.Proofs.YtpnlbjnbgemocaaGreat
/- What the document's answer's Div tells, signs apart. -/
namespace Go.Proofs.YtpnlbjnbgemocaaGreat
set_option linter.unusedVariables false
set_option linter.unusedSimpArgs false
set_option maxRecDepth 100000
open Go.RowKit Nums
end Go.Proofs.YtpnlbjnbgemocaaGreat
/- What the document's answer's Div tells, in the words of the integers that it is handed. -/
namespace Go.Proofs.YtpnlbjnbgemocaaGreat
set_option linter.unusedVariables false
set_option linter.unusedSimpArgs false
set_option maxRecDepth 100000
open Go.RowKit Nums
section
variable {s t:Bool} {a b:Option Addr} {n c m d:Nat} {xs ys:List Nat} {w:World} {X Y:Int}
end
end Go.Proofs.YtpnlbjnbgemocaaGreat
namespace Go.Proofs.YtpnlbjnbgemocaaGreat
set_option linter.unusedVariables false
set_option linter.unusedSimpArgs false
set_option maxRecDepth 100000
open Go.RowKit Nums
set_option maxHeartbeats 1000000 in
theorem rprintI (T:ByteArray)(Z:Int)(s:Bool)(a:Option Addr)(n c:Nat)(xs:List Nat)(w:World)(hr:Row w a n c xs)(hn:n≤12)(hZ:sv s (val xs)=Z)(hT:decI Z=T)(hsz:(decStr Z.natAbs).size≤1000) :
    Calls Tryz.prog 75 #[.agg #[.bool s,.slice a n c]] w fun e w'=>e=.returned (.string T)∧Below w.heap.size w w':=by
  subst hT
  have LZ:Hid ((limbs Z.natAbs).length≤12):=lenZ_raw hr hn hZ
  have XA:=Lib.hid (box_new w (.bool s) (.slice a n c))
  have HB:=Lib.hid (below_one w (.cells #[.bool s,.slice a n c] 44))
  have RA:=Lib.hid (hr.later HB.out);clear hr
  have HZ:=Lib.hid hZ;clear hZ
  obtain⟨T,hT⟩:∃ T,decStr (val (limbs Z.natAbs))=T:=⟨_,rfl⟩
  have hsz2:1+T.size≤9223372036854775807:=by rw [←hT,val_limbs];omega
  have HT:=Lib.hid hT
  rw [val_limbs] at hT
  by_cases h:Z<0
  · have e:decI Z=⟨#[45]⟩++T:=by rw [decI,if_pos h,hT]
    rw [e];clear e hT hsz
    have HS:Hid (decide (Z<0)=true):=by show _=_;simpa using h
    clear h
    go_enter Tryz.func75,Tryz.ntmps75
    go_wp2_with fail
    refine(rnormS 12 Z RA.out HZ.out (by omega) LZ.out HS.out).mono ?_
    rintro e w1 ⟨a1,m1,c1,rfl,hm1,hrow,hb⟩
    obtain⟨k0,k1,k2,k3,k4⟩:=XA.out.later hb
    have R1:=Lib.hid (hrow.put k0 k1 (.bool true) (.slice a1 m1 c1));clear hrow
    replace HB:=Lib.hid (below_put (bthen HB.out hb) (Nat.le_refl _) (.bool true) (.slice a1 m1 c1));clear hb
    go_wp2_with fail
    refine(rprintN T R1.out hm1 HT.out).mono ?_
    rintro e w2 ⟨rfl,hb⟩
    replace HB:=Lib.hid (bthen HB.out hb);clear hb
    go_wp2
    go_ret
    exact⟨rfl,HB.out⟩
  · have e:decI Z=T:=by rw [decI,if_neg h,hT]
    rw [e];clear e hT hsz
    have HS:Hid (decide (Z<0)=false):=by show _=_;simpa using h
    clear h
    go_enter Tryz.func75,Tryz.ntmps75
    go_wp2_with fail
    refine(rnormS 12 Z RA.out HZ.out (by omega) LZ.out HS.out).mono ?_
    rintro e w1 ⟨a1,m1,c1,rfl,hm1,hrow,hb⟩
    obtain⟨k0,k1,k2,k3,k4⟩:=XA.out.later hb
    have R1:=Lib.hid (hrow.put k0 k1 (.bool false) (.slice a1 m1 c1));clear hrow
    replace HB:=Lib.hid (below_put (bthen HB.out hb) (Nat.le_refl _) (.bool false) (.slice a1 m1 c1));clear hb
    go_wp2_with fail
    refine(rprintN T R1.out hm1 HT.out).mono ?_
    rintro e w2 ⟨rfl,hb⟩
    replace HB:=Lib.hid (bthen HB.out hb);clear hb
    go_wp2
    go_ret
    exact⟨rfl,HB.out⟩
end Go.Proofs.YtpnlbjnbgemocaaGreat
namespace Go.Proofs.YtpnlbjnbgemocaaGreat
set_option linter.unusedVariables false
set_option linter.unusedSimpArgs false
set_option maxRecDepth 100000
open Go.Shelf Go.RowKit Go.Lib
end Go.Proofs.YtpnlbjnbgemocaaGreat
/- Blocks of three; what asInt and over tell. No condition. -/
namespace Go.Proofs.YtpnlbjnbgemocaaGreat
set_option linter.unusedVariables false
set_option linter.unusedSimpArgs false
set_option maxRecDepth 100000
open Go.RowKit Nums
def Tri (w:World)(g:Nat)(u v x:Value):Prop:=
  w.cell? ⟨g,0,none⟩=some u∧w.cell? ⟨g,1,none⟩=some v∧w.cell? ⟨g,2,none⟩=some x∧w.frozen? ⟨g,0,none⟩=false∧w.frozen? ⟨g,1,none⟩=false∧w.frozen? ⟨g,2,none⟩=false∧g<w.heap.size
theorem Tri.below {B g:Nat}{w w':World}{u v x:Value}(h:Tri w g u v x)(hb:Below B w w')(hg:g<B):Tri w' g u v x:=
  ⟨(hb.cell (p:=⟨g,0,none⟩) hg).trans h.1,(hb.cell (p:=⟨g,1,none⟩) hg).trans h.2.1,(hb.cell (p:=⟨g,2,none⟩) hg).trans h.2.2.1,(hb.frozen (p:=⟨g,0,none⟩) hg).trans h.2.2.2.1,(hb.frozen (p:=⟨g,1,none⟩) hg).trans h.2.2.2.2.1,(hb.frozen (p:=⟨g,2,none⟩) hg).trans h.2.2.2.2.2.1,Nat.lt_of_lt_of_le h.2.2.2.2.2.2 hb.size⟩
theorem Tri.later {g:Nat}{w w':World}{u v x:Value}(h:Tri w g u v x)(hb:Below w.heap.size w w'):Tri w' g u v x:=h.below hb h.2.2.2.2.2.2
theorem Tri.alloc {g:Nat}{w:World}{u v x:Value}(h:Tri w g u v x)(o:Obj):Tri (w.alloc o) g u v x:=
  h.below ((Below.refl _ _).alloc (Nat.le_refl _) o) h.2.2.2.2.2.2
theorem Tri.drew {g:Nat}{w:World}{u v x:Value}(h:Tri w g u v x):Tri w.drew g u v x:=h.below (Below.refl _ _).drew h.2.2.2.2.2.2
theorem tri_new (w:World)(u v x:Value):Tri (w.alloc (.cells #[u,v,x] 46)) w.heap.size u v x:=by
  have h:=heap_alloc_new w (.cells #[u,v,x] 46)
  refine⟨?_, ?_, ?_, ?_, ?_, ?_,by simp⟩
  · rw [cell_of_row _ _ _ #[u,v,x] 46 (0,0) h];rfl
  · rw [cell_of_row _ _ _ #[u,v,x] 46 (0,0) h];rfl
  · rw [cell_of_row _ _ _ #[u,v,x] 46 (0,0) h];rfl
  · exact frozen_of_row _ _ _ #[u,v,x] 46 h
  · exact frozen_of_row _ _ _ #[u,v,x] 46 h
  · exact frozen_of_row _ _ _ #[u,v,x] 46 h
theorem tri_newE {w:World}{g:Nat}{u v x:Value}(h:g=w.heap.size):Tri (w.alloc (.cells #[u,v,x] 46)) g u v x:=h▸tri_new w u v x
theorem box_newE {w:World}{g:Nat}{u v:Value}(h:g=w.heap.size):Box (w.alloc (.cells #[u,v] 44)) g u v:=h▸box_new w u v
theorem Row.put3 {w:World}{a:Option Addr}{n c g:Nat}{xs:List Nat}{s:Bool}{a1 a2:Option Addr}{n1 c1 n2 c2:Nat}(h:Row w a n c xs)(x:Tri w g (.bool s) (.slice a1 n1 c1) (.slice a2 n2 c2))(p q r:Value) :
    Row (((w.setCell ⟨g,0,none⟩ p).setCell ⟨g,1,none⟩ q).setCell ⟨g,2,none⟩ r) a n c xs:=by
  refine(h.put x.1 x.2.1 p q).set (u:=.slice a2 n2 c2) ?_ (by intro x;simp) r
  rw [cell_other (by simp),cell_other (by simp)];exact x.2.2.1
theorem below_put3 {B g:Nat}{a w:World}(h:Below B a w)(hg:B≤g)(p q r:Value):Below B a (((w.setCell ⟨g,0,none⟩ p).setCell ⟨g,1,none⟩ q).setCell ⟨g,2,none⟩ r):=(below_put h hg p q).setCell hg _
theorem Tri.put {w:World}{g:Nat}{u v x:Value}(h:Tri w g u v x)(p q r:Value):Tri (((w.setCell ⟨g,0,none⟩ p).setCell ⟨g,1,none⟩ q).setCell ⟨g,2,none⟩ r) g p q r:=by
  obtain⟨h0,h1,h2,h3,h4,h5,h6⟩:=h
  have e1:(w.setCell ⟨g,0,none⟩ p).cell? ⟨g,1,none⟩=some v:=by rw [cell_other (by simp)];exact h1
  have e2:((w.setCell ⟨g,0,none⟩ p).setCell ⟨g,1,none⟩ q).cell? ⟨g,2,none⟩=some x:=by rw [cell_other (by simp),cell_other (by simp)];exact h2
  refine⟨?_, ?_,cell_here e2,by simpa using h3,by simpa using h4,by simpa using h5,by simpa using h6⟩
  · rw [cell_other (by simp),cell_other (by simp)];exact cell_here h0
  · rw [cell_other (by simp)];exact cell_here e1
theorem Tri.far {w:World}{g g':Nat}{u v x:Value}(h:Tri w g u v x)(hg:g'≠g)(p q r:Value):Tri (((w.setCell ⟨g',0,none⟩ p).setCell ⟨g',1,none⟩ q).setCell ⟨g',2,none⟩ r) g u v x:=by
  obtain⟨h0,h1,h2,h3,h4,h5,h6⟩:=h
  refine⟨?_, ?_, ?_,by simpa using h3,by simpa using h4,by simpa using h5,by simpa using h6⟩
  · rw [cell_other (by simp),cell_other (by simp),cell_other (by simp)];exact h0
  · rw [cell_other (by simp),cell_other (by simp),cell_other (by simp)];exact h1
  · rw [cell_other (by simp),cell_other (by simp),cell_other (by simp)];exact h2
theorem Tri.far2 {w:World}{g g':Nat}{u v x:Value}(h:Tri w g u v x)(hg:g'≠g)(p q:Value):Tri ((w.setCell ⟨g',0,none⟩ p).setCell ⟨g',1,none⟩ q) g u v x:=by
  obtain⟨h0,h1,h2,h3,h4,h5,h6⟩:=h
  refine⟨?_, ?_, ?_,by simpa using h3,by simpa using h4,by simpa using h5,by simpa using h6⟩
  · rw [cell_other (by simp),cell_other (by simp)];exact h0
  · rw [cell_other (by simp),cell_other (by simp)];exact h1
  · rw [cell_other (by simp),cell_other (by simp)];exact h2
def RatK (k j:Nat)(q:Rat)(w:World)(e:Ending)(w':World):Prop:=
  ∃ a n c b m d,e=.returned (.agg #[.bool (decide (q.num<0)),.slice a n c,.slice b m d])∧n≤k∧m≤j∧Row w' a n c (limbs q.num.natAbs)∧Row w' b m d (limbs q.den)∧Below w.heap.size w w'
theorem rat_limbs (q:Rat):mkRat (sv (decide (q.num<0)) (val (limbs q.num.natAbs))) (val (limbs q.den))=q:=by
  rw [sv_limbs,val_limbs,Rat.mkRat_self]
theorem asInt_any (a:Option Addr)(n c:Nat)(w:World) :
    Calls Tryz.prog 134 #[.slice a n c] w fun e w'=>e=.returned (.agg #[.bool false,.slice a n c])∧Below w.heap.size w w':=by
  go_enter Tryz.func134,Tryz.ntmps134
  go_wp2
  exact bodyPost_ret (v:=.agg #[.bool false,.slice a n c]) (by simp [results,Tryz.results134,go_sem]) rfl ⟨rfl,below_one _ _⟩
theorem over_any (s:Bool)(a b:Option Addr)(n c m d:Nat)(w:World) :
    Calls Tryz.prog 86 #[.agg #[.bool s,.slice a n c],.slice b m d] w fun e w'=>e=.returned (.agg #[.bool s,.slice a n c,.slice b m d])∧Below w.heap.size w w':=by
  go_enter Tryz.func86,Tryz.ntmps86
  go_wp2
  exact bodyPost_ret (v:=.agg #[.bool s,.slice a n c,.slice b m d]) (by simp [results,Tryz.results86,go_sem]) rfl ⟨rfl,below_two _ _ _⟩
end Go.Proofs.YtpnlbjnbgemocaaGreat
/- What Of and said tell. -/
namespace Go.Proofs.YtpnlbjnbgemocaaGreat
set_option linter.unusedVariables false
set_option linter.unusedSimpArgs false
set_option maxRecDepth 100000
open Go.RowKit Nums
def RawK (k j:Nat)(q:Rat)(w:World)(e:Ending)(w':World):Prop:=
  ∃ s a n c b m d xs ys,e=.returned (.agg #[.bool s,.slice a n c,.slice b m d])∧n≤k∧m≤j∧Row w' a n c xs∧Row w' b m d ys∧mkRat (sv s (val xs)) (val ys)=q∧0<val ys∧Below w.heap.size w w'
theorem limbs_1:limbs 1=[1]:=limbs_one 1 (by omega) (by omega)
theorem ofR (k:Nat)(Z:Int)(w:World)(h0:-9223372036854775808≤Z)(h1:Z<9223372036854775808)(hk:(limbs Z.natAbs).length≤k) :
    Calls Tryz.prog 127 #[.int .i64 Z] w (RatK k 1 (Z:Rat) w):=by
  have HB:=Lib.hid (below_one w (.cells #[.bool false,.slice none 0 0,.slice none 0 0] 46))
  have X0:=Lib.hid (tri_new w (.bool false) (.slice none 0 0) (.slice none 0 0))
  have HK:=Lib.hid hk;clear hk
  go_enter Tryz.func127,Tryz.ntmps127
  go_wp2_with fail
  refine(ofI k Z _ h0 h1 HK.out).mono ?_
  rintro e w1 ⟨a,n,c,rfl,hn,hr,hb⟩
  have RL:=Lib.hid (row_lit w1 1 1 rfl (by omega) (by omega))
  have b1:=below_one w1 (.cells #[.int .u32 1] 120)
  replace HB:=Lib.hid (bthen (bthen HB.out hb) b1)
  replace X0:=Lib.hid ((X0.out.later hb).later b1)
  have R0:=Lib.hid (hr.later b1);clear hr hb b1
  go_wp2_with fail
  refine(over_any _ _ _ _ _ _ _ _).mono ?_
  rintro e w2 ⟨rfl,hb⟩
  replace HB:=Lib.hid (bthen HB.out hb)
  replace X0:=Lib.hid (X0.out.later hb)
  replace R0:=Lib.hid (R0.out.later hb)
  replace RL:=Lib.hid (RL.out.later hb);clear hb
  obtain⟨k0,k1,k2,k3,k4,k5,k6⟩:=X0.out
  go_wp2
  exact bodyPost_ret (v:=.agg #[.bool (decide (Z<0)),.slice a n c,.slice (some ⟨w1.heap.size,0,none⟩) 1 1]) (by simp [results,Tryz.results127,go_sem, *]) rfl
    ⟨a,n,c,_,1,1,by rw [Rat.num_intCast],hn,Nat.le_refl _,by rw [Rat.num_intCast];exact R0.out.put3 X0.out _ _ _,by rw [Rat.den_intCast];exact RL.out.put3 X0.out _ _ _,below_put3 HB.out (Nat.le_refl _) _ _ _⟩
theorem said_zero (k j:Nat)(s:Bool)(a b:Option Addr)(n c m d:Nat)(ys:List Nat)(w:World)(h1:Row w b m d ys)(hm:m≤100)(hj:1≤j)(hy:val ys=0) :
    Calls Tryz.prog 84 #[.agg #[.bool s,.slice a n c,.slice b m d]] w (RawK k j 0 w):=by
  have HB:=Lib.hid (below_two w (.cells #[.bool s,.slice a n c,.slice b m d] 46) (.cells #[.bool false,.slice none 0 0,.slice none 0 0] 46))
  have X0:=Lib.hid ((tri_new w (.bool s) (.slice a n c) (.slice b m d)).alloc (.cells #[.bool false,.slice none 0 0,.slice none 0 0] 46))
  have X1:Hid (Tri ((w.alloc (.cells #[.bool s,.slice a n c,.slice b m d] 46)).alloc (.cells #[.bool false,.slice none 0 0,.slice none 0 0] 46)) (w.heap.size+1) (.bool false) (.slice none 0 0) (.slice none 0 0)):=tri_newE (by simp)
  have R1:=Lib.hid (h1.later HB.out);clear h1
  have HY:Hid (((bitsOf (val ys)).length:Int)=0):=by show _=_;rw [hy,bits_zero];rfl
  clear hy
  go_enter Tryz.func84,Tryz.ntmps84
  go_wp2_with fail
  refine(bitsI 0 R1.out hm HY.out).mono ?_
  rintro e w1 ⟨rfl,hb⟩
  replace HB:=Lib.hid (bthen HB.out hb)
  replace X0:=Lib.hid (X0.out.later hb)
  replace X1:=Lib.hid (X1.out.later hb)
  clear hb
  obtain⟨k0,k1,k2,k3,k4,k5,k6⟩:=X0.out
  go_wp2_with fail
  refine(ofR 0 0 _ (by omega) (by omega) (by rw [show(0:Int).natAbs=0 from rfl,limbs_zero];exact Nat.le_refl _)).mono ?_
  rintro e w2 ⟨a2,n2,c2,b2,m2,d2,rfl,hn2,hm2,hr,hr2,hb⟩
  have R2:=Lib.hid hr;clear hr
  have R3:=Lib.hid hr2;clear hr2
  replace HB:=Lib.hid (bthen HB.out hb)
  replace X1:=Lib.hid (X1.out.later hb)
  clear hb k0 k1 k2 k3 k4 k5 k6
  obtain⟨k0,k1,k2,k3,k4,k5,k6⟩:=X1.out
  go_wp2
  exact bodyPost_ret (v:=.agg #[.bool (decide (((0:Int):Rat).num<0)),.slice a2 n2 c2,.slice b2 m2 d2]) (by simp [results,Tryz.results84,go_sem, *]) rfl
    ⟨_,a2,n2,c2,b2,m2,d2,_,_,rfl,by omega,by omega,R2.out.put3 X1.out _ _ _,R3.out.put3 X1.out _ _ _,by rw [rat_limbs];rfl,by rw [val_limbs];decide,below_put3 HB.out (by omega) _ _ _⟩
theorem said_some (k j:Nat)(q:Rat)(s:Bool)(a b:Option Addr)(n c m d:Nat)(xs ys:List Nat)(w:World)(h0:Row w a n c xs)(h1:Row w b m d ys)(hn:n≤k)(hm:m≤j)(hj:j≤100)(hy:0<val ys)(hq:mkRat (sv s (val xs)) (val ys)=q) :
    Calls Tryz.prog 84 #[.agg #[.bool s,.slice a n c,.slice b m d]] w (RawK k j q w):=by
  have HB:=Lib.hid (below_two w (.cells #[.bool s,.slice a n c,.slice b m d] 46) (.cells #[.bool false,.slice none 0 0,.slice none 0 0] 46))
  have X0:=Lib.hid ((tri_new w (.bool s) (.slice a n c) (.slice b m d)).alloc (.cells #[.bool false,.slice none 0 0,.slice none 0 0] 46))
  have X1:Hid (Tri ((w.alloc (.cells #[.bool s,.slice a n c,.slice b m d] 46)).alloc (.cells #[.bool false,.slice none 0 0,.slice none 0 0] 46)) (w.heap.size+1) (.bool false) (.slice none 0 0) (.slice none 0 0)):=tri_newE (by simp)
  have R0:=Lib.hid (h0.later HB.out);clear h0
  have R1:=Lib.hid (h1.later HB.out);clear h1
  obtain⟨T,hT⟩:∃ T,((bitsOf (val ys)).length:Int)=T:=⟨_,rfl⟩
  have hb0:(T==0)=false:=by
    rw [beq_eq_false_iff_ne];rintro rfl
    have:(bitsOf (val ys)).length=0:=by omega
    have h2:=bval_bits (val ys)
    rw [List.length_eq_zero_iff.1 this] at h2
    simp [bval] at h2
    omega
  have HT:=Lib.hid hT;clear hT
  have HQ:=Lib.hid hq;clear hq
  go_enter Tryz.func84,Tryz.ntmps84
  go_wp2_with fail
  refine(bitsI T R1.out (by omega) HT.out).mono ?_
  rintro e w1 ⟨rfl,hb⟩
  replace HB:=Lib.hid (bthen HB.out hb)
  replace X0:=Lib.hid (X0.out.later hb)
  replace X1:=Lib.hid (X1.out.later hb)
  replace R0:=Lib.hid (R0.out.later hb)
  replace R1:=Lib.hid (R1.out.later hb)
  clear hb
  obtain⟨k0,k1,k2,k3,k4,k5,k6⟩:=X0.out
  obtain⟨l0,l1,l2,l3,l4,l5,l6⟩:=X1.out
  go_wp2
  exact bodyPost_ret (v:=.agg #[.bool s,.slice a n c,.slice b m d]) (by simp [results,Tryz.results84,go_sem, *]) rfl
    ⟨s,a,n,c,b,m,d,xs,ys,rfl,hn,hm,R0.out.put3 X1.out _ _ _,R1.out.put3 X1.out _ _ _,HQ.out,hy,below_put3 HB.out (by omega) _ _ _⟩
theorem saidR (k j:Nat)(q:Rat){s:Bool}{a b:Option Addr}{n c m d:Nat}{xs ys:List Nat}{w:World}(h0:Row w a n c xs)(h1:Row w b m d ys)(hq:mkRat (sv s (val xs)) (val ys)=q)(hn:n≤k)(hm:m≤j)(hj1:1≤j)(hj:j≤100) :
    Calls Tryz.prog 84 #[.agg #[.bool s,.slice a n c,.slice b m d]] w (RawK k j q w):=by
  rcases Nat.eq_zero_or_pos (val ys) with h | h
  · have:q=0:=by rw [←hq,h,Rat.mkRat_zero]
    subst this
    exact said_zero k j s a b n c m d ys w h1 (by omega) hj1 h
  · exact said_some k j q s a b n c m d xs ys w h0 h1 hn hm hj h hq
end Go.Proofs.YtpnlbjnbgemocaaGreat
namespace Go.Proofs.YtpnlbjnbgemocaaGreat
set_option linter.unusedVariables false
set_option linter.unusedSimpArgs false
set_option maxRecDepth 100000
open Go.RowKit
theorem own_new (w:World):Own (w.alloc (.cells #[] 3)) w.heap.size (.slice (some ⟨w.heap.size,0,none⟩) 0 0) []:=World.ownsRow_lit (base:=w.heap.size) (e:=3) (size:=1) w #[] 0 (Nat.le_refl _) (Nat.zero_le _) (by simp)
theorem cloneI_t {a:Option Addr}{n c:Nat}{xs:List Int}{w:World}(h:IRow w w.heap.size a n c xs)(hn:n≤1000000):Calls Tryz.prog 158 #[.slice a n c] w fun e w'=>(∃ a' c',e=.returned (.slice a' n c')∧IRowP (fun b=>w.heap.size≤b∧b<w'.heap.size) w' a' n c' xs)∧Below w.heap.size w w':=by
  have qs:∀(w:World) (a:Option Addr) (n c n' c':Nat),(binOp .eql 77 (.slice a n c) (.slice none n' c')).run Tryz.prog w=.ok (.bool a.isNone) w:=fun w a n c n' c'=>Lib.run_eql_slice_nil w _ _ a n c n' c' Tryz.underlying77
  cases a with
  | none=>
    have hc:c=0:=h.2.2.2.1 rfl
    have hn0:n=0:=by have:=h.2.1;omega
    subst hc hn0
    have HX:=Lib.hid h
    clear h
    go_enter Tryz.func158,Tryz.ntmps158
    go_wp2
    go_ret
    exact⟨⟨none,0,rfl,⟨HX.out.1,Nat.le_refl _,Nat.zero_le _,fun _=>rfl,0,0,Or.inr (Nat.le_refl _),fun i hi=>absurd hi (Nat.not_lt_zero _)⟩⟩,Below.refl _ _⟩
  | some ad=>
    have HX:=Lib.hid h
    have HN:=Lib.hid hn
    have HO:=Lib.hid (own_new w)
    have HX1:=Lib.hid (h.below ((Below.refl w.heap.size w).alloc (Nat.le_refl _) (.cells #[] 3)))
    clear h hn
    go_enter Tryz.func158,Tryz.ntmps158
    go_wp2_with (at_builtin;refine appendR rfl _ _ 77 Tryz.underlying77 rfl w.heap.size w.heap.size (.slice (some ⟨w.heap.size,0,none⟩) 0 0) [] (some ad) n c xs rfl rfl HO.out HX1.out (by simp) (by simp) HN.out ?_)
    intro v' w' hown honly _
    obtain⟨a',c',rfl,hr⟩:=hown.irowP
    have HR:=Lib.hid hr
    have HB:=Lib.hid (show Below w.heap.size w w' from((Only.refl [some w.heap.size] w).alloc _ |>.trans honly).below (Nat.le_refl _) (by intro j hj;simp at hj;omega))
    clear hown hr honly
    go_wp2
    go_ret
    exact⟨⟨a',c',by rw [←HX.out.1];rfl,by have:=HR.out;rw [HX.out.1] at this;exact this⟩,HB.out⟩
set_option maxHeartbeats 4000000 in
theorem plain_no (x1 x2 x3 x4:Value)(w:World):Calls Tryz.prog 111 #[.agg #[.int .i64 0,x1,x2,x3,x4]] w fun e w'=>e=.returned (.agg zVal)∧Below w.heap.size w w':=by
  obtain⟨W1,hW1⟩:∃ W1,W1=w.alloc (.cells #[.int .i64 0,x1,x2,x3,x4] 51):=⟨_,rfl⟩
  obtain⟨W2,hW2⟩:∃ W2,W2=W1.alloc (.cells zVal 51):=⟨_,rfl⟩
  have hb1:Below w.heap.size w W1:=by rw [hW1];exact(Below.refl _ _).alloc (Nat.le_refl _) _
  have hb2:Below W1.heap.size W1 W2:=by rw [hW2];exact(Below.refl _ _).alloc (Nat.le_refl _) _
  have HK1:=Lib.hid ((show Blk W1 w.heap.size 51 #[.int .i64 0,x1,x2,x3,x4] by rw [hW1];exact Blk.new _ _ _).later hb2)
  have HK2:=Lib.hid (show Blk W2 W1.heap.size 51 zVal by rw [hW2];exact Blk.new _ _ _)
  have HB:=Lib.hid (hb1.trans (hb2.mono hb1.size))
  have HL:=Lib.hid (show w.heap.size≤W1.heap.size from hb1.size)
  have HS1:=Lib.hid (show w.heap.size+1=W1.heap.size by rw [hW1];simp)
  have HW1:=Lib.hid hW1
  have HW2:=Lib.hid hW2
  clear hb1 hb2 hW1 hW2
  have p0:=HK1.out.cell 0 rfl
  have z0:=HK2.out.cell 0 rfl
  have z1:=HK2.out.cell 1 rfl
  have z2:=HK2.out.cell 2 rfl
  have z3:=HK2.out.cell 3 rfl
  have z4:=HK2.out.cell 4 rfl
  have f0:=HK2.out.free 0
  have f1:=HK2.out.free 1
  have f2:=HK2.out.free 2
  have f3:=HK2.out.free 3
  have f4:=HK2.out.free 4
  unfold zVal at HW2
  go_enter Tryz.func111,Tryz.ntmps111
  go_upto_region 1 with fail
  rw [←HW1.out,←HW2.out];simp only [HS1.out];clear HW1 HW2 HS1
  go_wp2_with fail
  exact bodyPost_ret (v:=.agg zVal) (by simp [results,Tryz.results111,go_sem,zVal, *]) rfl ⟨rfl,((((HB.out.setCell (p:=⟨W1.heap.size,0,none⟩) HL.out _).setCell (p:=⟨W1.heap.size,1,none⟩) HL.out _).setCell (p:=⟨W1.heap.size,2,none⟩) HL.out _).setCell (p:=⟨W1.heap.size,3,none⟩) HL.out _).setCell (p:=⟨W1.heap.size,4,none⟩) HL.out _⟩
end Go.Proofs.YtpnlbjnbgemocaaGreat
