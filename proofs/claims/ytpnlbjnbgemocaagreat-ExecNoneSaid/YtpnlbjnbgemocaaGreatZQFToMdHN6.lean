import Derived.Test.YtpnlbjnbgemocaaGreatZQE
import Derived.Deep.DeepCutAuto
import Derived.Deep.RegionHeld3
import Derived.Test.YtpnlbjnbgemocaaGreatZICToIDN4
import Derived.ProofKit
import Derived.OpenShut
import Derived.ShutString
import Derived.ChangeOld
import Derived.Test.YtpnlbjnbgemocaaGreatZQC
import Derived.Test.YtpnlbjnbgemocaaGreatZQD
import Derived.Test.YtpnlbjnbgemocaaGreatZIFToEyBN4
import Derived.Test.YtpnlbjnbgemocaaGreatZEyAToFlTN4
import Derived.Test.YtpnlbjnbgemocaaGreatZFlX
import Derived.Test.YtpnlbjnbgemocaaGreatZPlEToExBN12
import Derived.Test.YtpnlbjnbgemocaaGreatZMdE
import Derived.Test.YtpnlbjnbgemocaaGreatZMdF
import Derived.Test.YtpnlbjnbgemocaaGreatZRfB
import Derived.Laws.ResultCell
import Derived.Laws.Rows
namespace Go.Proofs.YtpnlbjnbgemocaaGreat
set_option linter.unusedVariables false
set_option linter.unusedSimpArgs false
set_option maxRecDepth 100000
open Go.RowKit Nums
end Go.Proofs.YtpnlbjnbgemocaaGreat
/- What parseQuotient tells. -/
namespace Go.Proofs.YtpnlbjnbgemocaaGreat
set_option linter.unusedVariables false
set_option linter.unusedSimpArgs false
set_option maxRecDepth 100000
open Go.RowKit Nums
end Go.Proofs.YtpnlbjnbgemocaaGreat
/- What parseDecimal tells. -/
namespace Go.Proofs.YtpnlbjnbgemocaaGreat
set_option linter.unusedVariables false
set_option linter.unusedSimpArgs false
set_option maxRecDepth 100000
open Go.RowKit Nums
end Go.Proofs.YtpnlbjnbgemocaaGreat
namespace Go.Proofs.YtpnlbjnbgemocaaGreat
set_option linter.unusedVariables false
set_option linter.unusedSimpArgs false
set_option maxRecDepth 100000
open Go.RowKit Nums
section
variable {a b a' b':Option Addr} {n c m d n' c' m' d':Nat} {w:World} {p q:Rat}
end
end Go.Proofs.YtpnlbjnbgemocaaGreat
/- What Parse tells of a text of parts; the examples. -/
namespace Go.Proofs.YtpnlbjnbgemocaaGreat
set_option linter.unusedVariables false
set_option linter.unusedSimpArgs false
set_option maxRecDepth 100000
open Go.RowKit Nums
end Go.Proofs.YtpnlbjnbgemocaaGreat
/- What is printed is parsed. -/
namespace Go.Proofs.YtpnlbjnbgemocaaGreat
set_option linter.unusedVariables false
set_option linter.unusedSimpArgs false
set_option maxRecDepth 100000
open Go.RowKit Nums
end Go.Proofs.YtpnlbjnbgemocaaGreat
/- A number that came in: a side and two rows. -/
namespace Go.Proofs.YtpnlbjnbgemocaaGreat
set_option linter.unusedVariables false
set_option linter.unusedSimpArgs false
set_option maxRecDepth 100000
open Go.ChangeShapes Go.WideShapes Go.ChangeAt Go.RowKit Nums Go.Joins
end Go.Proofs.YtpnlbjnbgemocaaGreat
namespace Go.Proofs.YtpnlbjnbgemocaaGreat
set_option linter.unusedVariables false
set_option linter.unusedSimpArgs false
set_option maxRecDepth 100000
open Go.RowKit Nums
end Go.Proofs.YtpnlbjnbgemocaaGreat
/- How numbers compare. -/
namespace Go.Proofs.YtpnlbjnbgemocaaGreat
set_option linter.unusedVariables false
set_option linter.unusedSimpArgs false
set_option maxRecDepth 100000
open Go.RowKit Nums
end Go.Proofs.YtpnlbjnbgemocaaGreat
/- RatioOne, where a number is long. -/
namespace Go.Proofs.YtpnlbjnbgemocaaGreat
set_option linter.unusedVariables false
set_option linter.unusedSimpArgs false
set_option maxRecDepth 100000
open Go.RowKit Nums
end Go.Proofs.YtpnlbjnbgemocaaGreat
/- RatioOne, two numbers that are one. -/
namespace Go.Proofs.YtpnlbjnbgemocaaGreat
set_option linter.unusedVariables false
set_option linter.unusedSimpArgs false
set_option maxRecDepth 100000
open Go.RowKit Nums
end Go.Proofs.YtpnlbjnbgemocaaGreat
namespace Go.Proofs.YtpnlbjnbgemocaaGreat
set_option linter.unusedVariables false
set_option linter.unusedSimpArgs false
set_option maxRecDepth 100000
open Go.RowKit Gr
theorem plan_last {f:FlatM}{n:Nat}{o:List Int}(h:Once o n){k:Nat}(hk:k<n):∃ u M:Nat,u<n∧o.getD k 0=(u:Int)∧(lastsL (gOf f) (endB f) o n).getD u 0=(M:Int)∧Lpl (laF f o) o k=M:=by
  obtain⟨u,hu,hou⟩:=h.get hk
  have hge:=lastV_ge (f:=f) h hu
  obtain⟨j,hj,ej,_⟩:=h.plc hu
  refine⟨u,(lastV (gOf f) (endB f) o u).toNat,hu,hou, ?_, ?_⟩
  · rw [lasts_get _ _ _ hu];omega
  · unfold Lpl laF;rw [hou,Int.toNat_natCast]
end Go.Proofs.YtpnlbjnbgemocaaGreat
namespace Go.Proofs.YtpnlbjnbgemocaaGreat
set_option linter.unusedVariables false
set_option linter.unusedSimpArgs false
set_option maxRecDepth 100000
open Go.RowKit
structure ValX where
  kind:Int
  neg:Bool
  mag:Option Addr×Nat×Nat
  den:Option Addr×Nat×Nat
  name:ByteArray
def ValX.cs (x:ValX):List Value:=[.int .i64 x.kind,.bool x.neg,sl3 x.mag,sl3 x.den,.string x.name]
theorem ValX.cs_len (x:ValX):x.cs.length=5:=rfl
theorem ValX.cs_one (x:ValX):∀ u∈x.cs,u.oneCell'=true:=by
  intro u hu
  simp only [ValX.cs,List.mem_cons,List.not_mem_nil,or_false] at hu
  rcases hu with rfl | rfl | rfl | rfl | rfl <;> rfl
def flatX (xs:List ValX):List Value:=xs.flatMap ValX.cs
theorem flatX_append (xs ys:List ValX):flatX (xs++ys)=flatX xs++flatX ys:=List.flatMap_append
theorem flatX_get:∀(xs:List ValX) (i:Nat) (x:ValX),xs[i]?=some x→∀ j,j<5→(flatX xs)[i*5+j]?=x.cs[j]?
  | [],i,x,h=>by simp at h
  | y::ys,0,x,h=>by
    intro j hj
    simp at h;subst h
    unfold flatX
    rw [List.flatMap_cons,List.getElem?_append_left (by rw [ValX.cs_len];omega)]
    simp
  | y::ys,i+1,x,h=>by
    intro j hj
    have:=flatX_get ys i x (by simpa using h) j hj
    unfold flatX at this ⊢
    rw [List.flatMap_cons,List.getElem?_append_right (by rw [ValX.cs_len];omega),ValX.cs_len,show(i+1)*5+j-5=i*5+j by omega]
    exact this
def OwnX (w:World)(B:Nat)(v:Value)(xs:List ValX):Prop:=w.ownsRow B 51 5 v xs.length (flatX xs)
section
variable {w w':World} {B B':Nat} {v:Value} {xs:List ValX}
theorem OwnX.len (h:OwnX w B v xs):∃ a c,v=.slice a xs.length c:=by
  rcases h.2 with ⟨rfl,h0⟩ | ⟨g,cap,cur,rfl,_⟩
  · exact⟨none,0,by rw [h0]⟩
  · exact⟨_,cap,rfl⟩
theorem OwnX.keep (h:OwnX w B v xs)(hk:∀ k,v.ownBlock=some k→w'.heap[k]?=w.heap[k]?):OwnX w' B v xs:=by
  refine⟨h.1, ?_⟩
  rcases h.2 with h0 | ⟨g,cap,cur,rfl,hb,hg,hr⟩
  · exact Or.inl h0
  · exact Or.inr ⟨g,cap,cur,rfl,hb,(hk g rfl).trans hg,hr⟩
theorem OwnX.lt (h:OwnX w B v xs){k:Nat}(hk:v.ownBlock=some k):B≤k∧k<w.heap.size:=World.ownsRow.lt h k hk
theorem OwnX.later (h:OwnX w B v xs)(hb:Below w.heap.size w w'):OwnX w' B v xs:=h.keep fun k hk=>hb.block k (h.lt hk).2
theorem OwnX.setOther (h:OwnX w B v xs){g:Nat}(hg:g<B)(o:Nat)(x:Value):OwnX (w.setCell ⟨g,o,none⟩ x) B v xs:=h.keep fun k hk=>Below.heap_setCell w ⟨g,o,none⟩ x k (by have:=(h.lt hk).1;simp;omega)
theorem OwnX.nil (w:World)(B:Nat):OwnX w B (.slice none 0 0) []:=World.ownsRow_nil w B 51 5
theorem own_sliceX (h:OwnX w B v xs):∃ a n c,v=.slice a n c:=by
  obtain⟨a,c,e⟩:=h.len;exact⟨a,_,c,e⟩
end
theorem Only.ownX {B:Nat}{v:Value}{xs:List ValX}{a b:World}(h:Only [v.ownBlock] a b)(ho:OwnX a B v xs)(hB:B≤a.heap.size):Below B a b:=
  h.below hB fun j hj=>by
    simp at hj
    exact(ho.lt hj.symm).1
structure ValR (B:Nat) (w:World) (x:ValX) (q:ValM):Prop where
  kind:x.kind=q.kind
  neg:x.neg=q.neg
  mag:URow w B x.mag.1 x.mag.2.1 x.mag.2.2 q.mag
  den:URow w B x.den.1 x.den.2.1 x.den.2.2 q.den
  name:x.name=q.name
theorem ValR.keep {B:Nat}{w w':World}{x:ValX}{q:ValM}(h:ValR B w x q)(hb:Below B w w'):ValR B w' x q:=
  { h with mag:=h.mag.keep fun _ hp=>hb.cell hp,den:=h.den.keep fun _ hp=>hb.cell hp }
structure ValL (B:Nat) (w:World) (xs:List ValX) (qs:List ValM):Prop where
  len:xs.length=qs.length
  at_:∀(i:Nat) (x:ValX) (q:ValM),xs[i]?=some x→qs[i]?=some q→ValR B w x q
theorem ValL.nil (B:Nat)(w:World):ValL B w [] []:=⟨rfl,fun i x q h=>by simp at h⟩
theorem ValL.keep {B:Nat}{w w':World}{xs:List ValX}{qs:List ValM}(h:ValL B w xs qs)(hb:Below B w w'):ValL B w' xs qs:=⟨h.len,fun i x q hx hq=>(h.at_ i x q hx hq).keep hb⟩
theorem ValL.snoc {B:Nat}{w:World}{xs:List ValX}{qs:List ValM}{x:ValX}{q:ValM}(h:ValL B w xs qs)(hx:ValR B w x q):ValL B w (xs++[x]) (qs++[q]):=by
  refine⟨by simp [h.len],fun i y r hy hr=>?_⟩
  by_cases hi:i<xs.length
  · rw [List.getElem?_append_left hi] at hy
    rw [List.getElem?_append_left (by rw [←h.len];exact hi)] at hr
    exact h.at_ i y r hy hr
  · rw [List.getElem?_append_right (by omega)] at hy
    rw [List.getElem?_append_right (by rw [←h.len];omega),←h.len] at hr
    have hlt:i-xs.length<1:=(List.getElem?_eq_some_iff.1 hy).1
    have h0:i-xs.length=0:=by omega
    rw [h0] at hy hr
    simp at hy hr
    subst hy hr
    exact hx
structure ValF (q:ValM):Prop where
  kind:-9223372036854775808≤q.kind∧q.kind≤9223372036854775807
  name:q.name.size≤maxLen
def ValsR (P:Nat→Prop)(B:Nat)(w:World)(a:Option Addr)(n c:Nat)(qs:List ValM):Prop:=
  ∃(xs:List ValX) (b:Nat),xs.length=n∧n≤c∧c≤maxLen∧(a=some ⟨b,0,none⟩∨n≤0)∧(∀ i x,xs[i]?=some x→P b∧∀ j u,x.cs[j]?=some u→w.cell? ⟨b,i*5+j,none⟩=some u)∧ValL B w xs qs
theorem ValsR.keep {P Q:Nat→Prop}{B:Nat}{w w':World}{a:Option Addr}{n c:Nat}{qs:List ValM}(h:ValsR P B w a n c qs)(hk:KeepP P Q w w')(hb:Below B w w'):ValsR Q B w' a n c qs:=by
  obtain⟨xs,b,h1,h2,h3,h4,h5,h6⟩:=h
  exact⟨xs,b,h1,h2,h3,h4,fun i x hx=>⟨(hk b (h5 i x hx).1).1,fun j u hu=>((hk b (h5 i x hx).1).2 _).trans ((h5 i x hx).2 j u hu)⟩,h6.keep hb⟩
theorem OwnX.vals {B C:Nat}{w:World}{v:Value}{xs:List ValX}{qs:List ValM}(h:OwnX w C v xs)(hl:ValL B w xs qs):∃ a c,v=.slice a qs.length c∧ValsR (fun b=>C≤b∧b<w.heap.size) B w a qs.length c qs:=by
  rcases h.2 with ⟨rfl,h0⟩ | ⟨g,cap,cur,rfl,hC,hg,hnc,hcm,_⟩
  · have:qs.length=0:=by rw [←hl.len,h0]
    exact⟨none,0,by rw [this],xs,0,hl.len,by omega,Nat.zero_le _,.inr (by omega),fun i x hx=>by have:=(List.getElem?_eq_some_iff.1 hx).1;omega,hl⟩
  · refine⟨_,cap,by rw [←hl.len],xs,g,hl.len,by rw [←hl.len];exact hnc,hcm,.inl rfl,fun i x hx=>⟨⟨hC,(Array.getElem?_eq_some_iff.1 hg).1⟩,fun j u hu=>?_⟩,hl⟩
    have hj:j<5:=by rw [←ValX.cs_len x];exact(List.getElem?_eq_some_iff.1 hu).1
    have:=h.cells (g:=g) rfl (i*5+j) u (by rw [flatX_get xs i x hx j hj];exact hu)
    have e:(⟨g,0,none⟩:Addr).add (i*5+j)=⟨g,i*5+j,none⟩:=by unfold Addr.add;split <;> simp_all
    rw [e] at this
    exact this
theorem ValsR.srow {P:Nat→Prop}{B C:Nat}{w:World}{a:Option Addr}{n c:Nat}{qs:List ValM}(h:ValsR P B w a n c qs)(hP:∀ b,P b→b<C)(hB:B≤C)(hf:∀ q∈qs,ValF q):SRow 5 ValAt w C a n c qs:=by
  obtain⟨xs,b,h1,h2,h3,h4,h5,hl⟩:=h
  refine⟨by rw [←hl.len];exact h1,h2,h3,b,0,h4,fun i q hq=>?_⟩
  have hi:i<xs.length:=by rw [hl.len];exact(List.getElem?_eq_some_iff.1 hq).1
  have hx:xs[i]?=some xs[i]:=List.getElem?_eq_getElem hi
  obtain⟨hb,hc⟩:=h5 i _ hx
  have hr:=hl.at_ i _ q hx hq
  have hq':=hf q (List.mem_of_getElem? hq)
  have c0:=hc 0 _ rfl;have c1:=hc 1 _ rfl;have c2:=hc 2 _ rfl;have c3:=hc 3 _ rfl;have c4:=hc 4 _ rfl
  refine⟨hP b hb, ?_⟩
  rw [Nat.zero_add]
  exact⟨⟨by rw [←hr.kind];exact c0,hq'.kind⟩,by rw [←hr.neg];exact c1,⟨_,_,_,c2,(URow.p hr.mag).urow fun b hb=>Nat.lt_of_lt_of_le hb hB⟩,⟨_,_,_,c3,(URow.p hr.den).urow fun b hb=>Nat.lt_of_lt_of_le hb hB⟩,⟨by rw [←hr.name];exact c4,hq'.name⟩⟩
def BodyR (P:Nat→Prop)(w:World)(a:Option Addr)(n c:Nat)(qs:List InsP):Prop:=
  ∃(xs:List InsM) (b:Nat),xs.length=n∧n≤c∧c≤maxLen∧(a=some ⟨b,0,none⟩∨n≤0)∧(∀ i x,xs[i]?=some x→P b∧∀ j u,x.cs[j]?=some u→w.cell? ⟨b,i*11+j,none⟩=some u)∧InsL P w xs qs
theorem BodyR.keep {P Q:Nat→Prop}{w w':World}{a:Option Addr}{n c:Nat}{qs:List InsP}(h:BodyR P w a n c qs)(hk:KeepP P Q w w'):BodyR Q w' a n c qs:=by
  obtain⟨xs,b,h1,h2,h3,h4,h5,h6⟩:=h
  exact⟨xs,b,h1,h2,h3,h4,fun i x hx=>⟨(hk b (h5 i x hx).1).1,fun j u hu=>((hk b (h5 i x hx).1).2 _).trans ((h5 i x hx).2 j u hu)⟩,h6.keep hk⟩
theorem OwnS.body {B H C:Nat}{w:World}{v:Value}{xs:List InsM}{qs:List InsP}(h:OwnS w C v xs)(hl:InsL (PartN B H w v) w xs qs)(hC:H≤C):∃ a c,v=.slice a qs.length c∧BodyR (NewP B H w) w a qs.length c qs:=by
  have hl':InsL (NewP B H w) w xs qs:=hl.keep fun b p=>⟨⟨p.1,p.2.1⟩,fun _=>rfl⟩
  rcases h.2 with ⟨rfl,h0⟩ | ⟨g,cap,cur,rfl,hB,hg,hnc,hcm,_⟩
  · have:qs.length=0:=by rw [←hl.len,h0]
    exact⟨none,0,by rw [this],xs,0,hl.len,by omega,Nat.zero_le _,.inr (by omega),fun i x hx=>by have:=(List.getElem?_eq_some_iff.1 hx).1;omega,hl'⟩
  · refine⟨_,cap,by rw [←hl.len],xs,g,hl.len,by rw [←hl.len];exact hnc,hcm,.inl rfl,fun i x hx=>⟨⟨(Array.getElem?_eq_some_iff.1 hg).1,.inr (Nat.le_trans hC hB)⟩,fun j u hu=>?_⟩,hl'⟩
    have hj:j<11:=by rw [←InsM.cs_len x];exact(List.getElem?_eq_some_iff.1 hu).1
    have:=h.cells (g:=g) rfl (i*11+j) u (by rw [flatC_get xs i x hx j hj];exact hu)
    have e:(⟨g,0,none⟩:Addr).add (i*11+j)=⟨g,i*11+j,none⟩:=by unfold Addr.add;split <;> simp_all
    rw [e] at this
    exact this
theorem BodyR.srow {P:Nat→Prop}{C:Nat}{w:World}{a:Option Addr}{n c:Nat}{qs:List InsP}(h:BodyR P w a n c qs)(hP:∀ b,P b→b<C)(hf:∀ q∈qs,InsF q):SRow 11 InsAt w C a n c qs:=by
  obtain⟨xs,b,h1,h2,h3,h4,h5,hl⟩:=h
  refine⟨by rw [←hl.len];exact h1,h2,h3,b,0,h4,fun i q hq=>?_⟩
  have hi:i<xs.length:=by rw [hl.len];exact(List.getElem?_eq_some_iff.1 hq).1
  have hx:xs[i]?=some xs[i]:=List.getElem?_eq_getElem hi
  obtain⟨hb,hc⟩:=h5 i _ hx
  have hr:=hl.at_ i _ q hx hq
  have hq':=hf q (List.mem_of_getElem? hq)
  have c0:=hc 0 _ rfl;have c1:=hc 1 _ rfl;have c2:=hc 2 _ rfl;have c3:=hc 3 _ rfl;have c4:=hc 4 _ rfl;have c5:=hc 5 _ rfl;have c6:=hc 6 _ rfl;have c7:=hc 7 _ rfl;have c8:=hc 8 _ rfl;have c9:=hc 9 _ rfl;have c10:=hc 10 _ rfl
  refine⟨hP b hb, ?_⟩
  rw [Nat.zero_add]
  exact⟨⟨by rw [←hr.op];exact c0,hq'.op⟩,⟨by rw [←hr.dst];exact c1,hq'.dst⟩,⟨_,_,_,c2,hr.args.irow hP⟩,⟨by rw [←hr.k];exact c3,hq'.k⟩,
    ⟨⟨by rw [←hr.kind];exact c4,hq'.kind⟩,by rw [←hr.neg];exact c5,⟨_,_,_,c6,hr.mag.urow hP⟩,⟨_,_,_,c7,hr.den.urow hP⟩,⟨by rw [←hr.name];exact c8,hq'.name⟩⟩,⟨by rw [←hr.guard];exact c9,hq'.guard⟩,⟨_,_,_,c10,hr.resets.irow hP⟩⟩
theorem Tryz.infoVX:(Tryz.prog.info? 51).map (fun i=>(i.zero,i.size,i.bytes))=some (some (.agg #[.int .i64 0,.bool false,.slice none 0 0,.slice none 0 0,.string ⟨#[]⟩]),5,80):=by kernel_rfl
theorem stepVX {w:World}{ops:Array Oper}{o:Oper}{a:Act}{K:Act→World→Prop}{Q:Exit→Act→World→Prop}{E:Prop}{cs:Array Value}(hgd:o.guard=none)(s x:Operand)
    (hop:o.op=.call { callee:=.builtin .append,args:=#[s,x],argTypes:=#[22,22] })
    (B:Nat) (v:Value) (xs:List ValX) (X:ValX) (T:TypeId) (H:Nat) (hs:a.eval s=v) (hx:a.eval x=.slice (some ⟨H,0,none⟩) 1 1) (hH:w.heap.size=H) (hcs:X.cs.toArray=cs) (hown:OwnX w B v xs) (hB:B≤H) (hl:xs.length≤100000000)
    (hK:∀ v' w',OwnX w' B v' (xs++[X])→Only [v.ownBlock] w w'→(v'.ownBlock=v.ownBlock∨∃ k,v'.ownBlock=some k∧H≤k)→K (a.put o.dst v') w') :
    if Region.wanted o (yielded ops a.tmps)=true then Oper.wp Tryz.prog o a (w.alloc (.cells cs T)) K Q else E:=by
  subst hH hcs
  have hw:Region.wanted o (yielded ops a.tmps)=true:=by simp [Region.wanted,hgd]
  rw [if_pos hw]
  obtain⟨i0,hi,hz0,hz1,hz2⟩:=info_parts Tryz.infoVX
  obtain⟨v',w',hr',h2,h3,h4,h5⟩:=run_append_own_at (P:=Tryz.prog) (w.alloc (.cells X.cs.toArray T)) B 22 o.type 51 i0 _ 5 80 Tryz.underlying22 hi hz0 hz1 hz2 rfl (by decide) v xs.length (flatX xs) (World.ownsRow.alloc hown _) ⟨w.heap.size,0,none⟩ 1 1 X.cs rfl (fun j u hu=>by
    have e:(⟨w.heap.size,0,none⟩:Addr).add j=⟨w.heap.size,j,none⟩:=by unfold Addr.add;split <;> simp_all
    rw [e,cell_of_row _ w.heap.size j _ T (0,0) (heap_alloc_new w _)]
    simpa using hu) X.cs_one (by unfold maxLen;omega) (by omega) (by simp;omega)
  unfold Oper.wp execOp
  simp only [hop,resolve,invoke,builtin,Sem.run_bind,Sem.run_pure,Result.andThen_ok,List.map_toArray,List.map_cons,List.map_nil,hs,hx,hr']
  refine hK v' w' ?_ ((Only.refl _ w |>.alloc _).trans (Only.of_grown h3 (Or.inl (by simp)))) ?_
  · unfold OwnX;rw [flatX_append];simpa [flatX] using h2
  · rcases h5 with h | h
    · exact Or.inl h
    · exact Or.inr ⟨_,h,by simp⟩
theorem Blk.ten {w:World}{g T:Nat}{x0 x1 x2 x3 x4 x5 x6 x7 x8 x9:Value}(h:Blk w g T #[x0,x1,x2,x3,x4,x5,x6,x7,x8,x9]):w.cell? ⟨g,0,none⟩=some x0∧w.cell? ⟨g,1,none⟩=some x1∧w.cell? ⟨g,2,none⟩=some x2∧w.cell? ⟨g,3,none⟩=some x3∧w.cell? ⟨g,4,none⟩=some x4∧w.cell? ⟨g,5,none⟩=some x5∧w.cell? ⟨g,6,none⟩=some x6∧w.cell? ⟨g,7,none⟩=some x7∧w.cell? ⟨g,8,none⟩=some x8∧w.cell? ⟨g,9,none⟩=some x9:=⟨h.cell 0 rfl,h.cell 1 rfl,h.cell 2 rfl,h.cell 3 rfl,h.cell 4 rfl,h.cell 5 rfl,h.cell 6 rfl,h.cell 7 rfl,h.cell 8 rfl,h.cell 9 rfl⟩
theorem Blk.tenF {w:World}{g T:Nat}{vs:Array Value}(h:Blk w g T vs):w.frozen? ⟨g,0,none⟩=false∧w.frozen? ⟨g,1,none⟩=false∧w.frozen? ⟨g,2,none⟩=false∧w.frozen? ⟨g,3,none⟩=false∧w.frozen? ⟨g,4,none⟩=false∧w.frozen? ⟨g,5,none⟩=false∧w.frozen? ⟨g,6,none⟩=false∧w.frozen? ⟨g,7,none⟩=false∧w.frozen? ⟨g,8,none⟩=false∧w.frozen? ⟨g,9,none⟩=false:=⟨h.free 0,h.free 1,h.free 2,h.free 3,h.free 4,h.free 5,h.free 6,h.free 7,h.free 8,h.free 9⟩
theorem Blk.put10 {w:World}{g T:Nat}{x0 x1 x2 x3 x4 x5 x6 x7 x8 x9:Value}(h:Blk w g T #[x0,x1,x2,x3,x4,x5,x6,x7,x8,x9])(y0 y1 y2 y3 y4 y5 y6 y7 y8 y9:Value):Blk ((((((((((w.setCell ⟨g,0,none⟩ y0).setCell ⟨g,1,none⟩ y1).setCell ⟨g,2,none⟩ y2).setCell ⟨g,3,none⟩ y3).setCell ⟨g,4,none⟩ y4).setCell ⟨g,5,none⟩ y5).setCell ⟨g,6,none⟩ y6).setCell ⟨g,7,none⟩ y7).setCell ⟨g,8,none⟩ y8).setCell ⟨g,9,none⟩ y9) g T #[y0,y1,y2,y3,y4,y5,y6,y7,y8,y9]:=by
  have h1:Blk w g T [x0,x1,x2,x3,x4,x5,x6,x7,x8,x9].toArray:=h
  exact(((((((((h1.put 0 y0).put 1 y1).put 2 y2).put 3 y3).put 4 y4).put 5 y5).put 6 y6).put 7 y7).put 8 y8).put 9 y9
theorem onlyP10 {S:List (Option Nat)}{a w:World}(h:Only S a w){g:Nat}(hg:some g∈S)(y0 y1 y2 y3 y4 y5 y6 y7 y8 y9:Value):Only S a ((((((((((w.setCell ⟨g,0,none⟩ y0).setCell ⟨g,1,none⟩ y1).setCell ⟨g,2,none⟩ y2).setCell ⟨g,3,none⟩ y3).setCell ⟨g,4,none⟩ y4).setCell ⟨g,5,none⟩ y5).setCell ⟨g,6,none⟩ y6).setCell ⟨g,7,none⟩ y7).setCell ⟨g,8,none⟩ y8).setCell ⟨g,9,none⟩ y9):=
  ((((((((((h.trans (Only.set hg 0 _ y0)).trans (Only.set hg 1 _ y1)).trans (Only.set hg 2 _ y2)).trans (Only.set hg 3 _ y3)).trans (Only.set hg 4 _ y4)).trans (Only.set hg 5 _ y5)).trans (Only.set hg 6 _ y6)).trans (Only.set hg 7 _ y7)).trans (Only.set hg 8 _ y8)).trans (Only.set hg 9 _ y9))
theorem Tryz.infoCodeX:(Tryz.prog.info? 25).map (·.size)=some 10:=by kernel_rfl
theorem ret_code {fn:Func}{p u:Tmp}(h:fn.results=#[.cell p 25,.tmp u]){a:Act}{w:World}{R:Ending→World→Prop}(g:Nat)(cs:Array Value)(hsz:cs.size=10)(hg:Blk w g 25 cs)(hp:a.tmps.getD p undef=.pointer (some ⟨g,0,none⟩))(hd:a.defers=[])
    (hR:R (.returned (.tuple #[.agg cs,a.tmps.getD u undef])) w):bodyPost Tryz.prog fn R .ret a w:=by
  refine bodyPost_ret_by (v:=.tuple #[.agg cs,a.tmps.getD u undef]) ?_ hd hR
  rw [results_cell_tmp h,hp]
  have:=run_loadVar_row (P:=Tryz.prog) w g 25 25 cs (0,0) _ hg Tryz.underlying25 rfl (by rw [hsz];exact Tryz.infoCodeX)
  simp [asAddr,Result.andThen,this]
end Go.Proofs.YtpnlbjnbgemocaaGreat
namespace Go.Proofs.YtpnlbjnbgemocaaGreat
set_option linter.unusedVariables false
set_option linter.unusedSimpArgs false
set_option maxRecDepth 100000
open Go.RowKit
theorem wiB_bd {l:List Int}{n:Nat}(h:wiB l n=true):∀ x∈l,0≤x∧x<(n:Int):=fun x hx=>plB_yes (List.all_eq_true.1 h x hx)
theorem asksB_get {f:FlatM}:∀(l:List COpM) (i j:Nat) (o:COpM),asksB f i l=true→l[j]?=some o→askB f (i+j) o=true
  | [],i,j,o,_,h=>by simp at h
  | p::r,i,0,o,h,hj=>by
    unfold asksB at h
    rw [Bool.and_eq_true] at h
    simp at hj
    subst hj
    exact h.1
  | p::r,i,j+1,o,h,hj=>by
    unfold asksB at h
    rw [Bool.and_eq_true] at h
    have:=asksB_get r (i+1) j o h.2 (by simpa using hj)
    rw [show i+(j+1)=i+1+j by omega]
    exact this
theorem cross_fine {f:FlatM}{n:Nat}(hg:goodB f=true)(hn:f.names.length=n){k:Nat}{x:CrossM}(hx:f.cross[k]?=some x):x.guard<(n:Int)∧0<x.ops.length∧∀(j:Nat) (o:COpM),x.ops[j]?=some o→askB f j o=true:=by
  have h:=hg
  unfold goodB at h
  rw [Bool.and_eq_true] at h
  have hc:=List.all_eq_true.1 h.2 x (List.mem_of_getElem? hx)
  unfold crossB at hc
  rw [Bool.and_eq_true,Bool.and_eq_true] at hc
  refine⟨by rw [←hn];exact of_decide_eq_true hc.1,of_decide_eq_true hc.2.1,fun j o ho=>?_⟩
  have:=asksB_get x.ops 0 j o hc.2.2 ho
  rwa [Nat.zero_add] at this
theorem len_beq {a b:Nat}(h:(a==b)=true):a=b:=by simpa using h
theorem line_fine {f:FlatM}{n:Nat}(hg:goodB f=true)(hn:f.names.length=n)(hs:SmallF f){k:Nat}{x:CrossM}(hx:f.cross[k]?=some x){j:Nat}{o:COpM}(ho:x.ops[j]?=some o){base:Int}(hb:0≤base∧base≤1000000):LineF o n base:=by
  have ha:=(cross_fine hg hn hx).2.2 j o ho
  have hj:j≤30:=by
    have h1:=(List.getElem?_eq_some_iff.1 ho).1
    have h2:=hs.ops k x hx
    omega
  have hN:f.names.length≤200:=hs.names
  have hC:f.conts.length≤20:=hs.conts
  obtain⟨op,args⟩:=o
  unfold askB askL at ha
  simp only at ha
  have near:∀ {l:List Int} {m:Nat},m≤200→wiB l m=true→∀ x∈l,0≤x∧x≤1000000:=fun hm h x hx=>by have:=wiB_bd h x hx;omega
  have at0:∀ {l:List Int} {m:Nat},wiB l m=true→0<l.length→l.getD 0 0<(m:Int):=fun {l m} h hl=>(wiB_bd h _ (by rw [List.getD_eq_getElem?_getD,List.getElem?_eq_getElem hl];exact List.getElem_mem _)).2
  by_cases h0:op=copVar
  · rw [if_pos h0,Bool.and_eq_true] at ha
    have hl:=len_beq ha.1
    have hz:0<args.length:=by omega
    refine⟨hb,by show op.size≤100;rw [h0];decide,near hN ha.2,fun _=>⟨hl,by rw [←hn];exact at0 ha.2 hz⟩,fun e=>?_,fun e=>?_,fun e=>?_,fun e=>?_,fun e=>absurd h0 e⟩ <;> exact absurd (h0.symm.trans e) (by decide)
  rw [if_neg h0] at ha
  by_cases h1:op=copCont
  · rw [if_pos h1,Bool.and_eq_true] at ha
    refine⟨hb,by show op.size≤100;rw [h1];decide,near (by omega) ha.2,fun e=>absurd e h0,fun _=>len_beq ha.1,fun e=>?_,fun e=>?_,fun e=>?_,fun _ e=>absurd h1 e⟩ <;> exact absurd (h1.symm.trans e) (by decide)
  rw [if_neg h1] at ha
  by_cases h2:op=copNeg
  · rw [if_pos h2,Bool.and_eq_true] at ha
    refine⟨hb,by show op.size≤100;rw [h2];decide,near (by omega) ha.2,fun e=>absurd e h0,fun e=>absurd e h1,fun e=>?_,fun _=>len_beq ha.1,fun e=>?_,fun _ _ _ e=>absurd h2 e⟩ <;> exact absurd (h2.symm.trans e) (by decide)
  rw [if_neg h2] at ha
  by_cases h3:copsTwo.any (fun x=>decide (op=x))=true
  · rw [if_pos h3,Bool.and_eq_true] at ha
    have hsz:op.size≤100:=by
      obtain⟨y,hy,e⟩:=List.any_eq_true.1 h3
      have:=of_decide_eq_true e
      subst this
      simp only [copsTwo,List.mem_cons,List.not_mem_nil,or_false] at hy
      rcases hy with h | h | h <;> rw [h] <;> decide
    have hne:op≠copSel∧op≠copMul:=by
      obtain⟨y,hy,e⟩:=List.any_eq_true.1 h3
      have:=of_decide_eq_true e
      subst this
      simp only [copsTwo,List.mem_cons,List.not_mem_nil,or_false] at hy
      rcases hy with h | h | h <;> rw [h] <;> exact⟨by decide,by decide⟩
    exact⟨hb,hsz,near (by omega) ha.2,fun e=>absurd e h0,fun e=>absurd e h1,fun e=>absurd e hne.1,fun e=>absurd e h2,fun e=>absurd e hne.2,fun _ _ _ _ _=>len_beq ha.1⟩
  rw [if_neg h3] at ha
  by_cases h4:op=copMul
  · rw [if_pos h4,Bool.and_eq_true,Bool.and_eq_true] at ha
    have hl:=len_beq ha.1
    refine⟨hb,by show op.size≤100;rw [h4];decide,fun x hx=>?_,fun e=>absurd e h0,fun e=>absurd e h1,fun e=>absurd (h4.symm.trans e) (by decide),fun e=>absurd e h2,fun _=>hl,fun _ _ _ _ e=>absurd h4 e⟩
    rw [←List.take_append_drop 2 args,List.mem_append] at hx
    rcases hx with hx | hx
    · exact near (by omega) ha.2.1 x hx
    · exact near (by decide) ha.2.2 x hx
  rw [if_neg h4] at ha
  by_cases h5:op=copSel
  · rw [if_pos h5,Bool.and_eq_true,Bool.and_eq_true] at ha
    have hl:=len_beq ha.1
    refine⟨hb,by show op.size≤100;rw [h5];decide,fun x hx=>?_,fun e=>absurd e h0,fun e=>absurd e h1,fun _=>⟨hl, ?_⟩,fun e=>absurd e h2,fun e=>absurd e h4,fun _ _ e=>absurd h5 e⟩
    · rw [←List.take_append_drop 1 args,List.mem_append] at hx
      rcases hx with hx | hx
      · exact near hN ha.2.1 x hx
      · exact near (by omega) ha.2.2 x hx
    · have:=at0 ha.2.1 (by rw [List.length_take];omega)
      rw [←hn]
      match args,hl with
      | [a,b,c],_=>simpa using this
  rw [if_neg h5] at ha
  cases ha
theorem slotS_bd {ss:List Int}{S:Int}(h:∀ x∈ss,0≤x∧x<S)(hS:S≤9223372036854775807)(x:Int):-9223372036854775808≤slotS ss x∧slotS ss x≤9223372036854775807:=by
  unfold slotS
  by_cases h0:x<0
  · rw [if_pos h0];omega
  · rw [if_neg h0]
    by_cases hi:x.toNat<ss.length
    · have:=h (ss.getD x.toNat 0) (by rw [List.getD_eq_getElem?_getD,List.getElem?_eq_getElem hi];exact List.getElem_mem _)
      omega
    · rw [List.getD_eq_getElem?_getD,List.getElem?_eq_none (by omega)]
      exact⟨by decide,by decide⟩
theorem baseTo_le {f:FlatM}(hs:SmallF f):∀ k,baseTo f k≤k*30
  | 0=>Nat.le_refl _
  | k + 1 => by
    have ih:=baseTo_le hs k
    unfold baseTo
    cases hx:f.cross[k]? with
    | none=>simp;omega
    | some x=>
      have:=hs.ops k x hx
      simp
      omega
theorem mkI_F {op:ByteArray}{dst k guard:Int}{args resets:List Int}(h0:op.size≤1000)(h1:-9223372036854775808≤dst∧dst≤9223372036854775807)(h2:-9223372036854775808≤k∧k≤9223372036854775807)(h3:-9223372036854775808≤guard∧guard≤9223372036854775807):InsF (mkI op dst args k guard resets):=
  ⟨by unfold mkI maxLen;simp only;omega,h1,h2,by unfold mkI noVal;simp,Nat.zero_le _,h3⟩
structure FitF (f:FlatM):Prop where
  eq:∀ q∈f.eqs,q.op.size≤maxLen∧(-9223372036854775808≤q.k∧q.k≤9223372036854775807)∧ValF q.lit
  mem:∀ m∈f.mems,ValF m.init
  cont:∀ m∈f.conts,ValF m.init
theorem ValAt.fits {w:World}{B b o:Nat}{v:ValM}(h:ValAt w B b o v):ValF v:=⟨h.kind.2,h.name.2⟩
theorem FlatIs.fits {w:World}{B:Nat}{v:FlatV}{f:FlatM}(h:FlatIs w B v f):FitF f:=by
  refine⟨fun q hq=>?_,fun q hq=>?_,fun q hq=>?_⟩
  · obtain⟨i,hi⟩:=List.getElem?_of_mem hq
    obtain⟨b,off,_,_,hat⟩:=h.eqs.at_ hi
    exact⟨hat.op.2,hat.k.2,hat.lit.fits⟩
  · obtain⟨i,hi⟩:=List.getElem?_of_mem hq
    obtain⟨b,off,_,_,hat⟩:=h.mems.at_ hi
    exact hat.init.fits
  · obtain⟨i,hi⟩:=List.getElem?_of_mem hq
    obtain⟨b,off,_,_,hat⟩:=h.conts.at_ hi
    exact hat.init.fits
theorem noVal_F:ValF noVal:=⟨by unfold noVal;simp,Nat.zero_le _⟩
theorem eqI_F {f:FlatM}{ss:List Int}{S:Int}(hf:FitF f)(h:∀ x∈ss,0≤x∧x<S)(hS:S≤9223372036854775807){q:FEqM}(hq:q∈f.eqs):InsF (eqI f ss q):=by
  obtain⟨h1,h2,h3⟩:=hf.eq q hq
  have hl:ValF (eqI f ss q).lit:=by
    unfold eqI
    simp only
    by_cases e:q.op=bs [108,105,116]
    · rw [if_pos e];exact h3
    · rw [if_neg e];exact noVal_F
  refine⟨h1,slotS_bd h hS _, ?_,hl.kind,hl.name,slotS_bd h hS _⟩
  unfold eqI
  simp only
  split
  · exact h2
  · exact⟨by decide,by decide⟩
theorem small_lt {n:Nat}(h:n≤1000000):-9223372036854775808≤(n:Int)∧(n:Int)≤9223372036854775807:=by omega
theorem stepL_F {f:FlatM}{ss o:List Int}{S:Int}(hf:FitF f)(hs:SmallF f)(h:∀ x∈ss,0≤x∧x<S)(hS:S≤9223372036854775807):∀ q∈stepL f ss o,InsF q:=by
  intro q hq
  unfold stepL at hq
  rw [List.mem_append,List.mem_append,List.mem_append,List.mem_append] at hq
  rcases hq with (((hq | hq) | hq) | hq) | hq
  · unfold stepEq at hq
    obtain⟨x,_,hq⟩:=List.mem_flatMap.1 hq
    obtain⟨e,he,rfl⟩:=List.mem_map.1 hq
    exact eqI_F hf h hS ((List.mem_filter.1 he).1)
  · obtain⟨i,hi,rfl⟩:=List.mem_mapIdx.1 hq
    exact mkI_F (by decide) ⟨by decide,by decide⟩ (small_lt (by have:=hs.mems;omega)) (slotS_bd h hS _)
  · obtain⟨i,hi,rfl⟩:=List.mem_mapIdx.1 hq
    exact mkI_F (by decide) ⟨by decide,by decide⟩ (small_lt (by have:=hs.conts;omega)) (slotS_bd h hS _)
  · obtain⟨i,hi,rfl⟩:=List.mem_mapIdx.1 hq
    exact mkI_F (by decide) ⟨by decide,by decide⟩ (small_lt (by have:=hs.outs;omega)) ⟨by decide,by decide⟩
  · obtain⟨x,_,rfl⟩:=List.mem_map.1 hq
    exact mkI_F (by decide) ⟨by decide,by decide⟩ ⟨by decide,by decide⟩ ⟨by decide,by decide⟩
theorem derivL_F {f:FlatM}{ss:List Int}{S:Int}(hs:SmallF f)(h:∀ x∈ss,0≤x∧x<S)(hS:S≤9223372036854775807):∀ q∈derivL f ss,InsF q:=by
  intro q hq
  unfold derivL at hq
  obtain⟨i,hi,rfl⟩:=List.mem_mapIdx.1 hq
  exact mkI_F (by decide) ⟨by decide,by decide⟩ (small_lt (by have:=hs.conts;omega)) (slotS_bd h hS _)
theorem lineI_F {ss:List Int}{S:Int}{o:COpM}{n:Nat}{base dst guard:Int}(h:LineF o n base)(hd:0≤dst∧dst≤1000000)(hg:-9223372036854775808≤guard∧guard≤9223372036854775807):InsF (lineI ss o base dst guard):=by
  have a0:=h.at_ 0
  have a2:=h.at_ 2
  refine mkI_F ?_ (by omega) ?_ hg
  · have:=h.size
    rw [ByteArray.size_append]
    show 1+o.op.size≤1000
    omega
  · split
    · omega
    · split <;> omega
theorem crossTo_F {f:FlatM}{ss:List Int}{S:Int}{n:Nat}(hg:goodB f=true)(hn:f.names.length=n)(hs:SmallF f)(h:∀ x∈ss,0≤x∧x<S)(hS:S≤9223372036854775807):∀ k,k≤20→∀ q∈crossTo f ss k,InsF q
  | 0,_=>fun q hq=>by unfold crossTo at hq;cases hq
  | k + 1, hk => fun q hq => by
    unfold crossTo at hq
    rw [List.mem_append] at hq
    rcases hq with hq | hq
    · exact crossTo_F hg hn hs h hS k (by omega) q hq
    · cases hx:f.cross[k]? with
      | none=>rw [hx] at hq;simp at hq
      | some x=>
        rw [hx] at hq
        simp only [Option.map_some,Option.getD_some] at hq
        unfold crossI at hq
        rw [List.mem_append] at hq
        have hb:=baseTo_le hs k
        have ho:=hs.ops k x hx
        rcases hq with hq | hq
        · obtain⟨j,hj,rfl⟩:=List.mem_mapIdx.1 hq
          exact lineI_F (S:=S) (line_fine hg hn hs hx (List.getElem?_eq_getElem hj) (by omega)) (by omega) (slotS_bd h hS _)
        · simp at hq
          subst hq
          exact mkI_F (by decide) ⟨by decide,by decide⟩ (small_lt (by omega)) (slotS_bd h hS _)
end Go.Proofs.YtpnlbjnbgemocaaGreat
