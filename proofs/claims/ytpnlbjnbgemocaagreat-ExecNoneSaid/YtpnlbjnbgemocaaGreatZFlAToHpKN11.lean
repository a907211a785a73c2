import Derived.Test.YtpnlbjnbgemocaaGreatZNAToHpMN7
import Derived.ProofKit
import Derived.OpenShut
import Derived.ShutString
import Derived.ChangeOld
import Derived.Deep.Slices
import Derived.SizedLaws
import Derived.Deep.Fields
import Derived.Deep.Matrix
import Derived.Lib.SmallJoins
namespace Go.Proofs.YtpnlbjnbgemocaaGreat
set_option linter.unusedVariables false
set_option linter.unusedSimpArgs false
set_option maxRecDepth 100000
open Go.RowKit
def SRow {α:Type}(sz:Nat)(R:World→Nat→Nat→Nat→α→Prop)(w:World)(B:Nat)(a:Option Addr)(n c:Nat)(xs:List α):Prop:=
  xs.length=n∧n≤c∧c≤maxLen∧∃ b off,(a=some ⟨b,off,none⟩∨n≤0)∧∀ i x,xs[i]?=some x→b<B∧R w B b (off+i*sz) x
section
variable {α:Type} {sz:Nat} {R:World→Nat→Nat→Nat→α→Prop} {w w':World} {B B':Nat} {a:Option Addr} {n c:Nat} {xs:List α}
theorem SRow.keep (h:SRow sz R w B a n c xs)(hk:∀ b o x,b<B→R w B b o x→R w' B b o x):SRow sz R w' B a n c xs:=by
  obtain⟨h1,h2,h3,b,off,h6,h7⟩:=h
  exact⟨h1,h2,h3,b,off,h6,fun i x hx=>⟨(h7 i x hx).1,hk b _ x (h7 i x hx).1 (h7 i x hx).2⟩⟩
theorem SRow.at_ (h:SRow sz R w B a n c xs){i:Nat}{x:α}(hx:xs[i]?=some x):∃ b off,a=some ⟨b,off,none⟩∧b<B∧R w B b (off+i*sz) x:=by
  obtain⟨h1,h2,h3,b,off,h6,h7⟩:=h
  have hi:i<xs.length:=(List.getElem?_eq_some_iff.1 hx).1
  exact⟨b,off,h6.resolve_right (by omega),h7 i x hx⟩
theorem SRow.len_le (h:SRow sz R w B a n c xs):n≤maxLen:=Nat.le_trans h.2.1 h.2.2.1
theorem SRow.ex (h:SRow sz R w B a n c xs){i:Nat}(hi:i<n):∃ x,xs[i]?=some x:=⟨_,List.getElem?_eq_getElem (by rw [h.1];exact hi)⟩
theorem SRow.nil (sz:Nat)(R:World→Nat→Nat→Nat→α→Prop)(w:World)(B:Nat):SRow sz R w B none 0 0 []:=
  ⟨rfl,Nat.le_refl _,Nat.zero_le _,0,0,.inr (Nat.le_refl _),fun i x h=>by simp at h⟩
end
def URow (w:World)(B:Nat)(a:Option Addr)(n c:Nat)(xs:List Nat):Prop:=
  xs.length=n∧n≤c∧c≤maxLen∧(a=none→c=0)∧(∀ x∈xs,x<4294967296)∧n≤35184372088832∧∃ b off,(a=some ⟨b,off,none⟩∨n≤0)∧∀ i,i<n→b<B∧w.cell? ⟨b,off+i,none⟩=some (.int .u32 (xs.getD i 0:Nat))
theorem URow.keep {w w':World}{B:Nat}{a:Option Addr}{n c:Nat}{xs:List Nat}(h:URow w B a n c xs)(hk:∀ p:Addr,p.block<B→w'.cell? p=w.cell? p):URow w' B a n c xs:=by
  obtain⟨h1,h2,h3,h4,h5,h8,b,off,h6,h7⟩:=h
  exact⟨h1,h2,h3,h4,h5,h8,b,off,h6,fun i hi=>⟨(h7 i hi).1,(hk ⟨b,off+i,none⟩ (h7 i hi).1).trans (h7 i hi).2⟩⟩
structure ValM where
  kind:Int
  neg:Bool
  mag:List Nat
  den:List Nat
  name:ByteArray
structure FEqM where
  var:Int
  op:ByteArray
  args:List Int
  k:Int
  lit:ValM
  guard:Int
structure MemM where
  init:ValM
  next:Int
  guard:Int
  resets:List Int
structure SlopeM where
  guard:Int
  var:Int
structure ContM where
  init:ValM
  var:Int
  guard:Int
  resets:List Int
  slopes:List SlopeM
structure COpM where
  op:ByteArray
  args:List Int
structure CrossM where
  guard:Int
  ops:List COpM
structure FlatM where
  ins:List ByteArray
  names:List ByteArray
  outs:List Int
  eqs:List FEqM
  mems:List MemM
  conts:List ContM
  cross:List CrossM
  again:List Int
def IsAt (w:World)(B b o:Nat)(xs:List Int):Prop:=∃ A L C,w.cell? ⟨b,o,none⟩=some (.slice A L C)∧IRow w B A L C xs
def UsAt (w:World)(B b o:Nat)(xs:List Nat):Prop:=∃ A L C,w.cell? ⟨b,o,none⟩=some (.slice A L C)∧URow w B A L C xs
def SsAt {α:Type}(sz:Nat)(R:World→Nat→Nat→Nat→α→Prop)(w:World)(B b o:Nat)(xs:List α):Prop:=∃ A L C,w.cell? ⟨b,o,none⟩=some (.slice A L C)∧SRow sz R w B A L C xs
def StrAt (w:World)(_ b o:Nat)(s:ByteArray):Prop:=w.cell? ⟨b,o,none⟩=some (.string s)∧s.size≤maxLen
def IntAt (w:World)(_ b o:Nat)(x:Int):Prop:=w.cell? ⟨b,o,none⟩=some (.int .i64 x)∧-9223372036854775808≤x∧x≤9223372036854775807
structure ValAt (w:World) (B b o:Nat) (v:ValM):Prop where
  kind:IntAt w B b o v.kind
  neg:w.cell? ⟨b,o+1,none⟩=some (.bool v.neg)
  mag:UsAt w B b (o+2) v.mag
  den:UsAt w B b (o+3) v.den
  name:StrAt w B b (o+4) v.name
structure FEqAt (w:World) (B b o:Nat) (q:FEqM):Prop where
  var:IntAt w B b o q.var
  op:StrAt w B b (o+1) q.op
  args:IsAt w B b (o+2) q.args
  k:IntAt w B b (o+3) q.k
  lit:ValAt w B b (o+4) q.lit
  guard:IntAt w B b (o+9) q.guard
structure MemAt (w:World) (B b o:Nat) (m:MemM):Prop where
  init:ValAt w B b o m.init
  next:IntAt w B b (o+5) m.next
  guard:IntAt w B b (o+6) m.guard
  resets:IsAt w B b (o+7) m.resets
structure SlopeAt (w:World) (B b o:Nat) (s:SlopeM):Prop where
  guard:IntAt w B b o s.guard
  var:IntAt w B b (o+1) s.var
structure ContAt (w:World) (B b o:Nat) (m:ContM):Prop where
  init:ValAt w B b o m.init
  var:IntAt w B b (o+5) m.var
  guard:IntAt w B b (o+6) m.guard
  resets:IsAt w B b (o+7) m.resets
  slopes:SsAt 2 SlopeAt w B b (o+8) m.slopes
structure COpAt (w:World) (B b o:Nat) (s:COpM):Prop where
  op:StrAt w B b o s.op
  args:IsAt w B b (o+1) s.args
structure CrossAt (w:World) (B b o:Nat) (s:CrossM):Prop where
  guard:IntAt w B b o s.guard
  ops:SsAt 2 COpAt w B b (o+1) s.ops
section
variable {w w':World} {B b o:Nat}
theorem IntAt.keep {x:Int}(h:IntAt w B b o x)(hb:b<B)(hk:∀ p:Addr,p.block<B→w'.cell? p=w.cell? p):IntAt w' B b o x:=⟨(hk _ hb).trans h.1,h.2⟩
theorem StrAt.keep {x:ByteArray}(h:StrAt w B b o x)(hb:b<B)(hk:∀ p:Addr,p.block<B→w'.cell? p=w.cell? p):StrAt w' B b o x:=⟨(hk _ hb).trans h.1,h.2⟩
theorem IsAt.keep {x:List Int}(h:IsAt w B b o x)(hb:b<B)(hk:∀ p:Addr,p.block<B→w'.cell? p=w.cell? p):IsAt w' B b o x:=by
  obtain⟨A,L,C,h1,h2⟩:=h;exact⟨A,L,C,(hk _ hb).trans h1,h2.keep hk⟩
theorem UsAt.keep {x:List Nat}(h:UsAt w B b o x)(hb:b<B)(hk:∀ p:Addr,p.block<B→w'.cell? p=w.cell? p):UsAt w' B b o x:=by
  obtain⟨A,L,C,h1,h2⟩:=h;exact⟨A,L,C,(hk _ hb).trans h1,h2.keep hk⟩
theorem SsAt.keep {α:Type}{sz:Nat}{R:World→Nat→Nat→Nat→α→Prop}{x:List α}(h:SsAt sz R w B b o x)(hb:b<B)(hk:∀ p:Addr,p.block<B→w'.cell? p=w.cell? p)(hR:∀ b o x,b<B→R w B b o x→R w' B b o x):SsAt sz R w' B b o x:=by
  obtain⟨A,L,C,h1,h2⟩:=h;exact⟨A,L,C,(hk _ hb).trans h1,h2.keep hR⟩
theorem ValAt.keep {v:ValM}(h:ValAt w B b o v)(hb:b<B)(hk:∀ p:Addr,p.block<B→w'.cell? p=w.cell? p):ValAt w' B b o v:=
  ⟨h.kind.keep hb hk,(hk _ hb).trans h.neg,h.mag.keep hb hk,h.den.keep hb hk,h.name.keep hb hk⟩
theorem FEqAt.keep {v:FEqM}(h:FEqAt w B b o v)(hb:b<B)(hk:∀ p:Addr,p.block<B→w'.cell? p=w.cell? p):FEqAt w' B b o v:=
  ⟨h.var.keep hb hk,h.op.keep hb hk,h.args.keep hb hk,h.k.keep hb hk,h.lit.keep hb hk,h.guard.keep hb hk⟩
theorem MemAt.keep {v:MemM}(h:MemAt w B b o v)(hb:b<B)(hk:∀ p:Addr,p.block<B→w'.cell? p=w.cell? p):MemAt w' B b o v:=
  ⟨h.init.keep hb hk,h.next.keep hb hk,h.guard.keep hb hk,h.resets.keep hb hk⟩
theorem SlopeAt.keep {v:SlopeM}(h:SlopeAt w B b o v)(hb:b<B)(hk:∀ p:Addr,p.block<B→w'.cell? p=w.cell? p):SlopeAt w' B b o v:=
  ⟨h.guard.keep hb hk,h.var.keep hb hk⟩
theorem ContAt.keep {v:ContM}(h:ContAt w B b o v)(hb:b<B)(hk:∀ p:Addr,p.block<B→w'.cell? p=w.cell? p):ContAt w' B b o v:=
  ⟨h.init.keep hb hk,h.var.keep hb hk,h.guard.keep hb hk,h.resets.keep hb hk,h.slopes.keep hb hk fun _ _ _ q r=>r.keep q hk⟩
theorem COpAt.keep {v:COpM}(h:COpAt w B b o v)(hb:b<B)(hk:∀ p:Addr,p.block<B→w'.cell? p=w.cell? p):COpAt w' B b o v:=
  ⟨h.op.keep hb hk,h.args.keep hb hk⟩
theorem CrossAt.keep {v:CrossM}(h:CrossAt w B b o v)(hb:b<B)(hk:∀ p:Addr,p.block<B→w'.cell? p=w.cell? p):CrossAt w' B b o v:=
  ⟨h.guard.keep hb hk,h.ops.keep hb hk fun _ _ _ q r=>r.keep q hk⟩
end
structure FlatV where
  ins:Option Addr×Nat×Nat
  names:Option Addr×Nat×Nat
  outs:Option Addr×Nat×Nat
  eqs:Option Addr×Nat×Nat
  mems:Option Addr×Nat×Nat
  conts:Option Addr×Nat×Nat
  cross:Option Addr×Nat×Nat
  again:Option Addr×Nat×Nat
def sl3 (s:Option Addr×Nat×Nat):Value:=.slice s.1 s.2.1 s.2.2
def flatV (v:FlatV):Value:=.agg #[sl3 v.ins,sl3 v.names,sl3 v.outs,sl3 v.eqs,sl3 v.mems,sl3 v.conts,sl3 v.cross,sl3 v.again]
structure FlatIs (w:World) (B:Nat) (v:FlatV) (f:FlatM):Prop where
  ins:SRow 1 StrAt w B v.ins.1 v.ins.2.1 v.ins.2.2 f.ins
  names:SRow 1 StrAt w B v.names.1 v.names.2.1 v.names.2.2 f.names
  outs:IRow w B v.outs.1 v.outs.2.1 v.outs.2.2 f.outs
  eqs:SRow 10 FEqAt w B v.eqs.1 v.eqs.2.1 v.eqs.2.2 f.eqs
  mems:SRow 8 MemAt w B v.mems.1 v.mems.2.1 v.mems.2.2 f.mems
  conts:SRow 9 ContAt w B v.conts.1 v.conts.2.1 v.conts.2.2 f.conts
  cross:SRow 2 CrossAt w B v.cross.1 v.cross.2.1 v.cross.2.2 f.cross
  again:IRow w B v.again.1 v.again.2.1 v.again.2.2 f.again
theorem FlatIs.keep {w w':World}{B:Nat}{v:FlatV}{f:FlatM}(h:FlatIs w B v f)(hk:∀ p:Addr,p.block<B→w'.cell? p=w.cell? p):FlatIs w' B v f:=
  ⟨h.ins.keep fun _ _ _ q r=>r.keep q hk,h.names.keep fun _ _ _ q r=>r.keep q hk,h.outs.keep hk,h.eqs.keep fun _ _ _ q r=>r.keep q hk,h.mems.keep fun _ _ _ q r=>r.keep q hk,h.conts.keep fun _ _ _ q r=>r.keep q hk,h.cross.keep fun _ _ _ q r=>r.keep q hk,h.again.keep hk⟩
theorem FlatIs.below {w w':World}{B:Nat}{v:FlatV}{f:FlatM}(h:FlatIs w B v f)(hb:Below B w w'):FlatIs w' B v f:=h.keep fun _ hp=>hb.cell hp
end Go.Proofs.YtpnlbjnbgemocaaGreat
namespace Go.Proofs.YtpnlbjnbgemocaaGreat
set_option linter.unusedVariables false
set_option linter.unusedSimpArgs false
set_option maxRecDepth 100000
open Go.ChangeShapes Go.WideShapes Go.ChangeAt Go.RowKit Go.Joins
def Tr (w:World)(t:TypeId)(cs:List Value):Prop:=
  ∃(H:Type) (enc:TypeId×Value→H) (base:Nat) (spare:Nat→Bool) (held:Bool) (fuel:Nat) (x:DataW H×List MemPlace),DataW.trod enc Tryz.prog w base spare held fuel t cs=some x∧∀ n∈x.1.weights Tryz.prog t,n≤reachBytes
theorem weights_all {H:Type}{P:Program}{e:TypeId}:∀ {l:List (DataW H)} {d:DataW H},d∈l→∀ n∈d.weights P e,n∈DataW.weightsAll P e l
  | x::l,d,h,n,hn=>by
    simp only [DataW.weightsAll,List.mem_append]
    rcases List.mem_cons.1 h with rfl | h
    · exact Or.inl hn
    · exact Or.inr (weights_all h n hn)
theorem Tr.int {w:World}{t:TypeId}{k:IntKind}{cs:List Value}(ht:Tryz.prog.underlying t=some (.int k))(h:Tr w t cs):∃ n,cs=[.int k n]∧(Lit.int k n).wf=true:=by
  obtain⟨H,enc,base,spare,held,fuel,x,h,_⟩:=h
  obtain⟨n,h1,_,h2⟩:=DataW.trod_int ht h
  exact⟨n,h1,h2⟩
theorem Tr.i64 {w:World}{t:TypeId}{cs:List Value}(ht:Tryz.prog.underlying t=some (.int .i64))(h:Tr w t cs):∃ n:Int,cs=[.int .i64 n]∧-9223372036854775808≤n∧n≤9223372036854775807:=by
  obtain⟨n,h1,w1⟩:=h.int ht
  refine⟨n,h1, ?_⟩
  simp only [Lit.wf,IntKind.min,IntKind.max,IntKind.signed,IntKind.bits,Bool.and_eq_true,decide_eq_true_eq,if_true] at w1
  omega
theorem Tr.u32 {w:World}{t:TypeId}{cs:List Value}(ht:Tryz.prog.underlying t=some (.int .u32))(h:Tr w t cs):∃ n:Nat,cs=[.int .u32 (n:Int)]∧n<4294967296:=by
  obtain⟨n,h1,w1⟩:=h.int ht
  simp [Lit.wf,IntKind.min,IntKind.max,IntKind.signed,IntKind.bits,Bool.and_eq_true,decide_eq_true_eq] at w1
  exact⟨n.toNat,by rw [h1,Int.toNat_of_nonneg w1.1],by omega⟩
theorem Tr.bool {w:World}{t:TypeId}{cs:List Value}(ht:Tryz.prog.underlying t=some .bool)(h:Tr w t cs):∃ b,cs=[.bool b]:=by
  obtain⟨H,enc,base,spare,held,fuel,x,h,_⟩:=h
  obtain⟨b,h1,_⟩:=DataW.trod_bool ht h
  exact⟨b,h1⟩
theorem Tr.struct {w:World}{t:TypeId}{fs:Array Field}{cs:List Value}(ht:Tryz.prog.underlying t=some (.struct fs))(h:Tr w t cs) :
    cs.length=Tryz.prog.cellsOf t∧∀(i:Nat) (f:Field),fs[i]?=some f→Tr w f.type ((cs.drop f.offset).take (Tryz.prog.cellsOf f.type)):=by
  obtain⟨H,enc,base,spare,held,fuel,x,h,hz⟩:=h
  obtain⟨xs,n,_,rfl,h1,h2,h3⟩:=DataW.trod_struct ht h
  refine⟨h1,fun i f hf=>?_⟩
  have hi:i<xs.length:=by rw [h2];exact(Array.getElem?_eq_some_iff.1 hf).1
  refine⟨H,enc,base,spare,held,n,_,(h3 i f hf).trans (List.getElem?_eq_getElem hi),fun k hk=>hz k ?_⟩
  have hm:=DataW.weights_mem_each (P:=Tryz.prog) (ts:=fs.toList.map (·.type)) (ds:=xs.map (·.1)) (j:=i) (t:=f.type) (d:=xs[i].1) (by rw [List.getElem?_map,Array.getElem?_toList,hf];rfl) (by rw [List.getElem?_map,List.getElem?_eq_getElem hi];rfl) k hk
  simp only [DataW.weights,ht]
  exact hm
theorem pick {α:Type}(n:Nat)(Q:Nat→α→Prop)(h:∀ i,i<n→∃ x,Q i x):∃ xs:List α,xs.length=n∧∀ i x,xs[i]?=some x→Q i x:=by
  induction n with
  | zero=>exact⟨[],rfl,fun i x h=>by simp at h⟩
  | succ n ih=>
    obtain⟨xs,h1,h2⟩:=ih fun i hi=>h i (by omega)
    obtain⟨x,hx⟩:=h n (by omega)
    refine⟨xs++[x],by simp [h1],fun i y hy=>?_⟩
    rcases Nat.lt_or_ge i n with q | q
    · rw [List.getElem?_append_left (by omega)] at hy;exact h2 i y hy
    · rw [List.getElem?_append_right (by omega),h1] at hy
      have:i=n:=by
        rcases Nat.lt_or_ge n i with r | r
        · rw [List.getElem?_eq_none (by simp;omega)] at hy;cases hy
        · omega
      subst this
      simp at hy;subst hy;exact hx
theorem Tr.slice {w:World}{t e:TypeId}{cs:List Value}(sz:Nat)(ht:Tryz.prog.underlying t=some (.slice e))(hsz:Tryz.prog.cellsOf e=sz)(h0:0<sz)(h:Tr w t cs) :
    ∃(a:Option Addr) (n c:Nat),cs=[.slice a n c]∧n≤c∧c≤maxLen∧(a=none→c=0)∧n*Tryz.prog.bytesOf e≤reachBytes∧∃ b off,(a=some ⟨b,off,none⟩∨n≤0)∧∀ i,i<n→b<w.heap.size∧∃ ds,(∀ j,j<sz→w.cell? ⟨b,off+i*sz+j,none⟩=ds[j]?)∧ds.length=sz∧Tr w e ds:=by
  obtain⟨H,enc,base,spare,held,fuel,x,h,hz⟩:=h
  subst hsz
  rcases Go.Deep.open_slice ht h with ⟨h1,_⟩ | ⟨a,len,cap,m,k,D,Pl,hcs,hb,hl,hm,hmm,hx,hi⟩
  · exact⟨none,0,0,h1,Nat.le_refl _,Nat.zero_le _,fun _=>rfl,by simp,0,0,.inr (Nat.le_refl _),fun i hi=>by omega⟩
  · subst hx
    simp only [DataW.weights,ht,List.mem_cons,List.mem_append,forall_eq_or_imp] at hz
    obtain⟨hz0,hz1⟩:=hz
    have hzb:len*Tryz.prog.bytesOf e≤reachBytes:=Nat.le_trans (Nat.mul_le_mul_right _ (by simp)) hz0
    refine⟨some a,len,cap,hcs,hl,hm,(fun h=>by cases h),hzb, ?_⟩
    have hlm:len≤m:=by rw [hmm];split <;> omega
    by_cases h0':0<len
    · obtain⟨b,off,spot⟩:=a
      have hspot:spot=none:=by
        obtain⟨ds,h1,h2⟩:=hi 0 (by omega)
        obtain⟨_,hl1,hc⟩:=World.cells?_some h1
        have:=hc 0 h0
        have hd:ds[0]?=some (ds[0]'(by omega)):=List.getElem?_eq_getElem (by omega)
        rw [hd] at this
        simpa [Addr.add] using World.cell?_spot this
      subst hspot
      refine⟨b,off,.inl rfl,fun i hil=>?_⟩
      obtain⟨ds,h1,h2⟩:=hi i (by omega)
      obtain⟨_,hl1,hc⟩:=World.cells?_some h1
      have hc':∀ j,j<Tryz.prog.cellsOf e→w.cell? ⟨b,off+i*Tryz.prog.cellsOf e+j,none⟩=ds[j]?:=fun j hj=>by
        have:=hc j hj
        rw [Go.Deep.add_add,Go.WideShapes.add_plain,←Nat.add_assoc] at this
        exact this
      refine⟨?_,ds,hc',hl1,H,enc,base,spare,held,k,_,h2,fun q hq=>hz1 q (Or.inl (weights_all (List.mem_map.2 ⟨i,List.mem_range.2 hil,rfl⟩) q hq))⟩
      have:=hc' 0 h0
      rw [List.getElem?_eq_getElem (by omega:0<ds.length)] at this
      exact World.block_lt_of_cell? w ⟨b,_,none⟩ this
    · exact⟨0,0,.inr (by omega),fun i hi=>by omega⟩
theorem SRow.of_tr {α:Type}{R:World→Nat→Nat→Nat→α→Prop}{w:World}{t e:TypeId}{v:Value}(sz:Nat)(ht:Tryz.prog.underlying t=some (.slice e))(hsz:Tryz.prog.cellsOf e=sz)(h0:0<sz)(h:Tr w t [v])
    (hR:∀ b o ds,b<w.heap.size→(∀ j,j<sz→w.cell? ⟨b,o+j,none⟩=ds[j]?)→ds.length=sz→Tr w e ds→∃ x,R w w.heap.size b o x):∃ a n c xs,v=.slice a n c∧SRow sz R w w.heap.size a n c xs:=by
  obtain⟨a,n,c,hv,h1,h2,_,_,b,off,h3,h4⟩:=h.slice sz ht hsz h0
  obtain⟨xs,hl,hx⟩:=pick n (fun i x=>b<w.heap.size∧R w w.heap.size b (off+i*sz) x) fun i hi=>by
    obtain⟨hb,ds,q1,q2,q3⟩:=h4 i hi
    obtain⟨x,hx⟩:=hR b (off+i*sz) ds hb q1 q2 q3
    exact⟨x,hb,hx⟩
  exact⟨a,n,c,xs,by simpa using hv,hl,h1,h2,b,off,h3,hx⟩
theorem urow_of_tr {w:World}{v:Value}(h:Tr w 42 [v]):∃ a n c xs,v=.slice a n c∧URow w w.heap.size a n c xs:=by
  obtain⟨a,n,c,hv,h1,h2,hn,hzb,b,off,h3,h4⟩:=h.slice 1 Tryz.underlying42 (by kernel_rfl) (by decide)
  obtain⟨xs,hl,hx⟩:=pick n (fun i (x:Nat)=>b<w.heap.size∧w.cell? ⟨b,off+i,none⟩=some (.int .u32 (x:Int))∧x<4294967296) fun i hi=>by
    obtain⟨hb,ds,q1,q2,q3⟩:=h4 i hi
    obtain⟨x,rfl,hx⟩:=q3.u32 Tryz.underlying120
    exact⟨x,hb,by simpa using q1 0 (by decide),hx⟩
  refine⟨a,n,c,xs,by simpa using hv,hl,h1,h2,hn,fun x hx'=>?_,(by rw [show Tryz.prog.bytesOf 120=4 by kernel_rfl] at hzb;unfold reachBytes at hzb;omega),b,off,h3,fun i hi=>?_⟩
  · obtain⟨i,hi,e⟩:=List.getElem_of_mem hx'
    exact(hx i x (by rw [List.getElem?_eq_getElem hi,e])).2.2
  · have hx':xs[i]?=some (xs.getD i 0):=by rw [List.getElem?_eq_getElem (by omega)];simp [show i<xs.length by omega]
    obtain⟨q1,q2,_⟩:=hx i _ hx'
    exact⟨q1,q2⟩
end Go.Proofs.YtpnlbjnbgemocaaGreat
namespace Go.Proofs.YtpnlbjnbgemocaaGreat
set_option linter.unusedVariables false
set_option linter.unusedSimpArgs false
set_option maxRecDepth 100000
open Go.ChangeShapes Go.WideShapes Go.ChangeAt Go.RowKit Go.Joins
theorem sub_cells {w:World}{b o sz:Nat}{ds:List Value}(hc:∀ j,j<sz→w.cell? ⟨b,o+j,none⟩=ds[j]?)(k m:Nat)(h:k+m≤sz):∀ j,j<m→w.cell? ⟨b,o+k+j,none⟩=((ds.drop k).take m)[j]?:=fun j hj=>by
  rw [List.getElem?_take_of_lt hj,List.getElem?_drop,Nat.add_assoc]
  exact hc (k+j) (by omega)
theorem sub_len {sz:Nat}{ds:List Value}(hl:ds.length=sz)(k m:Nat)(h:k+m≤sz):((ds.drop k).take m).length=m:=by
  rw [List.length_take,List.length_drop];omega
theorem one_cell {ds:List Value}(hl:ds.length=1):∃ v,ds=[v]:=by
  match ds,hl with
  | [v],_=>exact⟨v,rfl⟩
section
variable {w:World} {b o:Nat} {ds:List Value}
theorem bool_came (hb:b<w.heap.size)(hc:∀ j,j<1→w.cell? ⟨b,o+j,none⟩=ds[j]?)(hl:ds.length=1)(ht:Tr w 4 ds):∃ x,w.cell? ⟨b,o,none⟩=some (.bool x):=by
  obtain⟨x,rfl⟩:=ht.bool Tryz.underlying4
  exact⟨x,hc 0 (by decide)⟩
theorem us_came (hb:b<w.heap.size)(hc:∀ j,j<1→w.cell? ⟨b,o+j,none⟩=ds[j]?)(hl:ds.length=1)(ht:Tr w 42 ds):∃ x,UsAt w w.heap.size b o x:=by
  obtain⟨v,rfl⟩:=one_cell hl
  obtain⟨a,n,c,xs,rfl,h⟩:=urow_of_tr ht
  exact⟨xs,a,n,c,hc 0 (by decide),h⟩
theorem aint_came (hb:b<w.heap.size)(hc:∀ j,j<2→w.cell? ⟨b,o+j,none⟩=ds[j]?)(hl:ds.length=2)(ht:Tr w 44 ds):∃(x:Bool) (y:List Nat),w.cell? ⟨b,o,none⟩=some (.bool x)∧UsAt w w.heap.size b (o+1) y:=by
  have hs:=(ht.struct Tryz.underlying44).2
  have k0:Tr w 4 ((ds.drop 0).take 1):=hs 0 _ rfl
  obtain⟨x0,h0⟩:=bool_came hb (sub_cells hc 0 1 (by decide)) (sub_len hl 0 1 (by decide)) k0
  have k1:Tr w 42 ((ds.drop 1).take 1):=hs 1 _ rfl
  obtain⟨x1,h1⟩:=us_came hb (sub_cells hc 1 1 (by decide)) (sub_len hl 1 1 (by decide)) k1
  exact⟨x0,x1,h0,h1⟩
theorem arat_came (hb:b<w.heap.size)(hc:∀ j,j<3→w.cell? ⟨b,o+j,none⟩=ds[j]?)(hl:ds.length=3)(ht:Tr w 46 ds):∃(x:Bool) (y z:List Nat),w.cell? ⟨b,o,none⟩=some (.bool x)∧UsAt w w.heap.size b (o+1) y∧UsAt w w.heap.size b (o+2) z:=by
  have hs:=(ht.struct Tryz.underlying46).2
  have k0:Tr w 44 ((ds.drop 0).take 2):=hs 0 _ rfl
  have k1:Tr w 42 ((ds.drop 2).take 1):=hs 1 _ rfl
  obtain⟨x,y,h1,h2⟩:=aint_came hb (sub_cells hc 0 2 (by decide)) (sub_len hl 0 2 (by decide)) k0
  obtain⟨z,h3⟩:=us_came hb (sub_cells hc 2 1 (by decide)) (sub_len hl 2 1 (by decide)) k1
  exact⟨x,y,z,h1,h2,h3⟩
end
end Go.Proofs.YtpnlbjnbgemocaaGreat
namespace Go.Proofs.YtpnlbjnbgemocaaGreat
set_option linter.unusedVariables false
set_option linter.unusedSimpArgs false
set_option maxRecDepth 100000
open Go.RowKit
def plB (i:Int)(n:Nat):Bool:=decide (0≤i)&&decide (i<(n:Int))
def wiB (l:List Int)(n:Nat):Bool:=l.all fun i=>plB i n
def guB (g:Int)(n:Nat):Bool:=decide (g<(n:Int))
def bs (l:List UInt8):ByteArray:=⟨l.toArray⟩
def opLit:ByteArray:=bs [108,105,116]
def opIn:ByteArray:=bs [105,110]
def opMem:ByteArray:=bs [109,101,109]
def opCont:ByteArray:=bs [99,111,110,116]
def opFlag:ByteArray:=bs [102,108,97,103]
def opsOne:List ByteArray:=[bs [99,111,112,121],bs [110,101,103],bs [110,111,116],bs [102,108,111,111,114],bs [114,97,116]]
def opsSome:List ByteArray:=[bs [103,97,110,100],bs [109,114,103]]
def opsTwo:List ByteArray:=[bs [43],bs [45],bs [42],bs [47],bs [100,105,118],bs [109,111,100],bs [60],bs [60,61],bs [62],bs [62,61],bs [61,61],bs [33,61],bs [97,110,100],bs [111,114]]
def opSel:ByteArray:=bs [115,101,108]
def enB (op:ByteArray)(n:Nat):Bool:=
  if op=opLit∨op=opIn∨op=opMem∨op=opCont∨op=opFlag then n==0
  else if opsOne.any (fun x=>decide (op=x)) then n==1
  else if opsSome.any (fun x=>decide (op=x)) then decide (1≤n)
  else if opsTwo.any (fun x=>decide (op=x)) then n==2
  else if op=opSel then n==3
  else false
def kL (op:ByteArray)(k:Int)(li lm lc lx:Nat):Bool:=
  if op=opIn then plB k li
  else if op=opMem then plB k lm
  else if op=opCont then plB k lc
  else if op=opFlag then plB k lx
  else true
def kB (f:FlatM)(q:FEqM):Bool:=kL q.op q.k f.ins.length f.mems.length f.conts.length f.cross.length
def resL (f:FlatM)(op:ByteArray)(k:Int):Bool:=
  if op=opMem then wiB ((f.mems[k.toNat]?.map MemM.resets).getD []) f.names.length
  else if op=opCont then wiB ((f.conts[k.toNat]?.map ContM.resets).getD []) f.names.length
  else true
def rgL (f:FlatM)(op:ByteArray)(n:Nat)(k:Int):Bool:=enB op n&&kL op k f.ins.length f.mems.length f.conts.length f.cross.length&&resL f op k
def eqB (f:FlatM)(q:FEqM):Bool:=guB q.guard f.names.length&&wiB q.args f.names.length&&enB q.op q.args.length&&kB f q
def memB (f:FlatM)(m:MemM):Bool:=plB m.next f.names.length&&guB m.guard f.names.length&&wiB m.resets f.names.length
def slopeB (f:FlatM)(s:SlopeM):Bool:=guB s.guard f.names.length&&plB s.var f.names.length
def contB (f:FlatM)(c:ContM):Bool:=plB c.var f.names.length&&guB c.guard f.names.length&&wiB c.resets f.names.length&&c.slopes.all (slopeB f)
def copVar:ByteArray:=bs [118,97,114]
def copCont:ByteArray:=bs [99,111,110,116]
def copNeg:ByteArray:=bs [110,101,103]
def copsTwo:List ByteArray:=[bs [43],bs [45],bs [47]]
def copMul:ByteArray:=bs [42]
def copSel:ByteArray:=bs [115,101,108]
def askL (op:ByteArray)(args:List Int)(i N C:Nat):Bool:=
  if op=copVar then args.length==1&&wiB args N
  else if op=copCont then args.length==1&&wiB args C
  else if op=copNeg then args.length==1&&wiB args i
  else if copsTwo.any (fun x=>decide (op=x)) then args.length==2&&wiB args i
  else if op=copMul then args.length==3&&(wiB (args.take 2) i&&wiB (args.drop 2) 2)
  else if op=copSel then args.length==3&&(wiB (args.take 1) N&&wiB (args.drop 1) i)
  else false
def askB (f:FlatM)(i:Nat)(o:COpM):Bool:=askL o.op o.args i f.names.length f.conts.length
def asksB (f:FlatM):Nat→List COpM→Bool
  | _,[]=>true
  | i,o::r=>askB f i o&&asksB f (i+1) r
def crossB (f:FlatM)(c:CrossM):Bool:=guB c.guard f.names.length&&(decide (0<c.ops.length)&&asksB f 0 c.ops)
def onceB (f:FlatM):Bool:=(f.eqs.map FEqM.var).all (fun v=>plB v f.names.length)&&decide (f.eqs.map FEqM.var).Nodup&&(f.eqs.length==f.names.length)
def eqsB (f:FlatM):Bool:=f.eqs.all (eqB f)
def keptB (f:FlatM):Bool:=wiB f.outs f.names.length&&wiB f.again f.names.length&&f.mems.all (memB f)&&f.conts.all (contB f)
def crsB (f:FlatM):Bool:=f.cross.all (crossB f)
def goodB (f:FlatM):Bool:=onceB f&&eqsB f&&keptB f&&crsB f
end Go.Proofs.YtpnlbjnbgemocaaGreat
namespace Go.Proofs.YtpnlbjnbgemocaaGreat
set_option linter.unusedVariables false
set_option linter.unusedSimpArgs false
set_option maxRecDepth 100000
open Go.RowKit
theorem ret_bool' {p q:Bool}(h:p=q):Ending.returned (.bool p)=.returned (.bool q):=by rw [h]
theorem all_succ {α:Type}{p:α→Bool}{l:List α}{k:Nat}{x:α}(hx:l[k]?=some x):(l.take (k+1)).all p=((l.take k).all p&&p x):=by
  rw [List.take_add_one,hx];simp
theorem all_no {α:Type}{p:α→Bool}{l:List α}{k:Nat}{x:α}(hx:l[k]?=some x)(h:p x=false):l.all p=false:=by
  rw [List.all_eq_false]
  exact⟨x,List.mem_of_getElem? hx,by simp [h]⟩
theorem all_end {α:Type}{p:α→Bool}{l:List α}{n:Nat}(hn:l.length=n)(h:(l.take n).all p=true):l.all p=true:=by
  rwa [List.take_of_length_le (by omega)] at h
theorem irow_get {w:World}{B:Nat}{a:Option Addr}{n c:Nat}{xs:List Int}(h:IRow w B a n c xs){k:Nat}(hk:k<n):xs[k]?=some (xs.getD k 0):=by
  rw [List.getElem?_eq_getElem (by rw [h.1];exact hk)];simp [show k<xs.length by rw [h.1];exact hk]
theorem plB_yes {i:Int}{n:Nat}(h:plB i n=true):0≤i∧i<(n:Int):=by simpa [plB] using h
theorem plB_no {i:Int}{n:Nat}(h:plB i n=false):i<0∨(n:Int)≤i:=by simp [plB] at h;omega
set_option maxHeartbeats 400000 in
theorem within_at (a:Option Addr)(n c B:Nat)(xs:List Int)(m:Nat)(b:Bool)(w:World)(hr:IRow w B a n c xs)(h:wiB xs m=b) :
    Calls Tryz.prog 114 #[.slice a n c,.int .i64 (m:Int)] w fun e w'=>e=.returned (.bool b)∧w=w':=by
  have hm:=hr.len_le
  have HR:=Lib.hid hr;clear hr
  have HB:=Lib.hid h;clear h
  unfold maxLen at hm
  go_enter Tryz.func114,Tryz.ntmps114
  go_wp2
  go_loop [5] (fun t=>∃ k:Nat,k≤n∧t=.int .i64 k∧Hid (wiB (xs.take k) m=true)) (fun t=>n-(intOf t).toNat)
  case atStart=>exact⟨0,Nat.zero_le _,rfl,Lib.hid rfl⟩
  case round=>
    obtain⟨k,hk,rfl,hz⟩:=hrel
    by_cases hlt:k<n
    · obtain⟨g,off,rfl,hg,hcell⟩:=HR.out.at_ hlt
      have HX:=Lib.hid (irow_get HR.out hlt)
      obtain⟨X,hX⟩:∃ X,xs.getD k 0=X:=⟨_,rfl⟩
      rw [hX] at hcell HX
      clear hX
      cases hp:plB X m with
      | true=>
        obtain⟨h0,h1⟩:=plB_yes hp
        have HP:=Lib.hid hp;clear hp
        have g0:decide (X<0)=false:=by rw [decide_eq_false_iff_not];omega
        have g1:decide ((m:Int)≤X)=false:=by rw [decide_eq_false_iff_not];omega
        go_wp2
        go_round
        case rel=>exact⟨k+1,by omega,by go_num,Lib.hid (by unfold wiB;rw [all_succ HX.out,HP.out];exact(by simpa [wiB] using hz.out))⟩
        case measure=>simp [intOf];omega
      | false=>
        have h':=plB_no hp
        have HP:=Lib.hid hp;clear hp
        by_cases h0:X<0
        · clear h'
          go_wp2
          go_ret
          exact⟨ret_bool' (by rw [←HB.out];exact(all_no HX.out HP.out).symm),rfl⟩
        · have h1:(m:Int)≤X:=by omega
          have g0:decide (X<0)=false:=by rw [decide_eq_false_iff_not];omega
          clear h'
          go_wp2
          go_ret
          exact⟨ret_bool' (by rw [←HB.out];exact(all_no HX.out HP.out).symm),rfl⟩
    · go_wp2
      go_ret
      exact⟨ret_bool' (by rw [←HB.out];exact(all_end HR.out.1 (by rw [show n=k by omega];exact hz.out)).symm),rfl⟩
end Go.Proofs.YtpnlbjnbgemocaaGreat
namespace Go.Proofs.YtpnlbjnbgemocaaGreat
set_option linter.unusedVariables false
set_option linter.unusedSimpArgs false
set_option maxRecDepth 100000
open Go.RowKit
def feqV (q:FEqM)(a m d:Option Addr×Nat×Nat):Value:=.agg #[.int .i64 q.var,.string q.op,sl3 a,.int .i64 q.k,.int .i64 q.lit.kind,.bool q.lit.neg,sl3 m,sl3 d,.string q.lit.name,.int .i64 q.guard]
theorem str_no {op:ByteArray}{l:List UInt8}(h:¬ op=bs l):(op.toList==l)=false:=by
  rw [beq_eq_false_iff_ne]
  intro e
  refine h ?_
  rw [Lib.toList_data] at e
  unfold bs
  rw [←e]
theorem nat_beq (n k:Nat):(n==k)=((n:Int)==(k:Int)):=by
  by_cases h:n=k
  · subst h;simp
  · have h':¬(n:Int)=(k:Int):=by omega
    rw [beq_eq_false_iff_ne.2 h,beq_eq_false_iff_ne.2 h']
theorem enB_0 (n:Nat):enB (bs [108,105,116]) n=((n:Int)==0):=(show enB (bs [108,105,116]) n=(n==0) from rfl).trans (nat_beq n 0)
theorem enB_5 (n:Nat):enB (bs [99,111,112,121]) n=((n:Int)==1):=(show enB (bs [99,111,112,121]) n=(n==1) from rfl).trans (nat_beq n 1)
theorem enB_6 (n:Nat):enB (bs [110,101,103]) n=((n:Int)==1):=(show enB (bs [110,101,103]) n=(n==1) from rfl).trans (nat_beq n 1)
theorem enB_7 (n:Nat):enB (bs [110,111,116]) n=((n:Int)==1):=(show enB (bs [110,111,116]) n=(n==1) from rfl).trans (nat_beq n 1)
theorem enB_8 (n:Nat):enB (bs [102,108,111,111,114]) n=((n:Int)==1):=(show enB (bs [102,108,111,111,114]) n=(n==1) from rfl).trans (nat_beq n 1)
theorem enB_9 (n:Nat):enB (bs [114,97,116]) n=((n:Int)==1):=(show enB (bs [114,97,116]) n=(n==1) from rfl).trans (nat_beq n 1)
theorem enB_10 (n:Nat):enB (bs [103,97,110,100]) n=decide ((1:Int)≤(n:Int)):=(show enB (bs [103,97,110,100]) n=decide (1≤n) from rfl).trans (decide_eq_decide.2 (by omega))
theorem enB_11 (n:Nat):enB (bs [109,114,103]) n=decide ((1:Int)≤(n:Int)):=(show enB (bs [109,114,103]) n=decide (1≤n) from rfl).trans (decide_eq_decide.2 (by omega))
theorem enB_12 (n:Nat):enB (bs [43]) n=((n:Int)==2):=(show enB (bs [43]) n=(n==2) from rfl).trans (nat_beq n 2)
theorem enB_13 (n:Nat):enB (bs [45]) n=((n:Int)==2):=(show enB (bs [45]) n=(n==2) from rfl).trans (nat_beq n 2)
theorem enB_14 (n:Nat):enB (bs [42]) n=((n:Int)==2):=(show enB (bs [42]) n=(n==2) from rfl).trans (nat_beq n 2)
theorem enB_15 (n:Nat):enB (bs [47]) n=((n:Int)==2):=(show enB (bs [47]) n=(n==2) from rfl).trans (nat_beq n 2)
theorem enB_16 (n:Nat):enB (bs [100,105,118]) n=((n:Int)==2):=(show enB (bs [100,105,118]) n=(n==2) from rfl).trans (nat_beq n 2)
theorem enB_17 (n:Nat):enB (bs [109,111,100]) n=((n:Int)==2):=(show enB (bs [109,111,100]) n=(n==2) from rfl).trans (nat_beq n 2)
theorem enB_18 (n:Nat):enB (bs [60]) n=((n:Int)==2):=(show enB (bs [60]) n=(n==2) from rfl).trans (nat_beq n 2)
theorem enB_19 (n:Nat):enB (bs [60,61]) n=((n:Int)==2):=(show enB (bs [60,61]) n=(n==2) from rfl).trans (nat_beq n 2)
theorem enB_20 (n:Nat):enB (bs [62]) n=((n:Int)==2):=(show enB (bs [62]) n=(n==2) from rfl).trans (nat_beq n 2)
theorem enB_21 (n:Nat):enB (bs [62,61]) n=((n:Int)==2):=(show enB (bs [62,61]) n=(n==2) from rfl).trans (nat_beq n 2)
theorem enB_22 (n:Nat):enB (bs [61,61]) n=((n:Int)==2):=(show enB (bs [61,61]) n=(n==2) from rfl).trans (nat_beq n 2)
theorem enB_23 (n:Nat):enB (bs [33,61]) n=((n:Int)==2):=(show enB (bs [33,61]) n=(n==2) from rfl).trans (nat_beq n 2)
theorem enB_24 (n:Nat):enB (bs [97,110,100]) n=((n:Int)==2):=(show enB (bs [97,110,100]) n=(n==2) from rfl).trans (nat_beq n 2)
theorem enB_25 (n:Nat):enB (bs [111,114]) n=((n:Int)==2):=(show enB (bs [111,114]) n=(n==2) from rfl).trans (nat_beq n 2)
theorem enB_26 (n:Nat):enB (bs [115,101,108]) n=((n:Int)==3):=(show enB (bs [115,101,108]) n=(n==3) from rfl).trans (nat_beq n 3)
theorem enB_no (op:ByteArray)(n:Nat)(h0:¬ op=bs [108,105,116])(h1:¬ op=bs [105,110])(h2:¬ op=bs [109,101,109])(h3:¬ op=bs [99,111,110,116])(h4:¬ op=bs [102,108,97,103])(h5:¬ op=bs [99,111,112,121])(h6:¬ op=bs [110,101,103])(h7:¬ op=bs [110,111,116])(h8:¬ op=bs [102,108,111,111,114])(h9:¬ op=bs [114,97,116])(h10:¬ op=bs [103,97,110,100])(h11:¬ op=bs [109,114,103])(h12:¬ op=bs [43])(h13:¬ op=bs [45])(h14:¬ op=bs [42])(h15:¬ op=bs [47])(h16:¬ op=bs [100,105,118])(h17:¬ op=bs [109,111,100])(h18:¬ op=bs [60])(h19:¬ op=bs [60,61])(h20:¬ op=bs [62])(h21:¬ op=bs [62,61])(h22:¬ op=bs [61,61])(h23:¬ op=bs [33,61])(h24:¬ op=bs [97,110,100])(h25:¬ op=bs [111,114])(h26:¬ op=bs [115,101,108]):enB op n=false:=by
  unfold enB opLit opIn opMem opCont opFlag opsOne opsSome opsTwo opSel
  rw [if_neg (by simp [h0,h1,h2,h3,h4]),if_neg (by simp [h5,h6,h7,h8,h9]),if_neg (by simp [h10,h11]),if_neg (by simp [h12,h13,h14,h15,h16,h17,h18,h19,h20,h21,h22,h23,h24,h25]),if_neg h26]
end Go.Proofs.YtpnlbjnbgemocaaGreat
namespace Go.Proofs.YtpnlbjnbgemocaaGreat
set_option linter.unusedVariables false
set_option linter.unusedSimpArgs false
set_option maxRecDepth 100000
open Go.RowKit
end Go.Proofs.YtpnlbjnbgemocaaGreat
namespace Go.Proofs.YtpnlbjnbgemocaaGreat
set_option linter.unusedVariables false
set_option linter.unusedSimpArgs false
set_option maxRecDepth 100000
open Go.RowKit
theorem FEqAt.cells {w:World}{B b o:Nat}{q:FEqM}(h:FEqAt w B b o q):∃ a m d:Option Addr×Nat×Nat,IRow w B a.1 a.2.1 a.2.2 q.args∧URow w B m.1 m.2.1 m.2.2 q.lit.mag∧URow w B d.1 d.2.1 d.2.2 q.lit.den ∧
    (w.cell? ⟨b,o,none⟩=some (.int .i64 q.var)∧w.cell? ⟨b,o+1,none⟩=some (.string q.op)∧w.cell? ⟨b,o+2,none⟩=some (.slice a.1 a.2.1 a.2.2)∧w.cell? ⟨b,o+3,none⟩=some (.int .i64 q.k)∧w.cell? ⟨b,o+4,none⟩=some (.int .i64 q.lit.kind) ∧
     w.cell? ⟨b,o+5,none⟩=some (.bool q.lit.neg)∧w.cell? ⟨b,o+6,none⟩=some (.slice m.1 m.2.1 m.2.2)∧w.cell? ⟨b,o+7,none⟩=some (.slice d.1 d.2.1 d.2.2)∧w.cell? ⟨b,o+8,none⟩=some (.string q.lit.name)∧w.cell? ⟨b,o+9,none⟩=some (.int .i64 q.guard)):=by
  obtain⟨A,L,C,h1,h2⟩:=h.args
  obtain⟨A',L',C',h3,h4⟩:=h.lit.mag
  obtain⟨A'',L'',C'',h5,h6⟩:=h.lit.den
  exact⟨(A,L,C),(A',L',C'),(A'',L'',C''),h2,h4,h6,h.var.1,h.op.1,h1,h.k.1,h.lit.kind.1,h.lit.neg,h3,h5,h.lit.name.1,h.guard.1⟩
def Blk (w:World)(g T:Nat)(vs:Array Value):Prop:=w.heap[g]?=some (.cells vs T (0,0))
theorem Blk.cell {w:World}{g T:Nat}{vs:Array Value}(h:Blk w g T vs)(i:Nat){v:Value}(hv:vs[i]?=some v):w.cell? ⟨g,i,none⟩=some v:=by
  rw [cell_of_row w g i _ T (0,0) h];exact hv
theorem Blk.free {w:World}{g T:Nat}{vs:Array Value}(h:Blk w g T vs)(i:Nat):w.frozen? ⟨g,i,none⟩=false:=frozen_of_row w g i _ T h
theorem Blk.lt {w:World}{g T:Nat}{vs:Array Value}(h:Blk w g T vs):g<w.heap.size:=(Array.getElem?_eq_some_iff.1 h).1
theorem Blk.below {w w':World}{B g T:Nat}{vs:Array Value}(h:Blk w g T vs)(hb:Below B w w')(hg:g<B):Blk w' g T vs:=(hb.block g hg).trans h
theorem Blk.later {w w':World}{g T:Nat}{vs:Array Value}(h:Blk w g T vs)(hb:Below w.heap.size w w'):Blk w' g T vs:=h.below hb h.lt
theorem Blk.new (w:World)(T:Nat)(vs:Array Value):Blk (w.alloc (.cells vs T)) w.heap.size T vs:=heap_alloc_new w _
theorem Blk.alloc {w:World}{g T:Nat}{vs:Array Value}(h:Blk w g T vs)(o:Obj):Blk (w.alloc o) g T vs:=h.later ((Below.refl _ _).alloc (Nat.le_refl _) o)
def fvs (v:FlatV):Array Value:=#[.slice v.ins.1 v.ins.2.1 v.ins.2.2,.slice v.names.1 v.names.2.1 v.names.2.2,.slice v.outs.1 v.outs.2.1 v.outs.2.2,.slice v.eqs.1 v.eqs.2.1 v.eqs.2.2,.slice v.mems.1 v.mems.2.1 v.mems.2.2,.slice v.conts.1 v.conts.2.1 v.conts.2.2,.slice v.cross.1 v.cross.2.1 v.cross.2.2,.slice v.again.1 v.again.2.1 v.again.2.2]
theorem Blk.flat {w:World}{g:Nat}{v:FlatV}(h:Blk w g 83 (fvs v)) :
    w.cell? ⟨g,0,none⟩=some (.slice v.ins.1 v.ins.2.1 v.ins.2.2)∧w.cell? ⟨g,1,none⟩=some (.slice v.names.1 v.names.2.1 v.names.2.2)∧w.cell? ⟨g,2,none⟩=some (.slice v.outs.1 v.outs.2.1 v.outs.2.2)∧w.cell? ⟨g,3,none⟩=some (.slice v.eqs.1 v.eqs.2.1 v.eqs.2.2) ∧
    w.cell? ⟨g,4,none⟩=some (.slice v.mems.1 v.mems.2.1 v.mems.2.2)∧w.cell? ⟨g,5,none⟩=some (.slice v.conts.1 v.conts.2.1 v.conts.2.2)∧w.cell? ⟨g,6,none⟩=some (.slice v.cross.1 v.cross.2.1 v.cross.2.2)∧w.cell? ⟨g,7,none⟩=some (.slice v.again.1 v.again.2.1 v.again.2.2):=
  ⟨h.cell 0 rfl,h.cell 1 rfl,h.cell 2 rfl,h.cell 3 rfl,h.cell 4 rfl,h.cell 5 rfl,h.cell 6 rfl,h.cell 7 rfl⟩
def qvs (q:FEqM)(a m d:Option Addr×Nat×Nat):Array Value:=#[.int .i64 q.var,.string q.op,.slice a.1 a.2.1 a.2.2,.int .i64 q.k,.int .i64 q.lit.kind,.bool q.lit.neg,.slice m.1 m.2.1 m.2.2,.slice d.1 d.2.1 d.2.2,.string q.lit.name,.int .i64 q.guard]
theorem Blk.eq {w:World}{g:Nat}{q:FEqM}{a m d:Option Addr×Nat×Nat}(h:Blk w g 127 (qvs q a m d)) :
    w.cell? ⟨g,0,none⟩=some (.int .i64 q.var)∧w.cell? ⟨g,1,none⟩=some (.string q.op)∧w.cell? ⟨g,2,none⟩=some (.slice a.1 a.2.1 a.2.2)∧w.cell? ⟨g,3,none⟩=some (.int .i64 q.k)∧w.cell? ⟨g,4,none⟩=some (.int .i64 q.lit.kind) ∧
     w.cell? ⟨g,5,none⟩=some (.bool q.lit.neg)∧w.cell? ⟨g,6,none⟩=some (.slice m.1 m.2.1 m.2.2)∧w.cell? ⟨g,7,none⟩=some (.slice d.1 d.2.1 d.2.2)∧w.cell? ⟨g,8,none⟩=some (.string q.lit.name)∧w.cell? ⟨g,9,none⟩=some (.int .i64 q.guard):=
  ⟨h.cell 0 rfl,h.cell 1 rfl,h.cell 2 rfl,h.cell 3 rfl,h.cell 4 rfl,h.cell 5 rfl,h.cell 6 rfl,h.cell 7 rfl,h.cell 8 rfl,h.cell 9 rfl⟩
end Go.Proofs.YtpnlbjnbgemocaaGreat
namespace Go.Proofs.YtpnlbjnbgemocaaGreat
set_option linter.unusedVariables false
set_option linter.unusedSimpArgs false
set_option maxRecDepth 100000
open Go.RowKit
theorem mem_take_nodup {α:Type}:∀(l:List α) (k:Nat) (x:α),l[k]?=some x→x∈l.take k→¬ l.Nodup:=by
  intro l
  induction l with
  | nil=>intro k x h;simp at h
  | cons a l ih=>
    intro k x h hm hn
    cases k with
    | zero=>simp at hm
    | succ k=>
      have h2:=List.nodup_cons.1 hn
      simp at h
      rw [List.take_succ_cons,List.mem_cons] at hm
      rcases hm with rfl | hm
      · exact h2.1 (List.mem_of_getElem? h)
      · exact ih k x h hm h2.2
theorem nodup_snoc {α:Type}{l:List α}{x:α}(h:l.Nodup)(hx:x ∉ l):(l++[x]).Nodup:=by
  rw [List.nodup_append]
  exact⟨h,by simp,fun a ha b hb e=>by simp at hb;subst hb;exact hx (e▸ha)⟩
def vars (f:FlatM):List Int:=f.eqs.map FEqM.var
def OnceTo (f:FlatM)(k:Nat):Prop:=(∀ x∈(vars f).take k,plB x f.names.length=true)∧((vars f).take k).Nodup
theorem OnceTo.start (f:FlatM):OnceTo f 0:=⟨fun x h=>by simp at h,by simp⟩
theorem vars_at {f:FlatM}{k:Nat}{q:FEqM}(h:f.eqs[k]?=some q):(vars f)[k]?=some q.var:=by unfold vars;simp [h]
theorem vars_succ {f:FlatM}{k:Nat}{q:FEqM}(h:f.eqs[k]?=some q):(vars f).take (k+1)=(vars f).take k++[q.var]:=by
  rw [List.take_add_one,vars_at h];rfl
theorem OnceTo.step {f:FlatM}{k:Nat}{q:FEqM}(h:OnceTo f k)(hq:f.eqs[k]?=some q)(hp:plB q.var f.names.length=true)(hn:q.var ∉ (vars f).take k):OnceTo f (k+1):=by
  unfold OnceTo
  rw [vars_succ hq]
  refine⟨fun x hx=>?_,nodup_snoc h.2 hn⟩
  rw [List.mem_append] at hx
  rcases hx with hx | hx
  · exact h.1 x hx
  · simp at hx;subst hx;exact hp
theorem once_place {f:FlatM}{k:Nat}{q:FEqM}(hq:f.eqs[k]?=some q)(hp:plB q.var f.names.length=false):onceB f=false:=by
  unfold onceB
  have h1:(f.eqs.map FEqM.var).all (fun v=>plB v f.names.length)=false:=all_no (vars_at hq) hp
  rw [h1];rfl
theorem once_twice {f:FlatM}{k:Nat}{q:FEqM}(hq:f.eqs[k]?=some q)(hm:q.var∈(vars f).take k):onceB f=false:=by
  unfold onceB
  have:decide ((f.eqs.map FEqM.var).Nodup)=false:=decide_eq_false (mem_take_nodup _ k q.var (vars_at hq) hm)
  rw [this];simp
theorem once_end {f:FlatM}{n:Nat}(hn:f.eqs.length=n)(h:OnceTo f n):onceB f=(f.eqs.length==f.names.length):=by
  have e:(vars f).take n=vars f:=List.take_of_length_le (by unfold vars;simp;omega)
  unfold OnceTo at h
  rw [e] at h
  unfold onceB
  have h1:(f.eqs.map FEqM.var).all (fun v=>plB v f.names.length)=true:=List.all_eq_true.2 h.1
  have h2:decide ((f.eqs.map FEqM.var).Nodup)=true:=decide_eq_true h.2
  rw [h1,h2];rfl
def Marks (f:FlatM)(k:Nat)(bs:List Bool):Prop:=bs.length=f.names.length∧∀ j,j<f.names.length→bs.getD j false=decide ((j:Int)∈(vars f).take k)
theorem Marks.start (f:FlatM):Marks f 0 (List.replicate f.names.length false):=⟨by simp,fun j hj=>by simp [hj]⟩
theorem Marks.step {f:FlatM}{k:Nat}{q:FEqM}{bs:List Bool}(h:Marks f k bs)(hq:f.eqs[k]?=some q)(j:Nat)(hj:j<f.names.length)(e:q.var=(j:Int)):Marks f (k+1) (bs.set j true):=by
  refine⟨by rw [List.length_set];exact h.1,fun i hi=>?_⟩
  rw [vars_succ hq]
  by_cases hij:i=j
  · subst hij
    have:(bs.set i true).getD i false=true:=by simp [h.1,hi]
    rw [this,eq_comm,decide_eq_true_eq,e];simp
  · have:(bs.set j true).getD i false=bs.getD i false:=by simp [List.getElem?_set,Ne.symm hij]
    rw [this,h.2 i hi,decide_eq_decide,List.mem_append]
    constructor
    · exact .inl
    · rintro(h | h)
      · exact h
      · simp at h;omega
theorem size_alloc (w:World)(o:Obj):(w.alloc o).heap.size=w.heap.size+1:=by simp
end Go.Proofs.YtpnlbjnbgemocaaGreat
namespace Go.Proofs.YtpnlbjnbgemocaaGreat
set_option linter.unusedVariables false
set_option linter.unusedSimpArgs false
set_option maxRecDepth 100000
open Go.RowKit
structure Ctx (w:World) (B:Nat) (v:FlatV) (f:FlatM):Prop where
  is:FlatIs (w.alloc (.cells (fvs v) 83)) B v f
  blk:Blk (w.alloc (.cells (fvs v) 83)) w.heap.size 83 (fvs v)
  old:Below w.heap.size w (w.alloc (.cells (fvs v) 83))
  le:B≤w.heap.size
theorem Ctx.mk' {w:World}{B:Nat}{v:FlatV}{f:FlatM}(h:FlatIs w B v f)(hB:B≤w.heap.size):Ctx w B v f:=
  ⟨h.below ((Below.refl B w).alloc hB _),Blk.new _ _ _,(Below.refl _ _).alloc (Nat.le_refl _) _,hB⟩
theorem bcell {W w1:World}(hb:Below W.heap.size W w1):(∀ b o,b<W.heap.size→w1.cell? ⟨b,o,none⟩=W.cell? ⟨b,o,none⟩)∧(∀ b o,b<W.heap.size→w1.frozen? ⟨b,o,none⟩=W.frozen? ⟨b,o,none⟩):=
  ⟨fun b o h=>hb.cell (p:=⟨b,o,none⟩) h,fun b o h=>hb.frozen (p:=⟨b,o,none⟩) h⟩
def SomeB (P:Prop)(w:World)(e:Ending)(w':World):Prop:=(∃ b,e=.returned (.bool b)∧(b=true→P))∧Below w.heap.size w w'
structure SmallF (f:FlatM):Prop where
  eqs:f.eqs.length≤200
  names:f.names.length≤200
  mems:f.mems.length≤100
  conts:f.conts.length≤20
  cross:f.cross.length≤20
  outs:f.outs.length≤50
  again:f.again.length≤50
  ins:f.ins.length≤20
  args:∀(i:Nat) (q:FEqM),f.eqs[i]?=some q→q.args.length≤30
  resets:∀(i:Nat) (m:MemM),f.mems[i]?=some m→m.resets.length≤20
  creset:∀(i:Nat) (c:ContM),f.conts[i]?=some c→c.resets.length≤20∧c.slopes.length≤20
  ops:∀(i:Nat) (c:CrossM),f.cross[i]?=some c→c.ops.length≤30
end Go.Proofs.YtpnlbjnbgemocaaGreat
namespace Go.Proofs.YtpnlbjnbgemocaaGreat
set_option linter.unusedVariables false
set_option linter.unusedSimpArgs false
set_option maxRecDepth 100000
open Go.RowKit
end Go.Proofs.YtpnlbjnbgemocaaGreat
