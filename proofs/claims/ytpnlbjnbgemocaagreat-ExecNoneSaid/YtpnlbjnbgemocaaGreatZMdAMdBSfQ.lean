import Derived.Test.YtpnlbjnbgemocaaGreatZPlEToExBN12
import Derived.Test.YtpnlbjnbgemocaaGreatZSfAToFlPN13
import Derived.Test.YtpnlbjnbgemocaaGreatZFlAToHpKN11
import Derived.Test.YtpnlbjnbgemocaaGreatZNdAToPlanMN6
import Derived.Deep.RegionHeld3
import Derived.Deep.RegionWith
namespace Go.Proofs.YtpnlbjnbgemocaaGreat
set_option linter.unusedVariables false
set_option linter.unusedSimpArgs false
set_option maxRecDepth 100000
open Go.RowKit
def IRowP (P:Nat→Prop)(w:World)(a:Option Addr)(n c:Nat)(xs:List Int):Prop:=
  xs.length=n∧n≤c∧c≤maxLen∧(a=none→c=0)∧∃ b off,(a=some ⟨b,off,none⟩∨n≤0)∧∀ i,i<n→P b∧w.cell? ⟨b,off+i,none⟩=some (.int .i64 (xs.getD i 0))
def URowP (P:Nat→Prop)(w:World)(a:Option Addr)(n c:Nat)(xs:List Nat):Prop:=
  xs.length=n∧n≤c∧c≤maxLen∧(a=none→c=0)∧(∀ x∈xs,x<4294967296)∧n≤35184372088832∧∃ b off,(a=some ⟨b,off,none⟩∨n≤0)∧∀ i,i<n→P b∧w.cell? ⟨b,off+i,none⟩=some (.int .u32 (xs.getD i 0:Nat))
def KeepP (P Q:Nat→Prop)(w w':World):Prop:=∀ b,P b→Q b∧∀ o,w'.cell? ⟨b,o,none⟩=w.cell? ⟨b,o,none⟩
section
variable {P Q:Nat→Prop} {w w':World} {a:Option Addr} {n c B:Nat} {xs:List Int} {ys:List Nat}
theorem IRowP.keep (h:IRowP P w a n c xs)(hk:KeepP P Q w w'):IRowP Q w' a n c xs:=by
  obtain⟨h1,h2,h3,hn,b,off,h6,h7⟩:=h
  exact⟨h1,h2,h3,hn,b,off,h6,fun i hi=>⟨(hk b (h7 i hi).1).1,((hk b (h7 i hi).1).2 _).trans (h7 i hi).2⟩⟩
theorem URowP.keep (h:URowP P w a n c ys)(hk:KeepP P Q w w'):URowP Q w' a n c ys:=by
  obtain⟨h1,h2,h3,hn,h4,h5,b,off,h6,h7⟩:=h
  exact⟨h1,h2,h3,hn,h4,h5,b,off,h6,fun i hi=>⟨(hk b (h7 i hi).1).1,((hk b (h7 i hi).1).2 _).trans (h7 i hi).2⟩⟩
theorem URow.p (h:URow w B a n c ys):URowP (fun b=>b<B) w a n c ys:=h
theorem IRowP.irow (h:IRowP P w a n c xs)(hP:∀ b,P b→b<B):IRow w B a n c xs:=by
  obtain⟨h1,h2,h3,hn,b,off,h6,h7⟩:=h
  exact⟨h1,h2,h3,hn,b,off,h6,fun i hi=>⟨hP b (h7 i hi).1,(h7 i hi).2⟩⟩
theorem URowP.urow (h:URowP P w a n c ys)(hP:∀ b,P b→b<B):URow w B a n c ys:=by
  obtain⟨h1,h2,h3,hn,h4,h5,b,off,h6,h7⟩:=h
  exact⟨h1,h2,h3,hn,h4,h5,b,off,h6,fun i hi=>⟨hP b (h7 i hi).1,(h7 i hi).2⟩⟩
theorem IRowP.nil (P:Nat→Prop)(w:World):IRowP P w none 0 0 []:=⟨rfl,Nat.le_refl _,Nat.zero_le _,fun _=>rfl,0,0,.inr (Nat.le_refl _),fun i hi=>by omega⟩
theorem URowP.nil (P:Nat→Prop)(w:World):URowP P w none 0 0 []:=⟨rfl,Nat.le_refl _,Nat.zero_le _,(fun _=>rfl),(fun x hx=>absurd hx (by simp)),Nat.zero_le _,0,0,Or.inr (Nat.le_refl _),(fun i hi=>by omega)⟩
theorem IRowP.weak (h:IRowP P w a n c xs)(hP:∀ b,P b→Q b):IRowP Q w a n c xs:=h.keep fun b hb=>⟨hP b hb,fun _=>rfl⟩
theorem URowP.weak (h:URowP P w a n c ys)(hP:∀ b,P b→Q b):URowP Q w a n c ys:=h.keep fun b hb=>⟨hP b hb,fun _=>rfl⟩
theorem Own.irowP {v:Value}(h:Own w B v xs):∃ a c,v=.slice a xs.length c∧IRowP (fun b=>B≤b∧b<w.heap.size) w a xs.length c xs:=by
  rcases h.2 with ⟨rfl,h0⟩ | ⟨g,cap,cur,rfl,hB,hg,hnc,hcm,_⟩
  · refine⟨none,0,by rw [h0],rfl,by omega,Nat.zero_le _,(fun _=>rfl),0,0,Or.inr (by omega),fun i hi=>by omega⟩
  · refine⟨_,cap,rfl,rfl,hnc,hcm,(fun h=>by cases h),g,0,Or.inl rfl,fun i hi=>⟨⟨hB,(Array.getElem?_eq_some_iff.1 hg).1⟩, ?_⟩⟩
    have:=h.cells (g:=g) rfl i (.int .i64 (xs.getD i 0)) (by simp [hi])
    rw [Nat.zero_add]
    have e:(⟨g,0,none⟩:Addr).add i=⟨g,i,none⟩:=by unfold Addr.add;split <;> simp_all
    rw [e] at this
    exact this
theorem IMem.irowP {g:Nat}(h:IMem w g xs)(hP:P g){k:Nat}(hk:xs.length=k)(hm:k≤1000000):IRowP P w (some ⟨g,0,none⟩) k k xs:=by
  subst hk
  exact⟨rfl,Nat.le_refl _,by unfold maxLen;omega,(fun h=>by cases h),g,0,.inl rfl,fun i hi=>⟨hP,by rw [Nat.zero_add];exact h.cell i hi⟩⟩
end
structure InsR (P:Nat→Prop) (w:World) (x:InsM) (q:InsP):Prop where
  op:x.op=q.op
  dst:x.dst=q.dst
  args:IRowP P w x.args.1 x.args.2.1 x.args.2.2 q.args
  k:x.k=q.k
  kind:x.kind=q.lit.kind
  neg:x.neg=q.lit.neg
  mag:URowP P w x.mag.1 x.mag.2.1 x.mag.2.2 q.lit.mag
  den:URowP P w x.den.1 x.den.2.1 x.den.2.2 q.lit.den
  name:x.name=q.lit.name
  guard:x.guard=q.guard
  resets:IRowP P w x.resets.1 x.resets.2.1 x.resets.2.2 q.resets
theorem InsR.keep {P Q:Nat→Prop}{w w':World}{x:InsM}{q:InsP}(h:InsR P w x q)(hk:KeepP P Q w w'):InsR Q w' x q:=
  { h with args:=h.args.keep hk,mag:=h.mag.keep hk,den:=h.den.keep hk,resets:=h.resets.keep hk }
structure InsL (P:Nat→Prop) (w:World) (xs:List InsM) (qs:List InsP):Prop where
  len:xs.length=qs.length
  at_:∀(i:Nat) (x:InsM) (q:InsP),xs[i]?=some x→qs[i]?=some q→InsR P w x q
theorem InsL.nil (P:Nat→Prop)(w:World):InsL P w [] []:=⟨rfl,fun i x q h=>by simp at h⟩
theorem InsL.keep {P Q:Nat→Prop}{w w':World}{xs:List InsM}{qs:List InsP}(h:InsL P w xs qs)(hk:KeepP P Q w w'):InsL Q w' xs qs:=⟨h.len,fun i x q hx hq=>(h.at_ i x q hx hq).keep hk⟩
theorem InsL.snoc {P:Nat→Prop}{w:World}{xs:List InsM}{qs:List InsP}{x:InsM}{q:InsP}(h:InsL P w xs qs)(hx:InsR P w x q):InsL P w (xs++[x]) (qs++[q]):=by
  refine⟨by simp [h.len],fun i y r hy hr=>?_⟩
  by_cases hi:i<xs.length
  · rw [List.getElem?_append_left hi] at hy
    rw [List.getElem?_append_left (by rw [←h.len];exact hi)] at hr
    exact h.at_ i y r hy hr
  · rw [List.getElem?_append_right (by omega)] at hy
    rw [List.getElem?_append_right (by rw [←h.len];omega),←h.len] at hr
    have hlt:i-xs.length<1:=(List.getElem?_eq_some_iff.1 hy).1
    have h0:i-xs.length=0:=by omega
    rw [h0] at hy hr
    simp at hy hr
    subst hy hr
    exact hx
def NewP (B H:Nat)(w':World)(b:Nat):Prop:=b<w'.heap.size∧(b<B∨H≤b)
theorem keepB {w w':World}{C:Nat}{P Q:Nat→Prop}(hb:Below C w w')(h:∀ b,P b→b<C∧Q b):KeepP P Q w w':=fun b hP=>⟨(h b hP).2,fun o=>hb.cell (p:=⟨b,o,none⟩) (h b hP).1⟩
structure InsF (q:InsP):Prop where
  op:q.op.size≤maxLen
  dst:-9223372036854775808≤q.dst∧q.dst≤9223372036854775807
  k:-9223372036854775808≤q.k∧q.k≤9223372036854775807
  kind:-9223372036854775808≤q.lit.kind∧q.lit.kind≤9223372036854775807
  name:q.lit.name.size≤maxLen
  guard:-9223372036854775808≤q.guard∧q.guard≤9223372036854775807
def mkI (op:ByteArray)(dst:Int)(args:List Int)(k guard:Int)(resets:List Int):InsP:=⟨op,dst,args,k,noVal,guard,resets⟩
def keepI (ss:List Int)(i:Nat)(m:MemM):InsP:=mkI ⟨#[107,101,101,112]⟩ 0 [slotS ss m.next] i (slotS ss m.guard) (m.resets.map (slotS ss))
def stateI (ss:List Int)(i:Nat)(m:ContM):InsP:=mkI ⟨#[115,116,97,116,101]⟩ 0 [slotS ss m.var] i (slotS ss m.guard) (m.resets.map (slotS ss))
def outI (ss:List Int)(i:Nat)(x:Int):InsP:=mkI ⟨#[111,117,116]⟩ 0 [slotS ss x] i (-1) []
def againI (ss:List Int)(x:Int):InsP:=mkI ⟨#[97,103,97,105,110]⟩ 0 [slotS ss x] 0 (-1) []
def slopeI (ss:List Int)(i:Nat)(m:ContM):InsP:=mkI ⟨#[115,108,111,112,101]⟩ 0 (m.slopes.flatMap fun s=>[slotS ss s.guard,slotS ss s.var]) i (slotS ss m.guard) []
def askI (i:Nat)(l g:Int):InsP:=mkI ⟨#[97,115,107]⟩ 0 [l] i g []
def eqI (f:FlatM)(ss:List Int)(q:FEqM):InsP:=
  ⟨q.op,slotS ss q.var,q.args.map (slotS ss),if q.op=bs [105,110]∨q.op=bs [102,108,97,103]∨q.op=bs [109,101,109]∨q.op=bs [99,111,110,116] then q.k else 0,
    if q.op=bs [108,105,116] then q.lit else noVal,slotS ss q.guard,
    (if q.op=bs [109,101,109] then(f.mems[q.k.toNat]?.map MemM.resets).getD [] else if q.op=bs [99,111,110,116] then(f.conts[q.k.toNat]?.map ContM.resets).getD [] else []).map (slotS ss)⟩
def lineI (ss:List Int)(o:COpM)(base dst guard:Int):InsP:=
  mkI (⟨#[108]⟩++o.op) dst
    (if o.op=copVar then [slotS ss (o.args.getD 0 0)] else if o.op=copCont then [] else if o.op=copSel then [slotS ss (o.args.getD 0 0),base+o.args.getD 1 0,base+o.args.getD 2 0] else if o.op=copNeg then [base+o.args.getD 0 0] else [base+o.args.getD 0 0,base+o.args.getD 1 0])
    (if o.op=copCont then o.args.getD 0 0 else if o.op=copMul then o.args.getD 2 0 else 0) guard []
def stepEq (f:FlatM)(ss o:List Int):List InsP:=o.flatMap fun x=>(f.eqs.filter fun q=>decide (q.var=x)).map (eqI f ss)
def stepL (f:FlatM)(ss o:List Int):List InsP:=stepEq f ss o++f.mems.mapIdx (keepI ss)++f.conts.mapIdx (stateI ss)++f.outs.mapIdx (outI ss)++f.again.map (againI ss)
def derivL (f:FlatM)(ss:List Int):List InsP:=f.conts.mapIdx (slopeI ss)
def crossI (ss:List Int)(i base:Nat)(x:CrossM):List InsP:=(x.ops.mapIdx fun j o=>lineI ss o (base:Int) ((base:Int)+(j:Int)) (slotS ss x.guard))++[askI i ((base:Int)+(x.ops.length:Int)-1) (slotS ss x.guard)]
def baseTo (f:FlatM):Nat→Nat
  | 0=>0
  | k+1=>baseTo f k+((f.cross[k]?.map fun x=>x.ops.length).getD 0)
def crossTo (f:FlatM)(ss:List Int):Nat→List InsP
  | 0=>[]
  | k+1=>crossTo f ss k++((f.cross[k]?.map (crossI ss k (baseTo f k))).getD [])
def madeC (f:FlatM)(o ss:List Int)(S:Int):CodeM:=
  ⟨f.ins.length,f.outs.length,S,f.cross.length,baseTo f f.cross.length,f.mems.map MemM.init,f.conts.map ContM.init,stepL f ss o,derivL f ss,crossTo f ss f.cross.length⟩
theorem mapIdx_take {α β:Type}{l:List α}{g:Nat→α→β}{k:Nat}{x:α}(h:l[k]?=some x):(l.take (k+1)).mapIdx g=(l.take k).mapIdx g++[g k x]:=by
  have hk:k<l.length:=(List.getElem?_eq_some_iff.1 h).1
  rw [take_snoc h,List.mapIdx_append]
  simp [Nat.min_eq_left (Nat.le_of_lt hk)]
end Go.Proofs.YtpnlbjnbgemocaaGreat
namespace Go.Proofs.YtpnlbjnbgemocaaGreat
set_option linter.unusedVariables false
set_option linter.unusedSimpArgs false
set_option maxRecDepth 100000
open Go.RowKit
theorem runN (w:World)(ty:TypeId)(B:Nat)(v:Value)(xs:List Int)(hown:Own w B v xs)(ad:Addr)(n c:Nat)(ys:List Int)(hys:ys.length=n)(hn:∀ j u,(ys.map (Value.int .i64))[j]?=some u→w.cell? (ad.add j)=some u)(hB:B≤w.heap.size)(hl:xs.length≤1000000000)(hy:n≤1000000) :
    ∃ v' w',(Builtin.append_ #[77,77] ty #[v,.slice (some ad) n c]).run Tryz.prog w=.ok v' w'∧Own w' B v' (xs++ys)∧Only [v.ownBlock] w w'∧(v'.ownBlock=v.ownBlock∨∃ k,v'.ownBlock=some k∧w.heap.size≤k):=by
  obtain⟨i0,hi,hz0,hz1,hz2⟩:=info_parts Tryz.info3
  obtain⟨v',w',h1,h2,h3,h4,h5⟩:=run_append_own_at (P:=Tryz.prog) w B 77 ty 3 i0 (.int .i64 0) 1 8 Tryz.underlying77 hi hz0 hz1 hz2 rfl (by decide) v xs.length (xs.map (Value.int .i64)) hown ad n c (ys.map (Value.int .i64)) (by simp [hys]) hn (fun u hu=>by
    obtain⟨x,_,rfl⟩:=List.mem_map.1 hu
    rfl) (by unfold maxLen;omega) (by omega) hB
  refine⟨v',w',h1, ?_,Only.of_grown h3 (Or.inl (by simp)), ?_⟩
  · unfold Own;rw [List.map_append,List.length_append,hys];exact h2
  · rcases h5 with h | h
    · exact Or.inl h
    · exact Or.inr ⟨_,h,Nat.le_refl _⟩
theorem stepN {w:World}{ops:Array Oper}{o:Oper}{a:Act}{K:Act→World→Prop}{Q:Exit→Act→World→Prop}{E:Prop}{cs:Array Value}(hgd:o.guard=none)(s x:Operand)
    (hop:o.op=.call { callee:=.builtin .append,args:=#[s,x],argTypes:=#[77,77] })
    (B:Nat) (v:Value) (xs ys:List Int) (T:TypeId) (H:Nat) (n c:Nat) (hs:a.eval s=v) (hx:a.eval x=.slice (some ⟨H,0,none⟩) n c) (hH:w.heap.size=H) (hys:ys.length=n) (hcs:(ys.map (Value.int .i64)).toArray=cs) (hown:Own w B v xs) (hB:B≤H) (hl:xs.length≤1000000000) (hn:n≤1000000)
    (hK:∀ v' w',Own w' B v' (xs++ys)→Only [v.ownBlock] w w'→(v'.ownBlock=v.ownBlock∨∃ k,v'.ownBlock=some k∧H≤k)→K (a.put o.dst v') w') :
    if Region.wanted o (yielded ops a.tmps)=true then Oper.wp Tryz.prog o a (w.alloc (.cells cs T)) K Q else E:=by
  subst hH hcs
  have hw:Region.wanted o (yielded ops a.tmps)=true:=by simp [Region.wanted,hgd]
  rw [if_pos hw]
  obtain⟨v',w',hr',h2,h3,h4⟩:=runN (w.alloc (.cells (ys.map (Value.int .i64)).toArray T)) o.type B v xs (hown.below ((Below.refl _ _).alloc (Nat.le_refl _) _) (Nat.le_refl _)) ⟨w.heap.size,0,none⟩ n c ys hys (fun j u hu=>by
    have e:(⟨w.heap.size,0,none⟩:Addr).add j=⟨w.heap.size,j,none⟩:=by unfold Addr.add;split <;> simp_all
    rw [e,cell_of_row _ w.heap.size j _ T (0,0) (heap_alloc_new w _)]
    simpa using hu) (by simp;omega) hl hn
  unfold Oper.wp execOp
  simp only [hop,resolve,invoke,builtin,Sem.run_bind,Sem.run_pure,Result.andThen_ok,List.map_toArray,List.map_cons,List.map_nil,hs,hx,hr']
  refine hK v' w' h2 ((Only.refl _ w |>.alloc _).trans h3) ?_
  rcases h4 with h | ⟨k,h,hk⟩
  · exact Or.inl h
  · exact Or.inr ⟨k,h,by simp at hk;omega⟩
theorem keepA4' {W:World}{e e':Nat}{o0 o1 o2 o3:Nat}{x0 x1 x2 x3:Value}(h:W.cell? ⟨e,o0,none⟩=some x0∧W.cell? ⟨e,o1,none⟩=some x1∧W.cell? ⟨e,o2,none⟩=some x2∧W.cell? ⟨e',o3,none⟩=some x3)(he:e<W.heap.size)(he':e'<W.heap.size)(o:Obj) :
    (W.alloc o).cell? ⟨e,o0,none⟩=some x0∧(W.alloc o).cell? ⟨e,o1,none⟩=some x1∧(W.alloc o).cell? ⟨e,o2,none⟩=some x2∧(W.alloc o).cell? ⟨e',o3,none⟩=some x3:=
  keepS4 h ((Below.refl W.heap.size W).alloc (Nat.le_refl _) o) he he he he'
theorem own_slice {w:World}{B:Nat}{v:Value}{xs:List Int}(h:Own w B v xs):∃ a n c,v=.slice a n c:=by
  obtain⟨a,c,e⟩:=h.len;exact⟨a,_,c,e⟩
set_option maxHeartbeats 1000000 in
theorem slot15_t (A A2:Option Addr)(m c n c2 B:Nat)(S x:Int)(ss:List Int)(w:World)(hr:IRow w B A2 n c2 ss)(hB:B≤w.heap.size)(hx:x<(n:Int)) :
    Calls Tryz.prog 71 #[.agg #[.slice A m c,.slice A2 n c2,.int .i64 S],.int .i64 x] w fun e w'=>e=.returned (.int .i64 (slotS ss x))∧Below w.heap.size w w':=by
  have HR:=Lib.hid hr
  have HBW:=Lib.hid hB
  clear hr hB
  have hm:n≤maxLen:=HR.out.len_le
  unfold maxLen at hm
  by_cases h0:x<0
  · have HS:Hid (slotS ss x=-1):=Lib.hid (by unfold slotS;rw [if_pos h0])
    go_enter Tryz.func71,Tryz.ntmps71
    go_wp2
    go_ret
    exact⟨by rw [HS.out];rfl,(Below.refl _ _).alloc (Nat.le_refl _) _⟩
  · obtain⟨i,rfl⟩:∃ i:Nat,x=(i:Int):=⟨x.toNat,by omega⟩
    have hi:i<n:=by omega
    obtain⟨b,off,rfl,hlb,hcell⟩:=HR.out.at_ hi
    have hbw:b<w.heap.size:=Nat.lt_of_lt_of_le hlb HBW.out
    have hS:slotS ss (i:Int)=ss.getD i 0:=by unfold slotS;rw [if_neg h0,Int.toNat_natCast]
    have HS:=Lib.hid hS
    clear hS
    go_enter Tryz.func71,Tryz.ntmps71
    go_wp2
    go_ret
    exact⟨by rw [HS.out];rfl,(Below.refl _ _).alloc (Nat.le_refl _) _⟩
def SlotsPost (l:List Int)(w:World)(e:Ending)(w':World):Prop:=∃ v',e=.returned v'∧Own w' w.heap.size v' l∧Below w.heap.size w w'
set_option maxHeartbeats 2000000 in
theorem slots15_t (A A2:Option Addr)(m c n c2 B:Nat)(S:Int)(ss:List Int){B1:Nat}(A3:Option Addr)(k3 c3:Nat)(xs:List Int)(w:World)(hr:IRow w B A2 n c2 ss)(hB:B≤w.heap.size)(hx:IRow w B1 A3 k3 c3 xs)(hB1:B1≤w.heap.size)(hk:k3≤1000000)(hlt:∀ x∈xs,x<(n:Int)) :
    Calls Tryz.prog 122 #[.agg #[.slice A m c,.slice A2 n c2,.int .i64 S],.slice A3 k3 c3] w (SlotsPost (xs.map (slotS ss)) w):=by
  have HR:=Lib.hid hr
  have HX:=Lib.hid hx
  have HBW:=Lib.hid hB
  have HBX:=Lib.hid hB1
  have HLT:=Lib.hid hlt
  clear hr hx hB hB1 hlt
  obtain⟨W1,hW1⟩:∃ W1,W1=w.alloc (.cells #[.slice A m c,.slice A2 n c2,.int .i64 S] 86):=⟨_,rfl⟩
  have HB1:=Lib.hid (show Below w.heap.size w W1 from by rw [hW1];exact(Below.refl _ _).alloc (Nat.le_refl _) _)
  have HK:=Lib.hid (show Blk W1 w.heap.size 86 #[.slice A m c,.slice A2 n c2,.int .i64 S] from by rw [hW1];exact Blk.new _ _ _)
  have HS1:Hid (w.heap.size<W1.heap.size):=Lib.hid HK.out.lt
  go_enter Tryz.func122,Tryz.ntmps122
  go_upto_region 1 with fail
  rw [←hW1]
  clear hW1
  go_wp2_with fail
  go_loopw [5,6] (fun u t wr=>∃(k:Nat) (l:List Int) (a3:Option Addr) (n3 c3:Nat),k≤k3∧u=.slice a3 n3 c3∧t=.int .i64 k∧l.length=k∧Hid (l=(xs.take k).map (slotS ss))∧Hid (Own wr (w.heap.size+1) (.slice a3 n3 c3) l)∧Hid (Below (w.heap.size+1) W1 wr)) (fun _ t _=>k3-(intOf t).toNat)
  case atStart=>exact⟨0,[],none,0,0,Nat.zero_le _,rfl,rfl,rfl,Lib.hid rfl,Lib.hid (Own.nil _ _),Lib.hid (Below.refl _ _)⟩
  case round=>
    obtain⟨k,l,a3,n3,c3',hk3,rfl,rfl,hl,HL,HO,HB⟩:=hrel
    have HBw:Hid (Below w.heap.size w wr):=Lib.hid (HB1.out.trans (HB.out.mono (Nat.le_succ _)))
    have hmx:=HX.out.len_le
    unfold maxLen at hmx
    by_cases hlt:k<k3
    · obtain⟨b,off,rfl,hlb,hcell⟩:=(HX.out.below (HBw.out.mono HBX.out)).at_ hlt
      obtain⟨X,hX⟩:∃ X,X=xs.getD k 0:=⟨_,rfl⟩
      rw [←hX] at hcell
      have hkx:k<xs.length:=by rw [HX.out.1];exact hlt
      have hxk:X<(n:Int):=HLT.out _ (by rw [hX];rw [List.getD_eq_getElem?_getD,List.getElem?_eq_getElem hkx];exact List.getElem_mem _)
      have HXK:Hid ((l++[slotS ss X])=(xs.take (k+1)).map (slotS ss)):=Lib.hid (by
        rw [HL.out,Go.Proofs.YtpnlbjnbgemocaaGreat.take_snoc (List.getElem?_eq_getElem hkx),List.map_append,hX,List.getD_eq_getElem?_getD,List.getElem?_eq_getElem hkx];rfl)
      have HK1:=Lib.hid (HK.out.below HB.out (Nat.lt_succ_self _))
      obtain⟨p0,p1,p2⟩:=And.intro (HK1.out.cell 0 rfl) (And.intro (HK1.out.cell 1 rfl) (HK1.out.cell 2 rfl))
      have HSL:=Lib.hid (fun W (hb:Below wr.heap.size wr W)=>slot15_t A A2 m c n c2 B S X ss W (HR.out.below ((HBw.out.trans (hb.mono HBw.out.size)).mono HBW.out)) (Nat.le_trans HBW.out (HBw.out.trans (hb.mono HBw.out.size)).size) hxk)
      clear hX hxk hkx
      have HPA:Hid (wr.drew.cell? ⟨w.heap.size,0,none⟩=some (.slice A m c)∧wr.drew.cell? ⟨w.heap.size,1,none⟩=some (.slice A2 n c2)∧wr.drew.cell? ⟨w.heap.size,2,none⟩=some (.int .i64 S)∧wr.drew.cell? ⟨b,off+k,none⟩=some (.int .i64 X)):=Lib.hid ⟨p0,p1,p2,hcell⟩
      have HLS:Hid (w.heap.size<wr.heap.size):=Lib.hid HK1.out.lt
      have HLW:Hid (b<w.heap.size):=Lib.hid (Nat.lt_of_lt_of_le hlb HBX.out)
      have HLB:Hid (b<wr.heap.size):=Lib.hid (Nat.lt_of_lt_of_le hlb (Nat.le_trans HBX.out HBw.out.size))
      clear p0 p1 p2 hcell
      go_upto_region 5 with fail
      go_region_held3 (fun w'=>w'.cell? ⟨w.heap.size,0,none⟩=some (.slice A m c)∧w'.cell? ⟨w.heap.size,1,none⟩=some (.slice A2 n c2)∧w'.cell? ⟨w.heap.size,2,none⟩=some (.int .i64 S)∧w'.cell? ⟨b,off+k,none⟩=some (.int .i64 X)) (first | with_reducible exact HPA.out | with_reducible exact HPB.out _ | with_reducible exact HPC.out | go_keep) (first
        | (go_at_call 71;(with_reducible refine(HSL.out _ (Below.refl wr.heap.size wr).drew).mono ?_);rintro e w2 ⟨rfl,hb2⟩;have HB2:=Lib.hid ((Below.refl wr.heap.size wr).drew.trans hb2);have HPA:=Lib.hid (keepS4 HPA.out hb2 HLS.out HLS.out HLS.out HLB.out);have HPB:=Lib.hid (fun o=>keepA4' HPA.out (Nat.lt_of_lt_of_le HLS.out HB2.out.size) (Nat.lt_of_lt_of_le HLB.out HB2.out.size) o);have HO2:=Lib.hid (HO.out.below HB2.out (Nat.le_refl _));clear hb2)
        | (refine stepN rfl _ _ rfl (w.heap.size+1) (.slice a3 n3 c3') l [slotS ss X] 3 w2.heap.size 1 1 rfl rfl rfl rfl rfl HO2.out (Nat.le_trans HLS.out HB2.out.size) (by omega) (by decide) ?_;intro v' w' hown' honly hat;obtain⟨a4,n4,c4,hv4⟩:=own_slice hown';subst hv4;have HO':=Lib.hid hown';have hbo:=honly.own HO2.out (Nat.le_trans HLS.out HB2.out.size);have HB':=Lib.hid ((HB2.out.mono HLS.out).trans hbo);have HPC:=Lib.hid (keepS4 HPA.out hbo (Nat.lt_succ_self _) (Nat.lt_succ_self _) (Nat.lt_succ_self _) (Nat.lt_succ_of_lt HLW.out));clear hown' honly hat hbo))
      go_wp2_with fail
      go_roundw
      case rel=>exact⟨k+1,l++[_],a4,n4,c4,by omega,rfl,by go_num,by simp [hl],HXK,HO',Lib.hid (HB.out.trans HB'.out)⟩
      case measure=>simp [intOf];omega
    · obtain rfl:k=k3:=by omega
      have HXK:Hid (l=xs.map (slotS ss)):=Lib.hid (by rw [HL.out,←HX.out.1,List.take_length])
      go_wp2
      go_ret
      exact⟨_,rfl,by rw [←HXK.out];exact HO.out.more (Nat.le_succ _),HBw.out⟩
end Go.Proofs.YtpnlbjnbgemocaaGreat
namespace Go.Proofs.YtpnlbjnbgemocaaGreat
set_option linter.unusedVariables false
set_option linter.unusedSimpArgs false
set_option maxRecDepth 100000
open Go.RowKit
theorem Tryz.ownKnob:ownKnob Tryz.prog.godebug=none:=by kernel_rfl
theorem Tryz.laidOut:laidOutB Tryz.prog=true:=by kernel_rfl
end Go.Proofs.YtpnlbjnbgemocaaGreat
