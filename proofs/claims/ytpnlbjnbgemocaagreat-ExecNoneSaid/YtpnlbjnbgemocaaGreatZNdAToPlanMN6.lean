import Derived.Test.YtpnlbjnbgemocaaGreatZFlAToHpKN11
import Derived.Laws.AppendOwnNone
import Derived.Deep.DeepCutAuto
import Derived.Deep.RegionHeld3
import Derived.Test.YtpnlbjnbgemocaaGreatZNAToHpMN7
namespace Go.Proofs.YtpnlbjnbgemocaaGreat
set_option linter.unusedVariables false
set_option linter.unusedSimpArgs false
set_option maxRecDepth 100000
open Go.RowKit
theorem appendR {w:World}{ops:Array Oper}{rest:List Oper}{o:Oper}{a:Act}{Q:Exit→Act→World→Prop}(hgd:o.guard=none)(s x:Operand)(t:TypeId)(ht:Tryz.prog.underlying t=some (.slice 3))
    (hop:o.op=.call { callee:=.builtin .append,args:=#[s,x],argTypes:=#[t,t] })
    (B B':Nat) (v:Value) (xs:List Int) (A:Option Addr) (n c:Nat) (ys:List Int) (hs:a.eval s=v) (hx:a.eval x=.slice A n c) (hown:Own w B v xs) (hr:IRow w B' A n c ys) (hB:B≤w.heap.size) (hl:xs.length≤1000000000) (hn:n≤1000000)
    (hK:∀ v' w',Own w' B v' (xs++ys)→Only [v.ownBlock] w w'→(v'.ownBlock=v.ownBlock∨∃ k,v'.ownBlock=some k∧w.heap.size≤k)→wpList Tryz.prog ops Q rest (a.put o.dst v') w') :
    wpList Tryz.prog ops Q (o::rest) a w:=by
  obtain⟨i0,hi,hz0,hz1,hz2⟩:=info_parts Tryz.info3
  cases A with
  | none=>
    have hc:c=0:=hr.2.2.2.1 rfl
    have hn0:n=0:=by have:=hr.2.1;omega
    subst hc hn0
    have hy:ys=[]:=List.length_eq_zero_iff.1 hr.1
    subst hy
    refine wpList_append_own_none hgd s x t hop B 3 i0 1 ht hi v xs.length (xs.map (Value.int .i64)) hs hown hx ?_
    exact hK v w (by rw [List.append_nil];exact hown) (Only.refl _ _) (.inl rfl)
  | some ad=>
    refine wpList_append_own_at _ hgd s x t hop B 3 i0 (.int .i64 0) 1 8 ht hi hz0 hz1 hz2 rfl (by decide) v xs.length (xs.map (Value.int .i64)) hs hown ad n c (ys.map (Value.int .i64)) hx (by rw [List.length_map,hr.1,Nat.mul_one]) (fun j u hu=>?_) (fun u hu=>?_) (by unfold maxLen;omega) (by omega) hB ?_
    · rw [List.getElem?_map] at hu
      obtain⟨y,hy,rfl⟩:=Option.map_eq_some_iff.1 hu
      have hj:j<n:=by rw [←hr.1];exact(List.getElem?_eq_some_iff.1 hy).1
      obtain⟨b,off,e,_,hc⟩:=hr.at_ hj
      injection e with e
      subst e
      rw [Go.WideShapes.add_plain,hc]
      congr 2
      simp [List.getD,hy]
    · rw [List.mem_map] at hu
      obtain⟨y,_,rfl⟩:=hu
      rfl
    · intro v' w' hown' hgrow _ hat
      refine hK v' w' ?_ (Only.of_grown hgrow (Or.inl (by simp))) ?_
      · unfold Own;simpa [hr.1] using hown'
      · rcases hat with h | h
        · exact Or.inl h
        · exact Or.inr ⟨_,h,Nat.le_refl _⟩
theorem Own.fresh (w:World)(B:Nat)(hB:B≤w.heap.size):Own (w.alloc (.cells #[] 3)) B (.slice (some ⟨w.heap.size,0,none⟩) 0 0) []:=
  ⟨rfl,.inr ⟨w.heap.size,0,#[],rfl,hB,heap_alloc_new w _,Nat.le_refl _,Nat.zero_le _,rfl,rfl⟩⟩
theorem Only.own {B:Nat}{v:Value}{xs:List Int}{a b:World}(h:Only [v.ownBlock] a b)(ho:Own a B v xs)(hB:B≤a.heap.size):Below B a b:=
  h.below hB fun j hj=>by
    simp at hj
    exact(ho.lt hj.symm).1
def needsL (f:FlatM)(q:FEqM):List Int:=
  q.args++(if 0≤q.guard then [q.guard] else [])++(if q.op=opMem then(f.mems[q.k.toNat]?.map MemM.resets).getD [] else [])++(if q.op=opCont then(f.conts[q.k.toNat]?.map ContM.resets).getD [] else [])
end Go.Proofs.YtpnlbjnbgemocaaGreat
namespace Go.Proofs.YtpnlbjnbgemocaaGreat
set_option linter.unusedVariables false
set_option linter.unusedSimpArgs false
set_option maxRecDepth 100000
open Go.RowKit
structure InsP where
  op:ByteArray
  dst:Int
  args:List Int
  k:Int
  lit:ValM
  guard:Int
  resets:List Int
structure CodeM where
  ins:Int
  outs:Int
  slots:Int
  crosses:Int
  lines:Int
  mems:List ValM
  conts:List ValM
  step:List InsP
  deriv:List InsP
  cross:List InsP
def opsNone:List ByteArray:=[bs [108,105,116],bs [105,110],bs [109,101,109],bs [99,111,110,116],bs [102,108,97,103]]
def opsEnd:List ByteArray:=[bs [107,101,101,112],bs [115,116,97,116,101],bs [111,117,116],bs [97,103,97,105,110]]
def hasOp (l:List ByteArray)(op:ByteArray):Bool:=l.any fun x=>decide (op=x)
def isEnd (op:ByteArray):Bool:=hasOp opsEnd op
def enS (op:ByteArray)(n:Nat):Bool:=
  if hasOp opsNone op then n==0
  else if hasOp opsOne op||hasOp opsEnd op then n==1
  else if hasOp opsSome op then decide (1≤n)
  else if hasOp opsTwo op then n==2
  else if op=opSel then n==3
  else false
def inB (i n:Int):Bool:=decide (0≤i)&&decide (i<n)
def opOut:ByteArray:=bs [111,117,116]
def opsMem:List ByteArray:=[bs [109,101,109],bs [107,101,101,112]]
def opsCont:List ByteArray:=[bs [99,111,110,116],bs [115,116,97,116,101],bs [115,108,111,112,101],bs [108,99,111,110,116]]
def opsFlag:List ByteArray:=[bs [102,108,97,103],bs [97,115,107]]
def opLmul:ByteArray:=bs [108,42]
def plK (op:ByteArray)(k ni no nm nc nx:Int):Bool:=
  if op=opIn then inB k ni
  else if op=opOut then inB k no
  else if hasOp opsMem op then inB k nm
  else if hasOp opsCont op then inB k nc
  else if hasOp opsFlag op then inB k nx
  else if op=opLmul then inB k 2
  else true
def opsBegin:List ByteArray:=[bs [109,101,109],bs [99,111,110,116],bs [107,101,101,112],bs [115,116,97,116,101]]
def mayB (op:ByteArray):Bool:=hasOp opsBegin op
def wrB (S:Int)(W:List Int)(j:Int):Bool:=inB j S&&decide (j∈W)
def gdB (S:Int)(W:List Int)(j:Int):Bool:=decide (j<0)||wrB S W j
def wTo (l:List InsP):List Int:=l.filterMap fun x=>if isEnd x.op=true then none else some x.dst
def opAsk:ByteArray:=bs [97,115,107]
def lTo (l:List InsP):List Int:=l.filterMap fun x=>if x.op=opAsk then none else some x.dst
def stB (c:CodeM)(W:List Int)(x:InsP):Bool:=
  enS x.op x.args.length&&plK x.op x.k c.ins c.outs c.mems.length c.conts.length c.crosses&&(decide (x.resets.length=0)||mayB x.op) &&
  (gdB c.slots W x.guard&&x.args.all (wrB c.slots W)&&x.resets.all (wrB c.slots W))&&(isEnd x.op||inB x.dst c.slots)
def opSlope:ByteArray:=bs [115,108,111,112,101]
def twoB (S:Int)(W:List Int):List Int→Bool
  | a::b::l=>gdB S W a&&wrB S W b&&twoB S W l
  | []=>true
  | _=>false
def drB (c:CodeM)(W:List Int)(x:InsP):Bool:=
  decide (x.op=opSlope)&&inB x.k c.conts.length&&(gdB c.slots W x.guard&&decide (x.resets.length=0))&&twoB c.slots W x.args
def opsL0:List ByteArray:=[bs [108,99,111,110,116]]
def opsL1:List ByteArray:=[bs [108,118,97,114]]
def opsL01:List ByteArray:=[bs [108,110,101,103],bs [97,115,107]]
def opsL02:List ByteArray:=[bs [108,43],bs [108,45],bs [108,42],bs [108,47]]
def opsL12:List ByteArray:=[bs [108,115,101,108]]
def nLn (op:ByteArray):Option (Nat×Nat):=
  if hasOp opsL0 op then some (0,0)
  else if hasOp opsL1 op then some (1,0)
  else if hasOp opsL01 op then some (0,1)
  else if hasOp opsL02 op then some (0,2)
  else if hasOp opsL12 op then some (1,2)
  else none
def crB (c:CodeM)(W L:List Int)(x:InsP):Bool:=
  match nLn x.op with
  | none=>false
  | some (s,l)=>decide (x.args.length=s+l)&&plK x.op x.k c.ins c.outs c.mems.length c.conts.length c.crosses&&(gdB c.slots W x.guard&&decide (x.resets.length=0))&&((x.args.take s).all (wrB c.slots W)&&(x.args.drop s).all (wrB c.lines L))&&(decide (x.op=opAsk)||inB x.dst c.lines)
def cntB (n:Int):Bool:=decide (0≤n)&&decide (n≤65536)
structure RightC (c:CodeM):Prop where
  ins:cntB c.ins=true
  outs:cntB c.outs=true
  slots:cntB c.slots=true
  crosses:cntB c.crosses=true
  lines:cntB c.lines=true
  step:∀(i:Nat) (x:InsP),c.step[i]?=some x→stB c (wTo (c.step.take i)) x=true
  deriv:∀(i:Nat) (x:InsP),c.deriv[i]?=some x→drB c (wTo c.step) x=true
  cross:∀(i:Nat) (x:InsP),c.cross[i]?=some x→crB c (wTo c.step) (lTo (c.cross.take i)) x=true
theorem take_snoc {α:Type}{l:List α}{k:Nat}{x:α}(h:l[k]?=some x):l.take (k+1)=l.take k++[x]:=by rw [List.take_add_one,h];rfl
theorem wTo_end {l:List InsP}{x:InsP}(h:isEnd x.op=true):wTo (l++[x])=wTo l:=by unfold wTo;simp [List.filterMap_append,h]
theorem wTo_eq {l:List InsP}{x:InsP}(h:isEnd x.op=false):wTo (l++[x])=wTo l++[x.dst]:=by unfold wTo;simp [List.filterMap_append,h]
def mkB (n:Nat)(W:List Int):List Bool:=(List.range n).map fun(j:Nat)=>decide ((j:Int)∈W)
theorem mkB_len (n:Nat)(W:List Int):(mkB n W).length=n:=by unfold mkB;simp
theorem mkB_get {n:Nat}{W:List Int}{j:Nat}(h:j<n):(mkB n W).getD j false=decide ((j:Int)∈W):=by unfold mkB;simp [List.getD_eq_getElem?_getD,h]
theorem mkB_nil (n:Nat):mkB n []=List.replicate n false:=by
  apply List.ext_getElem?
  intro i
  unfold mkB
  by_cases hi:i<n
  · simp [hi]
  · simp [hi]
theorem mkB_set {n:Nat}{W:List Int}{j:Nat}:(mkB n W).set j true=mkB n (W++[(j:Int)]):=by
  apply List.ext_getElem?
  intro i
  rw [List.getElem?_set]
  unfold mkB
  by_cases hi:i<n
  · by_cases hj:j=i
    · subst hj;simp [hi]
    · have:¬(i:Int)=(j:Int):=by omega
      simp [hi,hj,this]
  · by_cases hj:j=i
    · subst hj;simp [hi]
    · simp [hi,hj]
theorem wrB_no {S:Int}{W:List Int}{j:Int}(h:inB j S=false):wrB S W j=false:=by unfold wrB;rw [h];rfl
theorem wrB_at {S:Int}{W:List Int}{j:Nat}(h:(j:Int)<S):wrB S W (j:Int)=decide ((j:Int)∈W):=by
  unfold wrB inB
  have h0:(0:Int)≤(j:Int):=by omega
  simp [h0,h]
theorem inB_yes {i n:Int}(h:inB i n=true):∃ j:Nat,i=(j:Int)∧i<n:=by
  unfold inB at h
  rw [Bool.and_eq_true,decide_eq_true_eq,decide_eq_true_eq] at h
  exact⟨i.toNat,by omega,h.2⟩
end Go.Proofs.YtpnlbjnbgemocaaGreat
namespace Go.Proofs.YtpnlbjnbgemocaaGreat
set_option linter.unusedVariables false
set_option linter.unusedSimpArgs false
set_option maxRecDepth 100000
open Go.RowKit
def NeedsPost (f:FlatM)(q:FEqM)(w:World)(e:Ending)(w':World):Prop:=∃ v',e=.returned v'∧Own w' w.heap.size v' (needsL f q)∧Below w.heap.size w w'
theorem nd_done {f:FlatM}{q:FEqM}{w W1 w':World}{v':Value}{xs:List Int}(h1:Below w.heap.size w W1)(hs:W1.heap.size=w.heap.size+2)(h2:Below (w.heap.size+2) W1 w')(ho:Own w' (w.heap.size+2) v' xs)(he:needsL f q=xs):NeedsPost f q w (.returned v') w':=
  ⟨v',rfl,by rw [he];exact ho.more (by omega),h1.trans (h2.mono (by omega))⟩
set_option maxHeartbeats 2000000 in
theorem nd_0_0 (q:FEqM)(a m d:Option Addr×Nat×Nat)(v:FlatV)(f:FlatM)(B:Nat)(w:World)(hF:FlatIs w B v f)(hrow:IRow w B a.1 a.2.1 a.2.2 q.args)(hB:B≤w.heap.size)(ha:a.2.1≤1000)(hop:q.op=bs [109,101,109])(hk:plB q.k v.mems.2.1=true)(hres:∀(i:Nat) (x:MemM),f.mems[i]?=some x→x.resets.length≤1000)(hg:q.guard<0) :
    Calls Tryz.prog 118 #[flatV v,feqV q a m d] w (NeedsPost f q w):=by
  obtain⟨var,op,args,k,lit,guard⟩:=q
  obtain⟨A,n,c⟩:=a
  simp only at hrow ha hg hop hk
  have HEQ:Hid (∀(x:MemM) (hx:f.mems[k.toNat]?=some x),needsL f ⟨var,op,args,k,lit,guard⟩=args++[]++x.resets++[]):=Lib.hid (by
    intro x hx;subst hop
    unfold needsL opMem opCont
    rw [if_pos rfl,if_neg (show ¬ bs [109,101,109]=bs [99,111,110,116] by decide)];simp [hx,show ¬ 0≤guard by omega])
  have hF1:FlatIs (w.alloc (.cells (fvs v) 83)) B v f:=hF.below ((Below.refl B w).alloc hB _)
  have hW1:Below w.heap.size w ((w.alloc (.cells (fvs v) 83)).alloc (.cells (qvs ⟨var,op,args,k,lit,guard⟩ (A,n,c) m d) 127)):=((Below.refl _ _).alloc (Nat.le_refl _) _).alloc (by simp) _
  obtain⟨W1,hW⟩:∃ W1,W1=(w.alloc (.cells (fvs v) 83)).alloc (.cells (qvs ⟨var,op,args,k,lit,guard⟩ (A,n,c) m d) 127):=⟨_,rfl⟩
  have hsz:W1.heap.size=w.heap.size+2:=by rw [hW];simp
  have HK:=Lib.hid (show Blk W1 w.heap.size 83 (fvs v) from by rw [hW];exact(Blk.new _ _ _).alloc _)
  have HKQ:=Lib.hid (show Blk W1 (w.heap.size+1) 127 (qvs ⟨var,op,args,k,lit,guard⟩ (A,n,c) m d) from by rw [hW];have:=Blk.new (w.alloc (.cells (fvs v) 83)) 127 (qvs ⟨var,op,args,k,lit,guard⟩ (A,n,c) m d);rw [size_alloc] at this;exact this)
  rw [←hW] at hW1
  have HW1:=Lib.hid hW1
  have HF:=Lib.hid (hF.below (hW1.mono hB))
  have HR:=Lib.hid (hrow.below (hW1.mono hB))
  have HBB:=Lib.hid hB
  have HSZ:=Lib.hid hsz
  have HB:=Lib.hid (show Below (w.heap.size+2) W1 (W1.alloc (.cells #[] 3)) from(Below.refl _ _).alloc (by omega) _)
  have HO:=Lib.hid (show Own (W1.alloc (.cells #[] 3)) (w.heap.size+2) (.slice (some ⟨W1.heap.size,0,none⟩) 0 0) [] from Own.fresh W1 _ (by omega))
  have HZ:=Lib.hid (show w.heap.size+2≤(W1.alloc (.cells #[] 3)).heap.size from by rw [size_alloc];omega)
  have HLA:=Lib.hid (hrow.1:args.length=n)
  unfold fvs qvs at hW
  dsimp only at hW
  clear hF hF1 hrow hB hW1 hsz
  obtain⟨p0,p1⟩:=plB_yes hk
  obtain⟨j,rfl⟩:∃ j:Nat,k=(j:Int):=⟨k.toNat,by omega⟩
  have hj:j<v.mems.2.1:=by omega
  obtain⟨x,hx⟩:=HF.out.mems.ex hj
  obtain⟨b,off,hab,hlb,hat⟩:=HF.out.mems.at_ hx
  obtain⟨A3,L3,C3,p3,q3⟩:=hat.resets
  have hlen3:L3≤1000:=by rw [←q3.1];exact hres _ x hx
  have hbw:b<w.heap.size+2:=Nat.lt_of_lt_of_le hlb (Nat.le_trans HBB.out (by omega))
  have HP3:=Lib.hid p3
  have HQ3:=Lib.hid q3
  have HNE:=Lib.hid (HEQ.out x (by simpa using hx))
  have HAB:=Lib.hid hab
  clear hx hab hat p3 q3 hres hk HEQ
  subst hop
  unfold bs at hW HNE HKQ ⊢
  unfold feqV flatV sl3
  go_enter Tryz.func118,Tryz.ntmps118
  go_upto_region 1 with fail
  rw [←hW]
  clear hW
  obtain⟨f0,f1,f2,f3,f4,f5,f6,f7⟩:=(HK.out.below HB.out (Nat.lt_succ_of_lt (Nat.lt_succ_self _))).flat
  obtain⟨e0,e1,e2,e3,e4,e5,e6,e7,e8,e9⟩:=(HKQ.out.below HB.out (Nat.lt_succ_self _)).eq
  have p3:=(HB.out.cell (p:=⟨b,off+j*8+7,none⟩) hbw).trans HP3.out
  rw [HAB.out] at f4
  go_wp2_with (first | (at_builtin;refine appendR rfl _ _ 77 Tryz.underlying77 rfl (w.heap.size+2) B _ [] A n c args rfl rfl HO.out (HR.out.below (HB.out.mono (Nat.le_trans HBB.out (by omega)))) HZ.out (by simp) (by omega) ?_;intro v1 w1 hown honly hat;replace HB:=Lib.hid (HB.out.trans (honly.own HO.out HZ.out));replace HO:=Lib.hid hown;replace HZ:=Lib.hid (Nat.le_trans HZ.out honly.size);clear hown honly hat;obtain⟨f0,f1,f2,f3,f4,f5,f6,f7⟩:=(HK.out.below HB.out (Nat.lt_succ_of_lt (Nat.lt_succ_self _))).flat;obtain⟨e0,e1,e2,e3,e4,e5,e6,e7,e8,e9⟩:=(HKQ.out.below HB.out (Nat.lt_succ_self _)).eq;have p3:=(HB.out.cell (p:=⟨b,off+j*8+7,none⟩) hbw).trans HP3.out;rw [HAB.out] at f4) | (at_builtin;refine appendR rfl _ _ 77 Tryz.underlying77 rfl (w.heap.size+2) B v1 (([]++args)) A3 L3 C3 x.resets rfl rfl HO.out (HQ3.out.below (HB.out.mono (Nat.le_trans HBB.out (by omega)))) HZ.out (by simp [HLA.out];omega) (by omega) ?_;intro v1 w1 hown honly hat;replace HB:=Lib.hid (HB.out.trans (honly.own HO.out HZ.out));replace HO:=Lib.hid hown;replace HZ:=Lib.hid (Nat.le_trans HZ.out honly.size);clear hown honly hat;obtain⟨f0,f1,f2,f3,f4,f5,f6,f7⟩:=(HK.out.below HB.out (Nat.lt_succ_of_lt (Nat.lt_succ_self _))).flat;obtain⟨e0,e1,e2,e3,e4,e5,e6,e7,e8,e9⟩:=(HKQ.out.below HB.out (Nat.lt_succ_self _)).eq;have p3:=(HB.out.cell (p:=⟨b,off+j*8+7,none⟩) hbw).trans HP3.out;rw [HAB.out] at f4))
  go_ret
  exact nd_done HW1.out HSZ.out HB.out HO.out (by rw [HNE.out];simp)
set_option maxHeartbeats 2000000 in
theorem nd_0_1 (q:FEqM)(a m d:Option Addr×Nat×Nat)(v:FlatV)(f:FlatM)(B:Nat)(w:World)(hF:FlatIs w B v f)(hrow:IRow w B a.1 a.2.1 a.2.2 q.args)(hB:B≤w.heap.size)(ha:a.2.1≤1000)(hop:q.op=bs [109,101,109])(hk:plB q.k v.mems.2.1=true)(hres:∀(i:Nat) (x:MemM),f.mems[i]?=some x→x.resets.length≤1000)(hg:0≤q.guard) :
    Calls Tryz.prog 118 #[flatV v,feqV q a m d] w (NeedsPost f q w):=by
  obtain⟨var,op,args,k,lit,guard⟩:=q
  obtain⟨A,n,c⟩:=a
  simp only at hrow ha hg hop hk
  have HEQ:Hid (∀(x:MemM) (hx:f.mems[k.toNat]?=some x),needsL f ⟨var,op,args,k,lit,guard⟩=args++[guard]++x.resets++[]):=Lib.hid (by
    intro x hx;subst hop
    unfold needsL opMem opCont
    rw [if_pos rfl,if_neg (show ¬ bs [109,101,109]=bs [99,111,110,116] by decide)];simp [hx,hg])
  have hF1:FlatIs (w.alloc (.cells (fvs v) 83)) B v f:=hF.below ((Below.refl B w).alloc hB _)
  have hW1:Below w.heap.size w ((w.alloc (.cells (fvs v) 83)).alloc (.cells (qvs ⟨var,op,args,k,lit,guard⟩ (A,n,c) m d) 127)):=((Below.refl _ _).alloc (Nat.le_refl _) _).alloc (by simp) _
  obtain⟨W1,hW⟩:∃ W1,W1=(w.alloc (.cells (fvs v) 83)).alloc (.cells (qvs ⟨var,op,args,k,lit,guard⟩ (A,n,c) m d) 127):=⟨_,rfl⟩
  have hsz:W1.heap.size=w.heap.size+2:=by rw [hW];simp
  have HK:=Lib.hid (show Blk W1 w.heap.size 83 (fvs v) from by rw [hW];exact(Blk.new _ _ _).alloc _)
  have HKQ:=Lib.hid (show Blk W1 (w.heap.size+1) 127 (qvs ⟨var,op,args,k,lit,guard⟩ (A,n,c) m d) from by rw [hW];have:=Blk.new (w.alloc (.cells (fvs v) 83)) 127 (qvs ⟨var,op,args,k,lit,guard⟩ (A,n,c) m d);rw [size_alloc] at this;exact this)
  rw [←hW] at hW1
  have HW1:=Lib.hid hW1
  have HF:=Lib.hid (hF.below (hW1.mono hB))
  have HR:=Lib.hid (hrow.below (hW1.mono hB))
  have HBB:=Lib.hid hB
  have HSZ:=Lib.hid hsz
  have HB:=Lib.hid (show Below (w.heap.size+2) W1 (W1.alloc (.cells #[] 3)) from(Below.refl _ _).alloc (by omega) _)
  have HO:=Lib.hid (show Own (W1.alloc (.cells #[] 3)) (w.heap.size+2) (.slice (some ⟨W1.heap.size,0,none⟩) 0 0) [] from Own.fresh W1 _ (by omega))
  have HZ:=Lib.hid (show w.heap.size+2≤(W1.alloc (.cells #[] 3)).heap.size from by rw [size_alloc];omega)
  have HLA:=Lib.hid (hrow.1:args.length=n)
  unfold fvs qvs at hW
  dsimp only at hW
  clear hF hF1 hrow hB hW1 hsz
  obtain⟨p0,p1⟩:=plB_yes hk
  obtain⟨j,rfl⟩:∃ j:Nat,k=(j:Int):=⟨k.toNat,by omega⟩
  have hj:j<v.mems.2.1:=by omega
  obtain⟨x,hx⟩:=HF.out.mems.ex hj
  obtain⟨b,off,hab,hlb,hat⟩:=HF.out.mems.at_ hx
  obtain⟨A3,L3,C3,p3,q3⟩:=hat.resets
  have hlen3:L3≤1000:=by rw [←q3.1];exact hres _ x hx
  have hbw:b<w.heap.size+2:=Nat.lt_of_lt_of_le hlb (Nat.le_trans HBB.out (by omega))
  have HP3:=Lib.hid p3
  have HQ3:=Lib.hid q3
  have HNE:=Lib.hid (HEQ.out x (by simpa using hx))
  have HAB:=Lib.hid hab
  clear hx hab hat p3 q3 hres hk HEQ
  subst hop
  unfold bs at hW HNE HKQ ⊢
  unfold feqV flatV sl3
  go_enter Tryz.func118,Tryz.ntmps118
  go_upto_region 1 with fail
  rw [←hW]
  clear hW
  obtain⟨f0,f1,f2,f3,f4,f5,f6,f7⟩:=(HK.out.below HB.out (Nat.lt_succ_of_lt (Nat.lt_succ_self _))).flat
  obtain⟨e0,e1,e2,e3,e4,e5,e6,e7,e8,e9⟩:=(HKQ.out.below HB.out (Nat.lt_succ_self _)).eq
  have p3:=(HB.out.cell (p:=⟨b,off+j*8+7,none⟩) hbw).trans HP3.out
  rw [HAB.out] at f4
  go_wp2_with (first | (at_builtin;refine appendR rfl _ _ 77 Tryz.underlying77 rfl (w.heap.size+2) B _ [] A n c args rfl rfl HO.out (HR.out.below (HB.out.mono (Nat.le_trans HBB.out (by omega)))) HZ.out (by simp) (by omega) ?_;intro v1 w1 hown honly hat;replace HB:=Lib.hid (HB.out.trans (honly.own HO.out HZ.out));replace HO:=Lib.hid hown;replace HZ:=Lib.hid (Nat.le_trans HZ.out honly.size);clear hown honly hat;obtain⟨f0,f1,f2,f3,f4,f5,f6,f7⟩:=(HK.out.below HB.out (Nat.lt_succ_of_lt (Nat.lt_succ_self _))).flat;obtain⟨e0,e1,e2,e3,e4,e5,e6,e7,e8,e9⟩:=(HKQ.out.below HB.out (Nat.lt_succ_self _)).eq;have p3:=(HB.out.cell (p:=⟨b,off+j*8+7,none⟩) hbw).trans HP3.out;rw [HAB.out] at f4) | (at_builtin;refine appendI rfl _ _ 77 Tryz.underlying77 rfl (w.heap.size+2) v1 ([]++args) guard _ rfl rfl HO.out HZ.out (by simp [HLA.out];omega) ?_;intro v1 w1 hown honly hat;replace HB:=Lib.hid (HB.out.trans (honly.own HO.out HZ.out));replace HO:=Lib.hid hown;replace HZ:=Lib.hid (Nat.le_trans HZ.out honly.size);clear hown honly hat;obtain⟨f0,f1,f2,f3,f4,f5,f6,f7⟩:=(HK.out.below HB.out (Nat.lt_succ_of_lt (Nat.lt_succ_self _))).flat;obtain⟨e0,e1,e2,e3,e4,e5,e6,e7,e8,e9⟩:=(HKQ.out.below HB.out (Nat.lt_succ_self _)).eq;have p3:=(HB.out.cell (p:=⟨b,off+j*8+7,none⟩) hbw).trans HP3.out;rw [HAB.out] at f4) | (at_builtin;refine appendR rfl _ _ 77 Tryz.underlying77 rfl (w.heap.size+2) B v1 (([]++args)++[guard]) A3 L3 C3 x.resets rfl rfl HO.out (HQ3.out.below (HB.out.mono (Nat.le_trans HBB.out (by omega)))) HZ.out (by simp [HLA.out];omega) (by omega) ?_;intro v1 w1 hown honly hat;replace HB:=Lib.hid (HB.out.trans (honly.own HO.out HZ.out));replace HO:=Lib.hid hown;replace HZ:=Lib.hid (Nat.le_trans HZ.out honly.size);clear hown honly hat;obtain⟨f0,f1,f2,f3,f4,f5,f6,f7⟩:=(HK.out.below HB.out (Nat.lt_succ_of_lt (Nat.lt_succ_self _))).flat;obtain⟨e0,e1,e2,e3,e4,e5,e6,e7,e8,e9⟩:=(HKQ.out.below HB.out (Nat.lt_succ_self _)).eq;have p3:=(HB.out.cell (p:=⟨b,off+j*8+7,none⟩) hbw).trans HP3.out;rw [HAB.out] at f4))
  go_ret
  exact nd_done HW1.out HSZ.out HB.out HO.out (by rw [HNE.out];simp)
set_option maxHeartbeats 2000000 in
theorem nd_1_0 (q:FEqM)(a m d:Option Addr×Nat×Nat)(v:FlatV)(f:FlatM)(B:Nat)(w:World)(hF:FlatIs w B v f)(hrow:IRow w B a.1 a.2.1 a.2.2 q.args)(hB:B≤w.heap.size)(ha:a.2.1≤1000)(hop:q.op=bs [99,111,110,116])(hk:plB q.k v.conts.2.1=true)(hres:∀(i:Nat) (x:ContM),f.conts[i]?=some x→x.resets.length≤1000)(hg:q.guard<0) :
    Calls Tryz.prog 118 #[flatV v,feqV q a m d] w (NeedsPost f q w):=by
  obtain⟨var,op,args,k,lit,guard⟩:=q
  obtain⟨A,n,c⟩:=a
  simp only at hrow ha hg hop hk
  have HEQ:Hid (∀(x:ContM) (hx:f.conts[k.toNat]?=some x),needsL f ⟨var,op,args,k,lit,guard⟩=args++[]++[]++x.resets):=Lib.hid (by
    intro x hx;subst hop
    unfold needsL opMem opCont
    rw [if_neg (show ¬ bs [99,111,110,116]=bs [109,101,109] by decide),if_pos rfl];simp [hx,show ¬ 0≤guard by omega])
  have hF1:FlatIs (w.alloc (.cells (fvs v) 83)) B v f:=hF.below ((Below.refl B w).alloc hB _)
  have hW1:Below w.heap.size w ((w.alloc (.cells (fvs v) 83)).alloc (.cells (qvs ⟨var,op,args,k,lit,guard⟩ (A,n,c) m d) 127)):=((Below.refl _ _).alloc (Nat.le_refl _) _).alloc (by simp) _
  obtain⟨W1,hW⟩:∃ W1,W1=(w.alloc (.cells (fvs v) 83)).alloc (.cells (qvs ⟨var,op,args,k,lit,guard⟩ (A,n,c) m d) 127):=⟨_,rfl⟩
  have hsz:W1.heap.size=w.heap.size+2:=by rw [hW];simp
  have HK:=Lib.hid (show Blk W1 w.heap.size 83 (fvs v) from by rw [hW];exact(Blk.new _ _ _).alloc _)
  have HKQ:=Lib.hid (show Blk W1 (w.heap.size+1) 127 (qvs ⟨var,op,args,k,lit,guard⟩ (A,n,c) m d) from by rw [hW];have:=Blk.new (w.alloc (.cells (fvs v) 83)) 127 (qvs ⟨var,op,args,k,lit,guard⟩ (A,n,c) m d);rw [size_alloc] at this;exact this)
  rw [←hW] at hW1
  have HW1:=Lib.hid hW1
  have HF:=Lib.hid (hF.below (hW1.mono hB))
  have HR:=Lib.hid (hrow.below (hW1.mono hB))
  have HBB:=Lib.hid hB
  have HSZ:=Lib.hid hsz
  have HB:=Lib.hid (show Below (w.heap.size+2) W1 (W1.alloc (.cells #[] 3)) from(Below.refl _ _).alloc (by omega) _)
  have HO:=Lib.hid (show Own (W1.alloc (.cells #[] 3)) (w.heap.size+2) (.slice (some ⟨W1.heap.size,0,none⟩) 0 0) [] from Own.fresh W1 _ (by omega))
  have HZ:=Lib.hid (show w.heap.size+2≤(W1.alloc (.cells #[] 3)).heap.size from by rw [size_alloc];omega)
  have HLA:=Lib.hid (hrow.1:args.length=n)
  unfold fvs qvs at hW
  dsimp only at hW
  clear hF hF1 hrow hB hW1 hsz
  obtain⟨p0,p1⟩:=plB_yes hk
  obtain⟨j,rfl⟩:∃ j:Nat,k=(j:Int):=⟨k.toNat,by omega⟩
  have hj:j<v.conts.2.1:=by omega
  obtain⟨x,hx⟩:=HF.out.conts.ex hj
  obtain⟨b,off,hab,hlb,hat⟩:=HF.out.conts.at_ hx
  obtain⟨A3,L3,C3,p3,q3⟩:=hat.resets
  have hlen3:L3≤1000:=by rw [←q3.1];exact hres _ x hx
  have hbw:b<w.heap.size+2:=Nat.lt_of_lt_of_le hlb (Nat.le_trans HBB.out (by omega))
  have HP3:=Lib.hid p3
  have HQ3:=Lib.hid q3
  have HNE:=Lib.hid (HEQ.out x (by simpa using hx))
  have HAB:=Lib.hid hab
  clear hx hab hat p3 q3 hres hk HEQ
  subst hop
  unfold bs at hW HNE HKQ ⊢
  unfold feqV flatV sl3
  go_enter Tryz.func118,Tryz.ntmps118
  go_upto_region 1 with fail
  rw [←hW]
  clear hW
  obtain⟨f0,f1,f2,f3,f4,f5,f6,f7⟩:=(HK.out.below HB.out (Nat.lt_succ_of_lt (Nat.lt_succ_self _))).flat
  obtain⟨e0,e1,e2,e3,e4,e5,e6,e7,e8,e9⟩:=(HKQ.out.below HB.out (Nat.lt_succ_self _)).eq
  have p3:=(HB.out.cell (p:=⟨b,off+j*9+7,none⟩) hbw).trans HP3.out
  rw [HAB.out] at f5
  go_wp2_with (first | (at_builtin;refine appendR rfl _ _ 77 Tryz.underlying77 rfl (w.heap.size+2) B _ [] A n c args rfl rfl HO.out (HR.out.below (HB.out.mono (Nat.le_trans HBB.out (by omega)))) HZ.out (by simp) (by omega) ?_;intro v1 w1 hown honly hat;replace HB:=Lib.hid (HB.out.trans (honly.own HO.out HZ.out));replace HO:=Lib.hid hown;replace HZ:=Lib.hid (Nat.le_trans HZ.out honly.size);clear hown honly hat;obtain⟨f0,f1,f2,f3,f4,f5,f6,f7⟩:=(HK.out.below HB.out (Nat.lt_succ_of_lt (Nat.lt_succ_self _))).flat;obtain⟨e0,e1,e2,e3,e4,e5,e6,e7,e8,e9⟩:=(HKQ.out.below HB.out (Nat.lt_succ_self _)).eq;have p3:=(HB.out.cell (p:=⟨b,off+j*9+7,none⟩) hbw).trans HP3.out;rw [HAB.out] at f5) | (at_builtin;refine appendR rfl _ _ 77 Tryz.underlying77 rfl (w.heap.size+2) B v1 (([]++args)) A3 L3 C3 x.resets rfl rfl HO.out (HQ3.out.below (HB.out.mono (Nat.le_trans HBB.out (by omega)))) HZ.out (by simp [HLA.out];omega) (by omega) ?_;intro v1 w1 hown honly hat;replace HB:=Lib.hid (HB.out.trans (honly.own HO.out HZ.out));replace HO:=Lib.hid hown;replace HZ:=Lib.hid (Nat.le_trans HZ.out honly.size);clear hown honly hat;obtain⟨f0,f1,f2,f3,f4,f5,f6,f7⟩:=(HK.out.below HB.out (Nat.lt_succ_of_lt (Nat.lt_succ_self _))).flat;obtain⟨e0,e1,e2,e3,e4,e5,e6,e7,e8,e9⟩:=(HKQ.out.below HB.out (Nat.lt_succ_self _)).eq;have p3:=(HB.out.cell (p:=⟨b,off+j*9+7,none⟩) hbw).trans HP3.out;rw [HAB.out] at f5))
  go_ret
  exact nd_done HW1.out HSZ.out HB.out HO.out (by rw [HNE.out];simp)
set_option maxHeartbeats 2000000 in
theorem nd_1_1 (q:FEqM)(a m d:Option Addr×Nat×Nat)(v:FlatV)(f:FlatM)(B:Nat)(w:World)(hF:FlatIs w B v f)(hrow:IRow w B a.1 a.2.1 a.2.2 q.args)(hB:B≤w.heap.size)(ha:a.2.1≤1000)(hop:q.op=bs [99,111,110,116])(hk:plB q.k v.conts.2.1=true)(hres:∀(i:Nat) (x:ContM),f.conts[i]?=some x→x.resets.length≤1000)(hg:0≤q.guard) :
    Calls Tryz.prog 118 #[flatV v,feqV q a m d] w (NeedsPost f q w):=by
  obtain⟨var,op,args,k,lit,guard⟩:=q
  obtain⟨A,n,c⟩:=a
  simp only at hrow ha hg hop hk
  have HEQ:Hid (∀(x:ContM) (hx:f.conts[k.toNat]?=some x),needsL f ⟨var,op,args,k,lit,guard⟩=args++[guard]++[]++x.resets):=Lib.hid (by
    intro x hx;subst hop
    unfold needsL opMem opCont
    rw [if_neg (show ¬ bs [99,111,110,116]=bs [109,101,109] by decide),if_pos rfl];simp [hx,hg])
  have hF1:FlatIs (w.alloc (.cells (fvs v) 83)) B v f:=hF.below ((Below.refl B w).alloc hB _)
  have hW1:Below w.heap.size w ((w.alloc (.cells (fvs v) 83)).alloc (.cells (qvs ⟨var,op,args,k,lit,guard⟩ (A,n,c) m d) 127)):=((Below.refl _ _).alloc (Nat.le_refl _) _).alloc (by simp) _
  obtain⟨W1,hW⟩:∃ W1,W1=(w.alloc (.cells (fvs v) 83)).alloc (.cells (qvs ⟨var,op,args,k,lit,guard⟩ (A,n,c) m d) 127):=⟨_,rfl⟩
  have hsz:W1.heap.size=w.heap.size+2:=by rw [hW];simp
  have HK:=Lib.hid (show Blk W1 w.heap.size 83 (fvs v) from by rw [hW];exact(Blk.new _ _ _).alloc _)
  have HKQ:=Lib.hid (show Blk W1 (w.heap.size+1) 127 (qvs ⟨var,op,args,k,lit,guard⟩ (A,n,c) m d) from by rw [hW];have:=Blk.new (w.alloc (.cells (fvs v) 83)) 127 (qvs ⟨var,op,args,k,lit,guard⟩ (A,n,c) m d);rw [size_alloc] at this;exact this)
  rw [←hW] at hW1
  have HW1:=Lib.hid hW1
  have HF:=Lib.hid (hF.below (hW1.mono hB))
  have HR:=Lib.hid (hrow.below (hW1.mono hB))
  have HBB:=Lib.hid hB
  have HSZ:=Lib.hid hsz
  have HB:=Lib.hid (show Below (w.heap.size+2) W1 (W1.alloc (.cells #[] 3)) from(Below.refl _ _).alloc (by omega) _)
  have HO:=Lib.hid (show Own (W1.alloc (.cells #[] 3)) (w.heap.size+2) (.slice (some ⟨W1.heap.size,0,none⟩) 0 0) [] from Own.fresh W1 _ (by omega))
  have HZ:=Lib.hid (show w.heap.size+2≤(W1.alloc (.cells #[] 3)).heap.size from by rw [size_alloc];omega)
  have HLA:=Lib.hid (hrow.1:args.length=n)
  unfold fvs qvs at hW
  dsimp only at hW
  clear hF hF1 hrow hB hW1 hsz
  obtain⟨p0,p1⟩:=plB_yes hk
  obtain⟨j,rfl⟩:∃ j:Nat,k=(j:Int):=⟨k.toNat,by omega⟩
  have hj:j<v.conts.2.1:=by omega
  obtain⟨x,hx⟩:=HF.out.conts.ex hj
  obtain⟨b,off,hab,hlb,hat⟩:=HF.out.conts.at_ hx
  obtain⟨A3,L3,C3,p3,q3⟩:=hat.resets
  have hlen3:L3≤1000:=by rw [←q3.1];exact hres _ x hx
  have hbw:b<w.heap.size+2:=Nat.lt_of_lt_of_le hlb (Nat.le_trans HBB.out (by omega))
  have HP3:=Lib.hid p3
  have HQ3:=Lib.hid q3
  have HNE:=Lib.hid (HEQ.out x (by simpa using hx))
  have HAB:=Lib.hid hab
  clear hx hab hat p3 q3 hres hk HEQ
  subst hop
  unfold bs at hW HNE HKQ ⊢
  unfold feqV flatV sl3
  go_enter Tryz.func118,Tryz.ntmps118
  go_upto_region 1 with fail
  rw [←hW]
  clear hW
  obtain⟨f0,f1,f2,f3,f4,f5,f6,f7⟩:=(HK.out.below HB.out (Nat.lt_succ_of_lt (Nat.lt_succ_self _))).flat
  obtain⟨e0,e1,e2,e3,e4,e5,e6,e7,e8,e9⟩:=(HKQ.out.below HB.out (Nat.lt_succ_self _)).eq
  have p3:=(HB.out.cell (p:=⟨b,off+j*9+7,none⟩) hbw).trans HP3.out
  rw [HAB.out] at f5
  go_wp2_with (first | (at_builtin;refine appendR rfl _ _ 77 Tryz.underlying77 rfl (w.heap.size+2) B _ [] A n c args rfl rfl HO.out (HR.out.below (HB.out.mono (Nat.le_trans HBB.out (by omega)))) HZ.out (by simp) (by omega) ?_;intro v1 w1 hown honly hat;replace HB:=Lib.hid (HB.out.trans (honly.own HO.out HZ.out));replace HO:=Lib.hid hown;replace HZ:=Lib.hid (Nat.le_trans HZ.out honly.size);clear hown honly hat;obtain⟨f0,f1,f2,f3,f4,f5,f6,f7⟩:=(HK.out.below HB.out (Nat.lt_succ_of_lt (Nat.lt_succ_self _))).flat;obtain⟨e0,e1,e2,e3,e4,e5,e6,e7,e8,e9⟩:=(HKQ.out.below HB.out (Nat.lt_succ_self _)).eq;have p3:=(HB.out.cell (p:=⟨b,off+j*9+7,none⟩) hbw).trans HP3.out;rw [HAB.out] at f5) | (at_builtin;refine appendI rfl _ _ 77 Tryz.underlying77 rfl (w.heap.size+2) v1 ([]++args) guard _ rfl rfl HO.out HZ.out (by simp [HLA.out];omega) ?_;intro v1 w1 hown honly hat;replace HB:=Lib.hid (HB.out.trans (honly.own HO.out HZ.out));replace HO:=Lib.hid hown;replace HZ:=Lib.hid (Nat.le_trans HZ.out honly.size);clear hown honly hat;obtain⟨f0,f1,f2,f3,f4,f5,f6,f7⟩:=(HK.out.below HB.out (Nat.lt_succ_of_lt (Nat.lt_succ_self _))).flat;obtain⟨e0,e1,e2,e3,e4,e5,e6,e7,e8,e9⟩:=(HKQ.out.below HB.out (Nat.lt_succ_self _)).eq;have p3:=(HB.out.cell (p:=⟨b,off+j*9+7,none⟩) hbw).trans HP3.out;rw [HAB.out] at f5) | (at_builtin;refine appendR rfl _ _ 77 Tryz.underlying77 rfl (w.heap.size+2) B v1 (([]++args)++[guard]) A3 L3 C3 x.resets rfl rfl HO.out (HQ3.out.below (HB.out.mono (Nat.le_trans HBB.out (by omega)))) HZ.out (by simp [HLA.out];omega) (by omega) ?_;intro v1 w1 hown honly hat;replace HB:=Lib.hid (HB.out.trans (honly.own HO.out HZ.out));replace HO:=Lib.hid hown;replace HZ:=Lib.hid (Nat.le_trans HZ.out honly.size);clear hown honly hat;obtain⟨f0,f1,f2,f3,f4,f5,f6,f7⟩:=(HK.out.below HB.out (Nat.lt_succ_of_lt (Nat.lt_succ_self _))).flat;obtain⟨e0,e1,e2,e3,e4,e5,e6,e7,e8,e9⟩:=(HKQ.out.below HB.out (Nat.lt_succ_self _)).eq;have p3:=(HB.out.cell (p:=⟨b,off+j*9+7,none⟩) hbw).trans HP3.out;rw [HAB.out] at f5))
  go_ret
  exact nd_done HW1.out HSZ.out HB.out HO.out (by rw [HNE.out];simp)
set_option maxHeartbeats 2000000 in
theorem nd_2_0 (q:FEqM)(a m d:Option Addr×Nat×Nat)(v:FlatV)(f:FlatM)(B:Nat)(w:World)(hF:FlatIs w B v f)(hrow:IRow w B a.1 a.2.1 a.2.2 q.args)(hB:B≤w.heap.size)(ha:a.2.1≤1000)(h0:¬ q.op=bs [109,101,109])(h1:¬ q.op=bs [99,111,110,116])(hg:q.guard<0) :
    Calls Tryz.prog 118 #[flatV v,feqV q a m d] w (NeedsPost f q w):=by
  obtain⟨var,op,args,k,lit,guard⟩:=q
  obtain⟨A,n,c⟩:=a
  simp only at hrow ha hg h0 h1
  have HEQ:Hid (needsL f ⟨var,op,args,k,lit,guard⟩=args++[]++[]++[]):=Lib.hid (by
    unfold needsL opMem opCont
    rw [if_neg h0,if_neg h1];simp [show ¬ 0≤guard by omega])
  have hF1:FlatIs (w.alloc (.cells (fvs v) 83)) B v f:=hF.below ((Below.refl B w).alloc hB _)
  have hW1:Below w.heap.size w ((w.alloc (.cells (fvs v) 83)).alloc (.cells (qvs ⟨var,op,args,k,lit,guard⟩ (A,n,c) m d) 127)):=((Below.refl _ _).alloc (Nat.le_refl _) _).alloc (by simp) _
  obtain⟨W1,hW⟩:∃ W1,W1=(w.alloc (.cells (fvs v) 83)).alloc (.cells (qvs ⟨var,op,args,k,lit,guard⟩ (A,n,c) m d) 127):=⟨_,rfl⟩
  have hsz:W1.heap.size=w.heap.size+2:=by rw [hW];simp
  have HK:=Lib.hid (show Blk W1 w.heap.size 83 (fvs v) from by rw [hW];exact(Blk.new _ _ _).alloc _)
  have HKQ:=Lib.hid (show Blk W1 (w.heap.size+1) 127 (qvs ⟨var,op,args,k,lit,guard⟩ (A,n,c) m d) from by rw [hW];have:=Blk.new (w.alloc (.cells (fvs v) 83)) 127 (qvs ⟨var,op,args,k,lit,guard⟩ (A,n,c) m d);rw [size_alloc] at this;exact this)
  rw [←hW] at hW1
  have HW1:=Lib.hid hW1
  have HF:=Lib.hid (hF.below (hW1.mono hB))
  have HR:=Lib.hid (hrow.below (hW1.mono hB))
  have HBB:=Lib.hid hB
  have HSZ:=Lib.hid hsz
  have HB:=Lib.hid (show Below (w.heap.size+2) W1 (W1.alloc (.cells #[] 3)) from(Below.refl _ _).alloc (by omega) _)
  have HO:=Lib.hid (show Own (W1.alloc (.cells #[] 3)) (w.heap.size+2) (.slice (some ⟨W1.heap.size,0,none⟩) 0 0) [] from Own.fresh W1 _ (by omega))
  have HZ:=Lib.hid (show w.heap.size+2≤(W1.alloc (.cells #[] 3)).heap.size from by rw [size_alloc];omega)
  have HLA:=Lib.hid (hrow.1:args.length=n)
  unfold fvs qvs at hW
  dsimp only at hW
  clear hF hF1 hrow hB hW1 hsz
  have HNE:=Lib.hid HEQ.out
  clear HEQ
  have g0:=str_no h0;have g1:=str_no h1;clear h0 h1
  unfold feqV flatV sl3
  go_enter Tryz.func118,Tryz.ntmps118
  go_upto_region 1 with fail
  rw [←hW]
  clear hW
  obtain⟨f0,f1,f2,f3,f4,f5,f6,f7⟩:=(HK.out.below HB.out (Nat.lt_succ_of_lt (Nat.lt_succ_self _))).flat
  obtain⟨e0,e1,e2,e3,e4,e5,e6,e7,e8,e9⟩:=(HKQ.out.below HB.out (Nat.lt_succ_self _)).eq
  go_wp2_with (first | (at_builtin;refine appendR rfl _ _ 77 Tryz.underlying77 rfl (w.heap.size+2) B _ [] A n c args rfl rfl HO.out (HR.out.below (HB.out.mono (Nat.le_trans HBB.out (by omega)))) HZ.out (by simp) (by omega) ?_;intro v1 w1 hown honly hat;replace HB:=Lib.hid (HB.out.trans (honly.own HO.out HZ.out));replace HO:=Lib.hid hown;replace HZ:=Lib.hid (Nat.le_trans HZ.out honly.size);clear hown honly hat;obtain⟨f0,f1,f2,f3,f4,f5,f6,f7⟩:=(HK.out.below HB.out (Nat.lt_succ_of_lt (Nat.lt_succ_self _))).flat;obtain⟨e0,e1,e2,e3,e4,e5,e6,e7,e8,e9⟩:=(HKQ.out.below HB.out (Nat.lt_succ_self _)).eq))
  go_ret
  exact nd_done HW1.out HSZ.out HB.out HO.out (by rw [HNE.out];simp)
set_option maxHeartbeats 2000000 in
theorem nd_2_1 (q:FEqM)(a m d:Option Addr×Nat×Nat)(v:FlatV)(f:FlatM)(B:Nat)(w:World)(hF:FlatIs w B v f)(hrow:IRow w B a.1 a.2.1 a.2.2 q.args)(hB:B≤w.heap.size)(ha:a.2.1≤1000)(h0:¬ q.op=bs [109,101,109])(h1:¬ q.op=bs [99,111,110,116])(hg:0≤q.guard) :
    Calls Tryz.prog 118 #[flatV v,feqV q a m d] w (NeedsPost f q w):=by
  obtain⟨var,op,args,k,lit,guard⟩:=q
  obtain⟨A,n,c⟩:=a
  simp only at hrow ha hg h0 h1
  have HEQ:Hid (needsL f ⟨var,op,args,k,lit,guard⟩=args++[guard]++[]++[]):=Lib.hid (by
    unfold needsL opMem opCont
    rw [if_neg h0,if_neg h1];simp [hg])
  have hF1:FlatIs (w.alloc (.cells (fvs v) 83)) B v f:=hF.below ((Below.refl B w).alloc hB _)
  have hW1:Below w.heap.size w ((w.alloc (.cells (fvs v) 83)).alloc (.cells (qvs ⟨var,op,args,k,lit,guard⟩ (A,n,c) m d) 127)):=((Below.refl _ _).alloc (Nat.le_refl _) _).alloc (by simp) _
  obtain⟨W1,hW⟩:∃ W1,W1=(w.alloc (.cells (fvs v) 83)).alloc (.cells (qvs ⟨var,op,args,k,lit,guard⟩ (A,n,c) m d) 127):=⟨_,rfl⟩
  have hsz:W1.heap.size=w.heap.size+2:=by rw [hW];simp
  have HK:=Lib.hid (show Blk W1 w.heap.size 83 (fvs v) from by rw [hW];exact(Blk.new _ _ _).alloc _)
  have HKQ:=Lib.hid (show Blk W1 (w.heap.size+1) 127 (qvs ⟨var,op,args,k,lit,guard⟩ (A,n,c) m d) from by rw [hW];have:=Blk.new (w.alloc (.cells (fvs v) 83)) 127 (qvs ⟨var,op,args,k,lit,guard⟩ (A,n,c) m d);rw [size_alloc] at this;exact this)
  rw [←hW] at hW1
  have HW1:=Lib.hid hW1
  have HF:=Lib.hid (hF.below (hW1.mono hB))
  have HR:=Lib.hid (hrow.below (hW1.mono hB))
  have HBB:=Lib.hid hB
  have HSZ:=Lib.hid hsz
  have HB:=Lib.hid (show Below (w.heap.size+2) W1 (W1.alloc (.cells #[] 3)) from(Below.refl _ _).alloc (by omega) _)
  have HO:=Lib.hid (show Own (W1.alloc (.cells #[] 3)) (w.heap.size+2) (.slice (some ⟨W1.heap.size,0,none⟩) 0 0) [] from Own.fresh W1 _ (by omega))
  have HZ:=Lib.hid (show w.heap.size+2≤(W1.alloc (.cells #[] 3)).heap.size from by rw [size_alloc];omega)
  have HLA:=Lib.hid (hrow.1:args.length=n)
  unfold fvs qvs at hW
  dsimp only at hW
  clear hF hF1 hrow hB hW1 hsz
  have HNE:=Lib.hid HEQ.out
  clear HEQ
  have g0:=str_no h0;have g1:=str_no h1;clear h0 h1
  unfold feqV flatV sl3
  go_enter Tryz.func118,Tryz.ntmps118
  go_upto_region 1 with fail
  rw [←hW]
  clear hW
  obtain⟨f0,f1,f2,f3,f4,f5,f6,f7⟩:=(HK.out.below HB.out (Nat.lt_succ_of_lt (Nat.lt_succ_self _))).flat
  obtain⟨e0,e1,e2,e3,e4,e5,e6,e7,e8,e9⟩:=(HKQ.out.below HB.out (Nat.lt_succ_self _)).eq
  go_wp2_with (first | (at_builtin;refine appendR rfl _ _ 77 Tryz.underlying77 rfl (w.heap.size+2) B _ [] A n c args rfl rfl HO.out (HR.out.below (HB.out.mono (Nat.le_trans HBB.out (by omega)))) HZ.out (by simp) (by omega) ?_;intro v1 w1 hown honly hat;replace HB:=Lib.hid (HB.out.trans (honly.own HO.out HZ.out));replace HO:=Lib.hid hown;replace HZ:=Lib.hid (Nat.le_trans HZ.out honly.size);clear hown honly hat;obtain⟨f0,f1,f2,f3,f4,f5,f6,f7⟩:=(HK.out.below HB.out (Nat.lt_succ_of_lt (Nat.lt_succ_self _))).flat;obtain⟨e0,e1,e2,e3,e4,e5,e6,e7,e8,e9⟩:=(HKQ.out.below HB.out (Nat.lt_succ_self _)).eq) | (at_builtin;refine appendI rfl _ _ 77 Tryz.underlying77 rfl (w.heap.size+2) v1 ([]++args) guard _ rfl rfl HO.out HZ.out (by simp [HLA.out];omega) ?_;intro v1 w1 hown honly hat;replace HB:=Lib.hid (HB.out.trans (honly.own HO.out HZ.out));replace HO:=Lib.hid hown;replace HZ:=Lib.hid (Nat.le_trans HZ.out honly.size);clear hown honly hat;obtain⟨f0,f1,f2,f3,f4,f5,f6,f7⟩:=(HK.out.below HB.out (Nat.lt_succ_of_lt (Nat.lt_succ_self _))).flat;obtain⟨e0,e1,e2,e3,e4,e5,e6,e7,e8,e9⟩:=(HKQ.out.below HB.out (Nat.lt_succ_self _)).eq))
  go_ret
  exact nd_done HW1.out HSZ.out HB.out HO.out (by rw [HNE.out];simp)
end Go.Proofs.YtpnlbjnbgemocaaGreat
namespace Go.Proofs.YtpnlbjnbgemocaaGreat
set_option linter.unusedVariables false
set_option linter.unusedSimpArgs false
set_option maxRecDepth 100000
open Go.RowKit
theorem stepR {w:World}{ops:Array Oper}{o:Oper}{a:Act}{K:Act→World→Prop}{Q:Exit→Act→World→Prop}{E:Prop}(hgd:o.guard=none)(s x:Operand)(t:TypeId)(ht:Tryz.prog.underlying t=some (.slice 3))
    (hop:o.op=.call { callee:=.builtin .append,args:=#[s,x],argTypes:=#[t,t] })
    (B B':Nat) (v:Value) (xs:List Int) (A:Option Addr) (n c:Nat) (ys:List Int) (hs:a.eval s=v) (hx:a.eval x=.slice A n c) (hown:Own w B v xs) (hr:IRow w B' A n c ys) (hB:B≤w.heap.size) (hl:xs.length≤1000000000) (hn:n≤1000000)
    (hK:∀ v' w',Own w' B v' (xs++ys)→Only [v.ownBlock] w w'→(v'.ownBlock=v.ownBlock∨∃ k,v'.ownBlock=some k∧w.heap.size≤k)→K (a.put o.dst v') w') :
    if Region.wanted o (yielded ops a.tmps)=true then Oper.wp Tryz.prog o a w K Q else E:=by
  have hw:Region.wanted o (yielded ops a.tmps)=true:=by simp [Region.wanted,hgd]
  rw [if_pos hw]
  obtain⟨i0,hi,hz0,hz1,hz2⟩:=info_parts Tryz.info3
  cases A with
  | none=>
    have hc:c=0:=hr.2.2.2.1 rfl
    have hn0:n=0:=by have:=hr.2.1;omega
    subst hc hn0
    have hy:ys=[]:=List.length_eq_zero_iff.1 hr.1
    subst hy
    have hrun:=run_append_owned_none (P:=Tryz.prog) (w:=w) B t o.type 3 i0 1 ht hi v xs.length (xs.map (Value.int .i64)) hown
    unfold Oper.wp
    simp [execOp,hop,resolve,invoke,builtin,hs,hx,hrun,Result.andThen]
    exact hK v w (by rw [List.append_nil];exact hown) (Only.refl _ _) (.inl rfl)
  | some ad=>
    obtain⟨v',w',hr',h2,h3,h4,h5⟩:=run_append_own_at (P:=Tryz.prog) w B t o.type 3 i0 (.int .i64 0) 1 8 ht hi hz0 hz1 hz2 rfl (by decide) v xs.length (xs.map (Value.int .i64)) hown ad n c (ys.map (Value.int .i64)) (by rw [List.length_map,hr.1,Nat.mul_one]) (fun j u hu=>by
      rw [List.getElem?_map] at hu
      obtain⟨y,hy,rfl⟩:=Option.map_eq_some_iff.1 hu
      have hj:j<n:=by rw [←hr.1];exact(List.getElem?_eq_some_iff.1 hy).1
      obtain⟨b,off,e,_,hc⟩:=hr.at_ hj
      injection e with e
      subst e
      rw [Go.WideShapes.add_plain,hc]
      congr 2
      simp [List.getD,hy]) (fun u hu=>by
      rw [List.mem_map] at hu
      obtain⟨y,_,rfl⟩:=hu
      rfl) (by unfold maxLen;omega) (by omega) hB
    unfold Oper.wp execOp
    simp only [hop,resolve,invoke,builtin,Sem.run_bind,Sem.run_pure,Result.andThen_ok,List.map_toArray,List.map_cons,List.map_nil,hs,hx,hr']
    refine hK v' w' ?_ (Only.of_grown h3 (Or.inl (by simp))) ?_
    · unfold Own;simpa [hr.1] using h2
    · rcases h5 with h | h
      · exact Or.inl h
      · exact Or.inr ⟨_,h,Nat.le_refl _⟩
theorem irow2 (w:World)(x y:Int)(T:TypeId):IRow (w.alloc (.cells #[.int .i64 x,.int .i64 y] T)) (w.heap.size+1) (some ⟨w.heap.size,0,none⟩) 2 2 [x,y]:=
  ⟨rfl,Nat.le_refl _,by unfold maxLen;omega,(fun h=>by cases h),w.heap.size,0,.inl rfl,fun i hi=>⟨Nat.lt_succ_self _,by
    rw [Nat.zero_add,cell_of_row _ w.heap.size i #[.int .i64 x,.int .i64 y] T (0,0) (heap_alloc_new w _)]
    match i,hi with
    | 0,_=>rfl
    | 1,_=>rfl⟩⟩
theorem irow2h (w:World){H:Nat}(hH:w.heap.size=H)(x y:Int)(T:TypeId):IRow (w.alloc (.cells #[.int .i64 x,.int .i64 y] T)) (H+1) (some ⟨H,0,none⟩) 2 2 [x,y]:=by subst hH;exact irow2 w x y T
theorem Own.grow1 {w:World}{B:Nat}{v:Value}{xs:List Int}(h:Own w B v xs)(o:Obj):Own (w.alloc o) B v xs:=h.below ((Below.refl _ _).alloc (Nat.le_refl _) o) (Nat.le_refl _)
theorem Own.drew {w:World}{B:Nat}{v:Value}{xs:List Int}(h:Own w B v xs):Own w.drew B v xs:=h.below (Below.refl w.heap.size w).drew (Nat.le_refl _)
def memE (m:MemM):List Int:=[m.next,m.guard]++m.resets
def slopesE (l:List SlopeM):List Int:=l.flatMap fun s=>[s.guard,s.var]
def contE (c:ContM):List Int:=[c.var,c.guard]++c.resets++slopesE c.slopes
def copE (o:COpM):List Int:=if o.op=copVar∨o.op=copSel then [o.args.getD 0 0] else []
def copsE (l:List COpM):List Int:=l.flatMap copE
def crossE (c:CrossM):List Int:=[c.guard]++copsE c.ops
def outsE (f:FlatM):List Int:=f.outs++f.again
def memsE (f:FlatM)(k:Nat):List Int:=(f.mems.take k).flatMap memE
def contsE (f:FlatM)(k:Nat):List Int:=(f.conts.take k).flatMap contE
def crosE (f:FlatM)(k:Nat):List Int:=(f.cross.take k).flatMap crossE
def endL (f:FlatM):List Int:=outsE f++memsE f f.mems.length++contsE f f.conts.length++crosE f f.cross.length
theorem flat_succ {α:Type}{g:α→List Int}{l:List α}{k:Nat}{x:α}(hx:l[k]?=some x):(l.take (k+1)).flatMap g=(l.take k).flatMap g++g x:=by
  rw [List.take_add_one,hx];simp
theorem flat_len {α:Type}{g:α→List Int}(M:Nat):∀(l:List α),(∀(i:Nat) (x:α),l[i]?=some x→(g x).length≤M)→(l.flatMap g).length≤l.length*M
  | [],_=>by simp
  | x::l,h=>by
    have h1:=h 0 x rfl
    have h2:=flat_len M l (fun i y hy=>h (i+1) y (by simpa using hy))
    simp only [List.flatMap_cons,List.length_append,List.length_cons]
    rw [Nat.add_mul];omega
theorem flat_len_take {α:Type}{g:α→List Int}(M k:Nat)(l:List α)(h:∀(i:Nat) (x:α),l[i]?=some x→(g x).length≤M):((l.take k).flatMap g).length≤l.length*M:=by
  have:=flat_len (g:=g) M (l.take k) (fun i x hx=>h i x (by
    rw [List.getElem?_take] at hx
    split at hx
    · exact hx
    · cases hx))
  exact Nat.le_trans this (Nat.mul_le_mul_right _ (by simp;omega))
end Go.Proofs.YtpnlbjnbgemocaaGreat
namespace Go.Proofs.YtpnlbjnbgemocaaGreat
set_option linter.unusedVariables false
set_option linter.unusedSimpArgs false
namespace Gr
def Rdy (G:List (List Int))(a:List Nat)(x:Nat):Prop:=x<G.length∧x ∉ a∧∀ k,E G x k→k∈a
def IsLst (G:List (List Int))(out:List Nat):Prop:=∀(a b:List Nat) (x:Nat),out=a++x::b→Rdy G a x∧∀ y,Rdy G a y→x≤y
theorem IsLst.nil (G:List (List Int)):IsLst G []:=fun a b x h=>by simp at h
theorem IsLst.snoc {G:List (List Int)}{out:List Nat}(h:IsLst G out){x:Nat}(hx:Rdy G out x)(hm:∀ y,Rdy G out y→x≤y):IsLst G (out++[x]):=by
  intro a b z e
  rcases List.eq_nil_or_concat b with rfl | ⟨b',u,rfl⟩
  · have e1:a++z::[]=a++[z]:=rfl
    rw [e1] at e
    obtain⟨h2,h3⟩:=List.append_inj' e rfl
    simp at h3
    subst h2 h3
    exact⟨hx,hm⟩
  · have e1:a++z::(b'++[u])=(a++z::b')++[u]:=by simp
    rw [List.concat_eq_append,e1] at e
    obtain⟨h2,_⟩:=List.append_inj' e rfl
    exact h a b' z h2
theorem IsLst.uniq {G:List (List Int)}:∀(r1 r2 p:List Nat),IsLst G (p++r1)→IsLst G (p++r2)→(∀ y,¬ Rdy G (p++r1) y)→(∀ y,¬ Rdy G (p++r2) y)→r1=r2:=by
  intro r1
  induction r1 with
  | nil=>
    intro r2 p h1 h2 n1 n2
    cases r2 with
    | nil=>rfl
    | cons x b=>exact absurd (h2 p b x rfl).1 (by simpa using n1 x)
  | cons x b ih=>
    intro r2 p h1 h2 n1 n2
    cases r2 with
    | nil=>exact absurd (h1 p b x rfl).1 (by simpa using n2 x)
    | cons y c=>
      obtain⟨g1,g2⟩:=h1 p b x rfl
      obtain⟨k1,k2⟩:=h2 p c y rfl
      have e:x=y:=Nat.le_antisymm (g2 y k1) (k2 x g1)
      subst e
      have e1:∀ l:List Nat,p++x::l=(p++[x])++l:=fun l=>by simp
      rw [e1] at h1 h2 n1 n2
      rw [ih c (p++[x]) h1 h2 n1 n2]
theorem IsLst.one {G:List (List Int)}{a b:List Nat}(h1:IsLst G a)(h2:IsLst G b)(n1:∀ y,¬ Rdy G a y)(n2:∀ y,¬ Rdy G b y):a=b:=
  IsLst.uniq a b [] (by simpa using h1) (by simpa using h2) (by simpa using n1) (by simpa using n2)
theorem IsLst.nd {G:List (List Int)}{out:List Nat}(h:IsLst G out):out.Nodup:=by
  have key:∀(r p:List Nat),p.Nodup→IsLst G (p++r)→(p++r).Nodup:=by
    intro r
    induction r with
    | nil=>intro p hp _;simpa using hp
    | cons x r ih=>
      intro p hp hl
      have:=(hl p r x rfl).1.2.1
      have e:p++x::r=(p++[x])++r:=by simp
      rw [e] at hl ⊢
      exact ih _ (List.nodup_append.2 ⟨hp,by simp,fun a ha b hb q=>by simp at hb;subst hb;subst q;exact this ha⟩) hl
  simpa using key out [] (by simp) (by simpa using h)
theorem IsLst.lt {G:List (List Int)}{out:List Nat}(h:IsLst G out):∀ x∈out,x<G.length:=fun x hx=>by
  obtain⟨a,b,e⟩:=List.append_of_mem hx
  exact(h a b x e).1.1
theorem IsLst.len {G:List (List Int)}{out:List Nat}(h:IsLst G out):out.length≤G.length:=nodup_len _ _ h.nd h.lt
theorem mem_of_full {n:Nat}{l:List Nat}(hn:l.Nodup)(hlt:∀ x∈l,x<n)(hl:l.length=n)(k:Nat)(hk:k<n):k∈l:=by
  refine Classical.byContradiction fun hno=>?_
  have:=nodup_len n (k::l) (List.nodup_cons.2 ⟨hno,hn⟩) (fun x hx=>by
    rcases List.mem_cons.1 hx with q | q
    · rw [q];exact hk
    · exact hlt x q)
  simp at this
  omega
theorem IsLst.full {G:List (List Int)}{out:List Nat}(h:IsLst G out)(hl:out.length=G.length)(y:Nat):¬ Rdy G out y:=fun q=>
  q.2.1 (mem_of_full h.nd h.lt hl y q.1)
end Gr
end Go.Proofs.YtpnlbjnbgemocaaGreat
namespace Go.Proofs.YtpnlbjnbgemocaaGreat
namespace Pl
theorem nodup_sub:∀(l m:List Nat),l.Nodup→(∀ x∈l,x∈m)→l.length≤m.length:=by
  intro l
  induction l with
  | nil=>intro m _ _;exact Nat.zero_le _
  | cons a l ih=>
    intro m hn hs
    have ha:a∈m:=hs a List.mem_cons_self
    have h2:=List.nodup_cons.1 hn
    have:=ih (m.erase a) h2.2 (fun x hx=>by
      have hne:x≠a:=fun e=>h2.1 (e▸hx)
      exact(List.mem_erase_of_ne hne).2 (hs x (List.mem_cons_of_mem _ hx)))
    rw [List.length_erase_of_mem ha] at this
    have hp:0<m.length:=List.length_pos_of_mem ha
    simp only [List.length_cons]
    omega
structure Greedy (n:Nat) (L sl:Nat→Nat):Prop where
  free:∀ i,i<n→∀ k,k<i→i≤L k→sl k≠sl i
  least:∀ i,i<n→∀ s,s<sl i→∃ k,k<i∧sl k=s∧i≤L k
theorem Greedy.uniq {n:Nat}{L a b:Nat→Nat}(h:Greedy n L a)(g:Greedy n L b):∀ m i,i<m→i<n→a i=b i:=by
  intro m
  induction m with
  | zero=>intro i hi;omega
  | succ m ih=>
    intro i hi hn
    rcases Nat.lt_trichotomy (a i) (b i) with q | q | q
    · obtain⟨k,hk,e,hl⟩:=g.least i hn (a i) q
      exact absurd ((ih k (by omega) (by omega)).trans e) (h.free i hn k hk hl)
    · exact q
    · obtain⟨k,hk,e,hl⟩:=h.least i hn (b i) q
      exact absurd ((ih k (by omega) (by omega)).symm.trans e) (g.free i hn k hk hl)
def top (f:Nat→Nat):Nat→Nat
  | 0=>0
  | n+1=>max (top f n) (f n)
theorem top_ge (f:Nat→Nat)(n i:Nat)(h:i<n):f i≤top f n:=by
  induction n with
  | zero=>omega
  | succ n ih=>
    show f i≤max (top f n) (f n)
    rcases Nat.lt_or_ge i n with q | q
    · exact Nat.le_trans (ih q) (Nat.le_max_left _ _)
    · have:i=n:=by omega
      exact this▸Nat.le_max_right _ _
theorem top_le (f:Nat→Nat)(n M:Nat)(h:∀ i,i<n→f i≤M):top f n≤M:=by
  induction n with
  | zero=>exact Nat.zero_le _
  | succ n ih=>exact Nat.max_le.2 ⟨ih fun i hi=>h i (by omega),h n (by omega)⟩
end Pl
end Go.Proofs.YtpnlbjnbgemocaaGreat
