import Derived.Test.YtpnlbjnbgemocaaGreatZQPEyQExN
import Derived.Test.YtpnlbjnbgemocaaGreatZEyMEyNEyO
import Derived.Test.YtpnlbjnbgemocaaGreatZEyDToRpRN7
import Derived.Test.YtpnlbjnbgemocaaGreatZEyAToFlTN4
import Derived.Test.YtpnlbjnbgemocaaGreatZMdI
import Derived.Deep.DeepCutAuto
import Derived.Test.YtpnlbjnbgemocaaGreatZExWEyGExD
namespace Go.Proofs.YtpnlbjnbgemocaaGreat
set_option linter.unusedVariables false
set_option linter.unusedSimpArgs false
set_option maxRecDepth 100000
open Go.RowKit Gr
theorem chain_t (w:World):Calls Tryz.prog 31 #[] w (ChainPost w):=by
  have hmk:=make3
  go_enter Tryz.func31,Tryz.ntmps31
  go_wp2
  obtain⟨b0,b1,b2,b3,b4,b5,b6,hsz,hb⟩:=chain_blk w
  have hr:=results_cell_row (P:=Tryz.prog) (fn:=Tryz.f31) (p:=0) (ty:=83) rfl
  refine bodyPost_ret_by (v:=flatV (chainV w.heap.size)) (w:=chainW w) (hr _ (chainW w) w.heap.size 83 (fvs (chainV w.heap.size)) (0,0) _ rfl b0 Tryz.underlying83 rfl Tryz.info83) rfl ?_
  exact⟨chainV w.heap.size,rfl,rfl,by rw [hsz];exact chain_is w,hb⟩
def chain2:FlatM:=⟨[⟨#[118]⟩],[⟨#[]⟩,⟨#[]⟩,⟨#[]⟩],[1],[⟨0,⟨#[105,110]⟩,[],0,noVal,-1⟩,⟨1,⟨#[110,101,103]⟩,[0],0,noVal,-1⟩,⟨2,⟨#[110,101,103]⟩,[1],0,noVal,-1⟩],[],[],[],[]⟩
theorem chain2_g:gOf chain2=[[],[0],[1]]:=by decide
theorem chain2_good:goodB chain2=true:=by decide
theorem chain2_out {out:List Nat}(h:IsLst (gOf chain2) out)(hn:∀ y,¬ Rdy (gOf chain2) out y):out=[0,1,2]:=by
  rw [chain2_g] at h hn
  exact IsLst.one h chain_lst hn (chain_lst.full rfl)
theorem chain2_la (v:Nat)(hv:v<3):laF chain2 [0,1,2] v=[1,3,2].getD v 0:=by
  match v,hv with
  | 0,_=>decide
  | 1,_=>decide
  | 2,_=>decide
theorem chain2_small:SmallF chain2:=by
  refine⟨by decide,by decide,by decide,by decide,by decide,by decide,by decide,by decide,fun i q hq=>?_,fun i m hm=>?_,fun i c hc=>?_,fun i c hc=>?_⟩
  · match i,hq with
    | 0,hq=>injection hq with hq;subst hq;decide
    | 1,hq=>injection hq with hq;subst hq;decide
    | 2,hq=>injection hq with hq;subst hq;decide
    | i+3,hq=>simp [chain2] at hq
  · simp [chain2] at hm
  · simp [chain2] at hc
  · simp [chain2] at hc
theorem chain2_rplan {out:List Nat}{xs:List Int}{S:Nat}(h:RPlan chain2 3 out xs S):xs=[0,1,0]∧S=2:=by
  have ho:out=[0,1,2]:=chain2_out h.lst (h.lst.full (by rw [h.len,chain2_g];rfl))
  subst ho
  obtain⟨sls,hlo⟩:=h.slots
  have hoi:=hlo.out
  have hL:∀ k,k<3→Lpl (laF chain2 (ints [0,1,2])) (ints [0,1,2]) k=[1,3,2].getD k 0:=by
    intro k hk
    match k,hk with
    | 0,_=>exact chain2_la 0 (by omega)
    | 1,_=>exact chain2_la 1 (by omega)
    | 2,_=>exact chain2_la 2 (by omega)
  have hgr:Pl.Greedy 3 (Lpl (laF chain2 (ints [0,1,2])) (ints [0,1,2])) fun k=>[0,1,0].getD k 0:=by
    refine⟨fun i hi k hk hl=>?_,fun i hi s hs=>?_⟩
    · rw [hL k (by omega)] at hl
      match i,k,hi,hk with
      | 1,0,_,_=>simp
      | 2,0,_,_=>simp at hl
      | 2,1,_,_=>simp
    · match i,hi with
      | 0,_=>simp at hs
      | 1,_=>
        have:s=0:=by simp at hs;omega
        subst this
        exact⟨0,by omega,rfl,by rw [hL 0 (by omega)];decide⟩
      | 2,_=>simp at hs
  have hu:=Pl.Greedy.uniq (a:=fun k=>sls.getD k 0) ⟨hlo.free,hlo.least⟩ hgr 3
  have s0:=hu 0 (by omega) (by omega)
  have s1:=hu 1 (by omega) (by omega)
  have s2:=hu 2 (by omega) (by omega)
  have x0:=hoi.2 0 (by omega) 0 rfl
  have x1:=hoi.2 1 (by omega) 1 rfl
  have x2:=hoi.2 2 (by omega) 2 rfl
  have hS:S=2:=by
    rw [hlo.top]
    show max (max (max 0 (sls.getD 0 0+1)) (sls.getD 1 0+1)) (sls.getD 2 0+1)=2
    rw [s0,s1,s2];decide
  refine⟨?_,hS⟩
  have hl:=hoi.1
  match xs,hl with
  | [a,b,c],_=>
    rw [s0] at x0;rw [s1] at x1;rw [s2] at x2
    simp at x0 x1 x2
    rw [x0,x1,x2]
  | [],hl=>simp at hl
  | [_],hl=>simp at hl
  | [_,_],hl=>simp at hl
  | _::_::_::_::_,hl=>simp at hl
theorem chain2_made:madeC chain2 (ints [0,1,2]) [0,1,0] 2=⟨1,1,2,0,0,[],[],[I0,I1,I2,I3],[],[]⟩:=by rfl
theorem chain2_right:RightC ⟨1,1,2,0,0,[],[],[I0,I1,I2,I3],[],[]⟩:=by
  refine⟨by decide,by decide,by decide,by decide,by decide,fun i x hx=>?_,fun i x hx=>by simp at hx,fun i x hx=>by simp at hx⟩
  match i,hx with
  | 0,hx=>injection hx with hx;subst hx;decide
  | 1,hx=>injection hx with hx;subst hx;decide
  | 2,hx=>injection hx with hx;subst hx;decide
  | 3,hx=>injection hx with hx;subst hx;decide
  | i+4,hx=>simp at hx
theorem chain2_ins:SmallIns [I0,I1,I2,I3]:=by
  intro q hq
  simp at hq
  rcases hq with rfl | rfl | rfl | rfl <;> decide
theorem SmallIns_nil:SmallIns []:=by intro q hq;cases hq
theorem FlatIs.outs2 {w:World}{B:Nat}{v:FlatV}(h:FlatIs w B v chainM){A:Option Addr}{c:Nat}(ho:IRow w B A 1 c [1]):FlatIs w B { v with outs:=(A,1,c) } chain2:=
  ⟨h.ins,h.names,ho,h.eqs,h.mems,h.conts,h.cross,h.again⟩
end Go.Proofs.YtpnlbjnbgemocaaGreat
namespace Go.Proofs.YtpnlbjnbgemocaaGreat
set_option linter.unusedVariables false
set_option linter.unusedSimpArgs false
set_option maxRecDepth 100000
open Go.RowKit Nums Gr
set_option maxHeartbeats 4000000 in
theorem outs_t {w:World}{g T n c:Nat}{vs:Array Value}{a:Option Addr}{xs:List VM}(h:Blk w g T vs)(h3:vs[3]?=some (.bool true))(h17:vs[17]?=some (.slice a n c))(hv:VRow w a n c xs)(hn:n≤100000) :
    Calls Tryz.prog 13 #[.pointer (some ⟨g,0,none⟩)] w fun e w'=>(∃ g' arr,e=.returned (.slice (some ⟨g',0,none⟩) n n)∧w.heap.size≤g'∧Blk w' g' 51 arr∧arr.size=n*5∧NoU arr∧∀ i x,xs[i]?=some x→ValN w' arr i x)∧Below w.heap.size w w':=by
  have c17:=h.cell 17 h17
  have HR:=Lib.hid (runs_yes h h3)
  have HE:=Lib.hid (eachV_t a n c xs w hv hn)
  clear h h3 h17 hv hn
  go_enter Tryz.func13,Tryz.ntmps13
  go_wp2_with (first
    | (go_at_call 36;(with_reducible refine HR.out.mono ?_);rintro e w1 ⟨rfl,hw⟩;subst hw)
    | (go_at_call 37;(with_reducible refine HE.out.mono ?_);rintro e w2 ⟨⟨g',arr,rfl,h1⟩,hb⟩;have H1:=Lib.hid h1;have HB:=Lib.hid hb;clear h1 hb))
  go_ret
  exact⟨⟨g',arr,rfl,H1.out⟩,HB.out⟩
section
variable {w:World} {B B' b o:Nat}
theorem SsAt.moreE {α:Type}{sz:Nat}{R:World→Nat→Nat→Nat→α→Prop}{x:List α}(h:SsAt sz R w B b o x)(hB:B≤B')(hR:∀ b o x,R w B b o x→R w B' b o x):SsAt sz R w B' b o x:=by
  obtain⟨A,L,C,h1,h2⟩:=h;exact⟨A,L,C,h1,h2.more hB hR⟩
theorem FEqAt.moreE {v:FEqM}(h:FEqAt w B b o v)(hB:B≤B'):FEqAt w B' b o v:=⟨h.var,h.op,h.args.more hB,h.k,h.lit.more hB,h.guard⟩
theorem MemAt.moreE {v:MemM}(h:MemAt w B b o v)(hB:B≤B'):MemAt w B' b o v:=⟨h.init.more hB,h.next,h.guard,h.resets.more hB⟩
theorem SlopeAt.moreE {v:SlopeM}(h:SlopeAt w B b o v):SlopeAt w B' b o v:=⟨h.guard,h.var⟩
theorem ContAt.moreE {v:ContM}(h:ContAt w B b o v)(hB:B≤B'):ContAt w B' b o v:=⟨h.init.more hB,h.var,h.guard,h.resets.more hB,h.slopes.moreE hB fun _ _ _ q=>q.moreE⟩
theorem COpAt.moreE {v:COpM}(h:COpAt w B b o v)(hB:B≤B'):COpAt w B' b o v:=⟨h.op,h.args.more hB⟩
theorem CrossAt.moreE {v:CrossM}(h:CrossAt w B b o v)(hB:B≤B'):CrossAt w B' b o v:=⟨h.guard,h.ops.moreE hB fun _ _ _ q=>q.moreE hB⟩
theorem FlatIs.moreE {v:FlatV}{f:FlatM}(h:FlatIs w B v f)(hB:B≤B'):FlatIs w B' v f:=
  ⟨h.ins.more hB fun _ _ _ q=>q,h.names.more hB fun _ _ _ q=>q,h.outs.more hB,h.eqs.more hB fun _ _ _ q=>q.moreE hB,h.mems.more hB fun _ _ _ q=>q.moreE hB,h.conts.more hB fun _ _ _ q=>q.moreE hB,h.cross.more hB fun _ _ _ q=>q.moreE hB,h.again.more hB⟩
end
theorem ratStr_m3:ratStr (-3)=⟨#[45,51]⟩:=by first | kernel_rfl | (decide +kernel) | rfl
theorem limbsQ3:(limbs (-3:Rat).num.natAbs).length≤12:=by first | (decide +kernel) | (show _≤12;kernel_rfl)
theorem limbsQ1:(limbs (-3:Rat).den).length≤12:=by first | (decide +kernel) | (show _≤12;kernel_rfl)
set_option maxHeartbeats 4000000 in
theorem plan2_t (v:FlatV)(B:Nat)(w:World)(h:FlatIs w B v chain2)(hB:B≤w.heap.size)(hv:v.names.2.1=3) :
    Calls Tryz.prog 32 #[flatV v] w fun e w'=>(∃(A:Option Addr) (c g:Nat),e=.returned (.tuple #[.agg #[.slice A 3 c,.slice (some ⟨g,0,none⟩) 3 3,.int .i64 2],.int .i64 0])∧IRow w' w'.heap.size A 3 c (ints [0,1,2])∧IRow w' w'.heap.size (some ⟨g,0,none⟩) 3 3 [0,1,0])∧Below w.heap.size w w'∧RightP chain2 3 (ints [0,1,2]) [0,1,0] 2:=by
  refine(rof_t v chain2 B w h hB chain2_good chain2_small).mono ?_
  rw [hv]
  rintro e w' ⟨ho | ho,hb⟩
  rotate_left
  · obtain⟨_,out,hl,hlt,hno⟩:=ho
    have:=chain2_out hl hno
    subst this
    simp at hlt
  obtain⟨A,c,out,g,xs,S,rfl,hown,hmem,hpl⟩:=ho
  obtain⟨rfl,rfl⟩:=chain2_rplan hpl
  have hout:out=[0,1,2]:=chain2_out hpl.lst (hpl.lst.full (by rw [hpl.len,chain2_g];rfl))
  have hrt:=rplan_right chain2_good (by rw [chain2_g];rfl) hpl
  subst hout
  exact⟨⟨A,c,g,rfl,hown,hmem.irow hmem.lt (by decide) (by unfold maxLen;omega)⟩,hb,hrt⟩
theorem code2_t (v:FlatV)(B:Nat)(w:World)(A:Option Addr)(c g:Nat)(h:FlatIs w B v chain2)(hB:B≤w.heap.size)(hv:v.names.2.1=3)(ho:IRow w B A 3 c (ints [0,1,2]))(hs:IRow w B (some ⟨g,0,none⟩) 3 3 [0,1,0])(hR:RightP chain2 3 (ints [0,1,2]) [0,1,0] 2) :
    Calls Tryz.prog 33 #[flatV v,.agg #[.slice A 3 c,.slice (some ⟨g,0,none⟩) 3 3,.int .i64 2]] w (CodeP15 (⟨1,1,2,0,0,[],[],[I0,I1,I2,I3],[],[]⟩:CodeM) w):=by
  have:=of15_t B v chain2 A (some ⟨g,0,none⟩) 3 c 3 3 2 [0,1,0] (ints [0,1,2]) w h hs hB ho chain2_small (by omega) (by rw [hv];exact hR)
  rw [chain2_made] at this
  exact this
theorem chain2_okA (i:Nat)(q:InsP)(h:[I0,I1,I2,I3][i]?=some q):OkA q:=by
  match i,h with
  | 0, h => obtain rfl : I0 = q := by simpa using h
            exact⟨Or.inl rfl,rfl⟩
  | 1, h => obtain rfl : I1 = q := by simpa using h
            exact⟨Or.inr (Or.inl rfl),rfl⟩
  | 2, h => obtain rfl : I2 = q := by simpa using h
            exact⟨Or.inr (Or.inl rfl),rfl⟩
  | 3, h => obtain rfl : I3 = q := by simpa using h
            exact⟨Or.inr (Or.inr rfl),rfl⟩
  | k+4,h=>simp at h
set_option maxHeartbeats 4000000 in
theorem new2_t (v:CodeV)(w:World)(h:CodeIs w w.heap.size (⟨1,1,2,0,0,[],[],[I0,I1,I2,I3],[],[]⟩:CodeM) v) :
    Calls Tryz.prog 30 #[codeV (⟨1,1,2,0,0,[],[],[I0,I1,I2,I3],[],[]⟩:CodeM) v] w fun e w'=>(∃(C g sb ob cg:Nat) (M:MS),e=.returned (.tuple #[.pointer (some ⟨g,0,none⟩),.int .i64 0])∧Blk w' g 65 #[.int .i64 0,.bool false,.bool false,.bool true,M.m4,M.m5,M.m6,M.m7,M.m8,M.m9,M.m10,.slice (some ⟨cg,0,none⟩) 4 4,M.m12,M.m13,.slice (some ⟨sb,0,none⟩) 2 2,M.m15,M.m16,.slice (some ⟨ob,0,none⟩) 1 1,M.m18,M.m19,.bool false,.slice none 0 0]∧RowC w' C (some ⟨cg,0,none⟩,4,4) [I0,I1,I2,I3]∧Blk w' sb 51 (madeCells zVal 10)∧Blk w' ob 51 (madeCells zVal 5)∧ob≠sb∧C≤sb∧C≤ob∧sb<g∧ob<g∧w.heap.size≤C∧∀ v∈M.list,∀ z:Int,v≠Value.int .u32 z)∧Below w.heap.size w w':=by
  obtain⟨⟨ma,mn,mc⟩,⟨ca,cn,cc⟩,s,d,x⟩:=v
  have h1:s.2.1=4:=h.step.1.symm
  have h2:d.2.1=0:=h.deriv.1.symm
  have h3:x.2.1=0:=h.cross.1.symm
  refine(new_t (⟨1,1,2,0,0,[],[],[I0,I1,I2,I3],[],[]⟩:CodeM) 2 1 0 ma ca mn mc cn cc s d x w h rfl rfl rfl rfl rfl chain2_right chain2_okA rfl rfl ⟨by omega,by omega,by omega⟩ ⟨chain2_ins,SmallIns_nil,SmallIns_nil⟩ (by omega)).mono ?_
  rintro e w' ⟨⟨C,g,sb,mb,cb,ob,rb,lb,gm,gc,s',d',x',rfl,hm,hrs,hrd,hrx,hsb,hob,hne,hc1,hc2,hg1,hg2,hwC⟩,hb⟩
  obtain⟨cg,arr,e1,-⟩:=id hrs
  subst e1
  refine⟨⟨C,g,sb,ob,cg,⟨.int .i64 1,.int .i64 1,.int .i64 2,.int .i64 0,.int .i64 0,.slice (some ⟨gm,0,none⟩) 0 0,.slice (some ⟨gc,0,none⟩) 0 0,.slice d'.1 d'.2.1 d'.2.2,.slice x'.1 x'.2.1 x'.2.2,.slice (some ⟨mb,0,none⟩) 0 0,.slice (some ⟨cb,0,none⟩) 0 0,.slice (some ⟨rb,0,none⟩) 0 0,.slice (some ⟨lb,0,none⟩) 0 0⟩,rfl,hm,hrs,hsb,hob,fun e=>hne e.symm,hc1,hc2,hg1,hg2,hwC, ?_⟩,hb⟩
  intro v hv z
  simp only [MS.list,List.mem_cons,List.not_mem_nil,or_false] at hv
  rcases hv with rfl | rfl | rfl | rfl | rfl | rfl | rfl | rfl | rfl | rfl | rfl | rfl | rfl <;> simp
set_option maxHeartbeats 8000000 in
theorem awake17_t (w:World):Calls Tryz.prog 10 #[] w fun e w'=>e=.returned (.bool true)∧Below w.heap.size w w':=by
  have HCH:=Lib.hid (chain_t w)
  go_enter Tryz.func10,Tryz.ntmps10
  go_upto_region 2 with (go_at_call 31;(with_reducible refine HCH.out.mono ?_);rintro e w1 ⟨v,rfl,hv3,his,hb1⟩;obtain⟨⟨i1,i2,i3⟩,⟨nm1,nm2,nm3⟩,⟨o1,o2,o3⟩,⟨e1,e2,e3⟩,⟨m1,m2,m3⟩,⟨c1,cn,c3⟩,⟨x1,x2,x3⟩,⟨g1,g2,g3⟩⟩:=v;simp only at hv3;subst hv3;have HIS:=Lib.hid his;have HB1:=Lib.hid hb1;clear his hb1;simp only [flatV,sl3])
  obtain⟨W2,hW2⟩:∃ W2,W2=w1.alloc (.cells #[.slice i1 i2 i3,.slice nm1 3 nm3,.slice o1 o2 o3,.slice e1 e2 e3,.slice m1 m2 m3,.slice c1 cn c3,.slice x1 x2 x3,.slice g1 g2 g3] 83):=⟨_,rfl⟩
  have HB2:=Lib.hid (show Below w1.heap.size w1 W2 by rw [hW2];exact(Below.refl _ _).alloc (Nat.le_refl _) _)
  have HK2:=Lib.hid (show Blk W2 w1.heap.size 83 #[.slice i1 i2 i3,.slice nm1 3 nm3,.slice o1 o2 o3,.slice e1 e2 e3,.slice m1 m2 m3,.slice c1 cn c3,.slice x1 x2 x3,.slice g1 g2 g3] by rw [hW2];exact Blk.new _ _ _)
  rw [←hW2]
  clear hW2
  have z2:=HK2.out.cell 2 rfl
  have y2:=HK2.out.free 2
  have hlt2:w1.heap.size<W2.heap.size:=HK2.out.lt
  go_upto_region 3 with fail
  obtain⟨W3,hW3⟩:∃ W3,W3=(W2.setCell ⟨w1.heap.size,2,none⟩ (.slice (some ⟨W2.heap.size,0,none⟩) 1 1)).alloc (.cells #[.int .i64 1] 3):=⟨_,rfl⟩
  have HB3:=Lib.hid (show Below w1.heap.size w1 W3 by rw [hW3];exact(HB2.out.setCell (p:=⟨w1.heap.size,2,none⟩) (Nat.le_refl _) _).alloc (by simp;exact HB2.out.size) _)
  have HK3:=Lib.hid (show Blk W3 w1.heap.size 83 #[.slice i1 i2 i3,.slice nm1 3 nm3,.slice (some ⟨W2.heap.size,0,none⟩) 1 1,.slice e1 e2 e3,.slice m1 m2 m3,.slice c1 cn c3,.slice x1 x2 x3,.slice g1 g2 g3] by
    rw [hW3]
    have b0:Blk (W2.setCell ⟨w1.heap.size,2,none⟩ (.slice (some ⟨W2.heap.size,0,none⟩) 1 1)) w1.heap.size 83 #[.slice i1 i2 i3,.slice nm1 3 nm3,.slice (some ⟨W2.heap.size,0,none⟩) 1 1,.slice e1 e2 e3,.slice m1 m2 m3,.slice c1 cn c3,.slice x1 x2 x3,.slice g1 g2 g3]:=HK2.out.putI 2 _
    exact b0.alloc _)
  have HO3:=Lib.hid (show Blk W3 W2.heap.size 3 #[.int .i64 1] by
    rw [hW3]
    have:=Blk.new (W2.setCell ⟨w1.heap.size,2,none⟩ (.slice (some ⟨W2.heap.size,0,none⟩) 1 1)) 3 #[.int .i64 1]
    simpa using this)
  rw [←hW3]
  clear hW3 z2 y2 hlt2
  have HF3:=Lib.hid (show FlatIs W3 W3.heap.size ⟨(i1,i2,i3),(nm1,3,nm3),(some ⟨W2.heap.size,0,none⟩,1,1),(e1,e2,e3),(m1,m2,m3),(c1,cn,c3),(x1,x2,x3),(g1,g2,g3)⟩ chain2 from FlatIs.outs2 ((HIS.out.below HB3.out).moreE HB3.out.size) (irow_blk HO3.out HO3.out.lt))
  have HPL:=Lib.hid (plan2_t ⟨(i1,i2,i3),(nm1,3,nm3),(some ⟨W2.heap.size,0,none⟩,1,1),(e1,e2,e3),(m1,m2,m3),(c1,cn,c3),(x1,x2,x3),(g1,g2,g3)⟩ W3.heap.size W3 HF3.out (Nat.le_refl _) rfl)
  simp only [flatV,sl3] at HPL
  clear HIS HK2 HB2 HO3
  have p0:=HK3.out.cell 0 rfl;have p1:=HK3.out.cell 1 rfl;have p2:=HK3.out.cell 2 rfl;have p3:=HK3.out.cell 3 rfl;have p4:=HK3.out.cell 4 rfl;have p5:=HK3.out.cell 5 rfl;have p6:=HK3.out.cell 6 rfl;have p7:=HK3.out.cell 7 rfl
  go_upto_region 4 with (go_at_call 32;(with_reducible refine HPL.out.mono ?_);rintro e w4 ⟨⟨A,c,g,rfl,hA,hg⟩,hb4,hrp⟩;have HA:=Lib.hid hA;have HG:=Lib.hid hg;have HB4:=Lib.hid hb4;have HRP:=Lib.hid hrp;clear hA hg hb4 hrp p0 p1 p2 p3 p4 p5 p6 p7)
  obtain⟨W5,hW5⟩:∃ W5,W5=w4.alloc (.cells #[.slice A 3 c,.slice (some ⟨g,0,none⟩) 3 3,.int .i64 2] 86):=⟨_,rfl⟩
  have HB5:=Lib.hid (show Below w4.heap.size w4 W5 by rw [hW5];exact(Below.refl _ _).alloc (Nat.le_refl _) _)
  have HK5:=Lib.hid (show Blk W5 w4.heap.size 86 #[.slice A 3 c,.slice (some ⟨g,0,none⟩) 3 3,.int .i64 2] by rw [hW5];exact Blk.new _ _ _)
  rw [←hW5]
  clear hW5
  have HB35:=Lib.hid (show Below W3.heap.size W3 W5 from HB4.out.trans (HB5.out.mono HB4.out.size))
  have HKF:=Lib.hid (HK3.out.later HB35.out)
  have HCD:=Lib.hid (code2_t ⟨(i1,i2,i3),(nm1,3,nm3),(some ⟨W2.heap.size,0,none⟩,1,1),(e1,e2,e3),(m1,m2,m3),(c1,cn,c3),(x1,x2,x3),(g1,g2,g3)⟩ W5.heap.size W5 A c g ((HF3.out.below HB35.out).moreE HB35.out.size) (Nat.le_refl _) rfl ((HA.out.below HB5.out).more HB5.out.size) ((HG.out.below HB5.out).more HB5.out.size) HRP.out)
  simp only [flatV,sl3] at HCD
  clear HPL HF3 HA HG HRP
  have p0:=HKF.out.cell 0 rfl;have p1:=HKF.out.cell 1 rfl;have p2:=HKF.out.cell 2 rfl;have p3:=HKF.out.cell 3 rfl;have p4:=HKF.out.cell 4 rfl;have p5:=HKF.out.cell 5 rfl;have p6:=HKF.out.cell 6 rfl;have p7:=HKF.out.cell 7 rfl
  have q0:=HK5.out.cell 0 rfl;have q1:=HK5.out.cell 1 rfl;have q2:=HK5.out.cell 2 rfl
  go_upto_region 5 with (go_at_call 33;(with_reducible refine HCD.out.mono ?_);rintro e w6 ⟨v6,rfl,hi6,hb6⟩;obtain⟨⟨ma,mn,mc⟩,⟨ca,kn,cc⟩,⟨sA,sn,sc⟩,⟨dA,dn,dc⟩,⟨xA,xn,xc⟩⟩:=v6;simp only [codeV];have HI6:=Lib.hid hi6;have HB6:=Lib.hid hb6;clear hi6 hb6 p0 p1 p2 p3 p4 p5 p6 p7 q0 q1 q2)
  obtain⟨W7,hW7⟩:∃ W7,W7=w6.alloc (.cells #[.int .i64 1,.int .i64 1,.int .i64 2,.int .i64 0,.int .i64 0,.slice ma mn mc,.slice ca kn cc,.slice sA sn sc,.slice dA dn dc,.slice xA xn xc] 25):=⟨_,rfl⟩
  have HB7:=Lib.hid (show Below w6.heap.size w6 W7 by rw [hW7];exact(Below.refl _ _).alloc (Nat.le_refl _) _)
  have HK7:=Lib.hid (show Blk W7 w6.heap.size 25 #[.int .i64 1,.int .i64 1,.int .i64 2,.int .i64 0,.int .i64 0,.slice ma mn mc,.slice ca kn cc,.slice sA sn sc,.slice dA dn dc,.slice xA xn xc] by rw [hW7];exact Blk.new _ _ _)
  rw [←hW7]
  clear hW7
  have HBA:=Lib.hid (show Below w.heap.size w W7 from(HB1.out.trans (HB3.out.mono HB1.out.size)).trans ((HB35.out.trans ((HB6.out.trans (HB7.out.mono HB6.out.size)).mono HB35.out.size)).mono (Nat.le_trans HB1.out.size HB3.out.size)))
  have HNW:=Lib.hid (new2_t ⟨(ma,mn,mc),(ca,kn,cc),(sA,sn,sc),(dA,dn,dc),(xA,xn,xc)⟩ W7 ((HI6.out.below HB7.out).more HB7.out.size))
  simp only [codeV] at HNW
  clear HB1 HB3 HK3 HB4 HB5 HK5 HB35 HKF HCD HI6 HB6 HB7
  have p0:=HK7.out.cell 0 rfl;have p1:=HK7.out.cell 1 rfl;have p2:=HK7.out.cell 2 rfl;have p3:=HK7.out.cell 3 rfl;have p4:=HK7.out.cell 4 rfl;have p5:=HK7.out.cell 5 rfl;have p6:=HK7.out.cell 6 rfl;have p7:=HK7.out.cell 7 rfl;have p8:=HK7.out.cell 8 rfl;have p9:=HK7.out.cell 9 rfl
  go_upto_region 6 with (go_at_call 30;(with_reducible refine HNW.out.mono ?_);rintro e w8 ⟨⟨C,gm,sb,ob,cg,M,rfl,hm,hrow,hsb,hob,hne,hc1,hc2,hg1,hg2,hwC,hok⟩,hb8⟩;have HM:=Lib.hid hm;have HROW:=Lib.hid hrow;have HSB:=Lib.hid hsb;have HOB:=Lib.hid hob;have HN8:=Lib.hid (And.intro hne (And.intro hc1 (And.intro hc2 (And.intro hg1 (And.intro hg2 (And.intro hwC hok))))));have HB8:=Lib.hid (HBA.out.trans (hb8.mono HBA.out.size));clear hm hrow hsb hob hne hc1 hc2 hg1 hg2 hwC hok hb8 p0 p1 p2 p3 p4 p5 p6 p7 p8 p9)
  clear HNW
  have HOF:=Lib.hid (fun(W:World)=>rofR 3 W (by omega) (by omega))
  have HW7:Hid (w.heap.size≤W7.heap.size):=Lib.hid HBA.out.size
  clear HK7 HBA
  have e3:((3:Int):Rat)=3:=by rfl
  have HE3:=Lib.hid e3
  have HT3:Hid (ratStr (-3)=⟨#[45,51]⟩):=Lib.hid ratStr_m3
  clear e3
  go_wp2_with (first
    | (go_at_call 34;(with_reducible refine((HOF.out w8).mono ratK_V).mono ?_);rintro e w9 ⟨r,rfl,hr,hb9⟩;rw [HE3.out] at hr;have HR:=Lib.hid hr;have HB9:=Lib.hid hb9;clear hr hb9)
    | (go_at_call 26
       have hbb:Below w8.heap.size w8 (w9.alloc (.cells #[.bool r.s,.slice r.a r.n r.c,.slice r.b r.m r.d] 46)):=HB9.out.alloc HB9.out.size _
       have hb1:Below w9.heap.size w9 (w9.alloc (.cells #[.bool r.s,.slice r.a r.n r.c,.slice r.b r.m r.d] 46)):=below_one _ _
       have hk:=Blk.new w9 46 #[.bool r.s,.slice r.a r.n r.c,.slice r.b r.m r.d]
       have h8:=HN8.out
       have l1:=HSB.out.lt
       have l2:=HOB.out.lt
       have l3:=HM.out.lt
       have l4:=HB9.out.size
       refine(stepA_t C gm sb ob cg w9.heap.size M r (HM.out.later hbb) (HROW.out.below (hbb.mono (by omega))) (HSB.out.later hbb) (HOB.out.later hbb) ⟨by simp,hk.cell 0 rfl,hk.cell 1 rfl,hk.cell 2 rfl⟩ ((HR.out.later hb1).more (by omega) (by omega)) h8.2.2.2.2.2.2 (by omega) (by omega) h8.1 (by omega) (by omega)).mono ?_
       rintro e w10 ⟨rfl,u,hst,r1,hk1,hr1⟩
       have HST:=Lib.hid hst
       have HK1:=Lib.hid hk1
       have HR1:=Lib.hid hr1
       have HBT:=Lib.hid (show Below w.heap.size w w10 from((HB8.out.trans (HB9.out.mono HB8.out.size)).alloc (Nat.le_trans HB8.out.size HB9.out.size) _).trans (hst.only.below (by have:=HB8.out.size;have:=HB9.out.size;simp;omega) (by intro j hj;simp at hj;have:=HW7.out;omega)))
       clear hbb hb1 hk h8 l1 l2 l3 l4 hst hk1 hr1)
    | (go_at_call 13
       refine(outs_t HST.out.m rfl rfl (xs:=[⟨2,r1,⟨#[]⟩,-3⟩]) ⟨rfl,Nat.le_refl _,by unfold maxLen;omega,ob,0,Or.inl rfl,fun i x hx=>by
         match i,hx with
         | 0,hx=>
           injection hx with hx
           subst hx
           exact⟨HK1.out.lt,VAt.ofArr HK1.out (fun t u hu=>put5A_at _ _ _ _ _ _ _ _ u (by rw [zO_size];omega) hu) HR1.out⟩
         | i+1,hx=>simp at hx⟩ (by omega)).mono ?_
       rintro e w11 ⟨⟨go,arr,rfl,hgo,hk,hsz,hno,hv⟩,hb⟩
       obtain⟨r2,hcs,hr2⟩:=hv 0 _ rfl
       have HR2:=Lib.hid hr2
       have HBO:=Lib.hid (HBT.out.trans (hb.mono HBT.out.size))
       have k0:w11.cell? ⟨go,0,none⟩=some (.int .i64 2):=hk.cell 0 (hcs 0 _ rfl)
       have k1:w11.cell? ⟨go,1,none⟩=some (.bool r2.s):=hk.cell 1 (hcs 1 _ rfl)
       have k2:w11.cell? ⟨go,2,none⟩=some (.slice r2.a r2.n r2.c):=hk.cell 2 (hcs 2 _ rfl)
       have k3:w11.cell? ⟨go,3,none⟩=some (.slice r2.b r2.m r2.d):=hk.cell 3 (hcs 3 _ rfl)
       clear hgo hk hsz hno hv hb hcs hr2)
    | (go_at_call 35
       obtain⟨xs,ys,hx,hy,hq,hn,hm⟩:=HR2.out
       refine(rprintR_one ⟨#[45,51]⟩ (-3) hx hy hq hn hm limbsQ3 limbsQ1 rfl HT3.out).mono ?_
       rintro e w12 ⟨rfl,hb⟩
       have HBZ:=Lib.hid (HBO.out.trans (hb.mono HBO.out.size))
       clear hx hy hq hn hm hb))
  go_ret
  exact⟨rfl,HBZ.out⟩
end Go.Proofs.YtpnlbjnbgemocaaGreat
