import Derived.Test.YtpnlbjnbgemocaaGreatZEyIToEyLN4
import Derived.Test.YtpnlbjnbgemocaaGreatZExWEyGExD
import Derived.Test.YtpnlbjnbgemocaaGreatZEyH
import Derived.Deep.DeepCutAuto
namespace Go.Proofs.YtpnlbjnbgemocaaGreat
set_option linter.unusedVariables false
set_option linter.unusedSimpArgs false
set_option maxRecDepth 100000
open Go.RowKit Nums
theorem zeroCells_size (z:Array Value)(n:Nat):(Builtin.zeroCells z n).size=n*z.size:=by simp [Builtin.zeroCells]
theorem clear_run {n:Nat}(T Ty ty:TypeId)(zc:Array Value)(sz b:Nat)(hu:Tryz.prog.underlying T=some (.slice Ty))(hinfo:(Tryz.prog.info? Ty).map (fun i=>(i.zero,i.size,i.bytes))=some (some (.agg zc),sz,b))(hz:(Value.agg zc).cells=zc)(hzs:zc.size=sz)(h1:∀ u∈(Builtin.zeroCells zc n).toList,u.oneCell'=true)
    (g c:Nat) (cur:Array Value) (w:World) (hk:Blk w g Ty cur) (hs:cur.size=n*sz) :
    ∃ w',(Builtin.clear_ #[T] ty #[.slice (some ⟨g,0,none⟩) n c]).run Tryz.prog w=.ok (.tuple #[]) w'∧Blk w' g Ty (Builtin.zeroCells zc n)∧Only [some g] w w':=by
  obtain⟨i,hi,hz0,hz1,hz2⟩:=info_parts hinfo
  by_cases hn:n=0
  · subst hn
    refine⟨w,by simp [Builtin.clear_,run_underlying hu], ?_,Only.refl _ _⟩
    have:cur=Builtin.zeroCells zc 0:=by apply Array.ext';simp [Builtin.zeroCells];simpa using hs
    rw [←this];exact hk
  · have hst:=run_storeCells_at Tryz.prog g 0 Ty (Builtin.zeroCells zc n).toList 0 cur w hk (by rw [Array.length_toList,zeroCells_size,hzs,hs];omega) h1
    have hcl:(cur.toList.take (0+0)++(Builtin.zeroCells zc n).toList++cur.toList.drop (0+0+(Builtin.zeroCells zc n).toList.length)).toArray=Builtin.zeroCells zc n:=by
      rw [List.drop_eq_nil_of_le (by rw [Array.length_toList,Array.length_toList,zeroCells_size,hzs,hs];omega)]
      simp
    rw [hcl] at hst
    refine⟨_, ?_,setRow_heap w g cur _ Ty _ hk,⟨rfl,rfl,rfl,by simp,fun k hk' hne=>setRow_other w g k _ (fun e=>hne (by subst e;simp))⟩⟩
    simp [Builtin.clear_,run_underlying hu,zeroValue,typeInfo,hi,hz0,hn]
    rw [hz]
    rw [hst]
    rfl
theorem wpList_clear {n:Nat}{w:World}{ops:Array Oper}{rest:List Oper}{o:Oper}{a:Act}{Q:Exit→Act→World→Prop}(hgd:o.guard=none)(s:Operand)(T Ty:TypeId)
    (hop:o.op=.call { callee:=.builtin .clear,args:=#[s],argTypes:=#[T] })
    (zc:Array Value) (sz b:Nat) (hu:Tryz.prog.underlying T=some (.slice Ty)) (hinfo:(Tryz.prog.info? Ty).map (fun i=>(i.zero,i.size,i.bytes))=some (some (.agg zc),sz,b)) (hz:(Value.agg zc).cells=zc) (hzs:zc.size=sz) (h1:∀ u∈(Builtin.zeroCells zc n).toList,u.oneCell'=true)
    (g c:Nat) (cur:Array Value) (hs:a.eval s=.slice (some ⟨g,0,none⟩) n c) (hk:Blk w g Ty cur) (hsz:cur.size=n*sz)
    (hK:∀ w',Blk w' g Ty (Builtin.zeroCells zc n)→Only [some g] w w'→wpList Tryz.prog ops Q rest (a.put o.dst (.tuple #[])) w'):wpList Tryz.prog ops Q (o::rest) a w:=by
  refine wpList_plain hgd fun K hK'=>?_
  obtain⟨w',hr,h2,h3⟩:=clear_run (n:=n) T Ty o.type zc sz b hu hinfo hz hzs h1 g c cur w hk hsz
  unfold Oper.wp execOp
  simp only [hop,resolve,invoke,builtin,Sem.run_bind,Sem.run_pure,Result.andThen_ok,List.map_toArray,List.map_cons,List.map_nil,hs,hr]
  exact hK' _ _ (hK w' h2 h3)
theorem zVal_one (n:Nat):∀ u∈(Builtin.zeroCells zVal n).toList,u.oneCell'=true:=by
  intro u hu
  simp only [Builtin.zeroCells] at hu
  simp at hu
  obtain⟨i,_,rfl⟩:=hu
  have:i % zVal.size<5:=Nat.mod_lt _ (by decide)
  match i % zVal.size,this with
  | 0,_=>rfl
  | 1,_=>rfl
  | 2,_=>rfl
  | 3,_=>rfl
  | 4,_=>rfl
theorem runs_yes {w:World}{g T:Nat}{vs:Array Value}(h:Blk w g T vs)(h3:vs[3]?=some (.bool true)):Calls Tryz.prog 36 #[.pointer (some ⟨g,0,none⟩)] w fun e w'=>e=.returned (.bool true)∧w'=w:=by
  have c3:=h.cell 3 h3
  clear h
  go_enter Tryz.func36,Tryz.ntmps36
  go_wp2
  go_ret
  exact⟨rfl,rfl⟩
end Go.Proofs.YtpnlbjnbgemocaaGreat
namespace Go.Proofs.YtpnlbjnbgemocaaGreat
set_option linter.unusedVariables false
set_option linter.unusedSimpArgs false
set_option maxRecDepth 100000
open Go.RowKit Nums
theorem bits_3:bitsQ 3=2:=by first | (kernel_rfl) | (decide +kernel) | (simp [bitsQ,bitsOf])
theorem bits_m3:bitsQ (-3)=2:=by first | (kernel_rfl) | (decide +kernel) | (simp [bitsQ,bitsOf])
def I0:InsP:=⟨⟨#[105,110]⟩,((0:Nat):Int),[],((0:Nat):Int),noVal,-1,[]⟩
def I1:InsP:=⟨⟨#[110,101,103]⟩,((1:Nat):Int),[((0:Nat):Int)],((0:Nat):Int),noVal,-1,[]⟩
def I2:InsP:=⟨⟨#[110,101,103]⟩,((0:Nat):Int),[((1:Nat):Int)],((0:Nat):Int),noVal,-1,[]⟩
def I3:InsP:=⟨⟨#[111,117,116]⟩,((0:Nat):Int),[((1:Nat):Int)],((0:Nat):Int),noVal,-1,[]⟩
theorem RowC.ins {w:World}{C cg n c i:Nat}{xs:List InsP}{q:InsP}(h:RowC w C (some ⟨cg,0,none⟩,n,c) xs)(hq:xs[i]?=some q):∃ a r:Option Addr×Nat×Nat,(∀ t u,(icn q a r)[t]?=some u→w.cell? ⟨cg,i*11+t,none⟩=some u)∧IRowP (fun b=>b<C) w a.1 a.2.1 a.2.2 q.args∧IRowP (fun b=>b<C) w r.1 r.2.1 r.2.2 q.resets∧cg<C:=by
  obtain⟨g,arr,h1,h2,h3,h4,h5⟩:=h
  obtain⟨a,r,k1,k2,k3⟩:=h5 i q hq
  have e:cg=g:=by
    injection h1 with e _
    injection e with e
    injection e
  subst e
  exact⟨a,r,fun t u hu=>h3.cell _ (k1 t u hu),k2,k3,h2⟩
theorem irow_one {P:Nat→Prop}{w:World}{A:Option Addr}{n c:Nat}{x:Int}(h:IRowP P w A n c [x]):∃ b o,A=some ⟨b,o,none⟩∧n=1∧P b∧w.cell? ⟨b,o,none⟩=some (.int .i64 x):=by
  obtain⟨h1,h2,h3,hn,b,off,h6,h7⟩:=h
  have e:n=1:=h1.symm
  subst e
  exact⟨b,off,h6.resolve_right (by omega),rfl,(h7 0 (by omega)).1,by simpa using (h7 0 (by omega)).2⟩
structure MS where
  m4:Value
  m5:Value
  m6:Value
  m7:Value
  m8:Value
  m9:Value
  m10:Value
  m12:Value
  m13:Value
  m15:Value
  m16:Value
  m18:Value
  m19:Value
def MS.list (M:MS):List Value:=[M.m4,M.m5,M.m6,M.m7,M.m8,M.m9,M.m10,M.m12,M.m13,M.m15,M.m16,M.m18,M.m19]
def KeepN (w w':World):Prop:=∀(t:RV) (k j:Nat) (q:Rat),t.Is k j q w→t.Is k j q w'
theorem RowC.only {w w':World}{C:Nat}{n:Option Addr×Nat×Nat}{xs:List InsP}{S:List (Option Nat)}(h:RowC w C n xs)(ho:Only S w w')(hC:C≤w.heap.size)(hS:∀ j,some j∈S→C≤j):RowC w' C n xs:=by
  obtain⟨g,arr,h1,h2,h3,h4,h5⟩:=h
  exact⟨g,arr,h1,h2,h3.only ho (fun e=>by have:=hS g e;omega),h4,fun i q hq=>(h5 i q hq).keep (keepOnly ho fun b h=>⟨by omega,fun e=>by have:=hS b e;omega,h⟩)⟩
theorem InAt.onlyI {w w':World}{b off k:Nat}{r:RV}{S:List (Option Nat)}(h:InAt w b off k r)(ho:Only S w w')(hS:some b ∉ S):InAt w' b off k r:=
  ⟨Nat.lt_of_lt_of_le h.lt ho.size,(ho.cell (p:=⟨b,off+k*3,none⟩) h.lt hS).trans h.c0,(ho.cell (p:=⟨b,off+k*3+1,none⟩) h.lt hS).trans h.c1,(ho.cell (p:=⟨b,off+k*3+2,none⟩) h.lt hS).trans h.c2⟩
structure StM (w0 w:World) (C g sb ob cg ib:Nat) (M:MS) (u:Value) (r:RV):Prop where
  m:Blk w g 65 #[.int .i64 50,.bool false,.bool false,.bool true,M.m4,M.m5,M.m6,M.m7,M.m8,M.m9,M.m10,.slice (some ⟨cg,0,none⟩) 4 4,M.m12,M.m13,.slice (some ⟨sb,0,none⟩) 2 2,M.m15,M.m16,.slice (some ⟨ob,0,none⟩) 1 1,M.m18,M.m19,.bool false,u]
  row:RowC w C (some ⟨cg,0,none⟩,4,4) [I0,I1,I2,I3]
  only:Only [some g,some sb,some ob] w0 w
  inp:InAt w ib 0 0 r
  rin:r.Is 19 19 3 w
  mok:∀ v∈M.list,∀ z:Int,v≠Value.int .u32 z
  uok:∀ z:Int,u≠Value.int .u32 z
  ne1:sb≠g
  ne2:ob≠g
  ne3:ob≠sb
  ni:ib≠g∧ib≠sb∧ib≠ob
  lC:C≤g∧C≤sb∧C≤ob
  l0:g<w0.heap.size∧sb<w0.heap.size∧ob<w0.heap.size∧ib<w0.heap.size
theorem mach_noU {M:MS}{u:Value}{sb ob cg:Nat}(h:∀ v∈M.list,∀ z:Int,v≠Value.int .u32 z)(hu:∀ z:Int,u≠Value.int .u32 z):NoU #[.int .i64 50,.bool false,.bool false,.bool true,M.m4,M.m5,M.m6,M.m7,M.m8,M.m9,M.m10,.slice (some ⟨cg,0,none⟩) 4 4,M.m12,M.m13,.slice (some ⟨sb,0,none⟩) 2 2,M.m15,M.m16,.slice (some ⟨ob,0,none⟩) 1 1,M.m18,M.m19,.bool false,u]:=by
  refine NoU.mem.2 fun x hx z=>?_
  simp only [List.mem_cons,List.not_mem_nil,or_false] at hx
  have hM:∀ v,v∈M.list→v≠Value.int .u32 z:=fun v hv=>h v hv z
  simp only [MS.list,List.mem_cons,List.not_mem_nil,or_false,forall_eq_or_imp,forall_eq] at hM
  rcases hx with rfl | rfl | rfl | rfl | rfl | rfl | rfl | rfl | rfl | rfl | rfl | rfl | rfl | rfl | rfl | rfl | rfl | rfl | rfl | rfl | rfl | rfl <;> first | (simp;done) | exact hu z | (exact hM.1) | (exact hM.2.1) | (exact hM.2.2.1) | (exact hM.2.2.2.1) | (exact hM.2.2.2.2.1) | (exact hM.2.2.2.2.2.1) | (exact hM.2.2.2.2.2.2.1) | (exact hM.2.2.2.2.2.2.2.1) | (exact hM.2.2.2.2.2.2.2.2.1) | (exact hM.2.2.2.2.2.2.2.2.2.1) | (exact hM.2.2.2.2.2.2.2.2.2.2.1) | (exact hM.2.2.2.2.2.2.2.2.2.2.2.1) | (exact hM.2.2.2.2.2.2.2.2.2.2.2.2)
set_option maxHeartbeats 4000000 in
theorem s_in {w0 w:World}{C g sb ob cg ib:Nat}{M:MS}{r:RV}(arr arrO:Array Value)(aa rs:Value)(h:StM w0 w C g sb ob cg ib M (.slice none 0 0) r)(hs:Blk w sb 51 arr)(hno:NoU arr)(hsz:arr.size=10)(ho:Blk w ob 51 arrO)(hnoO:NoU arrO)(hC:C≤w.heap.size) :
    Calls Tryz.prog 61 #[.pointer (some ⟨g,0,none⟩),.agg #[.string ⟨#[105,110]⟩,.int .i64 ((0:Nat):Int),aa,.int .i64 ((0:Nat):Int),.int .i64 0,.bool false,.slice none 0 0,.slice none 0 0,.string ⟨#[]⟩,.int .i64 (-1),rs],.agg #[.slice (some ⟨ib,0,none⟩) 1 1,.slice none 0 0]] w fun e w'=>e=.returned (.tuple #[])∧StM w0 w' C g sb ob cg ib M (.slice none 0 0) r∧KeepN w w'∧(∃ r0:RV,Blk w' sb 51 (put5A arr (0*5) (.int .i64 2) (.bool r0.s) (.slice r0.a r0.n r0.c) (.slice r0.b r0.m r0.d) (.string ⟨#[]⟩))∧r0.Is 19 19 3 w')∧Blk w' ob 51 arrO:=by
  have hE:∀ W,Below w.heap.size w W→Calls Tryz.prog 104 #[.pointer (some ⟨g,0,none⟩),.agg #[.string ⟨#[105,110]⟩,.int .i64 ((0:Nat):Int),aa,.int .i64 ((0:Nat):Int),.int .i64 0,.bool false,.slice none 0 0,.slice none 0 0,.string ⟨#[]⟩,.int .i64 (-1),rs],.agg #[.slice (some ⟨ib,0,none⟩) 1 1,.slice none 0 0]] W fun e w'=>(∃ r:RV,e=.returned (.agg #[.int .i64 2,.bool r.s,.slice r.a r.n r.c,.slice r.b r.m r.d,.string ⟨#[]⟩])∧r.Is 19 19 3 w')∧Only [] W w'∧∃ u,Blk w' g 65 #[.int .i64 50,.bool false,.bool false,.bool true,M.m4,M.m5,M.m6,M.m7,M.m8,M.m9,M.m10,.slice (some ⟨cg,0,none⟩) 4 4,M.m12,M.m13,.slice (some ⟨sb,0,none⟩) 2 2,M.m15,M.m16,.slice (some ⟨ob,0,none⟩) 1 1,M.m18,M.m19,.bool false,u]∧u=.slice none 0 0:=by
    intro W hb
    refine(equation_in g 50 false false (FAt.ofM (h.m.later hb)) _ _ _ _ _ _ _ _ ib 0 1 1 none 0 0 0 (by omega) (by omega) (h.rin.later hb) (h.inp.later hb) (by omega) (by rw [bits_3];omega)).mono ?_
    rintro e w' ⟨r1,rfl,hr1,hb1⟩
    exact⟨⟨r1,rfl,hr1⟩,Only.of_below hb1,_,(h.m.later hb).later hb1,rfl⟩
  refine(stepE_in [] (fun u _=>u=.slice none 0 0) g sb 0 2 2 51 3 50 false false _ _ _ _ _ _ _ _ _ _ _ _ _ _ _ _ _ _ _ _ _ _ _ _ _ _ _ _ _ arr hE ⟨by simp,by simp⟩ (fun u W W' h _=>h) hno (by omega) h.m hs h.ne1 (by omega) (by omega)).mono ?_
  rintro e w' ⟨rfl,ho1,⟨u,hm,rfl⟩,r0,hk,hr0⟩
  have hkn:KeepN w w':=fun t k j q ht=>ht.onlyL (fun j hj=>by simp at hj;subst hj;exact⟨_,_,hs,hno⟩) ho1
  exact⟨rfl,⟨hm,h.row.only ho1 hC (by intro j hj;simp at hj;have:=h.lC;omega),h.only.andThen ho1 (by intro j hj _;simp at hj ⊢;exact Or.inr (Or.inl hj)),h.inp.onlyI ho1 (by simp;exact h.ni.2.1),hkn _ _ _ _ h.rin,h.mok,h.uok,h.ne1,h.ne2,h.ne3,h.ni,h.lC,h.l0⟩,hkn,⟨r0,hk,hr0⟩,ho.onlyE ho1 ho.lt (by simp;exact h.ne3)⟩
set_option maxHeartbeats 4000000 in
theorem s_negN {w0 w:World}{C g sb ob cg ib:Nat}{M:MS}{r:RV}(arr arrO:Array Value)(ab ao ca d s:Nat)(x:VM)(rs gi gf:Value)(h:StM w0 w C g sb ob cg ib M (.slice none 0 0) r)(hs:Blk w sb 51 arr)(hno:NoU arr)(hsz:arr.size=10)(ho:Blk w ob 51 arrO)(hnoO:NoU arrO)(hC:C≤w.heap.size)(ha:w.cell? ⟨ab,ao,none⟩=some (.int .i64 (s:Int)))(habC:ab<C)(hx:VAt w sb (s*5) x)(hs2:s<2)(hd:d<2)(hk:x.k≠0)(hq:bitsQ (-x.q)=2) :
    Calls Tryz.prog 61 #[.pointer (some ⟨g,0,none⟩),.agg #[.string ⟨#[110,101,103]⟩,.int .i64 ((d:Nat):Int),.slice (some ⟨ab,ao,none⟩) 1 ca,.int .i64 ((0:Nat):Int),.int .i64 0,.bool false,.slice none 0 0,.slice none 0 0,.string ⟨#[]⟩,.int .i64 (-1),rs],.agg #[gi,gf]] w fun e w'=>e=.returned (.tuple #[])∧KeepN w w'∧(∃ h1 c1 y1,StM w0 w' C g sb ob cg ib M (.slice (some ⟨h1,0,none⟩) 1 c1) r∧OwnZ w' w0.heap.size (.slice (some ⟨h1,0,none⟩) 1 c1) [y1]∧w0.heap.size≤h1)∧(∃ r0:RV,Blk w' sb 51 (put5A arr (d*5) (.int .i64 2) (.bool r0.s) (.slice r0.a r0.n r0.c) (.slice r0.b r0.m r0.d) (.string ⟨#[]⟩))∧r0.Is 19 19 (-x.q) w')∧Blk w' ob 51 arrO:=by
  have hl0:=h.l0
  have hlC:=h.lC
  have hE:∀ W,Below w.heap.size w W→Calls Tryz.prog 104 #[.pointer (some ⟨g,0,none⟩),.agg #[.string ⟨#[110,101,103]⟩,.int .i64 ((d:Nat):Int),.slice (some ⟨ab,ao,none⟩) 1 ca,.int .i64 ((0:Nat):Int),.int .i64 0,.bool false,.slice none 0 0,.slice none 0 0,.string ⟨#[]⟩,.int .i64 (-1),rs],.agg #[gi,gf]] W fun e w'=>(∃ r:RV,e=.returned (.agg #[.int .i64 2,.bool r.s,.slice r.a r.n r.c,.slice r.b r.m r.d,.string ⟨#[]⟩])∧r.Is 19 19 (-x.q) w')∧Only [some g] W w'∧∃ u,Blk w' g 65 #[.int .i64 50,.bool false,.bool false,.bool true,M.m4,M.m5,M.m6,M.m7,M.m8,M.m9,M.m10,.slice (some ⟨cg,0,none⟩) 4 4,M.m12,M.m13,.slice (some ⟨sb,0,none⟩) 2 2,M.m15,M.m16,.slice (some ⟨ob,0,none⟩) 1 1,M.m18,M.m19,.bool false,u]∧(fun u W=>∃ h c y,u=.slice (some ⟨h,0,none⟩) 1 c∧OwnZ W w0.heap.size u [y]∧w0.heap.size≤h) u w':=by
    intro W hb
    refine(equation_negN g sb ab ao ca 2 2 s 50 false false x _ _ _ _ _ _ _ _ _ _ _ _ _ _ _ _ _ _ _ _ _ _ _ _ _ _ _ (h.m.later hb) (Nat.lt_of_lt_of_le hs.lt hb.size) h.ne1 (hx.later hs.lt hb) (by omega) (by omega) ((hb.cell (p:=⟨ab,ao,none⟩) (show ab<_ by omega)).trans ha) (by have:=hb.size;omega) (by have:=h.lC;omega) hk (by rw [hq];omega)).mono ?_
    rintro e w' ⟨⟨r1,rfl,hr1⟩,ho1,h1,c1,hm1,hz1,hc1⟩
    exact⟨⟨r1,rfl,hr1⟩,ho1,_,hm1,h1,c1,x,rfl,hz1.more (Nat.le_trans h.only.size hb.size),by have:=h.only.size;have:=hb.size;omega⟩
  refine(stepE_neg [some g] (fun u W=>∃ h c y,u=.slice (some ⟨h,0,none⟩) 1 c∧OwnZ W w0.heap.size u [y]∧w0.heap.size≤h) g sb d 2 2 51 (-x.q) 50 false false _ _ _ _ _ _ _ _ _ _ _ _ _ _ _ _ _ _ _ _ _ _ _ _ _ _ _ _ _ arr hE ⟨by simp;exact h.ne1,by intro j hj;simp at hj;have:=h.only.size;omega⟩ (fun u W W' hu hoo=>by
    obtain⟨h1,c1,y1,rfl,hz1,hc1⟩:=hu
    exact⟨h1,c1,y1,rfl,hz1.only hoo (by intro k hk;simp [Value.ownBlock] at hk;subst hk;simp;omega),hc1⟩) hno (by omega) h.m hs h.ne1 (by omega) (by omega)).mono ?_
  rintro e w' ⟨rfl,ho1,⟨u,hm,h1,c1,y1,rfl,hz1,hc1⟩,r0,hk0,hr0⟩
  have hkn:KeepN w w':=fun t k j q ht=>ht.onlyL (fun j hj=>by simp at hj;rcases hj with rfl | rfl;exact⟨_,_,hs,hno⟩;exact⟨_,_,h.m,mach_noU h.mok h.uok⟩) ho1
  refine⟨rfl,hkn,⟨h1,c1,y1,⟨hm,h.row.only ho1 hC (by intro j hj;simp at hj;omega),h.only.andThen ho1 (by intro j hj hlt;simp at hj ⊢;omega),h.inp.onlyI ho1 (by simp;have:=h.ni;exact⟨this.2.1,this.1⟩),hkn _ _ _ _ h.rin,h.mok,by intro z;simp,h.ne1,h.ne2,h.ne3,h.ni,h.lC,h.l0⟩,hz1,hc1⟩,⟨r0,hk0,hr0⟩,ho.onlyE ho1 ho.lt (by simp;have:=h.ne2;have:=h.ne3;exact⟨h.ne3,h.ne2⟩)⟩
set_option maxHeartbeats 4000000 in
theorem s_negO {w0 w:World}{C g sb ob cg ib:Nat}{M:MS}{r:RV}(arr arrO:Array Value)(ab ao ca d s:Nat)(x:VM)(h0 cc0:Nat)(y0:VM)(rs gi gf:Value)(h:StM w0 w C g sb ob cg ib M (.slice (some ⟨h0,0,none⟩) 1 cc0) r)(hz:OwnZ w w0.heap.size (.slice (some ⟨h0,0,none⟩) 1 cc0) [y0])(hz0:w0.heap.size≤h0)(hs:Blk w sb 51 arr)(hno:NoU arr)(hsz:arr.size=10)(ho:Blk w ob 51 arrO)(hnoO:NoU arrO)(hC:C≤w.heap.size)(ha:w.cell? ⟨ab,ao,none⟩=some (.int .i64 (s:Int)))(habC:ab<C)(hx:VAt w sb (s*5) x)(hs2:s<2)(hd:d<2)(hk:x.k≠0)(hq:bitsQ (-x.q)=2) :
    Calls Tryz.prog 61 #[.pointer (some ⟨g,0,none⟩),.agg #[.string ⟨#[110,101,103]⟩,.int .i64 ((d:Nat):Int),.slice (some ⟨ab,ao,none⟩) 1 ca,.int .i64 ((0:Nat):Int),.int .i64 0,.bool false,.slice none 0 0,.slice none 0 0,.string ⟨#[]⟩,.int .i64 (-1),rs],.agg #[gi,gf]] w fun e w'=>e=.returned (.tuple #[])∧KeepN w w'∧(∃ h1 c1 y1,StM w0 w' C g sb ob cg ib M (.slice (some ⟨h1,0,none⟩) 1 c1) r∧OwnZ w' w0.heap.size (.slice (some ⟨h1,0,none⟩) 1 c1) [y1]∧w0.heap.size≤h1)∧(∃ r0:RV,Blk w' sb 51 (put5A arr (d*5) (.int .i64 2) (.bool r0.s) (.slice r0.a r0.n r0.c) (.slice r0.b r0.m r0.d) (.string ⟨#[]⟩))∧r0.Is 19 19 (-x.q) w')∧Blk w' ob 51 arrO:=by
  have hl0:=h.l0
  have hlC:=h.lC
  have hE:∀ W,Below w.heap.size w W→Calls Tryz.prog 104 #[.pointer (some ⟨g,0,none⟩),.agg #[.string ⟨#[110,101,103]⟩,.int .i64 ((d:Nat):Int),.slice (some ⟨ab,ao,none⟩) 1 ca,.int .i64 ((0:Nat):Int),.int .i64 0,.bool false,.slice none 0 0,.slice none 0 0,.string ⟨#[]⟩,.int .i64 (-1),rs],.agg #[gi,gf]] W fun e w'=>(∃ r:RV,e=.returned (.agg #[.int .i64 2,.bool r.s,.slice r.a r.n r.c,.slice r.b r.m r.d,.string ⟨#[]⟩])∧r.Is 19 19 (-x.q) w')∧Only [some g,some h0] W w'∧∃ u,Blk w' g 65 #[.int .i64 50,.bool false,.bool false,.bool true,M.m4,M.m5,M.m6,M.m7,M.m8,M.m9,M.m10,.slice (some ⟨cg,0,none⟩) 4 4,M.m12,M.m13,.slice (some ⟨sb,0,none⟩) 2 2,M.m15,M.m16,.slice (some ⟨ob,0,none⟩) 1 1,M.m18,M.m19,.bool false,u]∧(fun u W=>∃ h c y,u=.slice (some ⟨h,0,none⟩) 1 c∧OwnZ W w0.heap.size u [y]∧w0.heap.size≤h) u w':=by
    intro W hb
    refine(equation_negO g sb ab ao ca 2 2 s 50 false false x h0 cc0 w0.heap.size y0 _ _ _ _ _ _ _ _ _ _ _ _ _ _ _ _ _ _ _ _ _ _ _ _ _ _ _ (h.m.later hb) (hz.later hb) (by have:=hb.size;have:=h.only.size;omega) (by have:=h.l0;have:=h.lC;omega) (Nat.lt_of_lt_of_le hs.lt hb.size) h.ne1 (hx.later hs.lt hb) (by omega) (by omega) ((hb.cell (p:=⟨ab,ao,none⟩) (show ab<_ by omega)).trans ha) (by have:=hb.size;omega) (by have:=h.lC;omega) hk (by rw [hq];omega)).mono ?_
    rintro e w' ⟨⟨r1,rfl,hr1⟩,ho1,h1,c1,hm1,hz1,hc1⟩
    exact⟨⟨r1,rfl,hr1⟩,ho1,_,hm1,h1,c1,x,rfl,hz1,by have:=h.only.size;have:=hb.size;omega⟩
  refine(stepE_neg [some g,some h0] (fun u W=>∃ h c y,u=.slice (some ⟨h,0,none⟩) 1 c∧OwnZ W w0.heap.size u [y]∧w0.heap.size≤h) g sb d 2 2 51 (-x.q) 50 false false _ _ _ _ _ _ _ _ _ _ _ _ _ _ _ _ _ _ _ _ _ _ _ _ _ _ _ _ _ arr hE ⟨by simp;exact⟨h.ne1,by omega⟩,by intro j hj;simp at hj;have:=h.only.size;have:h0<w.heap.size:=(hz.1.lt rfl).2;omega⟩ (fun u W W' hu hoo=>by
    obtain⟨h1,c1,y1,rfl,hz1,hc1⟩:=hu
    exact⟨h1,c1,y1,rfl,hz1.only hoo (by intro k hk;simp [Value.ownBlock] at hk;subst hk;simp;omega),hc1⟩) hno (by omega) h.m hs h.ne1 (by omega) (by omega)).mono ?_
  rintro e w' ⟨rfl,ho1,⟨u,hm,h1,c1,y1,rfl,hz1,hc1⟩,r0,hk0,hr0⟩
  have hkn:KeepN w w':=fun t k j q ht=>ht.onlyL (fun j hj=>by simp at hj;rcases hj with rfl | rfl | rfl;exact⟨_,_,hs,hno⟩;exact⟨_,_,h.m,mach_noU h.mok h.uok⟩;exact hz.2 _ rfl) ho1
  refine⟨rfl,hkn,⟨h1,c1,y1,⟨hm,h.row.only ho1 hC (by intro j hj;simp at hj;omega),h.only.andThen ho1 (by intro j hj hlt;simp at hj ⊢;omega),h.inp.onlyI ho1 (by simp;have:=h.ni;refine⟨this.2.1,this.1,by omega⟩),hkn _ _ _ _ h.rin,h.mok,by intro z;simp,h.ne1,h.ne2,h.ne3,h.ni,h.lC,h.l0⟩,hz1,hc1⟩,⟨r0,hk0,hr0⟩,ho.onlyE ho1 ho.lt (by simp;have:=h.ne2;have:=h.ne3;refine⟨h.ne3,h.ne2,by omega⟩)⟩
set_option maxHeartbeats 4000000 in
theorem s_out {w0 w:World}{C g sb ob cg ib:Nat}{M:MS}{r:RV}(arr arrO:Array Value)(ab ao ca s:Nat)(x:VM)(u rs gi gf:Value)(h:StM w0 w C g sb ob cg ib M u r)(hs:Blk w sb 51 arr)(hno:NoU arr)(hsz:arr.size=10)(ho:Blk w ob 51 arrO)(hnoO:NoU arrO)(hC:C≤w.heap.size)(hszO:arrO.size=5)(ha:w.cell? ⟨ab,ao,none⟩=some (.int .i64 (s:Int)))(habC:ab<C)(hx:VAt w sb (s*5) x)(hs2:s<2) :
    Calls Tryz.prog 61 #[.pointer (some ⟨g,0,none⟩),.agg #[.string ⟨#[111,117,116]⟩,.int .i64 ((0:Nat):Int),.slice (some ⟨ab,ao,none⟩) 1 ca,.int .i64 ((0:Nat):Int),.int .i64 0,.bool false,.slice none 0 0,.slice none 0 0,.string ⟨#[]⟩,.int .i64 (-1),rs],.agg #[gi,gf]] w fun e w'=>e=.returned (.tuple #[])∧KeepN w w'∧StM w0 w' C g sb ob cg ib M u r∧Blk w' ob 51 (put5A arrO (0*5) (.int .i64 x.k) (.bool x.r.s) (.slice x.r.a x.r.n x.r.c) (.slice x.r.b x.r.m x.r.d) (.string x.nm))∧x.r.Is 19 19 x.q w':=by
  have hl0:=h.l0
  have hlC:=h.lC
  have hsz0:=h.only.size
  refine(step_outZ g sb ob ab ao ca 2 2 1 1 s 0 51 _ _ _ _ _ _ _ _ _ _ _ _ _ _ _ _ _ _ _ _ _ _ _ _ _ _ _ _ _ x arrO h.m hs.lt hx ho hnoO (by omega) ha (by omega) h.ne2 h.ne3 (by omega) (by omega) (by omega) (by omega) (by omega)).mono ?_
  rintro e w' ⟨rfl,ho1,hk,hr⟩
  have hkn:KeepN w w':=fun t k j q ht=>ht.onlyL (fun j hj=>by simp at hj;subst hj;exact⟨_,_,ho,hnoO⟩) ho1
  exact⟨rfl,hkn,⟨h.m.onlyE ho1 h.m.lt (by simp;exact fun e=>h.ne2 e.symm),h.row.only ho1 hC (by intro j hj;simp at hj;omega),h.only.andThen ho1 (by intro j hj hlt;simp at hj ⊢;omega),h.inp.onlyI ho1 (by simp;exact h.ni.2.2),hkn _ _ _ _ h.rin,h.mok,h.uok,h.ne1,h.ne2,h.ne3,h.ni,h.lC,h.l0⟩,hk,hr⟩
end Go.Proofs.YtpnlbjnbgemocaaGreat
namespace Go.Proofs.YtpnlbjnbgemocaaGreat
set_option linter.unusedVariables false
set_option linter.unusedSimpArgs false
set_option maxRecDepth 100000
open Go.RowKit Nums
theorem bits_3':bitsQ (-(-3:Rat))=2:=by rw [Rat.neg_neg];exact bits_3
theorem zO_noU:NoU (Builtin.zeroCells zVal 1):=NoU.mem.2 (zero_noU 1)
theorem zO_size:(Builtin.zeroCells zVal 1).size=5:=by rw [zeroCells_size];rfl
theorem VAt.ofArr {w:World}{b o T:Nat}{arr:Array Value}{x:VM}(h:Blk w b T arr)(hc:∀ t u,x.cs[t]?=some u→arr[o+t]?=some u)(hr:x.r.Is 19 19 x.q w):VAt w b o x:=
  ⟨by have:=h.cell _ (hc 0 _ rfl);rwa [Nat.add_zero] at this,h.cell _ (hc 1 _ rfl),h.cell _ (hc 2 _ rfl),h.cell _ (hc 3 _ rfl),h.cell _ (hc 4 _ rfl),hr⟩
theorem far_at (arr:Array Value)(r:RV)(q:Rat)(x0 x1 x2 x3 x4:Value)(ho:1*5+5≤arr.size):∀(t:Nat) (u:Value),(VM.cs ⟨2,r,⟨#[]⟩,q⟩)[t]?=some u→(put5A (put5A arr (1*5) (.int .i64 2) (.bool r.s) (.slice r.a r.n r.c) (.slice r.b r.m r.d) (.string ⟨#[]⟩)) (0*5) x0 x1 x2 x3 x4)[1*5+t]?=some u:=by
  intro t u hu
  rw [put5A_far _ _ _ _ _ _ _ _ (by omega)]
  exact put5A_at _ _ _ _ _ _ _ _ u ho hu
theorem StM.laterM {w0 w w':World}{C g sb ob cg ib:Nat}{M:MS}{u:Value}{r:RV}(h:StM w0 w C g sb ob cg ib M u r)(hb:Below w.heap.size w w'):StM w0 w' C g sb ob cg ib M u r:=
  { h with m:=h.m.later hb,row:=h.row.below (hb.mono (by have:=h.lC;have:=h.m.lt;omega)),only:=h.only.trans (Only.of_below hb),inp:=h.inp.later hb,rin:=h.rin.later hb }
def StgA (w0:World)(C g sb ob cg ib:Nat)(M:MS)(r:RV):Nat→World→Prop
  | 0,wr=>StM w0 wr C g sb ob cg ib M (.slice none 0 0) r∧Blk wr sb 51 (madeCells zVal 10)∧Blk wr ob 51 (Builtin.zeroCells zVal 1)
  | 1,wr=>StM w0 wr C g sb ob cg ib M (.slice none 0 0) r∧∃ r0:RV,Blk wr sb 51 (put5A (madeCells zVal 10) (0*5) (.int .i64 2) (.bool r0.s) (.slice r0.a r0.n r0.c) (.slice r0.b r0.m r0.d) (.string ⟨#[]⟩))∧r0.Is 19 19 3 wr∧Blk wr ob 51 (Builtin.zeroCells zVal 1)
  | 2,wr=>∃ h c y,StM w0 wr C g sb ob cg ib M (.slice (some ⟨h,0,none⟩) 1 c) r∧OwnZ wr w0.heap.size (.slice (some ⟨h,0,none⟩) 1 c) [y]∧w0.heap.size≤h∧∃ r0 r1:RV,Blk wr sb 51 (put5A (put5A (madeCells zVal 10) (0*5) (.int .i64 2) (.bool r0.s) (.slice r0.a r0.n r0.c) (.slice r0.b r0.m r0.d) (.string ⟨#[]⟩)) (1*5) (.int .i64 2) (.bool r1.s) (.slice r1.a r1.n r1.c) (.slice r1.b r1.m r1.d) (.string ⟨#[]⟩))∧r0.Is 19 19 3 wr∧r1.Is 19 19 (-3) wr∧Blk wr ob 51 (Builtin.zeroCells zVal 1)
  | 3,wr=>∃ h c y,StM w0 wr C g sb ob cg ib M (.slice (some ⟨h,0,none⟩) 1 c) r∧OwnZ wr w0.heap.size (.slice (some ⟨h,0,none⟩) 1 c) [y]∧w0.heap.size≤h∧∃ r0 r1 r2:RV,Blk wr sb 51 (put5A (put5A (put5A (madeCells zVal 10) (0*5) (.int .i64 2) (.bool r0.s) (.slice r0.a r0.n r0.c) (.slice r0.b r0.m r0.d) (.string ⟨#[]⟩)) (1*5) (.int .i64 2) (.bool r1.s) (.slice r1.a r1.n r1.c) (.slice r1.b r1.m r1.d) (.string ⟨#[]⟩)) (0*5) (.int .i64 2) (.bool r2.s) (.slice r2.a r2.n r2.c) (.slice r2.b r2.m r2.d) (.string ⟨#[]⟩))∧r1.Is 19 19 (-3) wr∧Blk wr ob 51 (Builtin.zeroCells zVal 1)
  | _,wr=>∃ u,StM w0 wr C g sb ob cg ib M u r∧∃ r1:RV,Blk wr ob 51 (put5A (Builtin.zeroCells zVal 1) (0*5) (.int .i64 2) (.bool r1.s) (.slice r1.a r1.n r1.c) (.slice r1.b r1.m r1.d) (.string ⟨#[]⟩))∧r1.Is 19 19 (-3) wr
set_option maxHeartbeats 16000000 in
theorem stepA_t {w:World}(C g sb ob cg ib:Nat)(M:MS)(r:RV)(hm:Blk w g 65 #[.int .i64 0,.bool false,.bool false,.bool true,M.m4,M.m5,M.m6,M.m7,M.m8,M.m9,M.m10,.slice (some ⟨cg,0,none⟩) 4 4,M.m12,M.m13,.slice (some ⟨sb,0,none⟩) 2 2,M.m15,M.m16,.slice (some ⟨ob,0,none⟩) 1 1,M.m18,M.m19,.bool false,.slice none 0 0])(hrow:RowC w C (some ⟨cg,0,none⟩,4,4) [I0,I1,I2,I3])(hsb:Blk w sb 51 (madeCells zVal 10))(hob:Blk w ob 51 (madeCells zVal 5))(hin:InAt w ib 0 0 r)(hr:r.Is 19 19 3 w)(hM:∀ v∈M.list,∀ z:Int,v≠Value.int .u32 z)
    (ne1:sb≠g) (ne2:ob≠g) (ne3:ob≠sb) (ni:ib≠g∧ib≠sb∧ib≠ob) (lC:C≤g∧C≤sb∧C≤ob) :
    Calls Tryz.prog 26 #[.pointer (some ⟨g,0,none⟩),.slice (some ⟨ib,0,none⟩) 1 1,.slice none 0 0,.int .i64 50] w fun e w'=>e=.returned (.tuple #[.bool false,.bool false])∧∃ u,StM w w' C g sb ob cg ib M u r∧∃ r1:RV,Blk w' ob 51 (put5A (Builtin.zeroCells zVal 1) (0*5) (.int .i64 2) (.bool r1.s) (.slice r1.a r1.n r1.c) (.slice r1.b r1.m r1.d) (.string ⟨#[]⟩))∧r1.Is 19 19 (-3) w':=by
  have HM:=Lib.hid hm
  have HROW:=Lib.hid hrow
  have HSB:=Lib.hid hsb
  have HOB:=Lib.hid hob
  have HIN:=Lib.hid (And.intro hin (And.intro hr hM))
  have HNE:=Lib.hid (And.intro ne1 (And.intro ne2 (And.intro ne3 (And.intro ni lC))))
  clear hm hrow hsb hob hin hr hM ne1 ne2 ne3 ni lC
  go_enter Tryz.func26,Tryz.ntmps26
  go_upto_region 4 with (first
    | (go_at_call 36;(with_reducible refine(runs_yes HM.out rfl).mono ?_);rintro e w1 ⟨rfl,hw⟩;subst hw)
    | (go_at_call 41;(with_reducible refine(begin_t _ _ _ 50 HM.out rfl rfl rfl).mono ?_);rintro e w2 ⟨rfl,hw2⟩;have HW2:=Lib.hid hw2;clear hw2))
  have HME:Hid (Blk w2 g 65 #[.int .i64 50,.bool false,.bool false,.bool true,M.m4,M.m5,M.m6,M.m7,M.m8,M.m9,M.m10,.slice (some ⟨cg,0,none⟩) 4 4,M.m12,M.m13,.slice (some ⟨sb,0,none⟩) 2 2,M.m15,M.m16,.slice (some ⟨ob,0,none⟩) 1 1,M.m18,M.m19,.bool false,.slice none 0 0]):=Lib.hid (by
    rw [HW2.out]
    have b0:Blk (w1.setCell ⟨g,0,none⟩ (.int .i64 50)) g 65 #[.int .i64 50,.bool false,.bool false,.bool true,M.m4,M.m5,M.m6,M.m7,M.m8,M.m9,M.m10,.slice (some ⟨cg,0,none⟩) 4 4,M.m12,M.m13,.slice (some ⟨sb,0,none⟩) 2 2,M.m15,M.m16,.slice (some ⟨ob,0,none⟩) 1 1,M.m18,M.m19,.bool false,.slice none 0 0]:=HM.out.putI 0 _
    have b1:Blk ((w1.setCell ⟨g,0,none⟩ (.int .i64 50)).setCell ⟨g,1,none⟩ (.bool false)) g 65 #[.int .i64 50,.bool false,.bool false,.bool true,M.m4,M.m5,M.m6,M.m7,M.m8,M.m9,M.m10,.slice (some ⟨cg,0,none⟩) 4 4,M.m12,M.m13,.slice (some ⟨sb,0,none⟩) 2 2,M.m15,M.m16,.slice (some ⟨ob,0,none⟩) 1 1,M.m18,M.m19,.bool false,.slice none 0 0]:=b0.putI 1 _
    exact b1.putI 2 _)
  have HO2:=Lib.hid (show Only [some g] w1 w2 by rw [HW2.out];exact((Only.set (S:=[some g]) (by simp) _ _ _).trans (Only.set (by simp) _ _ _)).trans (Only.set (by simp) _ _ _))
  have HR2:=Lib.hid (show r.Is 19 19 3 w2 by
    rw [HW2.out]
    have b0:Blk (w1.setCell ⟨g,0,none⟩ (.int .i64 50)) g 65 #[.int .i64 50,.bool false,.bool false,.bool true,M.m4,M.m5,M.m6,M.m7,M.m8,M.m9,M.m10,.slice (some ⟨cg,0,none⟩) 4 4,M.m12,M.m13,.slice (some ⟨sb,0,none⟩) 2 2,M.m15,M.m16,.slice (some ⟨ob,0,none⟩) 1 1,M.m18,M.m19,.bool false,.slice none 0 0]:=HM.out.putI 0 _
    have b1:Blk ((w1.setCell ⟨g,0,none⟩ (.int .i64 50)).setCell ⟨g,1,none⟩ (.bool false)) g 65 #[.int .i64 50,.bool false,.bool false,.bool true,M.m4,M.m5,M.m6,M.m7,M.m8,M.m9,M.m10,.slice (some ⟨cg,0,none⟩) 4 4,M.m12,M.m13,.slice (some ⟨sb,0,none⟩) 2 2,M.m15,M.m16,.slice (some ⟨ob,0,none⟩) 1 1,M.m18,M.m19,.bool false,.slice none 0 0]:=b0.putI 1 _
    exact((HIN.out.2.1.setB HM.out (i:=0) rfl (by intro z;simp) _).setB b0 (i:=1) rfl (by intro z;simp) _).setB b1 (i:=2) rfl (by intro z;simp) _)
  have HOB2:=Lib.hid (HOB.out.onlyE HO2.out HOB.out.lt (by simp;exact HNE.out.2.1))
  have q17:=HME.out.cell 17 rfl
  clear HW2
  go_upto_region 5 with (refine wpList_clear (n:=1) rfl _ 22 51 rfl zVal 5 80 Tryz.underlying22 Tryz.zInfo51 zVal_cells rfl (zVal_one 1) ob 1 (madeCells zVal 5) rfl HOB2.out (size_madeCells _ _) ?_;intro w3 hk3 ho3;have HOB3:=Lib.hid hk3;have HO3:=Lib.hid ho3;clear hk3 ho3 q17)
  have HM3:=Lib.hid (HME.out.onlyE HO3.out HME.out.lt (by simp;exact fun e=>HNE.out.2.1 e.symm))
  have HR3:=Lib.hid (HR2.out.onlyU HOB2.out (NoU.made _ _ zVal_noU) HO3.out)
  have q20:=HM3.out.cell 20 rfl
  have f20:=HM3.out.free 20
  go_upto_region 6 with fail
  obtain⟨W4,hW4⟩:∃ W4,W4=w3.setCell ⟨g,20,none⟩ (.bool false):=⟨_,rfl⟩
  have HM4:Hid (Blk W4 g 65 #[.int .i64 50,.bool false,.bool false,.bool true,M.m4,M.m5,M.m6,M.m7,M.m8,M.m9,M.m10,.slice (some ⟨cg,0,none⟩) 4 4,M.m12,M.m13,.slice (some ⟨sb,0,none⟩) 2 2,M.m15,M.m16,.slice (some ⟨ob,0,none⟩) 1 1,M.m18,M.m19,.bool false,.slice none 0 0]):=Lib.hid (by rw [hW4];exact HM3.out.putI 20 _)
  have HO4:=Lib.hid (show Only [some g,some sb,some ob] w1 W4 by rw [hW4];exact((HO2.out.weak (by intro j hj;simp at hj ⊢;exact Or.inl hj)).trans (HO3.out.weak (by intro j hj;simp at hj ⊢;exact Or.inr (Or.inr hj)))).trans (Only.set (by simp) _ _ _))
  have HO4b:=Lib.hid (show Only [some g,some ob] w1 W4 by rw [hW4];exact((HO2.out.weak (by intro j hj;simp at hj ⊢;exact Or.inl hj)).trans (HO3.out.weak (by intro j hj;simp at hj ⊢;exact Or.inr hj))).trans (Only.set (by simp) _ _ _))
  have HR4:=Lib.hid (show r.Is 19 19 3 W4 by rw [hW4];exact HR3.out.setB HM3.out (i:=20) rfl (by intro z;simp) _)
  have HOB4:=Lib.hid (show Blk W4 ob 51 (Builtin.zeroCells zVal 1) by rw [hW4];exact HOB3.out.onlyE (Only.set (S:=[some g]) (by simp) _ _ _) HOB3.out.lt (by simp;exact HNE.out.2.1))
  rw [←hW4]
  clear hW4 q20 f20
  have HSTM:=Lib.hid (show StM w1 W4 C g sb ob cg ib M (.slice none 0 0) r from⟨HM4.out,HROW.out.only HO4.out (by have h1:=HM.out.lt;have h2:=HNE.out.2.2.2.2;omega) (by intro j hj;simp at hj;have h2:=HNE.out.2.2.2.2;omega),HO4.out,HIN.out.1.onlyI HO4.out (by simp;exact HNE.out.2.2.2.1),HR4.out,HIN.out.2.2,by intro z;simp,HNE.out.1,HNE.out.2.1,HNE.out.2.2.1,HNE.out.2.2.2.1,HNE.out.2.2.2.2,HM.out.lt,HSB.out.lt,HOB.out.lt,HIN.out.1.lt⟩)
  have HSB4:=Lib.hid (HSB.out.onlyE HO4b.out HSB.out.lt (by simp;exact⟨HNE.out.1,fun e=>HNE.out.2.2.1 e.symm⟩))
  have q11:=HM4.out.cell 11 rfl
  clear HME HO2 HR2 HOB2 HM3 HR3 HOB3 HO3 HO4 HO4b HR4 HM HROW HSB HOB HIN HNE
  go_wp2_with fail
  clear q11 HM4
  go_loopw [33] (fun t wr=>∃ k:Nat,k≤4∧t=.int .i64 k∧Hid (StgA w1 C g sb ob cg ib M r k wr)) (fun t _=>4-(intOf t).toNat)
  case atStart=>exact⟨0,by omega,rfl,Lib.hid ⟨HSTM.out,HSB4.out,HOB4.out⟩⟩
  case round=>
    obtain⟨k,hk,rfl,HS⟩:=hrel
    clear HSTM HSB4 HOB4
    rcases(show k=0∨k=1∨k=2∨k=3∨k=4 by omega) with rfl | rfl | rfl | rfl | rfl
    · clear hk
      obtain⟨hS,hsb,hob⟩:=HS.out
      clear HS
      obtain⟨a,rr,hc,ha,hrr,hcg⟩:=hS.row.ins (i:=0) (q:=I0) rfl
      have c0:wr.cell? ⟨cg,0,none⟩=some (.string ⟨#[105,110]⟩):=hc 0 _ rfl
      have c1:wr.cell? ⟨cg,1,none⟩=some (.int .i64 0):=hc 1 _ rfl
      have c2:wr.cell? ⟨cg,2,none⟩=some (.slice a.1 a.2.1 a.2.2):=hc 2 _ rfl
      have c3:wr.cell? ⟨cg,3,none⟩=some (.int .i64 0):=hc 3 _ rfl
      have c4:wr.cell? ⟨cg,4,none⟩=some (.int .i64 0):=hc 4 _ rfl
      have c5:wr.cell? ⟨cg,5,none⟩=some (.bool false):=hc 5 _ rfl
      have c6:wr.cell? ⟨cg,6,none⟩=some (.slice none 0 0):=hc 6 _ rfl
      have c7:wr.cell? ⟨cg,7,none⟩=some (.slice none 0 0):=hc 7 _ rfl
      have c8:wr.cell? ⟨cg,8,none⟩=some (.string ⟨#[]⟩):=hc 8 _ rfl
      have c9:wr.cell? ⟨cg,9,none⟩=some (.int .i64 (-1)):=hc 9 _ rfl
      have c10:wr.cell? ⟨cg,10,none⟩=some (.slice rr.1 rr.2.1 rr.2.2):=hc 10 _ rfl
      have HSS:=Lib.hid hS
      have HSB:=Lib.hid hsb
      have HOB:=Lib.hid hob
      clear hS hsb hob hc ha hrr hcg
      go_upto_region 9 with fail
      obtain⟨W3,hW3⟩:∃ W3,W3=wr.alloc (.cells #[.string ⟨#[105,110]⟩,.int .i64 0,.slice a.1 a.2.1 a.2.2,.int .i64 0,.int .i64 0,.bool false,.slice none 0 0,.slice none 0 0,.string ⟨#[]⟩,.int .i64 (-1),.slice rr.1 rr.2.1 rr.2.2] 96):=⟨_,rfl⟩
      have hb3:Below wr.heap.size wr W3:=by rw [hW3];exact(Below.refl _ _).alloc (Nat.le_refl _) _
      have HK3:=Lib.hid (show Blk W3 wr.heap.size 96 #[.string ⟨#[105,110]⟩,.int .i64 0,.slice a.1 a.2.1 a.2.2,.int .i64 0,.int .i64 0,.bool false,.slice none 0 0,.slice none 0 0,.string ⟨#[]⟩,.int .i64 (-1),.slice rr.1 rr.2.1 rr.2.2] by rw [hW3];exact Blk.new _ _ _)
      rw [←hW3]
      have HS3:=Lib.hid (HSS.out.laterM hb3)
      have HSB3:=Lib.hid (HSB.out.later hb3)
      have HOB3:=Lib.hid (HOB.out.later hb3)
      have hC3:Hid (C≤W3.heap.size):=Lib.hid (by have h1:=HS3.out.lC;have h2:=HSB3.out.lt;omega)
      have HCT:=Lib.hid (show Calls Tryz.prog 61 #[.pointer (some ⟨g,0,none⟩),.agg #[.string ⟨#[105,110]⟩,.int .i64 0,.slice a.1 a.2.1 a.2.2,.int .i64 0,.int .i64 0,.bool false,.slice none 0 0,.slice none 0 0,.string ⟨#[]⟩,.int .i64 (-1),.slice rr.1 rr.2.1 rr.2.2],.agg #[.slice (some ⟨ib,0,none⟩) 1 1,.slice none 0 0]] W3 _ from s_in _ _ _ _ HS3.out HSB3.out (NoU.made _ _ zVal_noU) (size_madeCells _ _) HOB3.out zO_noU hC3.out)
      have HB3:=Lib.hid hb3
      clear hW3 hb3 c0 c1 c2 c3 c4 c5 c6 c7 c8 c9 c10
      have p0:W3.cell? ⟨wr.heap.size,0,none⟩=some (.string ⟨#[105,110]⟩):=HK3.out.cell 0 rfl
      have p1:W3.cell? ⟨wr.heap.size,1,none⟩=some (.int .i64 0):=HK3.out.cell 1 rfl
      have p2:W3.cell? ⟨wr.heap.size,2,none⟩=some (.slice a.1 a.2.1 a.2.2):=HK3.out.cell 2 rfl
      have p3:W3.cell? ⟨wr.heap.size,3,none⟩=some (.int .i64 0):=HK3.out.cell 3 rfl
      have p4:W3.cell? ⟨wr.heap.size,4,none⟩=some (.int .i64 0):=HK3.out.cell 4 rfl
      have p5:W3.cell? ⟨wr.heap.size,5,none⟩=some (.bool false):=HK3.out.cell 5 rfl
      have p6:W3.cell? ⟨wr.heap.size,6,none⟩=some (.slice none 0 0):=HK3.out.cell 6 rfl
      have p7:W3.cell? ⟨wr.heap.size,7,none⟩=some (.slice none 0 0):=HK3.out.cell 7 rfl
      have p8:W3.cell? ⟨wr.heap.size,8,none⟩=some (.string ⟨#[]⟩):=HK3.out.cell 8 rfl
      have p9:W3.cell? ⟨wr.heap.size,9,none⟩=some (.int .i64 (-1)):=HK3.out.cell 9 rfl
      have p10:W3.cell? ⟨wr.heap.size,10,none⟩=some (.slice rr.1 rr.2.1 rr.2.2):=HK3.out.cell 10 rfl
      go_wp2_with (go_at_call 61;refine HCT.out.mono ?_;rintro e w4 ⟨rfl,hS4,hkn,⟨r0,hk0,hr0⟩,ho4⟩)
      go_roundw
      case rel=>exact⟨1,by omega,by first | rfl | go_num,Lib.hid ⟨hS4,r0,hk0,hr0,ho4⟩⟩
      case measure=>simp [intOf]
    · clear hk
      obtain⟨hS,r0,hsb,hr0,hob⟩:=HS.out
      clear HS
      obtain⟨a,rr,hc,ha,hrr,hcg⟩:=hS.row.ins (i:=1) (q:=I1) rfl
      obtain⟨aA,an,ac⟩:=a
      obtain⟨ab,ao,rfl,rfl,habC,hab⟩:=irow_one ha
      have c0:wr.cell? ⟨cg,11,none⟩=some (.string ⟨#[110,101,103]⟩):=hc 0 _ rfl
      have c1:wr.cell? ⟨cg,12,none⟩=some (.int .i64 1):=hc 1 _ rfl
      have c2:wr.cell? ⟨cg,13,none⟩=some (.slice (some ⟨ab,ao,none⟩) 1 ac):=hc 2 _ rfl
      have c3:wr.cell? ⟨cg,14,none⟩=some (.int .i64 0):=hc 3 _ rfl
      have c4:wr.cell? ⟨cg,15,none⟩=some (.int .i64 0):=hc 4 _ rfl
      have c5:wr.cell? ⟨cg,16,none⟩=some (.bool false):=hc 5 _ rfl
      have c6:wr.cell? ⟨cg,17,none⟩=some (.slice none 0 0):=hc 6 _ rfl
      have c7:wr.cell? ⟨cg,18,none⟩=some (.slice none 0 0):=hc 7 _ rfl
      have c8:wr.cell? ⟨cg,19,none⟩=some (.string ⟨#[]⟩):=hc 8 _ rfl
      have c9:wr.cell? ⟨cg,20,none⟩=some (.int .i64 (-1)):=hc 9 _ rfl
      have c10:wr.cell? ⟨cg,21,none⟩=some (.slice rr.1 rr.2.1 rr.2.2):=hc 10 _ rfl
      have HSS:=Lib.hid hS
      have HSB:=Lib.hid hsb
      have HOB:=Lib.hid hob
      have HAB:=Lib.hid (And.intro habC hab)
      have HR0:=Lib.hid hr0
      clear hS hsb hob hc ha hrr hcg habC hab hr0
      go_upto_region 9 with fail
      obtain⟨W3,hW3⟩:∃ W3,W3=wr.alloc (.cells #[.string ⟨#[110,101,103]⟩,.int .i64 1,.slice (some ⟨ab,ao,none⟩) 1 ac,.int .i64 0,.int .i64 0,.bool false,.slice none 0 0,.slice none 0 0,.string ⟨#[]⟩,.int .i64 (-1),.slice rr.1 rr.2.1 rr.2.2] 96):=⟨_,rfl⟩
      have hb3:Below wr.heap.size wr W3:=by rw [hW3];exact(Below.refl _ _).alloc (Nat.le_refl _) _
      have HK3:=Lib.hid (show Blk W3 wr.heap.size 96 #[.string ⟨#[110,101,103]⟩,.int .i64 1,.slice (some ⟨ab,ao,none⟩) 1 ac,.int .i64 0,.int .i64 0,.bool false,.slice none 0 0,.slice none 0 0,.string ⟨#[]⟩,.int .i64 (-1),.slice rr.1 rr.2.1 rr.2.2] by rw [hW3];exact Blk.new _ _ _)
      rw [←hW3]
      have HS3:=Lib.hid (HSS.out.laterM hb3)
      have HSB3:=Lib.hid (HSB.out.later hb3)
      have HOB3:=Lib.hid (HOB.out.later hb3)
      have hC3:Hid (C≤W3.heap.size):=Lib.hid (by have h1:=HS3.out.lC;have h2:=HSB3.out.lt;omega)
      have hab3:Hid (W3.cell? ⟨ab,ao,none⟩=some (.int .i64 (0:Int))):=Lib.hid ((hb3.cell (p:=⟨ab,ao,none⟩) (show ab<_ by have h1:=HSS.out.lC;have h2:=HSB.out.lt;have h3:=HAB.out.1;omega)).trans HAB.out.2)
      have HCT:=Lib.hid (show Calls Tryz.prog 61 #[.pointer (some ⟨g,0,none⟩),.agg #[.string ⟨#[110,101,103]⟩,.int .i64 1,.slice (some ⟨ab,ao,none⟩) 1 ac,.int .i64 0,.int .i64 0,.bool false,.slice none 0 0,.slice none 0 0,.string ⟨#[]⟩,.int .i64 (-1),.slice rr.1 rr.2.1 rr.2.2],.agg #[.slice (some ⟨ib,0,none⟩) 1 1,.slice none 0 0]] W3 _ from s_negN _ _ ab ao ac 1 0 ⟨2,r0,⟨#[]⟩,3⟩ _ _ _ HS3.out HSB3.out (put5A_noU (NoU.made _ _ zVal_noU) _ ⟨2,r0,⟨#[]⟩,3⟩ r0) (by rw [put5A_size];exact size_madeCells _ _) HOB3.out zO_noU hC3.out hab3.out HAB.out.1 (VAt.ofArr HSB3.out (fun t u hu=>put5A_at _ _ _ _ _ _ _ _ u (by rw [size_madeCells];omega) hu) (HR0.out.later hb3)) (by omega) (by omega) (show(2:Int)≠0 by omega) bits_m3)
      have HB3:=Lib.hid hb3
      clear hW3 hb3 c0 c1 c2 c3 c4 c5 c6 c7 c8 c9 c10
      have p0:W3.cell? ⟨wr.heap.size,0,none⟩=some (.string ⟨#[110,101,103]⟩):=HK3.out.cell 0 rfl
      have p1:W3.cell? ⟨wr.heap.size,1,none⟩=some (.int .i64 1):=HK3.out.cell 1 rfl
      have p2:W3.cell? ⟨wr.heap.size,2,none⟩=some (.slice (some ⟨ab,ao,none⟩) 1 ac):=HK3.out.cell 2 rfl
      have p3:W3.cell? ⟨wr.heap.size,3,none⟩=some (.int .i64 0):=HK3.out.cell 3 rfl
      have p4:W3.cell? ⟨wr.heap.size,4,none⟩=some (.int .i64 0):=HK3.out.cell 4 rfl
      have p5:W3.cell? ⟨wr.heap.size,5,none⟩=some (.bool false):=HK3.out.cell 5 rfl
      have p6:W3.cell? ⟨wr.heap.size,6,none⟩=some (.slice none 0 0):=HK3.out.cell 6 rfl
      have p7:W3.cell? ⟨wr.heap.size,7,none⟩=some (.slice none 0 0):=HK3.out.cell 7 rfl
      have p8:W3.cell? ⟨wr.heap.size,8,none⟩=some (.string ⟨#[]⟩):=HK3.out.cell 8 rfl
      have p9:W3.cell? ⟨wr.heap.size,9,none⟩=some (.int .i64 (-1)):=HK3.out.cell 9 rfl
      have p10:W3.cell? ⟨wr.heap.size,10,none⟩=some (.slice rr.1 rr.2.1 rr.2.2):=HK3.out.cell 10 rfl
      go_wp2_with (go_at_call 61;refine HCT.out.mono ?_;rintro e w4 ⟨rfl,hkn,⟨h1,c1,y1,hS4,hz4,hl4⟩,⟨r1,hk1,hr1⟩,ho4⟩;have hr0':=hkn _ _ _ _ (HR0.out.later HB3.out))
      go_roundw
      case rel=>exact⟨2,by omega,by first | rfl | go_num,Lib.hid ⟨h1,c1,y1,hS4,hz4,hl4,r0,r1,hk1,hr0',hr1,ho4⟩⟩
      case measure=>simp [intOf]
    · clear hk
      obtain⟨h,c,y,hS,hz,hzl,r0,r1,hsb,hr0,hr1,hob⟩:=HS.out
      clear HS
      obtain⟨a,rr,hc,ha,hrr,hcg⟩:=hS.row.ins (i:=2) (q:=I2) rfl
      obtain⟨aA,an,ac⟩:=a
      obtain⟨ab,ao,rfl,rfl,habC,hab⟩:=irow_one ha
      have c0:wr.cell? ⟨cg,22,none⟩=some (.string ⟨#[110,101,103]⟩):=hc 0 _ rfl
      have c1:wr.cell? ⟨cg,23,none⟩=some (.int .i64 0):=hc 1 _ rfl
      have c2:wr.cell? ⟨cg,24,none⟩=some (.slice (some ⟨ab,ao,none⟩) 1 ac):=hc 2 _ rfl
      have c3:wr.cell? ⟨cg,25,none⟩=some (.int .i64 0):=hc 3 _ rfl
      have c4:wr.cell? ⟨cg,26,none⟩=some (.int .i64 0):=hc 4 _ rfl
      have c5:wr.cell? ⟨cg,27,none⟩=some (.bool false):=hc 5 _ rfl
      have c6:wr.cell? ⟨cg,28,none⟩=some (.slice none 0 0):=hc 6 _ rfl
      have c7:wr.cell? ⟨cg,29,none⟩=some (.slice none 0 0):=hc 7 _ rfl
      have c8:wr.cell? ⟨cg,30,none⟩=some (.string ⟨#[]⟩):=hc 8 _ rfl
      have c9:wr.cell? ⟨cg,31,none⟩=some (.int .i64 (-1)):=hc 9 _ rfl
      have c10:wr.cell? ⟨cg,32,none⟩=some (.slice rr.1 rr.2.1 rr.2.2):=hc 10 _ rfl
      have HSS:=Lib.hid hS
      have HSB:=Lib.hid hsb
      have HOB:=Lib.hid hob
      have HAB:=Lib.hid (And.intro habC hab)
      have HR0:=Lib.hid hr0
      have HR1:=Lib.hid hr1
      have HZ:=Lib.hid (And.intro hz hzl)
      clear hS hsb hob hc ha hrr hcg habC hab hr0 hr1 hz hzl
      go_upto_region 9 with fail
      obtain⟨W3,hW3⟩:∃ W3,W3=wr.alloc (.cells #[.string ⟨#[110,101,103]⟩,.int .i64 0,.slice (some ⟨ab,ao,none⟩) 1 ac,.int .i64 0,.int .i64 0,.bool false,.slice none 0 0,.slice none 0 0,.string ⟨#[]⟩,.int .i64 (-1),.slice rr.1 rr.2.1 rr.2.2] 96):=⟨_,rfl⟩
      have hb3:Below wr.heap.size wr W3:=by rw [hW3];exact(Below.refl _ _).alloc (Nat.le_refl _) _
      have HK3:=Lib.hid (show Blk W3 wr.heap.size 96 #[.string ⟨#[110,101,103]⟩,.int .i64 0,.slice (some ⟨ab,ao,none⟩) 1 ac,.int .i64 0,.int .i64 0,.bool false,.slice none 0 0,.slice none 0 0,.string ⟨#[]⟩,.int .i64 (-1),.slice rr.1 rr.2.1 rr.2.2] by rw [hW3];exact Blk.new _ _ _)
      rw [←hW3]
      have HS3:=Lib.hid (HSS.out.laterM hb3)
      have HSB3:=Lib.hid (HSB.out.later hb3)
      have HOB3:=Lib.hid (HOB.out.later hb3)
      have hC3:Hid (C≤W3.heap.size):=Lib.hid (by have h1:=HS3.out.lC;have h2:=HSB3.out.lt;omega)
      have hab3:Hid (W3.cell? ⟨ab,ao,none⟩=some (.int .i64 (1:Int))):=Lib.hid ((hb3.cell (p:=⟨ab,ao,none⟩) (show ab<_ by have h1:=HSS.out.lC;have h2:=HSB.out.lt;have h3:=HAB.out.1;omega)).trans HAB.out.2)
      have HCT:=Lib.hid (show Calls Tryz.prog 61 #[.pointer (some ⟨g,0,none⟩),.agg #[.string ⟨#[110,101,103]⟩,.int .i64 0,.slice (some ⟨ab,ao,none⟩) 1 ac,.int .i64 0,.int .i64 0,.bool false,.slice none 0 0,.slice none 0 0,.string ⟨#[]⟩,.int .i64 (-1),.slice rr.1 rr.2.1 rr.2.2],.agg #[.slice (some ⟨ib,0,none⟩) 1 1,.slice none 0 0]] W3 _ from s_negO _ _ ab ao ac 0 1 ⟨2,r1,⟨#[]⟩,-3⟩ h c y _ _ _ HS3.out (HZ.out.1.later hb3) HZ.out.2 HSB3.out (put5A_noU (put5A_noU (NoU.made _ _ zVal_noU) _ ⟨2,r0,⟨#[]⟩,3⟩ r0) _ ⟨2,r1,⟨#[]⟩,-3⟩ r1) (by rw [put5A_size,put5A_size];exact size_madeCells _ _) HOB3.out zO_noU hC3.out hab3.out HAB.out.1 (VAt.ofArr HSB3.out (fun t u hu=>put5A_at _ _ _ _ _ _ _ _ u (by rw [put5A_size,size_madeCells];omega) hu) (HR1.out.later hb3)) (by omega) (by omega) (show(2:Int)≠0 by omega) bits_3')
      have HB3:=Lib.hid hb3
      clear hW3 hb3 c0 c1 c2 c3 c4 c5 c6 c7 c8 c9 c10
      have p0:W3.cell? ⟨wr.heap.size,0,none⟩=some (.string ⟨#[110,101,103]⟩):=HK3.out.cell 0 rfl
      have p1:W3.cell? ⟨wr.heap.size,1,none⟩=some (.int .i64 0):=HK3.out.cell 1 rfl
      have p2:W3.cell? ⟨wr.heap.size,2,none⟩=some (.slice (some ⟨ab,ao,none⟩) 1 ac):=HK3.out.cell 2 rfl
      have p3:W3.cell? ⟨wr.heap.size,3,none⟩=some (.int .i64 0):=HK3.out.cell 3 rfl
      have p4:W3.cell? ⟨wr.heap.size,4,none⟩=some (.int .i64 0):=HK3.out.cell 4 rfl
      have p5:W3.cell? ⟨wr.heap.size,5,none⟩=some (.bool false):=HK3.out.cell 5 rfl
      have p6:W3.cell? ⟨wr.heap.size,6,none⟩=some (.slice none 0 0):=HK3.out.cell 6 rfl
      have p7:W3.cell? ⟨wr.heap.size,7,none⟩=some (.slice none 0 0):=HK3.out.cell 7 rfl
      have p8:W3.cell? ⟨wr.heap.size,8,none⟩=some (.string ⟨#[]⟩):=HK3.out.cell 8 rfl
      have p9:W3.cell? ⟨wr.heap.size,9,none⟩=some (.int .i64 (-1)):=HK3.out.cell 9 rfl
      have p10:W3.cell? ⟨wr.heap.size,10,none⟩=some (.slice rr.1 rr.2.1 rr.2.2):=HK3.out.cell 10 rfl
      go_wp2_with (go_at_call 61;refine HCT.out.mono ?_;rintro e w4 ⟨rfl,hkn,⟨h1,c1,y1,hS4,hz4,hl4⟩,⟨r2,hk2,hr2⟩,ho4⟩;have hr1':=hkn _ _ _ _ (HR1.out.later HB3.out))
      go_roundw
      case rel=>exact⟨3,by omega,by first | rfl | go_num,Lib.hid ⟨h1,c1,y1,hS4,hz4,hl4,r0,r1,r2,hk2,hr1',ho4⟩⟩
      case measure=>simp [intOf]
    · clear hk
      obtain⟨h,c,y,hS,hz,hzl,r0,r1,r2,hsb,hr1,hob⟩:=HS.out
      clear HS
      obtain⟨a,rr,hc,ha,hrr,hcg⟩:=hS.row.ins (i:=3) (q:=I3) rfl
      obtain⟨aA,an,ac⟩:=a
      obtain⟨ab,ao,rfl,rfl,habC,hab⟩:=irow_one ha
      have c0:wr.cell? ⟨cg,33,none⟩=some (.string ⟨#[111,117,116]⟩):=hc 0 _ rfl
      have c1:wr.cell? ⟨cg,34,none⟩=some (.int .i64 0):=hc 1 _ rfl
      have c2:wr.cell? ⟨cg,35,none⟩=some (.slice (some ⟨ab,ao,none⟩) 1 ac):=hc 2 _ rfl
      have c3:wr.cell? ⟨cg,36,none⟩=some (.int .i64 0):=hc 3 _ rfl
      have c4:wr.cell? ⟨cg,37,none⟩=some (.int .i64 0):=hc 4 _ rfl
      have c5:wr.cell? ⟨cg,38,none⟩=some (.bool false):=hc 5 _ rfl
      have c6:wr.cell? ⟨cg,39,none⟩=some (.slice none 0 0):=hc 6 _ rfl
      have c7:wr.cell? ⟨cg,40,none⟩=some (.slice none 0 0):=hc 7 _ rfl
      have c8:wr.cell? ⟨cg,41,none⟩=some (.string ⟨#[]⟩):=hc 8 _ rfl
      have c9:wr.cell? ⟨cg,42,none⟩=some (.int .i64 (-1)):=hc 9 _ rfl
      have c10:wr.cell? ⟨cg,43,none⟩=some (.slice rr.1 rr.2.1 rr.2.2):=hc 10 _ rfl
      have HSS:=Lib.hid hS
      have HSB:=Lib.hid hsb
      have HOB:=Lib.hid hob
      have HAB:=Lib.hid (And.intro habC hab)
      have HR1:=Lib.hid hr1
      have HZ:=Lib.hid (And.intro hz hzl)
      clear hS hsb hob hc ha hrr hcg habC hab hr1 hz hzl
      go_upto_region 9 with fail
      obtain⟨W3,hW3⟩:∃ W3,W3=wr.alloc (.cells #[.string ⟨#[111,117,116]⟩,.int .i64 0,.slice (some ⟨ab,ao,none⟩) 1 ac,.int .i64 0,.int .i64 0,.bool false,.slice none 0 0,.slice none 0 0,.string ⟨#[]⟩,.int .i64 (-1),.slice rr.1 rr.2.1 rr.2.2] 96):=⟨_,rfl⟩
      have hb3:Below wr.heap.size wr W3:=by rw [hW3];exact(Below.refl _ _).alloc (Nat.le_refl _) _
      have HK3:=Lib.hid (show Blk W3 wr.heap.size 96 #[.string ⟨#[111,117,116]⟩,.int .i64 0,.slice (some ⟨ab,ao,none⟩) 1 ac,.int .i64 0,.int .i64 0,.bool false,.slice none 0 0,.slice none 0 0,.string ⟨#[]⟩,.int .i64 (-1),.slice rr.1 rr.2.1 rr.2.2] by rw [hW3];exact Blk.new _ _ _)
      rw [←hW3]
      have HS3:=Lib.hid (HSS.out.laterM hb3)
      have HSB3:=Lib.hid (HSB.out.later hb3)
      have HOB3:=Lib.hid (HOB.out.later hb3)
      have hC3:Hid (C≤W3.heap.size):=Lib.hid (by have h1:=HS3.out.lC;have h2:=HSB3.out.lt;omega)
      have hab3:Hid (W3.cell? ⟨ab,ao,none⟩=some (.int .i64 (1:Int))):=Lib.hid ((hb3.cell (p:=⟨ab,ao,none⟩) (show ab<_ by have h1:=HSS.out.lC;have h2:=HSB.out.lt;have h3:=HAB.out.1;omega)).trans HAB.out.2)
      have HCT:=Lib.hid (show Calls Tryz.prog 61 #[.pointer (some ⟨g,0,none⟩),.agg #[.string ⟨#[111,117,116]⟩,.int .i64 0,.slice (some ⟨ab,ao,none⟩) 1 ac,.int .i64 0,.int .i64 0,.bool false,.slice none 0 0,.slice none 0 0,.string ⟨#[]⟩,.int .i64 (-1),.slice rr.1 rr.2.1 rr.2.2],.agg #[.slice (some ⟨ib,0,none⟩) 1 1,.slice none 0 0]] W3 _ from s_out _ _ ab ao ac 1 ⟨2,r1,⟨#[]⟩,-3⟩ _ _ _ _ HS3.out HSB3.out (put5A_noU (put5A_noU (put5A_noU (NoU.made _ _ zVal_noU) _ ⟨2,r0,⟨#[]⟩,3⟩ r0) _ ⟨2,r1,⟨#[]⟩,-3⟩ r1) _ ⟨2,r2,⟨#[]⟩,3⟩ r2) (by rw [put5A_size,put5A_size,put5A_size];exact size_madeCells _ _) HOB3.out zO_noU hC3.out zO_size hab3.out HAB.out.1 (VAt.ofArr HSB3.out (far_at _ _ _ _ _ _ _ _ (by rw [put5A_size,size_madeCells];omega)) (HR1.out.later hb3)) (by omega))
      have HB3:=Lib.hid hb3
      clear hW3 hb3 c0 c1 c2 c3 c4 c5 c6 c7 c8 c9 c10
      have p0:W3.cell? ⟨wr.heap.size,0,none⟩=some (.string ⟨#[111,117,116]⟩):=HK3.out.cell 0 rfl
      have p1:W3.cell? ⟨wr.heap.size,1,none⟩=some (.int .i64 0):=HK3.out.cell 1 rfl
      have p2:W3.cell? ⟨wr.heap.size,2,none⟩=some (.slice (some ⟨ab,ao,none⟩) 1 ac):=HK3.out.cell 2 rfl
      have p3:W3.cell? ⟨wr.heap.size,3,none⟩=some (.int .i64 0):=HK3.out.cell 3 rfl
      have p4:W3.cell? ⟨wr.heap.size,4,none⟩=some (.int .i64 0):=HK3.out.cell 4 rfl
      have p5:W3.cell? ⟨wr.heap.size,5,none⟩=some (.bool false):=HK3.out.cell 5 rfl
      have p6:W3.cell? ⟨wr.heap.size,6,none⟩=some (.slice none 0 0):=HK3.out.cell 6 rfl
      have p7:W3.cell? ⟨wr.heap.size,7,none⟩=some (.slice none 0 0):=HK3.out.cell 7 rfl
      have p8:W3.cell? ⟨wr.heap.size,8,none⟩=some (.string ⟨#[]⟩):=HK3.out.cell 8 rfl
      have p9:W3.cell? ⟨wr.heap.size,9,none⟩=some (.int .i64 (-1)):=HK3.out.cell 9 rfl
      have p10:W3.cell? ⟨wr.heap.size,10,none⟩=some (.slice rr.1 rr.2.1 rr.2.2):=HK3.out.cell 10 rfl
      go_wp2_with (go_at_call 61;refine HCT.out.mono ?_;rintro e w4 ⟨rfl,hkn,hS4,hk4,hr4⟩)
      go_roundw
      case rel=>exact⟨4,by omega,by first | rfl | go_num,Lib.hid ⟨_,hS4,r1,hk4,hr4⟩⟩
      case measure=>simp [intOf]
    · obtain⟨u,hS,r1,hb,hr⟩:=HS.out
      have HF:=Lib.hid (FAt.ofM hS.m)
      have HS5:=Lib.hid hS
      have HB5:=Lib.hid (And.intro hb hr)
      clear HS hS hb hr
      go_wp2_with (go_at_call 43;(with_reducible refine(wrong_t HF.out).mono ?_);rintro e w5 ⟨rfl,hb5⟩;have HBB:=Lib.hid hb5;clear hb5)
      go_ret2
      exact⟨rfl,u,HS5.out.laterM HBB.out,r1,HB5.out.1.later HBB.out,HB5.out.2.later HBB.out⟩
end Go.Proofs.YtpnlbjnbgemocaaGreat
