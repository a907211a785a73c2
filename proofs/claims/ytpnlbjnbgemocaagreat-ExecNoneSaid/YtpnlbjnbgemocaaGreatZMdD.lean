import Derived.Test.YtpnlbjnbgemocaaGreatZMdC
import Derived.Deep.RegionHeld3
import Derived.Deep.DeepCutAuto
namespace Go.Proofs.YtpnlbjnbgemocaaGreat
set_option linter.unusedVariables false
set_option linter.unusedSimpArgs false
set_option maxRecDepth 100000
open Go.RowKit
def PartN (B H:Nat)(w:World)(v:Value)(b:Nat):Prop:=b<w.heap.size∧(b<B∨H≤b)∧v.ownBlock≠some b
section
variable {B H H1 C K:Nat} {w w' wr wX:World} {v v':Value} {xs:List InsM} {qs:List InsP} {X:InsM} {q:InsP}
theorem callN (hb:Below w.heap.size w w'):KeepP (PartN B H w v) (PartN B H w' v) w w':=keepB hb fun b h=>⟨h.1,Nat.lt_of_lt_of_le h.1 hb.size,h.2.1,h.2.2⟩
theorem appN (ho:Only [v.ownBlock] w w')(hv:v'.ownBlock=v.ownBlock∨∃ k,v'.ownBlock=some k∧K≤k)(hK:w.heap.size≤K):KeepP (PartN B H w v) (PartN B H w' v') w w':=fun b h=>by
  refine⟨⟨Nat.lt_of_lt_of_le h.1 ho.size,h.2.1,fun e=>?_⟩,fun o=>ho.cell (p:=⟨b,o,none⟩) h.1 (fun e=>?_)⟩
  · rcases hv with hv | ⟨k,hv,hk⟩
    · exact h.2.2 (hv▸e)
    · rw [hv] at e
      injection e with e
      have:=h.1
      omega
  · simp at e
    exact h.2.2 e.symm
theorem InsR.newN (h:InsR (NewP B H1 w') w' X q)(ho:OwnS w C v xs)(hH:w.heap.size≤H1)(hC:B≤C)(h0:H≤H1):InsR (PartN B H w' v) w' X q:=
  h.keep fun b p=>⟨⟨p.1,p.2.imp id fun q=>Nat.le_trans h0 q,fun e=>by have:=ho.lt e;rcases p.2 with q | q <;> omega⟩,fun _=>rfl⟩
theorem round_end (ho:OwnS wr C v xs)(hl:InsL (PartN B H wr v) wr xs qs)(hb:Below wr.heap.size wr wX)(hX:InsR (NewP B H1 wX) wX X q)(hC:B≤C)(h1:wr.heap.size≤H1)(h0:H≤wr.heap.size)
    (hn:Only [v.ownBlock] wX w') (hat:v'.ownBlock=v.ownBlock∨∃ k,v'.ownBlock=some k∧K≤k) (hK:wX.heap.size≤K):InsL (PartN B H w' v') w' (xs++[X]) (qs++[q]):=
  ((hl.keep (callN hb)).snoc (hX.newN ho h1 hC (Nat.le_trans h0 h1))).keep (appN hn hat hK)
end
def BodyPost (B:Nat)(qs:List InsP)(w:World)(e:Ending)(w':World):Prop:=∃ v' xs,e=.returned v'∧OwnS w' w.heap.size v' xs∧InsL (PartN B w.heap.size w' v') w' xs qs∧Below w.heap.size w w'
theorem own_sliceS {w:World}{B:Nat}{v:Value}{xs:List InsM}(h:OwnS w B v xs):∃ a n c,v=.slice a n c:=by
  obtain⟨a,c,e⟩:=h.len;exact⟨a,_,c,e⟩
theorem two_new {w W1:World}{o1 o2:Obj}(h:W1=(w.alloc o1).alloc o2):W1.heap[w.heap.size]?=some o1∧W1.heap[w.heap.size+1]?=some o2∧W1.heap.size=w.heap.size+2∧Below w.heap.size w W1:=by
  subst h
  have n2:=heap_alloc_new (w.alloc o1) o2
  simp only [size_alloc] at n2
  refine⟨?_,n2,by simp only [size_alloc],((Below.refl _ _).alloc (Nat.le_refl _) _).alloc (by simp only [size_alloc];omega) _⟩
  rw [Below.heap_alloc _ _ _ (by simp only [size_alloc];omega)]
  exact heap_alloc_new w o1
theorem stepZ {w:World}{ops:Array Oper}{o:Oper}{a:Act}{K:Act→World→Prop}{Q:Exit→Act→World→Prop}{E:Prop}{cs:Array Value}(hgd:o.guard=none)(s x:Operand)
    (hop:o.op=.call { callee:=.builtin .append,args:=#[s,x],argTypes:=#[23,23] })
    (B:Nat) (v:Value) (xs:List InsM) (X:InsM) (T:TypeId) (H:Nat) (hs:a.eval s=v) (hx:a.eval x=.slice (some ⟨H,0,none⟩) 1 1) (hH:w.heap.size=H) (hcs:X.cs.toArray=cs) (hown:OwnS w B v xs) (hB:B≤H) (hl:xs.length≤100000000)
    (hK:∀ v' w',OwnS w' B v' (xs++[X])→Only [v.ownBlock] w w'→(v'.ownBlock=v.ownBlock∨∃ k,v'.ownBlock=some k∧H≤k)→K (a.put o.dst v') w') :
    if Region.wanted o (yielded ops a.tmps)=true then Oper.wp Tryz.prog o a (w.alloc (.cells cs T)) K Q else E:=by
  subst hcs
  exact stepX hgd s x hop B v xs X T H hs hx hH hown hB hl hK
theorem filter_take {l:List FEqM}{k:Nat}{q:FEqM}(x:Int)(h:l[k]?=some q):(l.take (k+1)).filter (fun q=>decide (q.var=x))=(l.take k).filter (fun q=>decide (q.var=x))++(if q.var=x then [q] else []):=by
  rw [take_snoc h,List.filter_append]
  by_cases e:q.var=x <;> simp [e]
theorem stepEq_take {f:FlatM}{ss o:List Int}{k:Nat}{x:Int}(h:o[k]?=some x):stepEq f ss (o.take (k+1))=stepEq f ss (o.take k)++(f.eqs.filter fun q=>decide (q.var=x)).map (eqI f ss):=by
  unfold stepEq
  rw [take_snoc h,List.flatMap_append]
  simp
theorem flatMap_len {α β:Type}(g:α→List β)(m:Nat):∀(l:List α),(∀ x∈l,(g x).length≤m)→(l.flatMap g).length≤l.length*m
  | [],_=>by simp
  | x::l,h=>by
    have h1:=h x (by simp)
    have h2:=flatMap_len g m l fun y hy=>h y (by simp [hy])
    simp only [List.flatMap_cons,List.length_append,List.length_cons,Nat.add_mul]
    omega
theorem stepEq_len {f:FlatM}{ss o:List Int}:(stepEq f ss o).length≤o.length*f.eqs.length:=flatMap_len _ _ o fun x _=>by
  rw [List.length_map]
  exact List.length_filter_le _ _
theorem stepPart_len {f:FlatM}{ss o:List Int}{j:Nat}{p:FEqM→Bool}(ho:o.length≤200)(he:f.eqs.length≤200):(stepEq f ss o++((f.eqs.take j).filter p).map (eqI f ss)).length≤100000000:=by
  have h1:=stepEq_len (f:=f) (ss:=ss) (o:=o)
  have h2:=List.length_filter_le p (f.eqs.take j)
  have h3:(f.eqs.take j).length≤f.eqs.length:=by rw [List.length_take];exact Nat.min_le_right _ _
  have h4:=Nat.mul_le_mul ho he
  rw [List.length_append,List.length_map]
  omega
theorem InsL.le {P:Nat→Prop}{w:World}{xs:List InsM}{qs:List InsP}(h:InsL P w xs qs){n:Nat}(hn:qs.length≤n):xs.length≤n:=by rw [h.len];exact hn
theorem mem_fine {f:FlatM}{n:Nat}(hg:goodB f=true)(hn:f.names.length=n)(hs:SmallF f):∀(i:Nat) (x:MemM),f.mems[i]?=some x→(x.resets.length≤1000∧∀ y∈x.resets,y<(n:Int))∧x.next<(n:Int)∧x.guard<(n:Int):=fun i x hx=>by
  have h:=hg
  unfold goodB at h
  rw [Bool.and_eq_true,Bool.and_eq_true] at h
  have hk:=h.1.2
  unfold keptB at hk
  rw [Bool.and_eq_true,Bool.and_eq_true,Bool.and_eq_true] at hk
  have hm:=List.all_eq_true.1 hk.1.2 x (List.mem_of_getElem? hx)
  unfold memB at hm
  rw [Bool.and_eq_true,Bool.and_eq_true] at hm
  refine⟨⟨Nat.le_trans (hs.resets i x hx) (by decide),fun y hy=>?_⟩, ?_, ?_⟩
  · rw [←hn];exact(plB_yes (List.all_eq_true.1 hm.2 y hy)).2
  · rw [←hn];exact(plB_yes hm.1.1).2
  · rw [←hn];exact of_decide_eq_true hm.1.2
theorem cont_fine {f:FlatM}{n:Nat}(hg:goodB f=true)(hn:f.names.length=n)(hs:SmallF f):∀(i:Nat) (x:ContM),f.conts[i]?=some x→(x.resets.length≤1000∧∀ y∈x.resets,y<(n:Int))∧x.var<(n:Int)∧x.guard<(n:Int)∧x.slopes.length≤20∧∀ s∈x.slopes,s.guard<(n:Int)∧s.var<(n:Int):=fun i x hx=>by
  have h:=hg
  unfold goodB at h
  rw [Bool.and_eq_true,Bool.and_eq_true] at h
  have hk:=h.1.2
  unfold keptB at hk
  rw [Bool.and_eq_true,Bool.and_eq_true,Bool.and_eq_true] at hk
  have hm:=List.all_eq_true.1 hk.2 x (List.mem_of_getElem? hx)
  unfold contB at hm
  rw [Bool.and_eq_true,Bool.and_eq_true,Bool.and_eq_true] at hm
  refine⟨⟨Nat.le_trans (hs.creset i x hx).1 (by decide),fun y hy=>?_⟩, ?_, ?_,(hs.creset i x hx).2,fun s hy=>?_⟩
  · rw [←hn];exact(plB_yes (List.all_eq_true.1 hm.1.2 y hy)).2
  · rw [←hn];exact(plB_yes hm.1.1.1).2
  · rw [←hn];exact of_decide_eq_true hm.1.1.2
  · have q:=List.all_eq_true.1 hm.2 s hy
    unfold slopeB at q
    rw [Bool.and_eq_true] at q
    exact⟨by rw [←hn];exact of_decide_eq_true q.1,by rw [←hn];exact(plB_yes q.2).2⟩
theorem eq_fine15 {f:FlatM}{n:Nat}(hg:goodB f=true)(hn:f.names.length=n)(hs:SmallF f){i:Nat}{q:FEqM}(hq:f.eqs[i]?=some q):q.args.length≤1000000∧q.var<(n:Int)∧q.guard<(n:Int)∧(∀ x∈q.args,x<(n:Int))∧(q.op=bs [109,101,109]→plB q.k f.mems.length=true)∧(q.op=bs [99,111,110,116]→plB q.k f.conts.length=true):=by
  have h:=hg
  unfold goodB at h
  rw [Bool.and_eq_true,Bool.and_eq_true,Bool.and_eq_true] at h
  have he:=List.all_eq_true.1 h.1.1.2 q (List.mem_of_getElem? hq)
  have hv:=h.1.1.1
  unfold onceB at hv
  rw [Bool.and_eq_true,Bool.and_eq_true] at hv
  have hv1:=List.all_eq_true.1 hv.1.1 q.var (List.mem_map.2 ⟨q,List.mem_of_getElem? hq,rfl⟩)
  unfold eqB at he
  rw [Bool.and_eq_true,Bool.and_eq_true,Bool.and_eq_true] at he
  refine⟨Nat.le_trans (hs.args i q hq) (by decide),by rw [←hn];exact(plB_yes hv1).2,by rw [←hn];exact of_decide_eq_true he.1.1.1,fun x hx=>by rw [←hn];exact(plB_yes (List.all_eq_true.1 he.1.1.2 x hx)).2,fun e=>?_,fun e=>?_⟩
  · have hk:=he.2
    unfold kB kL at hk
    rw [e,if_neg (by decide),if_pos (show bs [109,101,109]=opMem from rfl)] at hk
    exact hk
  · have hk:=he.2
    unfold kB kL at hk
    rw [e,if_neg (by decide),if_neg (by decide),if_pos (show bs [99,111,110,116]=opCont from rfl)] at hk
    exact hk
theorem outs_fine {f:FlatM}{n:Nat}(hg:goodB f=true)(hn:f.names.length=n):(∀ x∈f.outs,x<(n:Int))∧∀ x∈f.again,x<(n:Int):=by
  have h:=hg
  unfold goodB at h
  rw [Bool.and_eq_true,Bool.and_eq_true] at h
  have hk:=h.1.2
  unfold keptB at hk
  rw [Bool.and_eq_true,Bool.and_eq_true,Bool.and_eq_true] at hk
  exact⟨fun x hx=>by rw [←hn];exact(plB_yes (List.all_eq_true.1 hk.1.1.1 x hx)).2,fun x hx=>by rw [←hn];exact(plB_yes (List.all_eq_true.1 hk.1.1.2 x hx)).2⟩
theorem map_take {α β:Type}{l:List α}{g:α→β}{k:Nat}{x:α}(h:l[k]?=some x):(l.take (k+1)).map g=(l.take k).map g++[g x]:=by rw [take_snoc h,List.map_append];rfl
theorem imem1 (w:World)(X:Int):IMem (w.alloc (.cells #[.int .i64 X] 3)) w.heap.size [X]:=heap_alloc_new w _
theorem row_new {w w':World}{C:Nat}{X:Int}(hC:C≤w.heap.size)(hb:Below (w.alloc (.cells #[.int .i64 X] 3)).heap.size (w.alloc (.cells #[.int .i64 X] 3)) w'):IRowP (fun b=>C≤b∧b<w'.heap.size) w' (some ⟨w.heap.size,0,none⟩) 1 1 [X]:=
  ((imem1 w X).below hb (by simp)).irowP ⟨hC,Nat.lt_of_lt_of_le (by simp) hb.size⟩ rfl (by decide)
theorem row_new0 {w:World}{C:Nat}{X:Int}(hC:C≤w.heap.size):IRowP (fun b=>C≤b∧b<(w.alloc (.cells #[.int .i64 X] 3)).heap.size) (w.alloc (.cells #[.int .i64 X] 3)) (some ⟨w.heap.size,0,none⟩) 1 1 [X]:=
  (imem1 w X).irowP ⟨hC,by simp⟩ rfl (by decide)
set_option maxHeartbeats 8000000 in
theorem step15_t (B : Nat) (v : FlatV) (f : FlatM) (A A2 : Option Addr) (m c n c2 : Nat) (S : Int) (ss o : List Int) (w : World) (hf : FlatIs w B v f) (hr : IRow w B A2 n c2 ss) (hB : B ≤ w.heap.size) (ho : IRow w B A m c o) (hol : o.length ≤ 200) (hg : goodB f = true) (hs : SmallF f) (hn : f.names.length = n) :
    Calls Tryz.prog 69 #[flatV v,.agg #[.slice A m c,.slice A2 n c2,.int .i64 S]] w (BodyPost B (stepL f ss o) w):=by
  obtain⟨⟨i1,i2,i3⟩,⟨nm1,nm2,nm3⟩,⟨o1,o2,o3⟩,⟨e1,e2,e3⟩,⟨m1,m2,m3⟩,⟨c1,cn,c3⟩,⟨x1,x2,x3⟩,⟨g1,g2,g3⟩⟩:=v
  obtain⟨W1,hW1⟩:∃ W1,W1=(w.alloc (.cells #[.slice i1 i2 i3,.slice nm1 nm2 nm3,.slice o1 o2 o3,.slice e1 e2 e3,.slice m1 m2 m3,.slice c1 cn c3,.slice x1 x2 x3,.slice g1 g2 g3] 83)).alloc (.cells #[.slice A m c,.slice A2 n c2,.int .i64 S] 86):=⟨_,rfl⟩
  obtain⟨hk1,hk2,hs1,hb1⟩:=two_new hW1
  have HKF:=Lib.hid (show Blk W1 w.heap.size 83 #[.slice i1 i2 i3,.slice nm1 nm2 nm3,.slice o1 o2 o3,.slice e1 e2 e3,.slice m1 m2 m3,.slice c1 cn c3,.slice x1 x2 x3,.slice g1 g2 g3] from hk1)
  have HKP:=Lib.hid (show Blk W1 (w.heap.size+1) 86 #[.slice A m c,.slice A2 n c2,.int .i64 S] from hk2)
  have HB1:=Lib.hid hb1
  have HS1:=Lib.hid hs1
  have HBB:=Lib.hid hB
  have HBS:Hid (B≤W1.heap.size):=Lib.hid (Nat.le_trans hB hb1.size)
  have HF:=Lib.hid (fun W (hb:Below W1.heap.size W1 W)=>hf.below ((hb1.trans (hb.mono hb1.size)).mono hB))
  have HR:=Lib.hid (fun W (hb:Below W1.heap.size W1 W)=>hr.below ((hb1.trans (hb.mono hb1.size)).mono hB))
  have HO:=Lib.hid (fun W (hb:Below W1.heap.size W1 W)=>ho.below ((hb1.trans (hb.mono hb1.size)).mono hB))
  have HBW:=Lib.hid (fun W (hb:Below W1.heap.size W1 W)=>Nat.le_trans hB (hb1.trans (hb.mono hb1.size)).size)
  have HGD:=Lib.hid hg
  have HSM:=Lib.hid hs
  have HNM:=Lib.hid hn
  have HOL:=Lib.hid hol
  have hmo:=ho.len_le
  have hme:=hf.eqs.len_le
  have hmm:=hf.mems.len_le
  have hmc:=hf.conts.len_le
  have hmu:=hf.outs.len_le
  have hma:=hf.again.len_le
  unfold maxLen at hmo hme hmm hmc hmu hma
  simp only at hme hmm hmc hmu hma
  have HOM:Hid (o.length=m):=Lib.hid ho.1
  have HEE:Hid (f.eqs.length=e2):=Lib.hid hf.eqs.1
  have HMM:Hid (f.mems.length=m2):=Lib.hid hf.mems.1
  have HCC:Hid (f.conts.length=cn):=Lib.hid hf.conts.1
  have HUU:Hid (f.outs.length=o2):=Lib.hid hf.outs.1
  have HAA:Hid (f.again.length=g2):=Lib.hid hf.again.1
  clear hf hr hB ho hg hs hn hol hk1 hk2 hs1 hb1
  have HPB:Hid (∀ W,Below W1.heap.size W1 W→(W.cell? ⟨w.heap.size,0,none⟩=some (.slice i1 i2 i3)∧W.cell? ⟨w.heap.size,1,none⟩=some (.slice nm1 nm2 nm3)∧W.cell? ⟨w.heap.size,2,none⟩=some (.slice o1 o2 o3)∧W.cell? ⟨w.heap.size,3,none⟩=some (.slice e1 e2 e3)∧W.cell? ⟨w.heap.size,4,none⟩=some (.slice m1 m2 m3)∧W.cell? ⟨w.heap.size,5,none⟩=some (.slice c1 cn c3)∧W.cell? ⟨w.heap.size,6,none⟩=some (.slice x1 x2 x3)∧W.cell? ⟨w.heap.size,7,none⟩=some (.slice g1 g2 g3))∧W.cell? ⟨w.heap.size+1,0,none⟩=some (.slice A m c)∧W.cell? ⟨w.heap.size+1,1,none⟩=some (.slice A2 n c2)∧W.cell? ⟨w.heap.size+1,2,none⟩=some (.int .i64 S)):=Lib.hid fun W hb=>by
    have h1:=HKF.out.later hb
    have h2:=HKP.out.later hb
    exact⟨⟨h1.cell 0 rfl,h1.cell 1 rfl,h1.cell 2 rfl,h1.cell 3 rfl,h1.cell 4 rfl,h1.cell 5 rfl,h1.cell 6 rfl,h1.cell 7 rfl⟩,h2.cell 0 rfl,h2.cell 1 rfl,h2.cell 2 rfl⟩
  have HGM:=Lib.hid (mem_fine HGD.out HNM.out HSM.out)
  have HGC:=Lib.hid (cont_fine HGD.out HNM.out HSM.out)
  have HGO:=Lib.hid (outs_fine HGD.out HNM.out).1
  have HGA:=Lib.hid (outs_fine HGD.out HNM.out).2
  unfold flatV sl3
  go_enter Tryz.func69,Tryz.ntmps69
  go_upto_region 1 with fail
  rw [←hW1]
  clear hW1
  go_wp2_with fail
  go_loopw [5,6] (fun u t wr=>∃(k:Nat) (xs:List InsM) (a3:Option Addr) (n3 c3:Nat),k≤m∧u=.slice a3 n3 c3∧t=.int .i64 k∧Hid (OwnS wr W1.heap.size (.slice a3 n3 c3) xs)∧Hid (InsL (PartN B w.heap.size wr (.slice a3 n3 c3)) wr xs (stepEq f ss (o.take k)))∧Hid (Below W1.heap.size W1 wr)) (fun _ t _=>m-(intOf t).toNat)
  case atStart=>exact⟨0,[],none,0,0,Nat.zero_le _,rfl,rfl,Lib.hid (OwnS.nil _ _),Lib.hid (InsL.nil _ _),Lib.hid (Below.refl _ _)⟩
  case round =>
    obtain⟨k0,xs,a3,n3,c3',hk0,rfl,rfl,HXO,HXL,HB⟩:=hrel
    obtain⟨⟨f0,f1,f2,f3,f4,f5,f6,f7⟩,p0,p1,p2⟩:=HPB.out _ HB.out
    by_cases hlt:k0<m
    · obtain ⟨bo, offo, hao, hbo, hco⟩ := (HO.out _ HB.out).at_ hlt
      obtain⟨X,hX⟩:∃ X,X=o.getD k0 0:=⟨_,rfl⟩
      rw [←hX] at hco
      have hok:o[k0]?=some X:=by rw [hX,List.getD_eq_getElem?_getD,List.getElem?_eq_getElem (by rw [HOM.out];exact hlt)];rfl
      have HOK:=Lib.hid hok
      have HCO:Hid (∀ W,Below W1.heap.size W1 W→W.cell? ⟨bo,offo+k0,none⟩=some (.int .i64 X)):=Lib.hid fun W hb=>by
        obtain⟨b',off',ha',hb',hc'⟩:=(HO.out _ hb).at_ hlt
        rw [hao] at ha'
        injection ha' with ha'
        injection ha' with h1 h2
        subst h1 h2
        rw [hX];exact hc'
      subst hao
      clear hX hok hco
      obtain⟨wo,rfl⟩:∃ wo:World,wo=wr:=⟨_,rfl⟩
      go_wp2_with fail
      go_loopw [5,7] (fun u t wr=>∃(k:Nat) (xs:List InsM) (a3:Option Addr) (n3 c3:Nat),k≤e2∧u=.slice a3 n3 c3∧t=.int .i64 k∧Hid (OwnS wr W1.heap.size (.slice a3 n3 c3) xs)∧Hid (InsL (PartN B w.heap.size wr (.slice a3 n3 c3)) wr xs (stepEq f ss (o.take k0)++((f.eqs.take k).filter fun q=>decide (q.var=X)).map (eqI f ss)))∧Hid (Below W1.heap.size W1 wr)) (fun _ t _=>e2-(intOf t).toNat)
      case atStart=>exact⟨0,xs,a3,n3,c3',Nat.zero_le _,rfl,rfl,HXO,Lib.hid (by simpa using HXL.out),HB⟩
      case round=>
        obtain⟨j,xs,a3,n3,c3',hj,rfl,rfl,HXO,HXL,HB⟩:=hrel
        clear f0 f1 f2 f3 f4 f5 f6 f7 p0 p1 p2
        obtain⟨⟨f0,f1,f2,f3,f4,f5,f6,f7⟩,p0,p1,p2⟩:=HPB.out _ HB.out
        by_cases hlt2:j<e2
        · obtain⟨q,hq⟩:=(HF.out _ HB.out).eqs.ex hlt2
          obtain⟨b,off,hab,hbb,hat⟩:=(HF.out _ HB.out).eqs.at_ hq
          obtain⟨a,d1,d2,hrow,hrm,hrd,_⟩:=hat.cells
          have hbC:b<W1.heap.size:=Nat.lt_of_lt_of_le hbb HBS.out
          obtain⟨z1,z2,z3,z4,z5,z6⟩:=eq_fine15 HGD.out HNM.out HSM.out hq
          have HEQ:=Lib.hid (fun W (hb:Below wr.heap.size wr W)=>eq15_t B ⟨⟨i1,i2,i3⟩,⟨nm1,nm2,nm3⟩,⟨o1,o2,o3⟩,⟨e1,e2,e3⟩,⟨m1,m2,m3⟩,⟨c1,cn,c3⟩,⟨x1,x2,x3⟩,⟨g1,g2,g3⟩⟩ f (some ⟨bo,offo,none⟩) A2 m c n c2 S ss q a d1 d2 W (HF.out W (HB.out.trans (hb.mono HB.out.size))) (HR.out W (HB.out.trans (hb.mono HB.out.size))) (HBW.out W (HB.out.trans (hb.mono HB.out.size))) (hrow.below (hb.mono (HBW.out _ HB.out))) (hrm.keep fun p hp=>hb.cell (Nat.lt_of_lt_of_le hp (HBW.out _ HB.out))) (hrd.keep fun p hp=>hb.cell (Nat.lt_of_lt_of_le hp (HBW.out _ HB.out)))
            (by rw [←hrow.1];exact z1) z2 z3 z4 (fun e=>by have:=z5 e;rw [HMM.out] at this;exact this) (fun e=>by have:=z6 e;rw [HCC.out] at this;exact this) (fun i x hx=>(HGM.out i x hx).1) (fun i x hx=>(HGC.out i x hx).1))
          unfold flatV feqV sl3 at HEQ
          dsimp only at HEQ hab
          subst hab
          have HPW:Hid (∀ W,Below W1.heap.size wr W→W.cell? ⟨w.heap.size,0,none⟩=some (.slice i1 i2 i3)∧W.cell? ⟨w.heap.size,1,none⟩=some (.slice nm1 nm2 nm3)∧W.cell? ⟨w.heap.size,2,none⟩=some (.slice o1 o2 o3)∧W.cell? ⟨w.heap.size,3,none⟩=some (.slice (some ⟨b,off,none⟩) e2 e3)∧W.cell? ⟨w.heap.size,4,none⟩=some (.slice m1 m2 m3)∧W.cell? ⟨w.heap.size,5,none⟩=some (.slice c1 cn c3)∧W.cell? ⟨w.heap.size,6,none⟩=some (.slice x1 x2 x3)∧W.cell? ⟨w.heap.size,7,none⟩=some (.slice g1 g2 g3)∧W.cell? ⟨w.heap.size+1,0,none⟩=some (.slice (some ⟨bo,offo,none⟩) m c)∧W.cell? ⟨w.heap.size+1,1,none⟩=some (.slice A2 n c2)∧W.cell? ⟨w.heap.size+1,2,none⟩=some (.int .i64 S)∧W.cell? ⟨b,off+j*10,none⟩=some (.int .i64 q.var)∧W.cell? ⟨b,off+j*10+1,none⟩=some (.string q.op)∧W.cell? ⟨b,off+j*10+2,none⟩=some (.slice a.1 a.2.1 a.2.2)∧W.cell? ⟨b,off+j*10+3,none⟩=some (.int .i64 q.k)∧W.cell? ⟨b,off+j*10+4,none⟩=some (.int .i64 q.lit.kind)∧W.cell? ⟨b,off+j*10+5,none⟩=some (.bool q.lit.neg)∧W.cell? ⟨b,off+j*10+6,none⟩=some (.slice d1.1 d1.2.1 d1.2.2)∧W.cell? ⟨b,off+j*10+7,none⟩=some (.slice d2.1 d2.2.1 d2.2.2)∧W.cell? ⟨b,off+j*10+8,none⟩=some (.string q.lit.name)∧W.cell? ⟨b,off+j*10+9,none⟩=some (.int .i64 q.guard)):=Lib.hid fun W hb=>by
            obtain⟨k1,k2,k3,k4⟩:=HPB.out W (HB.out.trans hb)
            obtain⟨y0,y1,y2,y3,y4,y5,y6,y7,y8,y9⟩:=‹_∧_∧_∧_∧_∧_∧_∧_∧_∧_›
            exact⟨k1.1,k1.2.1,k1.2.2.1,k1.2.2.2.1,k1.2.2.2.2.1,k1.2.2.2.2.2.1,k1.2.2.2.2.2.2.1,k1.2.2.2.2.2.2.2,k2,k3,k4,(hb.cell (p:=⟨b,_,none⟩) hbC).trans y0,(hb.cell (p:=⟨b,_,none⟩) hbC).trans y1,(hb.cell (p:=⟨b,_,none⟩) hbC).trans y2,(hb.cell (p:=⟨b,_,none⟩) hbC).trans y3,(hb.cell (p:=⟨b,_,none⟩) hbC).trans y4,(hb.cell (p:=⟨b,_,none⟩) hbC).trans y5,(hb.cell (p:=⟨b,_,none⟩) hbC).trans y6,(hb.cell (p:=⟨b,_,none⟩) hbC).trans y7,(hb.cell (p:=⟨b,_,none⟩) hbC).trans y8,(hb.cell (p:=⟨b,_,none⟩) hbC).trans y9⟩
          have HLEN:Hid (xs.length≤100000000):=Lib.hid (HXL.out.le (stepPart_len (Nat.le_trans (by rw [List.length_take];exact Nat.min_le_right _ _) HOL.out) HSM.out.eqs))
          have HFT:=Lib.hid (filter_take X hq)
          have hco:=HCO.out _ HB.out
          have y0:=(HPW.out wr (Below.refl _ _)).2.2.2.2.2.2.2.2.2.2.2.1
          have hjI:(j:Int)<(e2:Int):=by omega
          have hkI:(k0:Int)<(m:Int):=by omega
          clear z1 z2 z3 z4 z5 z6 hrow hrm hrd hat hq
          by_cases hv:q.var=X
          · have hv1:(q.var==X)=true:=by rw [hv];exact beq_self_eq_true X
            have HVT:=Lib.hid hv
            clear hv
            go_upto_region 8 with fail
            go_region
            go_upto_region 9 with fail
            go_region_held3 (fun w'=>w'.cell? ⟨w.heap.size,0,none⟩=some (.slice i1 i2 i3)∧w'.cell? ⟨w.heap.size,1,none⟩=some (.slice nm1 nm2 nm3)∧w'.cell? ⟨w.heap.size,2,none⟩=some (.slice o1 o2 o3)∧w'.cell? ⟨w.heap.size,3,none⟩=some (.slice (some ⟨b,off,none⟩) e2 e3)∧w'.cell? ⟨w.heap.size,4,none⟩=some (.slice m1 m2 m3)∧w'.cell? ⟨w.heap.size,5,none⟩=some (.slice c1 cn c3)∧w'.cell? ⟨w.heap.size,6,none⟩=some (.slice x1 x2 x3)∧w'.cell? ⟨w.heap.size,7,none⟩=some (.slice g1 g2 g3)∧w'.cell? ⟨w.heap.size+1,0,none⟩=some (.slice (some ⟨bo,offo,none⟩) m c)∧w'.cell? ⟨w.heap.size+1,1,none⟩=some (.slice A2 n c2)∧w'.cell? ⟨w.heap.size+1,2,none⟩=some (.int .i64 S)∧w'.cell? ⟨b,off+j*10,none⟩=some (.int .i64 q.var)∧w'.cell? ⟨b,off+j*10+1,none⟩=some (.string q.op)∧w'.cell? ⟨b,off+j*10+2,none⟩=some (.slice a.1 a.2.1 a.2.2)∧w'.cell? ⟨b,off+j*10+3,none⟩=some (.int .i64 q.k)∧w'.cell? ⟨b,off+j*10+4,none⟩=some (.int .i64 q.lit.kind)∧w'.cell? ⟨b,off+j*10+5,none⟩=some (.bool q.lit.neg)∧w'.cell? ⟨b,off+j*10+6,none⟩=some (.slice d1.1 d1.2.1 d1.2.2)∧w'.cell? ⟨b,off+j*10+7,none⟩=some (.slice d2.1 d2.2.1 d2.2.2)∧w'.cell? ⟨b,off+j*10+8,none⟩=some (.string q.lit.name)∧w'.cell? ⟨b,off+j*10+9,none⟩=some (.int .i64 q.guard)) (first | with_reducible exact HPW.out _ (Below.refl _ _).drew.drew | with_reducible exact HPW.out _ (Below.refl _ _).drew | with_reducible exact HPW.out _ HBx2.out | with_reducible exact HPW.out _ HBx4.out | with_reducible exact HPW.out _ (HBx2.out.alloc HBy2.out _) | go_keep) (first
              | (go_at_call 121;(first | (with_reducible refine(HEQ.out _ (Below.refl _ _).drew.drew).mono ?_) | (with_reducible refine(HEQ.out _ (Below.refl _ _).drew).mono ?_));rintro e w2 ⟨x,rfl,hx,hb2⟩;rw [insV_A];unfold insA;have HX2:=Lib.hid hx;have HB2:=Lib.hid (show Below wr.heap.size wr w2 from(Below.refl wr.heap.size wr).drew.drew.trans hb2);have HBx2:=Lib.hid (HB2.out.mono HB.out.size);have HBy2:Hid (W1.heap.size≤w2.heap.size):=Lib.hid (HB.out.trans HBx2.out).size;have HO2:=Lib.hid (HXO.out.later HB2.out);clear hx hb2)
              | (refine stepZ rfl _ _ rfl W1.heap.size (.slice a3 n3 c3') xs x 96 w2.heap.size rfl rfl rfl rfl HO2.out HBy2.out HLEN.out ?_;intro v4 w4 hown4 honly4 hat4;obtain⟨a4,n4,c4,hv4⟩:=own_sliceS hown4;subst hv4;have HO4:=Lib.hid hown4;have HRE:=Lib.hid (round_end HXO.out HXL.out HB2.out HX2.out HBS.out (Nat.le_refl _) (by have:=HB.out.size;have:=HS1.out;omega) honly4 hat4 (Nat.le_refl _));have HBx4:=Lib.hid (HBx2.out.trans (honly4.ownS HO2.out HBy2.out));clear hown4 honly4 hat4))
            go_wp2_with fail
            go_roundw
            case rel=>exact⟨j+1,xs++[x],a4,n4,c4,by omega,rfl,by go_num,HO4,Lib.hid (by rw [HFT.out,if_pos HVT.out,List.map_append,←List.append_assoc];exact HRE.out),Lib.hid (HB.out.trans HBx4.out)⟩
            case measure=>simp [intOf];omega
          · have hv1:(q.var==X)=false:=beq_eq_false_iff_ne.2 hv
            have HVT:=Lib.hid hv
            clear hv
            go_upto_region 8 with fail
            go_region
            go_wp2_with fail
            go_roundw
            case rel=>exact⟨j+1,xs,a3,n3,c3',by omega,rfl,by go_num,Lib.hid (HXO.out.later (Below.refl _ _).drew),Lib.hid (by rw [HFT.out,if_neg HVT.out,List.append_nil];exact HXL.out.keep (callN (Below.refl _ _).drew)),Lib.hid HB.out.drew⟩
            case measure=>simp [intOf];omega
        · obtain rfl:j=e2:=by omega
          have HTK:=Lib.hid (stepEq_take (f:=f) (ss:=ss) HOK.out)
          have HEL:=HEE.out
          go_wp2_with fail
          go_roundw
          case rel=>exact⟨k0+1,xs,a3,n3,c3',by omega,rfl,by go_num,HXO,Lib.hid (by rw [HTK.out];have:=HXL.out;rw [←HEL,List.take_length] at this;exact this),HB⟩
          case measure=>simp [intOf];omega
    · obtain rfl : m = k0 := by omega
      clear hlt f0 f1 f2 f3 f4 f5 f6 f7 p0 p1 p2
      replace HXL:=Lib.hid (show InsL (PartN B w.heap.size wr (.slice a3 n3 c3')) wr xs (stepEq f ss o) from by have:=HXL.out;rwa [←HOM.out,List.take_length] at this)
      obtain⟨⟨f0,f1,f2,f3,f4,f5,f6,f7⟩,p0,p1,p2⟩:=HPB.out _ HB.out
      obtain⟨we,rfl⟩:∃ we:World,we=wr:=⟨_,rfl⟩
      go_wp2_with fail
      clear f0 f1 f2 f3 f4 f5 f6 f7 p0 p1 p2
      go_loopw [5,8] (fun u t wr=>∃(k:Nat) (xs:List InsM) (a3:Option Addr) (n3 c3:Nat),k≤m2∧u=.slice a3 n3 c3∧t=.int .i64 k∧Hid (OwnS wr W1.heap.size (.slice a3 n3 c3) xs)∧Hid (InsL (PartN B w.heap.size wr (.slice a3 n3 c3)) wr xs (stepEq f ss o++(f.mems.take k).mapIdx (keepI ss)))∧Hid (Below W1.heap.size W1 wr)) (fun _ t _=>m2-(intOf t).toNat)
      case atStart=>exact⟨0,xs,a3,n3,c3',Nat.zero_le _,rfl,rfl,HXO,Lib.hid (by simpa using HXL.out),HB⟩
      case round =>
        clear HXO HXL HB
        obtain⟨k,xs,a3,n3,c3',hk,rfl,rfl,HXO,HXL,HB⟩:=hrel
        obtain⟨⟨f0,f1,f2,f3,f4,f5,f6,f7⟩,p0,p1,p2⟩:=HPB.out _ HB.out
        by_cases hlt:k<m2
        · obtain⟨x,hx⟩:=(HF.out _ HB.out).mems.ex hlt
          obtain⟨b,off,hab,hbb,hat⟩:=(HF.out _ HB.out).mems.at_ hx
          obtain⟨d1,d2,r,_,_,hrr,y0,y1,y2,y3,y4,y5,y6,y7⟩:=hat.cells
          obtain⟨⟨hz1,hz2⟩,hz3,hz4⟩:=HGM.out k x hx
          dsimp only at hab
          subst hab
          have hbl:b<wr.heap.size:=Nat.lt_of_lt_of_le hbb (HBW.out _ HB.out)
          have hkI:(k:Int)<(m2:Int):=by omega
          have HLEN:Hid (xs.length≤100000000):=Lib.hid (HXL.out.le (by
            have h1:=stepEq_len (f:=f) (ss:=ss) (o:=o)
            have h2:=Nat.mul_le_mul HOL.out HSM.out.eqs
            have h3:=HSM.out.mems;have h4:=HSM.out.conts;have h5:=HSM.out.outs;have h6:=HSM.out.again
            simp only [List.length_append,List.length_mapIdx,List.length_take]
            omega))
          have HMT:=Lib.hid (mapIdx_take (g:=keepI ss) hx)
          obtain⟨W3,hW3⟩:∃ W3,W3=wr.alloc (.cells (memvs x d1 d2 r) 137):=⟨_,rfl⟩
          have hb3:Below wr.heap.size wr W3:=by rw [hW3];exact(Below.refl _ _).alloc (Nat.le_refl _) _
          have HK3:=Lib.hid (show Blk W3 wr.heap.size 137 (memvs x d1 d2 r) from by rw [hW3];exact Blk.new _ _ _)
          have HCW:Hid (W3.heap.size≤W3.heap.size):=Lib.hid (Nat.le_refl _)
          have hlW:wr.heap.size<W3.heap.size:=HK3.out.lt
          have HBr3:=Lib.hid (fun W (hb:Below W3.heap.size W3 W)=>(hb3.trans (hb.mono hb3.size)))
          have HBc3:=Lib.hid (fun W (hb:Below W3.heap.size W3 W)=>HB.out.trans ((HBr3.out W hb).mono HB.out.size))
          have HS3:Hid (W1.heap.size≤W3.heap.size):=Lib.hid (Nat.le_trans HB.out.size hb3.size)
          have HHR:Hid (w.heap.size≤wr.heap.size):=Lib.hid (by have:=HB.out.size;have:=HS1.out;omega)
          have HRR:=Lib.hid (fun W (hb:Below W3.heap.size W3 W)=>hrr.below ((HBr3.out W hb).mono (HBW.out _ HB.out)))
          have hl3:r.2.1≤1000000:=by rw [←hrr.1];omega
          have HSN:=Lib.hid (fun W (hb:Below W3.heap.size W3 W)=>slot15_t A A2 m c n c2 B S x.next ss W (HR.out W (HBc3.out W hb)) (HBW.out W (HBc3.out W hb)) hz3)
          have HSG:=Lib.hid (fun W (hb:Below W3.heap.size W3 W)=>slot15_t A A2 m c n c2 B S x.guard ss W (HR.out W (HBc3.out W hb)) (HBW.out W (HBc3.out W hb)) hz4)
          have HT3:=Lib.hid (fun W (hb:Below W3.heap.size W3 W)=>slots15_t A A2 m c n c2 B S ss r.1 r.2.1 r.2.2 x.resets W (HR.out W (HBc3.out W hb)) (HBW.out W (HBc3.out W hb)) (HRR.out W hb) (HBW.out W (HBc3.out W hb)) hl3 hz2)
          have HPW:Hid (∀ W,Below W3.heap.size W3 W→W.cell? ⟨wr.heap.size,5,none⟩=some (.int .i64 x.next)∧W.cell? ⟨wr.heap.size,6,none⟩=some (.int .i64 x.guard)∧W.cell? ⟨wr.heap.size,7,none⟩=some (.slice r.1 r.2.1 r.2.2)∧W.cell? ⟨w.heap.size+1,0,none⟩=some (.slice A m c)∧W.cell? ⟨w.heap.size+1,1,none⟩=some (.slice A2 n c2)∧W.cell? ⟨w.heap.size+1,2,none⟩=some (.int .i64 S)):=Lib.hid fun W hb=>by
            have k1:=HK3.out.later hb
            exact⟨k1.cell 5 rfl,k1.cell 6 rfl,k1.cell 7 rfl,(HPB.out W (HBc3.out W hb)).2⟩
          have HPO:Hid (∀ wX W,(wX.cell? ⟨wr.heap.size,5,none⟩=some (.int .i64 x.next)∧wX.cell? ⟨wr.heap.size,6,none⟩=some (.int .i64 x.guard)∧wX.cell? ⟨wr.heap.size,7,none⟩=some (.slice r.1 r.2.1 r.2.2)∧wX.cell? ⟨w.heap.size+1,0,none⟩=some (.slice A m c)∧wX.cell? ⟨w.heap.size+1,1,none⟩=some (.slice A2 n c2)∧wX.cell? ⟨w.heap.size+1,2,none⟩=some (.int .i64 S))→wr.heap.size<wX.heap.size→Only [(Value.slice a3 n3 c3').ownBlock] wX W→W.cell? ⟨wr.heap.size,5,none⟩=some (.int .i64 x.next)∧W.cell? ⟨wr.heap.size,6,none⟩=some (.int .i64 x.guard)∧W.cell? ⟨wr.heap.size,7,none⟩=some (.slice r.1 r.2.1 r.2.2)∧W.cell? ⟨w.heap.size+1,0,none⟩=some (.slice A m c)∧W.cell? ⟨w.heap.size+1,1,none⟩=some (.slice A2 n c2)∧W.cell? ⟨w.heap.size+1,2,none⟩=some (.int .i64 S)):=Lib.hid fun wX W h hl ho=>by
            have n1:some wr.heap.size ∉ [(Value.slice a3 n3 c3').ownBlock]:=by
              simp
              intro e
              have:=(HXO.out.lt e.symm).2
              omega
            have n2:some (w.heap.size+1) ∉ [(Value.slice a3 n3 c3').ownBlock]:=by
              simp
              intro e
              have:=(HXO.out.lt e.symm).1
              have:=HS1.out
              omega
            have hl2:w.heap.size+1<wX.heap.size:=by have:=HB.out.size;have:=HS1.out;omega
            exact⟨(ho.cell (p:=⟨wr.heap.size,5,none⟩) hl n1).trans h.1,(ho.cell (p:=⟨wr.heap.size,6,none⟩) hl n1).trans h.2.1,(ho.cell (p:=⟨wr.heap.size,7,none⟩) hl n1).trans h.2.2.1,(ho.cell (p:=⟨w.heap.size+1,0,none⟩) hl2 n2).trans h.2.2.2.1,(ho.cell (p:=⟨w.heap.size+1,1,none⟩) hl2 n2).trans h.2.2.2.2.1,(ho.cell (p:=⟨w.heap.size+1,2,none⟩) hl2 n2).trans h.2.2.2.2.2⟩
          have HB3d:=Lib.hid (Below.refl W3.heap.size W3).drew
          unfold memvs at hW3
          clear hx hat hrr hz1 hz2 hz3 hz4 hl3
          go_upto_region 14 with fail
          rw [←hW3]
          clear hW3 hb3 f0 f1 f2 f3 f4 f5 f6 f7 p0 p1 p2 y0 y1 y2 y3 y4 y5 y6 y7
          go_region_held3 (fun w'=>w'.cell? ⟨wr.heap.size,5,none⟩=some (.int .i64 x.next)∧w'.cell? ⟨wr.heap.size,6,none⟩=some (.int .i64 x.guard)∧w'.cell? ⟨wr.heap.size,7,none⟩=some (.slice r.1 r.2.1 r.2.2)∧w'.cell? ⟨w.heap.size+1,0,none⟩=some (.slice A m c)∧w'.cell? ⟨w.heap.size+1,1,none⟩=some (.slice A2 n c2)∧w'.cell? ⟨w.heap.size+1,2,none⟩=some (.int .i64 S)) (first | with_reducible exact HPW.out _ HB3d.out | with_reducible exact HPW.out _ HB4.out | with_reducible exact HPW.out _ (HB4.out.alloc HB4.out.size _) | with_reducible exact HPW.out _ HB5.out | with_reducible exact HPW.out _ (HB5.out.alloc HB5.out.size _) | with_reducible exact HPW.out _ HB6.out | with_reducible exact HPW.out _ (HB6.out.alloc HB6.out.size _) | with_reducible exact HPW.out _ ((HB6.out.alloc HB6.out.size _).alloc (HB6.out.alloc HB6.out.size _).size _) | with_reducible exact HPE.out | go_keep) (first
            | (go_at_call 71;first
              | ((with_reducible refine(HSN.out _ HB3d.out).mono ?_);rintro e w4 ⟨rfl,hb⟩;have HB4:=Lib.hid (HB3d.out.trans hb);clear hb)
              | ((with_reducible refine(HSG.out _ HB4.out).mono ?_);rintro e w5 ⟨rfl,hb⟩;have HB5:=Lib.hid (HB4.out.trans (hb.mono HB4.out.size));clear hb)
              | ((with_reducible refine(HSG.out _ (HB4.out.alloc HB4.out.size _)).mono ?_);rintro e w5 ⟨rfl,hb⟩;have HB5:=Lib.hid ((HB4.out.alloc HB4.out.size _).trans (hb.mono (HB4.out.alloc HB4.out.size _).size));have HRW5:=Lib.hid (row_new HB4.out.size hb);clear hb))
            | (go_at_call 122;first
              | ((with_reducible refine(HT3.out _ HB5.out).mono ?_);rintro e w6 ⟨v6,rfl,hown6,hb⟩;obtain⟨a6,c6,hv6,ha6⟩:=hown6.irowP;obtain⟨n6,hn6⟩:∃ n6,n6=(x.resets.map (slotS ss)).length:=⟨_,rfl⟩;rw [←hn6] at hv6 ha6;clear hn6;subst hv6;have HB6:=Lib.hid (HB5.out.trans (hb.mono HB5.out.size));first
                | (have HRW6:=Lib.hid (HRW5.out.keep (keepLt hb));obtain⟨XX,hXX⟩:∃ XX:InsM,XX=⟨⟨#[107,101,101,112]⟩,0,(some ⟨w4.heap.size,0,none⟩,1,1),(k:Int),0,false,(none,0,0),(none,0,0),⟨#[]⟩,slotS ss x.guard,(a6,n6,c6)⟩:=⟨_,rfl⟩;obtain⟨wX,hwX⟩:∃ wX,wX=w6:=⟨_,rfl⟩;have HBX:=Lib.hid (show Below W3.heap.size W3 wX from by rw [hwX];exact HB6.out);have HIX:Hid (InsR (NewP B W3.heap.size wX) wX XX (keepI ss k x)):=Lib.hid (by rw [hwX];exact⟨by rw [hXX] <;> rfl,by rw [hXX] <;> rfl,by rw [hXX];exact HRW6.out.weak (fun b p=>⟨p.2,.inr p.1⟩),by rw [hXX] <;> rfl,by rw [hXX] <;> rfl,by rw [hXX] <;> rfl,by rw [hXX];exact URowP.nil _ _,by rw [hXX];exact URowP.nil _ _,by rw [hXX] <;> rfl,by rw [hXX] <;> rfl,by rw [hXX];exact ha6.weak (fun b p=>⟨p.2,.inr (Nat.le_trans HB5.out.size p.1)⟩)⟩);have HXX:=Lib.hid hXX;have HWX:=Lib.hid hwX;clear hXX hwX hown6 hb ha6)
                | (obtain⟨XX,hXX⟩:∃ XX:InsM,XX=⟨⟨#[107,101,101,112]⟩,0,(some ⟨w6.heap.size,0,none⟩,1,1),(k:Int),0,false,(none,0,0),(none,0,0),⟨#[]⟩,slotS ss x.guard,(a6,n6,c6)⟩:=⟨_,rfl⟩;obtain⟨wX,hwX⟩:∃ wX,wX=w6.alloc (.cells #[.int .i64 (slotS ss x.next)] 3):=⟨_,rfl⟩;have HBX:=Lib.hid (show Below W3.heap.size W3 wX from by rw [hwX];exact HB6.out.alloc HB6.out.size _);have HIX:Hid (InsR (NewP B W3.heap.size wX) wX XX (keepI ss k x)):=Lib.hid (by rw [hwX];exact⟨by rw [hXX] <;> rfl,by rw [hXX] <;> rfl,by rw [hXX];exact(row_new0 HB6.out.size).weak (fun b p=>⟨p.2,.inr p.1⟩),by rw [hXX] <;> rfl,by rw [hXX] <;> rfl,by rw [hXX] <;> rfl,by rw [hXX];exact URowP.nil _ _,by rw [hXX];exact URowP.nil _ _,by rw [hXX] <;> rfl,by rw [hXX] <;> rfl,by rw [hXX];exact(ha6.keep (keepLt ((Below.refl _ _).alloc (Nat.le_refl _) _))).weak (fun b p=>⟨p.2,.inr (Nat.le_trans HB5.out.size p.1)⟩)⟩);have HXX:=Lib.hid hXX;have HWX:=Lib.hid hwX;clear hXX hwX hown6 hb ha6))
              | ((with_reducible refine(HT3.out _ (HB5.out.alloc HB5.out.size _)).mono ?_);rintro e w6 ⟨v6,rfl,hown6,hb⟩;obtain⟨a6,c6,hv6,ha6⟩:=hown6.irowP;obtain⟨n6,hn6⟩:∃ n6,n6=(x.resets.map (slotS ss)).length:=⟨_,rfl⟩;rw [←hn6] at hv6 ha6;clear hn6;subst hv6;have HB6:=Lib.hid ((HB5.out.alloc HB5.out.size _).trans (hb.mono (HB5.out.alloc HB5.out.size _).size));have HRW6:=Lib.hid (row_new HB5.out.size hb);obtain⟨XX,hXX⟩:∃ XX:InsM,XX=⟨⟨#[107,101,101,112]⟩,0,(some ⟨w5.heap.size,0,none⟩,1,1),(k:Int),0,false,(none,0,0),(none,0,0),⟨#[]⟩,slotS ss x.guard,(a6,n6,c6)⟩:=⟨_,rfl⟩;obtain⟨wX,hwX⟩:∃ wX,wX=w6:=⟨_,rfl⟩;have HBX:=Lib.hid (show Below W3.heap.size W3 wX from by rw [hwX];exact HB6.out);have HIX:Hid (InsR (NewP B W3.heap.size wX) wX XX (keepI ss k x)):=Lib.hid (by rw [hwX];exact⟨by rw [hXX] <;> rfl,by rw [hXX] <;> rfl,by rw [hXX];exact HRW6.out.weak (fun b p=>⟨p.2,.inr p.1⟩),by rw [hXX] <;> rfl,by rw [hXX] <;> rfl,by rw [hXX] <;> rfl,by rw [hXX];exact URowP.nil _ _,by rw [hXX];exact URowP.nil _ _,by rw [hXX] <;> rfl,by rw [hXX] <;> rfl,by rw [hXX];exact ha6.weak (fun b p=>⟨p.2,.inr (Nat.le_trans (HB5.out.alloc HB5.out.size _).size p.1)⟩)⟩);have HXX:=Lib.hid hXX;have HWX:=Lib.hid hwX;clear hXX hwX hown6 hb ha6))
            | (rw [←HWX.out];refine stepZ rfl _ _ rfl W1.heap.size (.slice a3 n3 c3') xs XX 96 _ rfl rfl (by first | rfl | (rw [HWX.out];simp)) (by rw [HXX.out] <;> rfl) (HXO.out.later (HBr3.out _ HBX.out)) (by first | exact Nat.le_trans HS3.out HBX.out.size | (have:=HS3.out;have:=HBX.out.size;rw [HWX.out] at this;(try simp at this);omega)) HLEN.out ?_;intro v7 w7 hown7 honly7 hat7;obtain⟨a7,n7,c7,hv7⟩:=own_sliceS hown7;subst hv7;have HO7:=Lib.hid hown7;have HRE:=Lib.hid (round_end HXO.out HXL.out (HBr3.out _ HBX.out) HIX.out HBS.out (HBr3.out _ (Below.refl _ _)).size HHR.out honly7 hat7 (by first | exact Nat.le_refl _ | (rw [HWX.out];simp)));have HPE:=Lib.hid (HPO.out wX w7 (HPW.out wX HBX.out) (Nat.lt_of_lt_of_le hlW HBX.out.size) honly7);have HB7:=Lib.hid ((HBc3.out _ HBX.out).trans (honly7.ownS (HXO.out.later (HBr3.out _ HBX.out)) (Nat.le_trans HS3.out HBX.out.size)));clear hown7 honly7 hat7))
          all_goals
            go_wp2_with fail
            go_roundw
            case rel=>exact⟨k+1,xs++[XX],a7,n7,c7,by omega,rfl,by go_num,HO7,Lib.hid (by rw [HMT.out,←List.append_assoc];exact HRE.out),HB7⟩
            case measure=>simp [intOf];omega
        · obtain rfl : m2 = k := by omega
          clear hlt f0 f1 f2 f3 f4 f5 f6 f7 p0 p1 p2
          replace HXL:=Lib.hid (show InsL (PartN B w.heap.size wr (.slice a3 n3 c3')) wr xs (stepEq f ss o++f.mems.mapIdx (keepI ss)) from by have:=HXL.out;rwa [←HMM.out,List.take_length] at this)
          obtain⟨⟨f0,f1,f2,f3,f4,f5,f6,f7⟩,p0,p1,p2⟩:=HPB.out _ HB.out
          obtain⟨we,rfl⟩:∃ we:World,we=wr:=⟨_,rfl⟩
          go_wp2_with fail
          clear f0 f1 f2 f3 f4 f5 f6 f7 p0 p1 p2
          go_loopw [5,10] (fun u t wr=>∃(k:Nat) (xs:List InsM) (a3:Option Addr) (n3 c3:Nat),k≤cn∧u=.slice a3 n3 c3∧t=.int .i64 k∧Hid (OwnS wr W1.heap.size (.slice a3 n3 c3) xs)∧Hid (InsL (PartN B w.heap.size wr (.slice a3 n3 c3)) wr xs (stepEq f ss o++f.mems.mapIdx (keepI ss)++(f.conts.take k).mapIdx (stateI ss)))∧Hid (Below W1.heap.size W1 wr)) (fun _ t _=>cn-(intOf t).toNat)
          case atStart=>exact⟨0,xs,a3,n3,c3',Nat.zero_le _,rfl,rfl,HXO,Lib.hid (by simpa using HXL.out),HB⟩
          case round =>
            clear HXO HXL HB
            obtain⟨k,xs,a3,n3,c3',hk,rfl,rfl,HXO,HXL,HB⟩:=hrel
            obtain⟨⟨f0,f1,f2,f3,f4,f5,f6,f7⟩,p0,p1,p2⟩:=HPB.out _ HB.out
            by_cases hlt:k<cn
            · obtain⟨x,hx⟩:=(HF.out _ HB.out).conts.ex hlt
              obtain⟨b,off,hab,hbb,hat⟩:=(HF.out _ HB.out).conts.at_ hx
              obtain⟨d1,d2,r,s,_,_,hrr,_,y0,y1,y2,y3,y4,y5,y6,y7,y8⟩:=hat.cells
              obtain⟨⟨hz1,hz2⟩,hz3,hz4,_⟩:=HGC.out k x hx
              dsimp only at hab
              subst hab
              have hbl:b<wr.heap.size:=Nat.lt_of_lt_of_le hbb (HBW.out _ HB.out)
              have hkI:(k:Int)<(cn:Int):=by omega
              have HLEN:Hid (xs.length≤100000000):=Lib.hid (HXL.out.le (by
                have h1:=stepEq_len (f:=f) (ss:=ss) (o:=o)
                have h2:=Nat.mul_le_mul HOL.out HSM.out.eqs
                have h3:=HSM.out.mems;have h4:=HSM.out.conts;have h5:=HSM.out.outs;have h6:=HSM.out.again
                simp only [List.length_append,List.length_mapIdx,List.length_take]
                omega))
              have HMT:=Lib.hid (mapIdx_take (g:=stateI ss) hx)
              obtain⟨W3,hW3⟩:∃ W3,W3=wr.alloc (.cells (contvs x d1 d2 r s) 140):=⟨_,rfl⟩
              have hb3:Below wr.heap.size wr W3:=by rw [hW3];exact(Below.refl _ _).alloc (Nat.le_refl _) _
              have HK3:=Lib.hid (show Blk W3 wr.heap.size 140 (contvs x d1 d2 r s) from by rw [hW3];exact Blk.new _ _ _)
              have HCW:Hid (W3.heap.size≤W3.heap.size):=Lib.hid (Nat.le_refl _)
              have hlW:wr.heap.size<W3.heap.size:=HK3.out.lt
              have HBr3:=Lib.hid (fun W (hb:Below W3.heap.size W3 W)=>(hb3.trans (hb.mono hb3.size)))
              have HBc3:=Lib.hid (fun W (hb:Below W3.heap.size W3 W)=>HB.out.trans ((HBr3.out W hb).mono HB.out.size))
              have HS3:Hid (W1.heap.size≤W3.heap.size):=Lib.hid (Nat.le_trans HB.out.size hb3.size)
              have HHR:Hid (w.heap.size≤wr.heap.size):=Lib.hid (by have:=HB.out.size;have:=HS1.out;omega)
              have HRR:=Lib.hid (fun W (hb:Below W3.heap.size W3 W)=>hrr.below ((HBr3.out W hb).mono (HBW.out _ HB.out)))
              have hl3:r.2.1≤1000000:=by rw [←hrr.1];omega
              have HSN:=Lib.hid (fun W (hb:Below W3.heap.size W3 W)=>slot15_t A A2 m c n c2 B S x.var ss W (HR.out W (HBc3.out W hb)) (HBW.out W (HBc3.out W hb)) hz3)
              have HSG:=Lib.hid (fun W (hb:Below W3.heap.size W3 W)=>slot15_t A A2 m c n c2 B S x.guard ss W (HR.out W (HBc3.out W hb)) (HBW.out W (HBc3.out W hb)) hz4)
              have HT3:=Lib.hid (fun W (hb:Below W3.heap.size W3 W)=>slots15_t A A2 m c n c2 B S ss r.1 r.2.1 r.2.2 x.resets W (HR.out W (HBc3.out W hb)) (HBW.out W (HBc3.out W hb)) (HRR.out W hb) (HBW.out W (HBc3.out W hb)) hl3 hz2)
              have HPW:Hid (∀ W,Below W3.heap.size W3 W→W.cell? ⟨wr.heap.size,5,none⟩=some (.int .i64 x.var)∧W.cell? ⟨wr.heap.size,6,none⟩=some (.int .i64 x.guard)∧W.cell? ⟨wr.heap.size,7,none⟩=some (.slice r.1 r.2.1 r.2.2)∧W.cell? ⟨w.heap.size+1,0,none⟩=some (.slice A m c)∧W.cell? ⟨w.heap.size+1,1,none⟩=some (.slice A2 n c2)∧W.cell? ⟨w.heap.size+1,2,none⟩=some (.int .i64 S)):=Lib.hid fun W hb=>by
                have k1:=HK3.out.later hb
                exact⟨k1.cell 5 rfl,k1.cell 6 rfl,k1.cell 7 rfl,(HPB.out W (HBc3.out W hb)).2⟩
              have HPO:Hid (∀ wX W,(wX.cell? ⟨wr.heap.size,5,none⟩=some (.int .i64 x.var)∧wX.cell? ⟨wr.heap.size,6,none⟩=some (.int .i64 x.guard)∧wX.cell? ⟨wr.heap.size,7,none⟩=some (.slice r.1 r.2.1 r.2.2)∧wX.cell? ⟨w.heap.size+1,0,none⟩=some (.slice A m c)∧wX.cell? ⟨w.heap.size+1,1,none⟩=some (.slice A2 n c2)∧wX.cell? ⟨w.heap.size+1,2,none⟩=some (.int .i64 S))→wr.heap.size<wX.heap.size→Only [(Value.slice a3 n3 c3').ownBlock] wX W→W.cell? ⟨wr.heap.size,5,none⟩=some (.int .i64 x.var)∧W.cell? ⟨wr.heap.size,6,none⟩=some (.int .i64 x.guard)∧W.cell? ⟨wr.heap.size,7,none⟩=some (.slice r.1 r.2.1 r.2.2)∧W.cell? ⟨w.heap.size+1,0,none⟩=some (.slice A m c)∧W.cell? ⟨w.heap.size+1,1,none⟩=some (.slice A2 n c2)∧W.cell? ⟨w.heap.size+1,2,none⟩=some (.int .i64 S)):=Lib.hid fun wX W h hl ho=>by
                have n1:some wr.heap.size ∉ [(Value.slice a3 n3 c3').ownBlock]:=by
                  simp
                  intro e
                  have:=(HXO.out.lt e.symm).2
                  omega
                have n2:some (w.heap.size+1) ∉ [(Value.slice a3 n3 c3').ownBlock]:=by
                  simp
                  intro e
                  have:=(HXO.out.lt e.symm).1
                  have:=HS1.out
                  omega
                have hl2:w.heap.size+1<wX.heap.size:=by have:=HB.out.size;have:=HS1.out;omega
                exact⟨(ho.cell (p:=⟨wr.heap.size,5,none⟩) hl n1).trans h.1,(ho.cell (p:=⟨wr.heap.size,6,none⟩) hl n1).trans h.2.1,(ho.cell (p:=⟨wr.heap.size,7,none⟩) hl n1).trans h.2.2.1,(ho.cell (p:=⟨w.heap.size+1,0,none⟩) hl2 n2).trans h.2.2.2.1,(ho.cell (p:=⟨w.heap.size+1,1,none⟩) hl2 n2).trans h.2.2.2.2.1,(ho.cell (p:=⟨w.heap.size+1,2,none⟩) hl2 n2).trans h.2.2.2.2.2⟩
              have HB3d:=Lib.hid (Below.refl W3.heap.size W3).drew
              unfold contvs at hW3
              clear hx hat hrr hz1 hz2 hz3 hz4 hl3
              go_upto_region 19 with fail
              rw [←hW3]
              clear hW3 hb3 f0 f1 f2 f3 f4 f5 f6 f7 p0 p1 p2 y0 y1 y2 y3 y4 y5 y6 y7 y8
              go_region_held3 (fun w'=>w'.cell? ⟨wr.heap.size,5,none⟩=some (.int .i64 x.var)∧w'.cell? ⟨wr.heap.size,6,none⟩=some (.int .i64 x.guard)∧w'.cell? ⟨wr.heap.size,7,none⟩=some (.slice r.1 r.2.1 r.2.2)∧w'.cell? ⟨w.heap.size+1,0,none⟩=some (.slice A m c)∧w'.cell? ⟨w.heap.size+1,1,none⟩=some (.slice A2 n c2)∧w'.cell? ⟨w.heap.size+1,2,none⟩=some (.int .i64 S)) (first | with_reducible exact HPW.out _ HB3d.out | with_reducible exact HPW.out _ HB4.out | with_reducible exact HPW.out _ (HB4.out.alloc HB4.out.size _) | with_reducible exact HPW.out _ HB5.out | with_reducible exact HPW.out _ (HB5.out.alloc HB5.out.size _) | with_reducible exact HPW.out _ HB6.out | with_reducible exact HPW.out _ (HB6.out.alloc HB6.out.size _) | with_reducible exact HPW.out _ ((HB6.out.alloc HB6.out.size _).alloc (HB6.out.alloc HB6.out.size _).size _) | with_reducible exact HPE.out | go_keep) (first
                | (go_at_call 71;first
                  | ((with_reducible refine(HSN.out _ HB3d.out).mono ?_);rintro e w4 ⟨rfl,hb⟩;have HB4:=Lib.hid (HB3d.out.trans hb);clear hb)
                  | ((with_reducible refine(HSG.out _ HB4.out).mono ?_);rintro e w5 ⟨rfl,hb⟩;have HB5:=Lib.hid (HB4.out.trans (hb.mono HB4.out.size));clear hb)
                  | ((with_reducible refine(HSG.out _ (HB4.out.alloc HB4.out.size _)).mono ?_);rintro e w5 ⟨rfl,hb⟩;have HB5:=Lib.hid ((HB4.out.alloc HB4.out.size _).trans (hb.mono (HB4.out.alloc HB4.out.size _).size));have HRW5:=Lib.hid (row_new HB4.out.size hb);clear hb))
                | (go_at_call 122;first
                  | ((with_reducible refine(HT3.out _ HB5.out).mono ?_);rintro e w6 ⟨v6,rfl,hown6,hb⟩;obtain⟨a6,c6,hv6,ha6⟩:=hown6.irowP;obtain⟨n6,hn6⟩:∃ n6,n6=(x.resets.map (slotS ss)).length:=⟨_,rfl⟩;rw [←hn6] at hv6 ha6;clear hn6;subst hv6;have HB6:=Lib.hid (HB5.out.trans (hb.mono HB5.out.size));first
                    | (have HRW6:=Lib.hid (HRW5.out.keep (keepLt hb));obtain⟨XX,hXX⟩:∃ XX:InsM,XX=⟨⟨#[115,116,97,116,101]⟩,0,(some ⟨w4.heap.size,0,none⟩,1,1),(k:Int),0,false,(none,0,0),(none,0,0),⟨#[]⟩,slotS ss x.guard,(a6,n6,c6)⟩:=⟨_,rfl⟩;obtain⟨wX,hwX⟩:∃ wX,wX=w6:=⟨_,rfl⟩;have HBX:=Lib.hid (show Below W3.heap.size W3 wX from by rw [hwX];exact HB6.out);have HIX:Hid (InsR (NewP B W3.heap.size wX) wX XX (stateI ss k x)):=Lib.hid (by rw [hwX];exact⟨by rw [hXX] <;> rfl,by rw [hXX] <;> rfl,by rw [hXX];exact HRW6.out.weak (fun b p=>⟨p.2,.inr p.1⟩),by rw [hXX] <;> rfl,by rw [hXX] <;> rfl,by rw [hXX] <;> rfl,by rw [hXX];exact URowP.nil _ _,by rw [hXX];exact URowP.nil _ _,by rw [hXX] <;> rfl,by rw [hXX] <;> rfl,by rw [hXX];exact ha6.weak (fun b p=>⟨p.2,.inr (Nat.le_trans HB5.out.size p.1)⟩)⟩);have HXX:=Lib.hid hXX;have HWX:=Lib.hid hwX;clear hXX hwX hown6 hb ha6)
                    | (obtain⟨XX,hXX⟩:∃ XX:InsM,XX=⟨⟨#[115,116,97,116,101]⟩,0,(some ⟨w6.heap.size,0,none⟩,1,1),(k:Int),0,false,(none,0,0),(none,0,0),⟨#[]⟩,slotS ss x.guard,(a6,n6,c6)⟩:=⟨_,rfl⟩;obtain⟨wX,hwX⟩:∃ wX,wX=w6.alloc (.cells #[.int .i64 (slotS ss x.var)] 3):=⟨_,rfl⟩;have HBX:=Lib.hid (show Below W3.heap.size W3 wX from by rw [hwX];exact HB6.out.alloc HB6.out.size _);have HIX:Hid (InsR (NewP B W3.heap.size wX) wX XX (stateI ss k x)):=Lib.hid (by rw [hwX];exact⟨by rw [hXX] <;> rfl,by rw [hXX] <;> rfl,by rw [hXX];exact(row_new0 HB6.out.size).weak (fun b p=>⟨p.2,.inr p.1⟩),by rw [hXX] <;> rfl,by rw [hXX] <;> rfl,by rw [hXX] <;> rfl,by rw [hXX];exact URowP.nil _ _,by rw [hXX];exact URowP.nil _ _,by rw [hXX] <;> rfl,by rw [hXX] <;> rfl,by rw [hXX];exact(ha6.keep (keepLt ((Below.refl _ _).alloc (Nat.le_refl _) _))).weak (fun b p=>⟨p.2,.inr (Nat.le_trans HB5.out.size p.1)⟩)⟩);have HXX:=Lib.hid hXX;have HWX:=Lib.hid hwX;clear hXX hwX hown6 hb ha6))
                  | ((with_reducible refine(HT3.out _ (HB5.out.alloc HB5.out.size _)).mono ?_);rintro e w6 ⟨v6,rfl,hown6,hb⟩;obtain⟨a6,c6,hv6,ha6⟩:=hown6.irowP;obtain⟨n6,hn6⟩:∃ n6,n6=(x.resets.map (slotS ss)).length:=⟨_,rfl⟩;rw [←hn6] at hv6 ha6;clear hn6;subst hv6;have HB6:=Lib.hid ((HB5.out.alloc HB5.out.size _).trans (hb.mono (HB5.out.alloc HB5.out.size _).size));have HRW6:=Lib.hid (row_new HB5.out.size hb);obtain⟨XX,hXX⟩:∃ XX:InsM,XX=⟨⟨#[115,116,97,116,101]⟩,0,(some ⟨w5.heap.size,0,none⟩,1,1),(k:Int),0,false,(none,0,0),(none,0,0),⟨#[]⟩,slotS ss x.guard,(a6,n6,c6)⟩:=⟨_,rfl⟩;obtain⟨wX,hwX⟩:∃ wX,wX=w6:=⟨_,rfl⟩;have HBX:=Lib.hid (show Below W3.heap.size W3 wX from by rw [hwX];exact HB6.out);have HIX:Hid (InsR (NewP B W3.heap.size wX) wX XX (stateI ss k x)):=Lib.hid (by rw [hwX];exact⟨by rw [hXX] <;> rfl,by rw [hXX] <;> rfl,by rw [hXX];exact HRW6.out.weak (fun b p=>⟨p.2,.inr p.1⟩),by rw [hXX] <;> rfl,by rw [hXX] <;> rfl,by rw [hXX] <;> rfl,by rw [hXX];exact URowP.nil _ _,by rw [hXX];exact URowP.nil _ _,by rw [hXX] <;> rfl,by rw [hXX] <;> rfl,by rw [hXX];exact ha6.weak (fun b p=>⟨p.2,.inr (Nat.le_trans (HB5.out.alloc HB5.out.size _).size p.1)⟩)⟩);have HXX:=Lib.hid hXX;have HWX:=Lib.hid hwX;clear hXX hwX hown6 hb ha6))
                | (rw [←HWX.out];refine stepZ rfl _ _ rfl W1.heap.size (.slice a3 n3 c3') xs XX 96 _ rfl rfl (by first | rfl | (rw [HWX.out];simp)) (by rw [HXX.out] <;> rfl) (HXO.out.later (HBr3.out _ HBX.out)) (by first | exact Nat.le_trans HS3.out HBX.out.size | (have:=HS3.out;have:=HBX.out.size;rw [HWX.out] at this;(try simp at this);omega)) HLEN.out ?_;intro v7 w7 hown7 honly7 hat7;obtain⟨a7,n7,c7,hv7⟩:=own_sliceS hown7;subst hv7;have HO7:=Lib.hid hown7;have HRE:=Lib.hid (round_end HXO.out HXL.out (HBr3.out _ HBX.out) HIX.out HBS.out (HBr3.out _ (Below.refl _ _)).size HHR.out honly7 hat7 (by first | exact Nat.le_refl _ | (rw [HWX.out];simp)));have HPE:=Lib.hid (HPO.out wX w7 (HPW.out wX HBX.out) (Nat.lt_of_lt_of_le hlW HBX.out.size) honly7);have HB7:=Lib.hid ((HBc3.out _ HBX.out).trans (honly7.ownS (HXO.out.later (HBr3.out _ HBX.out)) (Nat.le_trans HS3.out HBX.out.size)));clear hown7 honly7 hat7))
              all_goals
                go_wp2_with fail
                go_roundw
                case rel=>exact⟨k+1,xs++[XX],a7,n7,c7,by omega,rfl,by go_num,HO7,Lib.hid (by rw [HMT.out,←List.append_assoc];exact HRE.out),HB7⟩
                case measure=>simp [intOf];omega
            · obtain rfl:cn=k:=by omega
              clear hlt f0 f1 f2 f3 f4 f5 f6 f7 p0 p1 p2
              replace HXL:=Lib.hid (show InsL (PartN B w.heap.size wr (.slice a3 n3 c3')) wr xs (stepEq f ss o++f.mems.mapIdx (keepI ss)++f.conts.mapIdx (stateI ss)) from by have:=HXL.out;rwa [←HCC.out,List.take_length] at this)
              obtain⟨⟨f0,f1,f2,f3,f4,f5,f6,f7⟩,p0,p1,p2⟩:=HPB.out _ HB.out
              obtain⟨wf,rfl⟩:∃ wf:World,wf=wr:=⟨_,rfl⟩
              go_wp2_with fail
              clear f0 f1 f2 f3 f4 f5 f6 f7 p0 p1 p2
              go_loopw [5,12] (fun u t wr=>∃(k:Nat) (xs:List InsM) (a3:Option Addr) (n3 c3:Nat),k≤o2∧u=.slice a3 n3 c3∧t=.int .i64 k∧Hid (OwnS wr W1.heap.size (.slice a3 n3 c3) xs)∧Hid (InsL (PartN B w.heap.size wr (.slice a3 n3 c3)) wr xs (stepEq f ss o++f.mems.mapIdx (keepI ss)++f.conts.mapIdx (stateI ss)++(f.outs.take k).mapIdx (outI ss)))∧Hid (Below W1.heap.size W1 wr)) (fun _ t _=>o2-(intOf t).toNat)
              case atStart=>exact⟨0,xs,a3,n3,c3',Nat.zero_le _,rfl,rfl,HXO,Lib.hid (by simpa using HXL.out),HB⟩
              case round=>
                clear HXO HXL HB
                obtain⟨k,xs,a3,n3,c3',hk,rfl,rfl,HXO,HXL,HB⟩:=hrel
                obtain⟨⟨f0,f1,f2,f3,f4,f5,f6,f7⟩,p0,p1,p2⟩:=HPB.out _ HB.out
                by_cases hlt:k<o2
                · obtain⟨b,off,hab,hbb,hco⟩:=(HF.out _ HB.out).outs.at_ hlt
                  obtain⟨X,hX⟩:∃ X,X=f.outs.getD k 0:=⟨_,rfl⟩
                  rw [←hX] at hco
                  have hx:f.outs[k]?=some X:=by rw [hX,List.getD_eq_getElem?_getD,List.getElem?_eq_getElem (by rw [HUU.out];exact hlt)];rfl
                  have hXn:X<(n:Int):=HGO.out X (List.mem_of_getElem? hx)
                  dsimp only at hab
                  subst hab
                  have hbC:b<W1.heap.size:=Nat.lt_of_lt_of_le hbb HBS.out
                  have hkI:(k:Int)<(o2:Int):=by omega
                  have HLEN:Hid (xs.length≤100000000):=Lib.hid (HXL.out.le (by
                    have h1:=stepEq_len (f:=f) (ss:=ss) (o:=o)
                    have h2:=Nat.mul_le_mul HOL.out HSM.out.eqs
                    have h3:=HSM.out.mems;have h4:=HSM.out.conts;have h5:=HSM.out.outs;have h6:=HSM.out.again
                    simp only [List.length_append,List.length_mapIdx,List.length_take,List.length_map]
                    omega))
                  have HMT:=Lib.hid (mapIdx_take (g:=outI ss) hx)
                  have HHR:Hid (w.heap.size≤wr.heap.size):=Lib.hid (by have:=HB.out.size;have:=HS1.out;omega)
                  have HSN:=Lib.hid (slot15_t A A2 m c n c2 B S X ss wr.drew (HR.out _ HB.out.drew) (HBW.out _ HB.out.drew) hXn)
                  have HPW:Hid (∀ W,Below W1.heap.size wr W→W.cell? ⟨w.heap.size,2,none⟩=some (.slice (some ⟨b,off,none⟩) o2 o3)∧W.cell? ⟨b,off+k,none⟩=some (.int .i64 X)∧W.cell? ⟨w.heap.size+1,0,none⟩=some (.slice A m c)∧W.cell? ⟨w.heap.size+1,1,none⟩=some (.slice A2 n c2)∧W.cell? ⟨w.heap.size+1,2,none⟩=some (.int .i64 S)):=Lib.hid fun W hb=>by
                    obtain⟨k1,k2,k3,k4⟩:=HPB.out W (HB.out.trans hb)
                    exact⟨k1.2.2.1,(hb.cell (p:=⟨b,off+k,none⟩) hbC).trans hco,k2,k3,k4⟩
                  have HBd:=Lib.hid (Below.refl W1.heap.size wr).drew
                  clear hX hXn
                  go_upto_region 77 with fail
                  clear f0 f1 f2 f3 f4 f5 f6 f7 p0 p1 p2 hco
                  go_region_held3 (fun w'=>w'.cell? ⟨w.heap.size,2,none⟩=some (.slice (some ⟨b,off,none⟩) o2 o3)∧w'.cell? ⟨b,off+k,none⟩=some (.int .i64 X)∧w'.cell? ⟨w.heap.size+1,0,none⟩=some (.slice A m c)∧w'.cell? ⟨w.heap.size+1,1,none⟩=some (.slice A2 n c2)∧w'.cell? ⟨w.heap.size+1,2,none⟩=some (.int .i64 S)) (first | with_reducible exact HPW.out _ HBd.out | with_reducible exact HPW.out _ HB2.out | with_reducible exact HPW.out _ (HB2.out.alloc HS2.out _) | with_reducible exact HPW.out _ ((HB2.out.alloc HS2.out _).alloc HS3.out _) | with_reducible exact HPW.out _ HB7.out | go_keep) (first
                    | (go_at_call 71;(with_reducible refine HSN.out.mono ?_);rintro e w2 ⟨rfl,hb⟩;have HBr:=Lib.hid (show Below wr.heap.size wr w2 from(Below.refl _ _).drew.trans hb);have HB2:=Lib.hid (HBr.out.mono HB.out.size);have HS2:Hid (W1.heap.size≤w2.heap.size):=Lib.hid (Nat.le_trans HB.out.size HBr.out.size);have HS3:Hid (W1.heap.size≤(w2.alloc (.cells #[.int .i64 (slotS ss X)] 3)).heap.size):=Lib.hid (by have:=HS2.out;simp;omega);obtain⟨XX,hXX⟩:∃ XX:InsM,XX=⟨⟨#[111,117,116]⟩,0,(some ⟨w2.heap.size,0,none⟩,1,1),(k:Int),0,false,(none,0,0),(none,0,0),⟨#[]⟩,-1,(none,0,0)⟩:=⟨_,rfl⟩;have HBX:=Lib.hid (show Below wr.heap.size wr (w2.alloc (.cells #[.int .i64 (slotS ss X)] 3)) from HBr.out.alloc HBr.out.size _);have HIX:Hid (InsR (NewP B wr.heap.size (w2.alloc (.cells #[.int .i64 (slotS ss X)] 3))) (w2.alloc (.cells #[.int .i64 (slotS ss X)] 3)) XX (outI ss k X)):=Lib.hid ⟨by rw [hXX] <;> rfl,by rw [hXX] <;> rfl,by rw [hXX];exact(row_new0 HBr.out.size).weak (fun b p=>⟨p.2,.inr p.1⟩),by rw [hXX] <;> rfl,by rw [hXX] <;> rfl,by rw [hXX] <;> rfl,by rw [hXX];exact URowP.nil _ _,by rw [hXX];exact URowP.nil _ _,by rw [hXX] <;> rfl,by rw [hXX] <;> rfl,by rw [hXX];exact IRowP.nil _ _⟩;have HXX:=Lib.hid hXX;clear hXX hb)
                    | (refine stepZ rfl _ _ rfl W1.heap.size (.slice a3 n3 c3') xs XX 96 _ rfl rfl (by simp) (by rw [HXX.out] <;> rfl) (HXO.out.later HBX.out) (by have:=HS2.out;omega) HLEN.out ?_;intro v7 w7 hown7 honly7 hat7;obtain⟨a7,n7,c7,hv7⟩:=own_sliceS hown7;subst hv7;have HO7:=Lib.hid hown7;have HRE:=Lib.hid (round_end HXO.out HXL.out HBX.out HIX.out HBS.out (Nat.le_refl _) HHR.out honly7 hat7 (by simp));have HB7:=Lib.hid ((HBX.out.mono HB.out.size).trans (honly7.ownS (HXO.out.later HBX.out) HS3.out));clear hown7 honly7 hat7))
                  go_wp2_with fail
                  go_roundw
                  case rel=>exact⟨k+1,xs++[XX],a7,n7,c7,by omega,rfl,by go_num,HO7,Lib.hid (by rw [HMT.out,←List.append_assoc];exact HRE.out),Lib.hid (HB.out.trans HB7.out)⟩
                  case measure=>simp [intOf];omega
                · obtain rfl:o2=k:=by omega
                  clear hlt f0 f1 f2 f3 f4 f5 f6 f7 p0 p1 p2
                  replace HXL:=Lib.hid (show InsL (PartN B w.heap.size wr (.slice a3 n3 c3')) wr xs (stepEq f ss o++f.mems.mapIdx (keepI ss)++f.conts.mapIdx (stateI ss)++f.outs.mapIdx (outI ss)) from by have:=HXL.out;rwa [←HUU.out,List.take_length] at this)
                  obtain⟨⟨f0,f1,f2,f3,f4,f5,f6,f7⟩,p0,p1,p2⟩:=HPB.out _ HB.out
                  obtain⟨wf,rfl⟩:∃ wf:World,wf=wr:=⟨_,rfl⟩
                  go_wp2_with fail
                  clear f0 f1 f2 f3 f4 f5 f6 f7 p0 p1 p2
                  go_loopw [5,13] (fun u t wr=>∃(k:Nat) (xs:List InsM) (a3:Option Addr) (n3 c3:Nat),k≤g2∧u=.slice a3 n3 c3∧t=.int .i64 k∧Hid (OwnS wr W1.heap.size (.slice a3 n3 c3) xs)∧Hid (InsL (PartN B w.heap.size wr (.slice a3 n3 c3)) wr xs (stepEq f ss o++f.mems.mapIdx (keepI ss)++f.conts.mapIdx (stateI ss)++f.outs.mapIdx (outI ss)++(f.again.take k).map (againI ss)))∧Hid (Below W1.heap.size W1 wr)) (fun _ t _=>g2-(intOf t).toNat)
                  case atStart=>exact⟨0,xs,a3,n3,c3',Nat.zero_le _,rfl,rfl,HXO,Lib.hid (by simpa using HXL.out),HB⟩
                  case round=>
                    clear HXO HXL HB
                    obtain⟨k,xs,a3,n3,c3',hk,rfl,rfl,HXO,HXL,HB⟩:=hrel
                    obtain⟨⟨f0,f1,f2,f3,f4,f5,f6,f7⟩,p0,p1,p2⟩:=HPB.out _ HB.out
                    by_cases hlt:k<g2
                    · obtain⟨b,off,hab,hbb,hco⟩:=(HF.out _ HB.out).again.at_ hlt
                      obtain⟨X,hX⟩:∃ X,X=f.again.getD k 0:=⟨_,rfl⟩
                      rw [←hX] at hco
                      have hx:f.again[k]?=some X:=by rw [hX,List.getD_eq_getElem?_getD,List.getElem?_eq_getElem (by rw [HAA.out];exact hlt)];rfl
                      have hXn:X<(n:Int):=HGA.out X (List.mem_of_getElem? hx)
                      dsimp only at hab
                      subst hab
                      have hbC:b<W1.heap.size:=Nat.lt_of_lt_of_le hbb HBS.out
                      have hkI:(k:Int)<(g2:Int):=by omega
                      have HLEN:Hid (xs.length≤100000000):=Lib.hid (HXL.out.le (by
                        have h1:=stepEq_len (f:=f) (ss:=ss) (o:=o)
                        have h2:=Nat.mul_le_mul HOL.out HSM.out.eqs
                        have h3:=HSM.out.mems;have h4:=HSM.out.conts;have h5:=HSM.out.outs;have h6:=HSM.out.again
                        simp only [List.length_append,List.length_mapIdx,List.length_take,List.length_map]
                        omega))
                      have HMT:=Lib.hid (map_take (g:=againI ss) hx)
                      have HHR:Hid (w.heap.size≤wr.heap.size):=Lib.hid (by have:=HB.out.size;have:=HS1.out;omega)
                      have HSN:=Lib.hid (slot15_t A A2 m c n c2 B S X ss wr.drew (HR.out _ HB.out.drew) (HBW.out _ HB.out.drew) hXn)
                      have HPW:Hid (∀ W,Below W1.heap.size wr W→W.cell? ⟨w.heap.size,7,none⟩=some (.slice (some ⟨b,off,none⟩) g2 g3)∧W.cell? ⟨b,off+k,none⟩=some (.int .i64 X)∧W.cell? ⟨w.heap.size+1,0,none⟩=some (.slice A m c)∧W.cell? ⟨w.heap.size+1,1,none⟩=some (.slice A2 n c2)∧W.cell? ⟨w.heap.size+1,2,none⟩=some (.int .i64 S)):=Lib.hid fun W hb=>by
                        obtain⟨k1,k2,k3,k4⟩:=HPB.out W (HB.out.trans hb)
                        exact⟨k1.2.2.2.2.2.2.2,(hb.cell (p:=⟨b,off+k,none⟩) hbC).trans hco,k2,k3,k4⟩
                      have HBd:=Lib.hid (Below.refl W1.heap.size wr).drew
                      clear hX hXn
                      go_upto_region 81 with fail
                      clear f0 f1 f2 f3 f4 f5 f6 f7 p0 p1 p2 hco
                      go_region_held3 (fun w'=>w'.cell? ⟨w.heap.size,7,none⟩=some (.slice (some ⟨b,off,none⟩) g2 g3)∧w'.cell? ⟨b,off+k,none⟩=some (.int .i64 X)∧w'.cell? ⟨w.heap.size+1,0,none⟩=some (.slice A m c)∧w'.cell? ⟨w.heap.size+1,1,none⟩=some (.slice A2 n c2)∧w'.cell? ⟨w.heap.size+1,2,none⟩=some (.int .i64 S)) (first | with_reducible exact HPW.out _ HBd.out | with_reducible exact HPW.out _ HB2.out | with_reducible exact HPW.out _ (HB2.out.alloc HS2.out _) | with_reducible exact HPW.out _ ((HB2.out.alloc HS2.out _).alloc HS3.out _) | with_reducible exact HPW.out _ HB7.out | go_keep) (first
                        | (go_at_call 71;(with_reducible refine HSN.out.mono ?_);rintro e w2 ⟨rfl,hb⟩;have HBr:=Lib.hid (show Below wr.heap.size wr w2 from(Below.refl _ _).drew.trans hb);have HB2:=Lib.hid (HBr.out.mono HB.out.size);have HS2:Hid (W1.heap.size≤w2.heap.size):=Lib.hid (Nat.le_trans HB.out.size HBr.out.size);have HS3:Hid (W1.heap.size≤(w2.alloc (.cells #[.int .i64 (slotS ss X)] 3)).heap.size):=Lib.hid (by have:=HS2.out;simp;omega);obtain⟨XX,hXX⟩:∃ XX:InsM,XX=⟨⟨#[97,103,97,105,110]⟩,0,(some ⟨w2.heap.size,0,none⟩,1,1),0,0,false,(none,0,0),(none,0,0),⟨#[]⟩,-1,(none,0,0)⟩:=⟨_,rfl⟩;have HBX:=Lib.hid (show Below wr.heap.size wr (w2.alloc (.cells #[.int .i64 (slotS ss X)] 3)) from HBr.out.alloc HBr.out.size _);have HIX:Hid (InsR (NewP B wr.heap.size (w2.alloc (.cells #[.int .i64 (slotS ss X)] 3))) (w2.alloc (.cells #[.int .i64 (slotS ss X)] 3)) XX (againI ss X)):=Lib.hid ⟨by rw [hXX] <;> rfl,by rw [hXX] <;> rfl,by rw [hXX];exact(row_new0 HBr.out.size).weak (fun b p=>⟨p.2,.inr p.1⟩),by rw [hXX] <;> rfl,by rw [hXX] <;> rfl,by rw [hXX] <;> rfl,by rw [hXX];exact URowP.nil _ _,by rw [hXX];exact URowP.nil _ _,by rw [hXX] <;> rfl,by rw [hXX] <;> rfl,by rw [hXX];exact IRowP.nil _ _⟩;have HXX:=Lib.hid hXX;clear hXX hb)
                        | (refine stepZ rfl _ _ rfl W1.heap.size (.slice a3 n3 c3') xs XX 96 _ rfl rfl (by simp) (by rw [HXX.out] <;> rfl) (HXO.out.later HBX.out) (by have:=HS2.out;omega) HLEN.out ?_;intro v7 w7 hown7 honly7 hat7;obtain⟨a7,n7,c7,hv7⟩:=own_sliceS hown7;subst hv7;have HO7:=Lib.hid hown7;have HRE:=Lib.hid (round_end HXO.out HXL.out HBX.out HIX.out HBS.out (Nat.le_refl _) HHR.out honly7 hat7 (by simp));have HB7:=Lib.hid ((HBX.out.mono HB.out.size).trans (honly7.ownS (HXO.out.later HBX.out) HS3.out));clear hown7 honly7 hat7))
                      go_wp2_with fail
                      go_roundw
                      case rel=>exact⟨k+1,xs++[XX],a7,n7,c7,by omega,rfl,by go_num,HO7,Lib.hid (by rw [HMT.out,←List.append_assoc];exact HRE.out),Lib.hid (HB.out.trans HB7.out)⟩
                      case measure=>simp [intOf];omega
                    · obtain rfl:g2=k:=by omega
                      clear hlt f0 f1 f2 f3 f4 f5 f6 f7 p0 p1 p2
                      replace HXL:=Lib.hid (show InsL (PartN B w.heap.size wr (.slice a3 n3 c3')) wr xs (stepEq f ss o++f.mems.mapIdx (keepI ss)++f.conts.mapIdx (stateI ss)++f.outs.mapIdx (outI ss)++f.again.map (againI ss)) from by have:=HXL.out;rwa [←HAA.out,List.take_length] at this)
                      obtain⟨⟨f0,f1,f2,f3,f4,f5,f6,f7⟩,p0,p1,p2⟩:=HPB.out _ HB.out
                      go_wp2
                      go_ret
                      exact⟨_,xs,rfl,HXO.out.more (by have:=HS1.out;omega),HXL.out,HB1.out.trans (HB.out.mono (by have:=HS1.out;omega))⟩
end Go.Proofs.YtpnlbjnbgemocaaGreat
