import Derived.Test.YtpnlbjnbgemocaaGreatZFlAToHpKN11
import Derived.Test.YtpnlbjnbgemocaaGreatZSfAToFlPN13
import Derived.Deep.RegionHeld3
import Derived.Test.YtpnlbjnbgemocaaGreatZSfH
import Derived.Deep.RegionWith
import Derived.Deep.DeepCutAuto
namespace Go.Proofs.YtpnlbjnbgemocaaGreat
set_option linter.unusedVariables false
set_option linter.unusedSimpArgs false
set_option maxRecDepth 100000
open Go.RowKit
def nilS:Value:=.slice none 0 0
def Rws (w:World)(g:Nat)(X:List (List Int)):Prop:=
  ∃ vs:List Value,Blk w g 77 vs.toArray∧vs.length=X.length∧∀ j,j<X.length→Own w (g+1) (vs.getD j nilS) (X.getD j [])
theorem Rws.lt {w:World}{g:Nat}{X:List (List Int)}(h:Rws w g X):g<w.heap.size:=by
  obtain⟨vs,h1,_⟩:=h;exact h1.lt
theorem Rws.later {w w':World}{g:Nat}{X:List (List Int)}(h:Rws w g X)(hb:Below w.heap.size w w'):Rws w' g X:=by
  obtain⟨vs,h1,h2,h3⟩:=h
  exact⟨vs,h1.later hb,h2,fun j hj=>(h3 j hj).below hb (Nat.le_refl _)⟩
theorem Rws.at_ {w:World}{g:Nat}{X:List (List Int)}(h:Rws w g X){j:Nat}(hj:j<X.length):∃ v,w.cell? ⟨g,j,none⟩=some v∧w.frozen? ⟨g,j,none⟩=false:=by
  obtain⟨vs,h1,h2,h3⟩:=h
  exact⟨vs.getD j nilS,h1.cell j (by simp [show j<vs.length by omega]),h1.free j⟩
theorem Rws.put {w:World}{g:Nat}{X:List (List Int)}(h:Rws w g X){j:Nat}{v:Value}{r:List Int}(hv:Own w (g+1) v r)(hj:j<X.length):Rws (w.setCell ⟨g,j,none⟩ v) g (X.set j r):=by
  obtain⟨vs,h1,h2,h3⟩:=h
  refine⟨vs.set j v, ?_,by simp [h2],fun i hi=>?_⟩
  · have:=heap_setCell_same w g j _ 77 v h1
    unfold Blk
    rw [this,List.setIfInBounds_toArray]
  · have hi':i<X.length:=by simpa using hi
    by_cases e:j=i
    · subst e
      have e1:(vs.set j v).getD j nilS=v:=by simp [show j<vs.length by omega]
      have e2:(X.set j r).getD j []=r:=by simp [hj]
      rw [e1,e2]
      exact hv.keep fun k hk=>Below.heap_setCell w _ v k (by have:=hv.lt hk;simp;omega)
    · have e1:(vs.set j v).getD i nilS=vs.getD i nilS:=by simp [e]
      have e2:(X.set j r).getD i []=X.getD i []:=by simp [e]
      rw [e1,e2]
      have ho:=h3 i hi'
      exact ho.keep fun k hk=>Below.heap_setCell w _ v k (by have:=ho.lt hk;simp;omega)
theorem Rws.grow {w:World}{g:Nat}{X:List (List Int)}(h:Rws w g X)(hm:X.length≤1000000):GRow w w.heap.size (some ⟨g,0,none⟩) X.length X.length X:=by
  obtain⟨vs,h1,h2,h3⟩:=h
  refine⟨rfl,Nat.le_refl _,by unfold maxLen;omega,g,0,Or.inl rfl,fun i hi=>⟨h1.lt, ?_⟩⟩
  obtain⟨a,c,e,hr⟩:=(h3 i hi).irow
  refine⟨a,_,c, ?_,hr⟩
  rw [Nat.zero_add]
  exact h1.cell i (by rw [←e];simp [show i<vs.length by omega])
theorem getD_rep {α:Type}(n j:Nat)(x:α):(List.replicate n x).getD j x=x:=by
  by_cases h:j<n <;> simp [h]
theorem makeS {w:World}{ops:Array Oper}{rest:List Oper}{o:Oper}{a:Act}{Q:Exit→Act→World→Prop}
    (hg:o.guard=none) (l:Operand) (hop:o.op=Op.makeSlice 131 l l) (L:Int) (n:Nat) (hl:a.eval l=.int .i64 L) (hL:L=(n:Int)) (hn:n≤1000000)
    (hK:∀ w',Rws w' w.heap.size (List.replicate n [])→Below w.heap.size w w'→wpList Tryz.prog ops Q rest (a.put o.dst (.slice (some ⟨w.heap.size,0,none⟩) n n)) w') :
    wpList Tryz.prog ops Q (o::rest) a w:=by
  refine wpList_plain hg fun K hK'=>?_
  obtain⟨i,hi,hz0,hz1,hz2⟩:=info_parts Tryz.info77
  have hr:=run_make (P:=Tryz.prog) w 131 77 i (.slice none 0 0) Tryz.underlying131 hi hz0 .i64 .i64 n n (by omega) (Int.le_refl _) (by rw [hz2];omega) (by omega)
  simp only [Int.toNat_natCast] at hr
  subst hL
  unfold Oper.wp
  simp [execOp,hop,hl,hr,Result.andThen]
  refine hK' _ _ (hK _ ?_ ((Below.refl _ _).alloc (Nat.le_refl _) _))
  refine⟨List.replicate n nilS, ?_,by simp, ?_⟩
  · unfold Blk
    rw [heap_alloc_new]
    congr 2
    rw [hz1,Nat.mul_one]
    apply Array.ext'
    show(madeCells #[Value.slice none 0 0] n).toList=_
    rw [toList_madeCells_one]
    simp [nilS]
  · intro j hj
    have e1:(List.replicate n nilS).getD j nilS=nilS:=getD_rep _ _ _
    have e2:(List.replicate n ([]:List Int)).getD j []=[]:=getD_rep _ _ _
    rw [e1,e2]
    exact Own.nil _ _
def gTo (f:FlatM)(k:Nat):List (List Int):=(f.eqs.take k).foldl (fun X q=>X.set q.var.toNat (needsL f q)) (List.replicate f.names.length [])
def gOf (f:FlatM):List (List Int):=gTo f f.eqs.length
theorem gTo_succ {f:FlatM}{k:Nat}{q:FEqM}(hq:f.eqs[k]?=some q):gTo f (k+1)=(gTo f k).set q.var.toNat (needsL f q):=by
  unfold gTo
  rw [List.take_add_one,hq]
  simp
theorem gTo_len (f:FlatM)(k:Nat):(gTo f k).length=f.names.length:=by
  unfold gTo
  generalize hX:List.replicate f.names.length ([]:List Int)=X
  have hl:X.length=f.names.length:=by rw [←hX];simp
  clear hX
  revert hl
  generalize f.eqs.take k=l
  revert X
  induction l with
  | nil=>intro X h;simpa using h
  | cons q l ih=>intro X h;exact ih _ (by simp [h])
theorem goodB_eq {f:FlatM}(hg:goodB f=true){k:Nat}{q:FEqM}(hq:f.eqs[k]?=some q):plB q.var f.names.length=true∧guB q.guard f.names.length=true∧wiB q.args f.names.length=true∧kL q.op q.k f.ins.length f.mems.length f.conts.length f.cross.length=true:=by
  unfold goodB at hg
  rw [Bool.and_eq_true,Bool.and_eq_true,Bool.and_eq_true] at hg
  obtain⟨⟨⟨h1,h2⟩,h3⟩,h4⟩:=hg
  have he:eqB f q=true:=List.all_eq_true.1 h2 q (List.mem_of_getElem? hq)
  unfold eqB kB at he
  rw [Bool.and_eq_true,Bool.and_eq_true,Bool.and_eq_true] at he
  unfold onceB at h1
  rw [Bool.and_eq_true,Bool.and_eq_true] at h1
  exact⟨List.all_eq_true.1 h1.1.1 q.var (List.mem_map.2 ⟨q,List.mem_of_getElem? hq,rfl⟩),he.1.1.1,he.1.1.2,he.2⟩
theorem goodB_len {f:FlatM}(hg:goodB f=true):f.eqs.length=f.names.length:=by
  unfold goodB onceB at hg
  rw [Bool.and_eq_true,Bool.and_eq_true,Bool.and_eq_true,Bool.and_eq_true,Bool.and_eq_true] at hg
  simpa using hg.1.1.1.2
def NeedsAll (f:FlatM)(w:World)(e:Ending)(w':World):Prop:=
  ∃ g,e=.returned (.slice (some ⟨g,0,none⟩) f.names.length f.names.length)∧GRow w' w'.heap.size (some ⟨g,0,none⟩) f.names.length f.names.length (gOf f)∧Below w.heap.size w w'
theorem keep18 {W w3:World}{C b o g:Nat}{x0 x1 x2 x3 x4 x5 x6 x7 y0 y1 y2 y3 y4 y5 y6 y7 y8 y9:Value}
    (h:W.cell? ⟨g,0,none⟩=some x0∧W.cell? ⟨g,1,none⟩=some x1∧W.cell? ⟨g,2,none⟩=some x2∧W.cell? ⟨g,3,none⟩=some x3∧W.cell? ⟨g,4,none⟩=some x4∧W.cell? ⟨g,5,none⟩=some x5∧W.cell? ⟨g,6,none⟩=some x6∧W.cell? ⟨g,7,none⟩=some x7∧W.cell? ⟨b,o,none⟩=some y0∧W.cell? ⟨b,o+1,none⟩=some y1∧W.cell? ⟨b,o+2,none⟩=some y2∧W.cell? ⟨b,o+3,none⟩=some y3∧W.cell? ⟨b,o+4,none⟩=some y4∧W.cell? ⟨b,o+5,none⟩=some y5∧W.cell? ⟨b,o+6,none⟩=some y6∧W.cell? ⟨b,o+7,none⟩=some y7∧W.cell? ⟨b,o+8,none⟩=some y8∧W.cell? ⟨b,o+9,none⟩=some y9)
    (hb:Below C W w3) (h1:b<C) (h2:g<C) :
    w3.cell? ⟨g,0,none⟩=some x0∧w3.cell? ⟨g,1,none⟩=some x1∧w3.cell? ⟨g,2,none⟩=some x2∧w3.cell? ⟨g,3,none⟩=some x3∧w3.cell? ⟨g,4,none⟩=some x4∧w3.cell? ⟨g,5,none⟩=some x5∧w3.cell? ⟨g,6,none⟩=some x6∧w3.cell? ⟨g,7,none⟩=some x7∧w3.cell? ⟨b,o,none⟩=some y0∧w3.cell? ⟨b,o+1,none⟩=some y1∧w3.cell? ⟨b,o+2,none⟩=some y2∧w3.cell? ⟨b,o+3,none⟩=some y3∧w3.cell? ⟨b,o+4,none⟩=some y4∧w3.cell? ⟨b,o+5,none⟩=some y5∧w3.cell? ⟨b,o+6,none⟩=some y6∧w3.cell? ⟨b,o+7,none⟩=some y7∧w3.cell? ⟨b,o+8,none⟩=some y8∧w3.cell? ⟨b,o+9,none⟩=some y9:=by
  have c1:∀ i,w3.cell? ⟨b,i,none⟩=W.cell? ⟨b,i,none⟩:=fun i=>hb.cell (p:=⟨b,i,none⟩) h1
  have c2:∀ i,w3.cell? ⟨g,i,none⟩=W.cell? ⟨g,i,none⟩:=fun i=>hb.cell (p:=⟨g,i,none⟩) h2
  simp only [c1,c2]
  exact h
set_option maxHeartbeats 4000000 in
theorem needs14_t (v:FlatV)(f:FlatM)(B:Nat)(w:World)(h:FlatIs w B v f)(hB:B≤w.heap.size)(hg:goodB f=true)(hs:SmallF f) :
    Calls Tryz.prog 66 #[flatV v] w (NeedsAll f w):=by
  have hm:=h.eqs.len_le
  have HN:=Lib.hid h.names.1
  have HE:=Lib.hid h.eqs.1
  have HGL:Hid (v.eqs.2.1=v.names.2.1):=Lib.hid (by rw [←h.eqs.1,←h.names.1];exact goodB_len hg)
  have hsm:v.names.2.1≤200:=by rw [←h.names.1];exact hs.names
  have HKL:Hid (∀(k:Nat) (q:FEqM),f.eqs[k]?=some q→kL q.op q.k v.ins.2.1 v.mems.2.1 v.conts.2.1 v.cross.2.1=true∧plB q.var v.names.2.1=true):=Lib.hid fun k q hq=>by
    have:=goodB_eq hg hq
    rw [h.ins.1,h.mems.1,h.conts.1,h.cross.1,h.names.1] at this
    exact⟨this.2.2.2,this.1⟩
  have HS:=Lib.hid hs
  clear hg hs
  have HC:=Lib.hid (Ctx.mk' h hB);clear h hB
  unfold maxLen at hm
  unfold flatV sl3
  go_enter Tryz.func66,Tryz.ntmps66
  go_wp2_with (at_make;refine makeS rfl _ rfl _ v.names.2.1 rfl rfl (by omega) ?_)
  intro w2 hrw hb2
  have HR2:Hid (Rws w2 (w.heap.size+1) (List.replicate v.names.2.1 [])):=Lib.hid hrw
  have HB2:Hid (Below (w.heap.size+1) (w.alloc (.cells (fvs v) 83)) w2):=Lib.hid hb2
  clear hrw hb2
  obtain⟨f0,f1,f2,f3,f4,f5,f6,f7⟩:=(HC.out.blk.below HB2.out (Nat.lt_succ_self _)).flat
  obtain⟨W2,hW2⟩:∃ W2,w2=W2:=⟨_,rfl⟩
  subst hW2
  have HKB:=Lib.hid (HC.out.blk.below HB2.out (Nat.lt_succ_self _))
  have HIS:=Lib.hid (HC.out.is.below (HB2.out.mono (Nat.le_succ_of_le HC.out.le)))
  go_wp2
  go_loopw [4] (fun t wr=>∃ k:Nat,k≤v.eqs.2.1∧t=.int .i64 k∧Hid (Rws wr (w.heap.size+1) (gTo f k))∧Hid (Below (w.heap.size+1) w2 wr)) (fun t _=>v.eqs.2.1-(intOf t).toNat)
  case atStart=>exact⟨0,Nat.zero_le _,rfl,Lib.hid (by rw [show gTo f 0=List.replicate v.names.2.1 [] by unfold gTo;rw [HN.out];rfl];exact HR2.out),Lib.hid (Below.refl _ _)⟩
  case round=>
    obtain⟨k,hk,rfl,hz,hbr⟩:=hrel
    clear f0 f1 f2 f3 f4 f5 f6 f7
    by_cases hlt:k<v.eqs.2.1
    · have hfb:=HKB.out.below hbr.out (Nat.lt_succ_self _)
      have his:=HIS.out.below (hbr.out.mono (Nat.le_succ_of_le HC.out.le))
      obtain⟨⟨var,op,args,kk,lit,guard⟩,hq⟩:=his.eqs.ex hlt
      obtain⟨b,off,ha,hbB,hat⟩:=his.eqs.at_ hq
      obtain⟨a,m,d,hrow,hrm,hrd,e0,e1,e2,e3,e4,e5,e6,e7,e8,e9⟩:=hat.cells
      obtain⟨f0,f1,f2,f3,f4,f5,f6,f7⟩:=hfb.flat
      have hgl:w.heap.size<wr.heap.size:=hfb.lt
      have hgs:w.heap.size+1<wr.heap.size:=hz.out.lt
      have hbl:b<wr.heap.size:=Nat.lt_of_lt_of_le hbB (Nat.le_trans HC.out.le (Nat.le_of_lt hfb.lt))
      have hbb:b<w.heap.size+1:=Nat.lt_succ_of_lt (Nat.lt_of_lt_of_le hbB HC.out.le)
      have HX:=Lib.hid hq
      obtain⟨hkl,hpl⟩:=HKL.out k _ hq
      obtain⟨p0,p1⟩:=plB_yes hpl
      simp only at p0 p1 hkl
      obtain⟨j,rfl⟩:∃ j:Nat,var=(j:Int):=⟨var.toNat,by omega⟩
      have hj:j<v.names.2.1:=by omega
      have hjn:j<(gTo f k).length:=by rw [gTo_len,HN.out];exact hj
      have hal:a.2.1≤1000:=by have:=HS.out.args k _ hq;rw [←hrow.1];simp only at this ⊢;omega
      have CR:Hid (Calls Tryz.prog 118 #[flatV v,feqV ⟨(j:Int),op,args,kk,lit,guard⟩ a m d] wr.drew (NeedsPost f ⟨(j:Int),op,args,kk,lit,guard⟩ wr.drew)):=Lib.hid (needs_t ⟨(j:Int),op,args,kk,lit,guard⟩ a m d v f B wr.drew (his.below (Below.refl _ _).drew) (hrow.below (Below.refl _ _).drew) (Nat.le_trans HC.out.le (Nat.le_of_lt hfb.lt)) hal hkl (fun i x hx=>Nat.le_trans (HS.out.resets i x hx) (by omega)) (fun i x hx=>Nat.le_trans (HS.out.creset i x hx).1 (by omega)))
      unfold flatV feqV sl3 at CR
      dsimp only at CR
      have HJ:=Lib.hid hjn
      have HFB:=Lib.hid hfb
      rw [ha] at f3 CR ⊢
      simp only at e0 e1 e2 e3 e4 e5 e6 e7 e8 e9
      clear hfb his hat hrow hrm hrd hq ha hkl hpl hjn
      have HF18:Hid ((fun w'=>w'.cell? ⟨w.heap.size,0,none⟩=some (.slice v.ins.1 v.ins.2.1 v.ins.2.2)∧w'.cell? ⟨w.heap.size,1,none⟩=some (.slice v.names.1 v.names.2.1 v.names.2.2)∧w'.cell? ⟨w.heap.size,2,none⟩=some (.slice v.outs.1 v.outs.2.1 v.outs.2.2)∧w'.cell? ⟨w.heap.size,3,none⟩=some (.slice (some ⟨b,off,none⟩) v.eqs.2.1 v.eqs.2.2)∧w'.cell? ⟨w.heap.size,4,none⟩=some (.slice v.mems.1 v.mems.2.1 v.mems.2.2)∧w'.cell? ⟨w.heap.size,5,none⟩=some (.slice v.conts.1 v.conts.2.1 v.conts.2.2)∧w'.cell? ⟨w.heap.size,6,none⟩=some (.slice v.cross.1 v.cross.2.1 v.cross.2.2)∧w'.cell? ⟨w.heap.size,7,none⟩=some (.slice v.again.1 v.again.2.1 v.again.2.2)∧w'.cell? ⟨b,off+k*10,none⟩=some (.int .i64 (j:Int))∧w'.cell? ⟨b,off+k*10+1,none⟩=some (.string op)∧w'.cell? ⟨b,off+k*10+2,none⟩=some (.slice a.1 a.2.1 a.2.2)∧w'.cell? ⟨b,off+k*10+3,none⟩=some (.int .i64 kk)∧w'.cell? ⟨b,off+k*10+4,none⟩=some (.int .i64 lit.kind)∧w'.cell? ⟨b,off+k*10+5,none⟩=some (.bool lit.neg)∧w'.cell? ⟨b,off+k*10+6,none⟩=some (.slice m.1 m.2.1 m.2.2)∧w'.cell? ⟨b,off+k*10+7,none⟩=some (.slice d.1 d.2.1 d.2.2)∧w'.cell? ⟨b,off+k*10+8,none⟩=some (.string lit.name)∧w'.cell? ⟨b,off+k*10+9,none⟩=some (.int .i64 guard)) wr.drew):=Lib.hid ⟨f0,f1,f2,f3,f4,f5,f6,f7,e0,e1,e2,e3,e4,e5,e6,e7,e8,e9⟩
      go_wp2_with fail
      go_region_held3 (fun w'=>w'.cell? ⟨w.heap.size,0,none⟩=some (.slice v.ins.1 v.ins.2.1 v.ins.2.2)∧w'.cell? ⟨w.heap.size,1,none⟩=some (.slice v.names.1 v.names.2.1 v.names.2.2)∧w'.cell? ⟨w.heap.size,2,none⟩=some (.slice v.outs.1 v.outs.2.1 v.outs.2.2)∧w'.cell? ⟨w.heap.size,3,none⟩=some (.slice (some ⟨b,off,none⟩) v.eqs.2.1 v.eqs.2.2)∧w'.cell? ⟨w.heap.size,4,none⟩=some (.slice v.mems.1 v.mems.2.1 v.mems.2.2)∧w'.cell? ⟨w.heap.size,5,none⟩=some (.slice v.conts.1 v.conts.2.1 v.conts.2.2)∧w'.cell? ⟨w.heap.size,6,none⟩=some (.slice v.cross.1 v.cross.2.1 v.cross.2.2)∧w'.cell? ⟨w.heap.size,7,none⟩=some (.slice v.again.1 v.again.2.1 v.again.2.2)∧w'.cell? ⟨b,off+k*10,none⟩=some (.int .i64 (j:Int))∧w'.cell? ⟨b,off+k*10+1,none⟩=some (.string op)∧w'.cell? ⟨b,off+k*10+2,none⟩=some (.slice a.1 a.2.1 a.2.2)∧w'.cell? ⟨b,off+k*10+3,none⟩=some (.int .i64 kk)∧w'.cell? ⟨b,off+k*10+4,none⟩=some (.int .i64 lit.kind)∧w'.cell? ⟨b,off+k*10+5,none⟩=some (.bool lit.neg)∧w'.cell? ⟨b,off+k*10+6,none⟩=some (.slice m.1 m.2.1 m.2.2)∧w'.cell? ⟨b,off+k*10+7,none⟩=some (.slice d.1 d.2.1 d.2.2)∧w'.cell? ⟨b,off+k*10+8,none⟩=some (.string lit.name)∧w'.cell? ⟨b,off+k*10+9,none⟩=some (.int .i64 guard)) (first | exact HF18.out | exact keep18 HF18.out ((Below.refl (w.heap.size+1) w3).setCell (Nat.le_refl _) _) hbb (Nat.lt_succ_self _)) ((go_at_call 118;(with_reducible refine CR.out.mono ?_);rintro e w3 ⟨v3,rfl,hown,hb⟩;replace HF18:=Lib.hid (keep18 HF18.out hb hbl hgl);obtain⟨u0,kc,kf⟩:=(hz.out.later (w':=w3) ((Below.refl _ wr).drew.trans hb)).at_ HJ.out;obtain⟨a4,n4,c4,hv4⟩:∃ a n c,v3=.slice a n c:=(by obtain⟨a4,c4,e⟩:=hown.len;exact⟨a4,_,c4,e⟩);subst hv4;have HOW:=Lib.hid hown;have HB3:=Lib.hid hb;clear hown hb))
      go_wp2
      go_roundw
      case rel=>exact⟨k+1,by omega,by go_num,Lib.hid (by rw [gTo_succ HX.out];exact(hz.out.later (w':=w3) ((Below.refl _ wr).drew.trans HB3.out)).put (HOW.out.more (by exact hgs)) HJ.out),Lib.hid ((hbr.out.drew.trans (HB3.out.mono (by exact Nat.le_of_lt hgs))).setCell (Nat.le_refl _) _)⟩
      case measure=>simp [intOf];omega
    · obtain rfl:k=v.eqs.2.1:=by omega
      have HD:Hid (NeedsAll f w (.returned (.slice (some ⟨w.heap.size+1,0,none⟩) v.names.2.1 v.names.2.1)) wr):=Lib.hid (by
        refine⟨w.heap.size+1,by rw [HN.out], ?_,HC.out.old.trans ((HB2.out.trans hbr.out).mono (Nat.le_succ _))⟩
        have hgr:=hz.out.grow (by rw [gTo_len,HN.out];omega)
        rw [gTo_len] at hgr
        unfold gOf
        rw [HE.out]
        exact hgr)
      obtain⟨f0,f1,f2,f3,f4,f5,f6,f7⟩:=(HKB.out.below hbr.out (Nat.lt_succ_self _)).flat
      go_wp2
      go_ret
      exact HD.out
end Go.Proofs.YtpnlbjnbgemocaaGreat
namespace Go.Proofs.YtpnlbjnbgemocaaGreat
set_option linter.unusedVariables false
set_option linter.unusedSimpArgs false
set_option maxRecDepth 100000
open Go.RowKit
theorem wTo_next {l:List InsP}{k:Nat}{x:InsP}(h:l[k]?=some x):wNext (wTo (l.take k)) x=wTo (l.take (k+1)):=by
  rw [take_snoc h]
  unfold wNext
  by_cases he:isEnd x.op=true
  · rw [if_pos he,wTo_end he]
  · rw [if_neg he,wTo_eq (by simpa using he)]
def OkS (c:CodeM)(n:Nat):Prop:=∀(i:Nat) (x:InsP),i<n→c.step[i]?=some x→stB c (wTo (c.step.take i)) x=true
set_option maxHeartbeats 2000000 in
theorem allS_t (B g:Nat)(c:CodeM)(v:CodeV)(S N gs gl:Nat)(w:World)(hr:Rd w B g c v S N gs gl (wTo (c.step.take 0)) [])(hO:OkS c v.step.2.1)(hA:∀(i:Nat) (x:InsP),c.step[i]?=some x→OkA x) :
    Calls Tryz.prog 107 #[.slice v.step.1 v.step.2.1 v.step.2.2,.func (.func 108) #[.pointer (some ⟨g,0,none⟩)] #[]] w fun e w'=>e=.returned (.bool true)∧Rd w' B g c v S N gs gl (wTo (c.step.take v.step.2.1)) []∧Below B w w':=by
  have hm:=hr.is.step.len_le
  have HR:=Lib.hid hr
  have HBW:=Lib.hid hr.hB
  have HOK:=Lib.hid hO
  have HAA:=Lib.hid hA
  clear hr hO hA
  unfold maxLen at hm
  go_enter Tryz.func107,Tryz.ntmps107
  go_wp2_with fail
  go_loopw [9] (fun t wr=>∃ k:Nat,k≤v.step.2.1∧t=.int .i64 k∧Hid (Rd wr B g c v S N gs gl (wTo (c.step.take k)) [])∧Hid (Below B w wr)) (fun t _=>v.step.2.1-(intOf t).toNat)
  case atStart=>exact⟨0,Nat.zero_le _,rfl,HR,Lib.hid (Below.refl _ _)⟩
  case round=>
    obtain⟨k,hk,rfl,HRr,HB⟩:=hrel
    by_cases hlt:k<v.step.2.1
    · obtain⟨x,hx⟩:=HRr.out.is.step.ex hlt
      obtain⟨b,off,ha,hbl,hat⟩:=HRr.out.is.step.at_ hx
      obtain⟨a,m,d,r,hiw,_,_,_,x0,x1,x2,x3,x4,x5,x6,x7,x8,x9,x10⟩:=hat.cells
      have HX:=Lib.hid hx
      have HIW:=Lib.hid (hiw.keep ((Below.refl B wr).alloc HRr.out.hB (.cells #[.string x.op,.int .i64 x.dst,.slice a.1 a.2.1 a.2.2,.int .i64 x.k,.int .i64 x.lit.kind,.bool x.lit.neg,.slice m.1 m.2.1 m.2.2,.slice d.1 d.2.1 d.2.2,.string x.lit.name,.int .i64 x.guard,.slice r.1 r.2.1 r.2.2] 96)))
      have HR1:=Lib.hid (HRr.out.alloc (.cells #[.string x.op,.int .i64 x.dst,.slice a.1 a.2.1 a.2.2,.int .i64 x.k,.int .i64 x.lit.kind,.bool x.lit.neg,.slice m.1 m.2.1 m.2.2,.slice d.1 d.2.1 d.2.2,.string x.lit.name,.int .i64 x.guard,.slice r.1 r.2.1 r.2.2] 96))
      have HB1:=Lib.hid (HB.out.alloc HRr.out.hB (.cells #[.string x.op,.int .i64 x.dst,.slice a.1 a.2.1 a.2.2,.int .i64 x.k,.int .i64 x.lit.kind,.bool x.lit.neg,.slice m.1 m.2.1 m.2.2,.slice d.1 d.2.1 d.2.2,.string x.lit.name,.int .i64 x.guard,.slice r.1 r.2.1 r.2.2] 96))
      have hbw:b<wr.heap.size:=Nat.lt_of_lt_of_le hbl HRr.out.hB
      have hkI:(k:Int)<(v.step.2.1:Int):=by omega
      obtain⟨EA,hEA⟩:∃ EA,EA=v.step.1:=⟨_,rfl⟩
      rw [←hEA] at ha ⊢
      clear hEA
      subst ha
      clear hx hiw hat hbl
      have HS:=Lib.hid (HOK.out k x hlt HX.out)
      have HAX:=Lib.hid (HAA.out k x HX.out)
      go_wp2_with (go_at_call 108;(with_reducible refine(step_yes B g c v S N gs gl (wTo (c.step.take k)) [] x HAX.out a m d r _ HR1.out HIW.out HS.out).mono ?_);rintro e w2 ⟨rfl,hr2,hb2⟩)
      go_roundw
      case rel=>exact⟨k+1,by omega,by go_num,Lib.hid (by rw [←wTo_next HX.out];exact hr2),Lib.hid (HB1.out.trans hb2)⟩
      case measure=>simp [intOf];omega
    · obtain rfl:k=v.step.2.1:=by omega
      go_wp2
      go_ret
      exact⟨rfl,HRr.out,HB.out⟩
set_option maxHeartbeats 2000000 in
theorem all0_t (A:Option Addr)(c:Nat)(F:Value)(B:Nat)(w:World):Calls Tryz.prog 107 #[.slice A 0 c,F] w fun e w'=>e=.returned (.bool true)∧Below B w w':=by
  go_enter Tryz.func107,Tryz.ntmps107
  go_wp2_with fail
  go_loopw [9] (fun t wr=>t=.int .i64 0∧Hid (Below B w wr)) (fun t _=>0)
  case atStart=>exact⟨rfl,Lib.hid (Below.refl _ _)⟩
  case round=>
    obtain⟨rfl,HB⟩:=hrel
    go_wp2
    go_ret
    exact⟨rfl,HB.out⟩
end Go.Proofs.YtpnlbjnbgemocaaGreat
