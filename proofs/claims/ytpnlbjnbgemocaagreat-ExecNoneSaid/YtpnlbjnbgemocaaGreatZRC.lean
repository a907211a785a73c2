import Derived.Test.YtpnlbjnbgemocaaGreatZRB
import Derived.Deep.LoopGhost
import Derived.Test.YtpnlbjnbgemocaaGreatZNC
import Derived.Test.YtpnlbjnbgemocaaGreatZNAToHpMN7
import Derived.Deep.RegionWith
namespace Go.Proofs.YtpnlbjnbgemocaaGreat
set_option linter.unusedVariables false
set_option linter.unusedSimpArgs false
set_option maxRecDepth 100000
open Go.RowKit Nums
def MemB (w:World)(g:Nat)(bs:List Bool):Prop:=w.heap[g]?=some (.cells (bs.map Value.bool).toArray 4 (0,0))
theorem MemB.lt {w:World}{g:Nat}{bs:List Bool}(h:MemB w g bs):g<w.heap.size:=(Array.getElem?_eq_some_iff.1 h).1
theorem MemB.cell {w:World}{g:Nat}{bs:List Bool}(h:MemB w g bs)(i:Nat)(hi:i<bs.length):w.cell? ⟨g,i,none⟩=some (.bool (bs.getD i false)):=by
  rw [cell_of_row w g i _ 4 (0,0) h]
  simp [hi]
theorem MemB.free {w:World}{g:Nat}{bs:List Bool}(h:MemB w g bs)(i:Nat):w.frozen? ⟨g,i,none⟩=false:=frozen_of_row w g i _ 4 h
theorem MemB.set {w:World}{g:Nat}{bs:List Bool}(h:MemB w g bs)(i:Nat)(u:Bool):MemB (w.setCell ⟨g,i,none⟩ (.bool u)) g (bs.set i u):=by
  have:=heap_setCell_same w g i _ 4 (.bool u) h
  unfold MemB
  rw [this]
  congr 2
  rw [List.setIfInBounds_toArray,List.map_set]
theorem MemB.below {B:Nat}{w w':World}{g:Nat}{bs:List Bool}(h:MemB w g bs)(hb:Below B w w')(hg:g<B):MemB w' g bs:=by unfold MemB;rw [hb.block g hg];exact h
theorem MemB.row {w:World}{g:Nat}{bs:List Bool}(h:MemB w g bs)(n c:Nat)(hn:bs.length=n)(hc:n≤c)(hm:c≤maxLen):BRow w (some ⟨g,0,none⟩) n c bs:=
  ⟨hn,hc,hm,by simp,g,0,Or.inl rfl,fun i hi=>⟨h.lt,by rw [Nat.zero_add];exact h.cell i (by omega)⟩⟩
theorem makeBN {w:World}{ops:Array Oper}{rest:List Oper}{o:Oper}{a:Act}{Q:Exit→Act→World→Prop}
    (hg:o.guard=none) (l:Operand) (hop:o.op=Op.makeSlice 41 l l) (L:Int) (n:Nat) (hl:a.eval l=.int .i64 L) (hL:L=(n:Int)) (hn:n≤1000000000000)
    (hK:∀ g w',w.heap.size≤g→MemB w' g (List.replicate n false)→Below w.heap.size w w'→wpList Tryz.prog ops Q rest (a.put o.dst (.slice (some ⟨g,0,none⟩) n n)) w') :
    wpList Tryz.prog ops Q (o::rest) a w:=by
  refine wpList_plain hg fun K hK'=>?_
  obtain⟨i,hi,hz0,hz1,hz2⟩:=info_parts Tryz.infoN4
  have hr:=run_make (P:=Tryz.prog) w 41 4 i (.bool false) Tryz.underlying41 hi hz0 .i64 .i64 n n (by omega) (Int.le_refl _) (by rw [hz2];omega) (by omega)
  simp only [Int.toNat_natCast] at hr
  subst hL
  unfold Oper.wp
  simp [execOp,hop,hl,hr,Result.andThen]
  refine hK' _ _ (hK _ _ (Nat.le_refl _) ?_ ((Below.refl _ _).alloc (Nat.le_refl _) _))
  unfold MemB
  rw [heap_alloc_new]
  congr 2
  rw [hz1,Nat.mul_one]
  apply Array.ext'
  show(madeCells #[Value.bool false] n).toList=_
  rw [toList_madeCells_one]
  simp
def From (a:Option Addr)(B:Nat):Prop:=∀ ad,a=some ad→B≤ad.block
theorem brow_set {w:World}{a:Option Addr}{n c:Nat}{bs:List Bool}(h:BRow w a n c bs){g:Nat}(hf:From a (g+1))(i:Nat)(u:Value):BRow (w.setCell ⟨g,i,none⟩ u) a n c bs:=by
  obtain⟨h1,h2,h3,h4,b,off,h6,h7⟩:=h
  refine⟨h1,h2,h3,h4,b,off,h6,fun j hj=>⟨?_, ?_⟩⟩
  · have:=(h7 j hj).1;simp [World.setCell];exact this
  · rcases h6 with rfl | h6
    · have hb:=hf _ rfl
      rw [World.cell?_of_block (w:=w) (Below.heap_setCell w ⟨g,i,none⟩ u b (by show b≠g;simp at hb;omega))]
      exact(h7 j hj).2
    · omega
theorem brow_own2 {w:World}{B:Nat}{v:Value}{bs:List Bool}(h:OwnB w B v bs):∃ a c,v=.slice a bs.length c∧BRow w a bs.length c bs∧From a B:=by
  have hlt:=h.lt
  rcases h.2 with ⟨rfl,h0⟩ | ⟨g,cap,cur,rfl,hBg,hgg,hnc,hcm,_⟩
  · have:bs=[]:=List.length_eq_zero_iff.1 h0
    subst this
    exact⟨none,0,rfl,brow_nil w,fun ad e=>by cases e⟩
  · refine⟨some ⟨g,0,none⟩,cap,rfl,⟨rfl,hnc,hcm,by simp,g,0,Or.inl rfl,fun i hi=>⟨(hlt g rfl).2, ?_⟩⟩,fun ad e=>by cases e;exact hBg⟩
    rw [Nat.zero_add,h.cellAt i (by omega)]
    simp [hi]
def BOwn (N:Nat)(w:World)(e:Ending)(w':World):Prop:=
  ∃ a' m c',e=.returned (.slice a' m c')∧m=(bitsOf N).length∧BRow w' a' m c' (bitsOf N)∧Below w.heap.size w w'∧From a' w.heap.size
theorem bcut_own2 (w0 w:World)(v:Value)(bs:List Bool)(N:Nat)(h:OwnB w w0.heap.size v bs)(hv:bval bs=N)(hn:bs.length≤1000000000)(hb:Below w0.heap.size w0 w):Calls Tryz.prog 143 #[v] w (BOwn N w0):=by
  subst hv
  obtain⟨a,c,rfl,hrow,hf⟩:=brow_own2 h
  refine(bcut_num a _ c bs w hrow hn).mono ?_
  rintro e w' ⟨m,rfl,hm,hmn,hr,rfl⟩
  exact⟨a,m,c,rfl,hm,hr,hb,hf⟩
theorem append_bit {w0:World}{ops:Array Oper}{rest:List Oper}{o:Oper}{a:Act}{Q:Exit→Act→World→Prop}(hgd:o.guard=none)(s x:Operand)
    (ho:o.op=.call { callee:=.builtin .append,args:=#[s,x],argTypes:=#[41,41] }) (ao:Option Addr) (mo co:Nat) (y:Bool) (bs:List Bool) (hs:a.eval s=.slice (some ⟨w0.heap.size,0,none⟩) 1 1) (hx:a.eval x=.slice ao mo co)
    (hrow:BRow w0 ao mo co bs) (hn:mo≤1000000000)
    (hK:∀ v' w',OwnB w' w0.heap.size v' (y::bs)→Below w0.heap.size w0 w'→wpList Tryz.prog ops Q rest (a.put o.dst v') w') :
    wpList Tryz.prog ops Q (o::rest) a (w0.alloc (.cells #[.bool y] 4)):=by
  obtain⟨i0,hi,hz0,hz1,hz2⟩:=info_parts Tryz.infoN4
  have hown:(w0.alloc (.cells #[.bool y] 4)).ownsRow w0.heap.size 4 1 (.slice (some ⟨w0.heap.size,0,none⟩) 1 1) 1 [.bool y]:=World.ownsRow_lit (base:=w0.heap.size) (e:=4) (size:=1) w0 #[.bool y] 1 (Nat.le_refl _) (by unfold maxLen;omega) (by simp)
  obtain⟨hl,hnc,hcm,hnone,b,off,hor,hc⟩:=hrow
  have h2:=(Below.refl w0.heap.size w0).alloc (Nat.le_refl _) (.cells #[.bool y] 4)
  cases ao with
  | none=>
    have hc0:=hnone rfl
    have hm0:mo=0:=by omega
    subst hc0;subst hm0
    have hbs:bs=[]:=List.length_eq_zero_iff.1 hl
    subst hbs
    exact wpList_append_own_none hgd s x 41 ho w0.heap.size 4 i0 1 Tryz.underlying41 hi _ 1 [.bool y] hs hown hx (hK _ _ hown h2)
  | some ad=>
    refine wpList_append_own (w0.alloc (.cells #[.bool y] 4)) hgd s x 41 ho w0.heap.size 4 i0 (.bool false) 1 1 Tryz.underlying41 hi hz0 hz1 hz2 rfl (by decide) _ 1 [.bool y] hs hown ad mo co (bs.map Value.bool) hx ?_ ?_ ?_ ?_ ?_ ?_ ?_
    · simp;omega
    · intro j u hj
      have hjk:j<mo:=by
        have:=(List.getElem?_eq_some_iff.1 hj).1
        simp at this;omega
      rcases hor with h | h
      · obtain rfl:ad=⟨b,off,none⟩:=by injection h
        have e:(⟨b,off,none⟩:Addr).add j=⟨b,off+j,none⟩:=by unfold Addr.add;split <;> simp_all
        have hjx:j<bs.length:=by omega
        rw [e,h2.cell (p:=⟨b,off+j,none⟩) (hc j hjk).1,(hc j hjk).2,←hj]
        simp [hjx]
      · omega
    · intro u hu;obtain⟨y,_,rfl⟩:=List.mem_map.1 hu;rfl
    · unfold maxLen;omega
    · omega
    · simp
    · intro v' w' h1 h3 _
      refine hK v' w' ?_ ?_
      · unfold OwnB
        have e:(y::bs).length=1+mo:=by simp [hl];omega
        rw [e]
        exact h1
      · exact h2.grown h3 (by simp) (fun k hk=>by simp [Value.ownBlock] at hk;omega)
set_option maxHeartbeats 4000000 in
theorem bsub_own (a0 a1:Option Addr)(n0 c0 n1 c1:Nat)(xs ys:List Bool)(w:World)(h0:BRow w a0 n0 c0 xs)(h1:BRow w a1 n1 c1 ys)(hn0:n0≤10000000)(hn1:n1≤n0)(hle:bval ys≤bval xs) :
    Calls Tryz.prog 142 #[.slice a0 n0 c0,.slice a1 n1 c1] w (BOwn (bval xs-bval ys) w):=by
  have HL0:=Lib.hid h0.1
  have HL1:=Lib.hid h1.1
  have H0:=Lib.hid h0;clear h0
  have H1:=Lib.hid h1;clear h1
  have HLE:=Lib.hid hle;clear hle
  go_enter Tryz.func142,Tryz.ntmps142
  go_wp2
  go_loopw [5,6,7] (fun v cv t wr=>∃(k:Nat) (c:Bool) (out:List Bool),k≤n0∧t=.int .i64 (k:Int)∧cv=.bool c∧Hid (OwnB wr w.heap.size v out∧BDiffAt xs ys out k c)∧Below w.heap.size w wr) (fun _ _ t _=>(10000002-(intOf t)).toNat)
  case atStart=>exact⟨0,false,[],by omega,rfl,rfl,⟨World.ownsRow_nil _ _ _ _,rfl,by simp [bval,bnum]⟩,Below.refl _ _⟩
  case round=>
    obtain⟨k,c,out,hk,rfl,rfl,HZ,hbr⟩:=hrel
    have HOL:Hid (out.length=k):=HZ.out.2.1
    by_cases hkM:k<n0
    · have HX:=Lib.hid (at_any a0 n0 c0 xs wr (k:Int) k rfl (brow_below (Nat.le_refl _) hbr H0.out) (by omega) (by omega))
      have HY:=Lib.hid (at_any a1 n1 c1 ys wr (k:Int) k rfl (brow_below (Nat.le_refl _) hbr H1.out) (by omega) (by omega))
      obtain⟨x,hx⟩:∃ x,x=xs.getD k false:=⟨_,rfl⟩
      obtain⟨y,hy⟩:∃ y,y=ys.getD k false:=⟨_,rfl⟩
      rw [←hx] at HX
      rw [←hy] at HY
      have HXE:=Lib.hid hx;clear hx
      have HYE:=Lib.hid hy;clear hy
      cases x <;> cases y <;> cases c
      all_goals
        go_wp2_with fail
        refine HX.out.mono ?_
        rintro e w' ⟨rfl,rfl⟩
        go_wp2_with fail
        refine HY.out.mono ?_
        rintro e w' ⟨rfl,rfl⟩
        go_wp2_with (at_builtin;refine append_bool rfl _ _ rfl w.heap.size _ out rfl rfl HZ.out.1 hbr.size (by rw [HOL.out];omega) ?_)
        intro v' w2 hown' hb2
        have HOW:=Lib.hid hown';clear hown'
        go_wp2
        go_roundw
        case rel=>first | exact⟨k+1,false,_,by omega,by go_num,rfl,⟨HOW.out,HZ.out.2.step HXE.out HYE.out (by decide)⟩,hbr.trans hb2⟩ | exact⟨k+1,true,_,by omega,by go_num,rfl,⟨HOW.out,HZ.out.2.step HXE.out HYE.out (by decide)⟩,hbr.trans hb2⟩
        case measure=>simp [intOf];omega
    · obtain rfl:n0=k:=by omega
      have HD:Hid (bval out=bval xs-bval ys):=HZ.out.2.done (by rw [HL0.out];omega) (by rw [HL1.out];omega) HLE.out
      go_wp2_with fail
      refine(bcut_own2 w wr _ out _ HZ.out.1 HD.out (by rw [HOL.out];omega) hbr).mono ?_
      rintro e w' ⟨a',m,c',rfl,hm,hrow,hb,hap⟩
      have HM':=Lib.hid hm;clear hm
      have HROW:=Lib.hid hrow;clear hrow
      have HB:=Lib.hid hb;clear hb
      have HAP:=Lib.hid hap;clear hap
      go_wp2
      go_ret
      exact⟨a',m,c',rfl,HM'.out,HROW.out,HB.out,HAP.out⟩
def BQR (X Y:Nat)(w:World)(e:Ending)(w':World):Prop:=
  ∃ q mq cq r mr cr,e=.returned (.tuple #[.slice q mq cq,.slice r mr cr])∧mq=(bitsOf (X / Y)).length∧mr=(bitsOf (X % Y)).length∧BRow w' q mq cq (bitsOf (X / Y))∧BRow w' r mr cr (bitsOf (X % Y))∧Below w.heap.size w w'
def BDivAt (X Y:Nat)(qs:List Bool)(k R:Nat):Prop:=qs.length=(bitsOf X).length∧R<Y∧R+Y*bval (qs.drop k)=bval ((bitsOf X).drop k)∧∀ j,j<k→qs.getD j false=false
theorem BDivAt.start (X Y n:Nat)(hn:(bitsOf X).length=n)(hY:0<Y):BDivAt X Y (List.replicate n false) n 0:=by
  refine⟨by simp [hn],hY, ?_,fun j _=>by rw [List.getD_eq_getElem?_getD,List.getElem?_replicate];split <;> rfl⟩
  rw [List.drop_eq_nil_of_le (by simp),List.drop_eq_nil_of_le (by omega)]
  simp [bval]
theorem drop_set_one (qs:List Bool)(k:Nat)(hk:0<k)(hl:k≤qs.length):bval ((qs.set (k-1) true).drop (k-1))=1+2*bval (qs.drop k):=by
  rw [bval_drop _ k hk (by simpa using hl)]
  obtain⟨j,rfl⟩:∃ j,k=j+1:=⟨k-1,by omega⟩
  have h1:j<qs.length:=by omega
  have h2:(qs.set j true).drop (j+1)=qs.drop (j+1):=by rw [List.drop_set];simp
  simp [h1,h2,bnum]
theorem BDivAt.less {X Y k R:Nat}{qs:List Bool}(h:BDivAt X Y qs k R)(hk:0<k)(hl:k≤(bitsOf X).length)(y:Bool)(hy:y=(bitsOf X).getD (k-1) false)(hlt:bnum y+2*R<Y):BDivAt X Y qs (k-1) (bnum y+2*R):=by
  obtain⟨h1,h2,h3,h4⟩:=h
  refine⟨h1,hlt, ?_,fun j hj=>h4 j (by omega)⟩
  rw [bval_drop (bitsOf X) k hk hl,←hy,←h3,bval_drop qs k hk (by omega),h4 (k-1) (by omega)]
  have e:bnum false=0:=rfl
  rw [e,Nat.zero_add,Nat.mul_left_comm]
  omega
theorem BDivAt.more {X Y k R:Nat}{qs:List Bool}(h:BDivAt X Y qs k R)(hk:0<k)(hl:k≤(bitsOf X).length)(y:Bool)(hy:y=(bitsOf X).getD (k-1) false)(hge:Y≤bnum y+2*R):BDivAt X Y (qs.set (k-1) true) (k-1) (bnum y+2*R-Y):=by
  obtain⟨h1,h2,h3,h4⟩:=h
  have hb:=bnum_le y
  refine⟨by simpa using h1,by omega, ?_,fun j hj=>?_⟩
  · rw [bval_drop (bitsOf X) k hk hl,←hy,←h3,drop_set_one qs k hk (by omega),Nat.mul_add,Nat.mul_left_comm]
    omega
  · have:=h4 j (by omega)
    rw [List.getD_eq_getElem?_getD] at this ⊢
    rw [List.getElem?_set_ne (by omega)]
    exact this
theorem BDivAt.done {X Y R:Nat}{qs:List Bool}(h:BDivAt X Y qs 0 R):bval qs=X / Y∧R=X % Y:=by
  obtain⟨h1,h2,h3,h4⟩:=h
  rw [List.drop_zero,List.drop_zero,bval_bits] at h3
  exact quot_rest X (bval qs) Y R h2 (by rw [Nat.mul_comm];omega)
set_option maxHeartbeats 4000000 in
theorem bdiv_any (a b:Option Addr)(n c m d:Nat)(X Y:Nat)(w:World)(h0:BRow w a n c (bitsOf X))(h1:BRow w b m d (bitsOf Y))(hn:n≤1000000)(hm:m≤1000000)(hY:0<Y) :
    Calls Tryz.prog 124 #[.slice a n c,.slice b m d] w (BQR X Y w):=by
  have HLX:=Lib.hid h0.1
  have HLY:=Lib.hid h1.1
  have H0:=Lib.hid h0
  have H1:=Lib.hid h1;clear h1
  have HY:=Lib.hid hY;clear hY
  obtain⟨-,-,-,-,b0,o0,hor0,hc0⟩:=h0
  have HCA:=Lib.hid hc0;clear hc0
  rcases(show _∨Hid _ from hor0) with rfl | hor0
  all_goals
    go_enter Tryz.func124,Tryz.ntmps124
    go_wp2_with (at_make;refine makeBN rfl _ rfl _ n rfl rfl (by omega) ?_)
    intro g w1 hg hmem hb1
    have HM:=Lib.hid hmem;clear hmem
    go_wp2
    go_loopw [7,8] (fun v t wr=>∃(k:Nat) (ao:Option Addr) (mo co R:Nat) (qs:List Bool),k≤n∧t=.int .i64 ((k:Int)-1)∧v=.slice ao mo co∧mo≤m∧Hid (BRow wr ao mo co (bitsOf R)∧From ao (g+1)∧MemB wr g qs∧BDivAt X Y qs k R)∧Below w.heap.size w wr) (fun _ t _=>(intOf t+1).toNat)
    case atStart=>exact⟨n,none,0,0,0,_,Nat.le_refl _,rfl,rfl,Nat.zero_le _,⟨by rw [bits_zero];exact brow_nil _,fun ad e=>(by cases e),HM.out,BDivAt.start X Y n HLX.out HY.out⟩,hb1⟩
    case round=>
      obtain⟨k,ao,mo,co,R,qs,hk,rfl,rfl,hmo,HZ,hbr⟩:=hrel
      by_cases hk0:0<k
      · first
        | (exfalso;have:=hor0.out;omega)
        | (have hs0:=HCA.out (k-1) (by omega)
           have hcell:wr.cell? ⟨b0,o0+(k-1),none⟩=some (.bool ((bitsOf X).getD (k-1) false)):=by rw [hbr.cell (p:=⟨b0,o0+(k-1),none⟩) hs0.1];exact hs0.2
           clear hs0
           obtain⟨y,hy⟩:∃ y,y=(bitsOf X).getD (k-1) false:=⟨_,rfl⟩
           rw [←hy] at hcell
           have HYE:=Lib.hid hy;clear hy
           have e:((k:Int)-1).toNat=k-1:=by omega
           have HGW:Hid (g<wr.heap.size):=HZ.out.2.2.1.lt
           go_wp2_with (at_builtin;refine append_bit rfl _ _ rfl ao mo co y (bitsOf R) rfl rfl HZ.out.1 (by omega) ?_)
           intro v' w5 hown' hb5
           have HOW:=Lib.hid hown';clear hown'
           have HB5:=Lib.hid hb5;clear hb5
           go_wp2_with fail
           refine(bcut_own2 wr w5 v' _ (bnum y+2*R) HOW.out (by simp only [bval,bval_bits]) (by rw [List.length_cons,HZ.out.1.1];omega) HB5.out).mono ?_
           rintro e6 w6 ⟨v6,m6,c6,rfl,hm6,hr6,hb6,hf6⟩
           have HM6:=Lib.hid hm6
           have hm6b:m6≤1000002:=by
             have h2:=HZ.out.2.2.2.2.1
             have h3:=bnum_le y
             have h4:=bits_mono (a:=bnum y+2*R) (b:=Y+Y) (by omega)
             have h5:=bits_add (a:=Y) (b:=Y) (Nat.le_refl _) (Nat.le_refl _)
             have h6:=HLY.out
             omega
           clear hm6
           have HR6:=Lib.hid hr6;clear hr6
           have HF6:=Lib.hid hf6;clear hf6
           have HB6:=Lib.hid hb6;clear hb6
           have HBW6:=Lib.hid (hbr.trans (HB6.out.mono hbr.size))
           have HMB6:=Lib.hid (HZ.out.2.2.1.below HB6.out HGW.out)
           rcases Nat.lt_or_ge (bnum y+2*R) Y with hlt | hge
           · have HD:=Lib.hid (HZ.out.2.2.2.less hk0 (by rw [HLX.out];exact hk) y HYE.out hlt)
             have HCV:Hid (cmpv (bnum y+2*R) Y=-1):=by rw [cmpv,if_pos hlt];exact rfl
             have HML:Hid (m6≤m):=by rw [HM6.out,←HLY.out];exact bits_mono (Nat.le_of_lt hlt)
             clear hlt
             go_wp2_with fail
             refine(bcmp_any v6 b m6 c6 m d _ _ w6 HR6.out (brow_below (Nat.le_refl _) HBW6.out H1.out) (by omega) (by omega)).mono ?_
             rw [bval_bits,bval_bits,HCV.out]
             rintro e w' ⟨rfl,rfl⟩
             go_wp2
             go_roundw
             case rel=>exact⟨k-1,v6,m6,c6,_,qs,by omega,by go_num,rfl,HML.out,⟨HR6.out,fun ad ea=>Nat.le_trans HGW.out (HF6.out ad ea),HMB6.out,HD.out⟩,HBW6.out⟩
             case measure=>simp [intOf];omega
           · have HD:=Lib.hid (HZ.out.2.2.2.more hk0 (by rw [HLX.out];exact hk) y HYE.out hge)
             have HCV:Hid (∃ r:Int,cmpv (bnum y+2*R) Y=r∧0≤r):=⟨_,rfl,by rw [cmpv,if_neg (by omega)];split <;> omega⟩
             have HGE:=Lib.hid hge;clear hge
             obtain⟨rr,hrr,hrr0⟩:=HCV.out
             have HRR:=Lib.hid hrr;clear hrr
             go_wp2_with fail
             refine(bcmp_any v6 b m6 c6 m d _ _ w6 HR6.out (brow_below (Nat.le_refl _) HBW6.out H1.out) (by omega) (by omega)).mono ?_
             rw [bval_bits,bval_bits,HRR.out]
             rintro e w' ⟨rfl,rfl⟩
             go_wp2_with fail
             refine(bsub_own v6 b m6 c6 m d _ _ w6 HR6.out (brow_below (Nat.le_refl _) HBW6.out H1.out) (by omega) (by rw [HM6.out,←HLY.out];exact bits_mono HGE.out) (by rw [bval_bits,bval_bits];exact HGE.out)).mono ?_
             rw [bval_bits,bval_bits]
             rintro e w7 ⟨v7,m7,c7,rfl,hm7,hr7,hb7,hf7⟩
             have HML:Hid (m7≤m):=by rw [hm7,←HLY.out];exact bits_mono (Nat.le_of_lt HD.out.2.1)
             have HR7:=Lib.hid hr7;clear hr7 hm7
             have HF7:Hid (From v7 (g+1)):=fun ad ea=>Nat.le_trans (Nat.le_trans HGW.out HB6.out.size) (hf7 ad ea)
             have HB7:=Lib.hid (HBW6.out.trans (hb7.mono HBW6.out.size))
             have HMB7:=Lib.hid (HMB6.out.below hb7 HMB6.out.lt)
             clear hb7 hf7
             have hold:=HMB7.out.cell (k-1) (by rw [HZ.out.2.2.2.1,HLX.out];omega)
             have hfree:=HMB7.out.free (k-1)
             go_wp2
             go_roundw
             case rel=>exact⟨k-1,v7,m7,c7,_,_,by omega,by go_num,rfl,HML.out,⟨brow_set HR7.out HF7.out _ _,HF7.out,HMB7.out.set _ _,HD.out⟩,HB7.out.setCell (by exact hg) _⟩
             case measure=>simp [intOf];omega)
      · obtain rfl:k=0:=by omega
        have HF:=Lib.hid HZ.out.2.2.2.done
        have HQL:Hid (qs.length=n):=by rw [HZ.out.2.2.2.1];exact HLX.out
        go_wp2_with fail
        refine(bcut_num (some ⟨g,0,none⟩) n n qs wr (HZ.out.2.2.1.row n n HQL.out (Nat.le_refl _) (by unfold maxLen;omega)) (by omega)).mono ?_
        rw [HF.out.1]
        rintro e w4 ⟨mq,rfl,hmq,hmqn,hrq,rfl⟩
        have HMQ:=Lib.hid hmq;clear hmq
        have HRQ:=Lib.hid hrq;clear hrq
        go_wp2
        go_ret2
        refine⟨_,mq,n,ao,mo,co,rfl,HMQ.out, ?_,HRQ.out, ?_,hbr⟩
        · rw [←HF.out.2];exact HZ.out.1.1.symm
        · rw [←HF.out.2];exact HZ.out.1
end Go.Proofs.YtpnlbjnbgemocaaGreat
/- What the document's answer's Div and Gcd tell. -/
namespace Go.Proofs.YtpnlbjnbgemocaaGreat
set_option linter.unusedVariables false
set_option linter.unusedSimpArgs false
set_option maxRecDepth 100000
open Go.RowKit Nums
theorem bits_none {N:Nat}(h:(bitsOf N).length=0):N=0:=by
  have h1:=List.length_eq_zero_iff.1 h
  have h2:=bval_bits N
  rw [h1] at h2
  exact h2.symm
def RQR (k l X Y:Nat)(w:World)(e:Ending)(w':World):Prop:=
  ∃ q mq cq r mr cr,e=.returned (.tuple #[.slice q mq cq,.slice r mr cr,.int .i64 0])∧mq≤k∧mr≤l∧Row w' q mq cq (limbs (X / Y))∧Row w' r mr cr (limbs (X % Y))∧Below w.heap.size w w'
set_option maxHeartbeats 1000000 in
theorem rdivN {w:World}{a b:Option Addr}{n c m d:Nat}{xs ys:List Nat}{X Y:Nat}(k l:Nat)(h0:Row w a n c xs)(h1:Row w b m d ys)(hX:val xs=X)(hY:val ys=Y)(hn:n≤100)(hm:m≤100)(hY0:0<Y)(hk:(limbs (X / Y)).length≤k)(hl:(limbs (X % Y)).length≤l) :
    Calls Tryz.prog 94 #[.slice a n c,.slice b m d] w (RQR k l X Y w):=by
  have LX:=Lib.hid (bits_le h0)
  have LY:=Lib.hid (bits_le h1)
  have H0:=Lib.hid h0;clear h0
  have H1:=Lib.hid h1;clear h1
  rw [hX] at LX
  rw [hY] at LY
  have HX:=Lib.hid hX;clear hX
  have HY:=Lib.hid hY;clear hY
  have HY0:=Lib.hid hY0;clear hY0
  have HK:=Lib.hid hk;clear hk
  have HL:=Lib.hid hl;clear hl
  go_enter Tryz.func94,Tryz.ntmps94
  go_wp2_with fail
  refine(of_any a n c xs w H0.out (by omega)).mono ?_
  rw [HX.out]
  rintro e w1 ⟨va,ma,ca,rfl,hma,hra,hb1⟩
  have hmab:ma≤32000:=by have:=LX.out;omega
  have HRA:=Lib.hid hra;clear hra hma
  have HB1:=Lib.hid hb1;clear hb1
  go_wp2_with fail
  refine(of_any b m d ys w1 (row_below (Nat.le_refl _) HB1.out H1.out) (by omega)).mono ?_
  rw [HY.out]
  rintro e w2 ⟨vb,mb,cb,rfl,hmb,hrb,hb2⟩
  have hmbb:mb≤32000:=by have:=LY.out;omega
  have hmb0:0<mb:=by
    rcases Nat.eq_zero_or_pos mb with h | h
    · exfalso;rw [h] at hmb;have:=bits_none hmb.symm;have:=HY0.out;omega
    · exact h
  have hmbz:((mb:Int)==0)=false:=by rw [beq_eq_false_iff_ne];omega
  have HRB:=Lib.hid hrb;clear hrb hmb
  replace HRA:=Lib.hid (brow_below (Nat.le_refl _) hb2 HRA.out)
  have HB2:=Lib.hid (HB1.out.trans (hb2.mono HB1.out.size));clear hb2
  go_wp2_with fail
  refine(bdiv_any va vb ma ca mb cb X Y w2 HRA.out HRB.out (by omega) (by omega) HY0.out).mono ?_
  rintro e w3 ⟨q,mq,cq,r,mr,cr,rfl,hmq,hmr,hq,hr,hb3⟩
  have hmqb:mq≤32000:=by have h1:=bits_mono (Nat.div_le_self X Y);have h2:=LX.out;omega
  have hmrb:mr≤32000:=by have h1:=bits_mono (Nat.mod_le X Y);have h2:=LX.out;omega
  have HQ:=Lib.hid hq;clear hq hmq
  have HR:=Lib.hid hr;clear hr hmr
  have HB3:=Lib.hid (HB2.out.trans (hb3.mono HB2.out.size));clear hb3
  go_wp2_with fail
  refine(limbs_any q mq cq _ w3 HQ.out (by omega)).mono ?_
  rw [bval_bits]
  rintro e w4 ⟨vt,mt,ct,rfl,hmt,hrt,hb4⟩
  have HMT:=Lib.hid hmt;clear hmt
  have HRT:=Lib.hid hrt;clear hrt
  have HR4:=Lib.hid (brow_below (Nat.le_refl _) hb4 HR.out)
  have HB4:=Lib.hid (HB3.out.trans (hb4.mono HB3.out.size));clear hb4
  go_wp2_with fail
  refine(limbs_any r mr cr _ w4 HR4.out (by omega)).mono ?_
  rw [bval_bits]
  rintro e w5 ⟨vu,mu,cu,rfl,hmu,hru,hb5⟩
  have HMU:=Lib.hid hmu;clear hmu
  have HRU:=Lib.hid hru;clear hru
  have HRT5:=Lib.hid (row_below (Nat.le_refl _) hb5 HRT.out)
  have HB5:=Lib.hid (HB4.out.trans (hb5.mono HB4.out.size));clear hb5
  go_wp2
  go_ret3
  exact⟨vt,mt,ct,vu,mu,cu,rfl,by rw [HMT.out];exact HK.out,by rw [HMU.out];exact HL.out,HRT5.out,HRU.out,HB5.out⟩
set_option maxHeartbeats 2000000 in
theorem rgcdN {w:World}{a b:Option Addr}{n c m d:Nat}{xs ys:List Nat}{X Y G:Nat}(k:Nat)(h0:Row w a n c xs)(h1:Row w b m d ys)(hX:val xs=X)(hY:val ys=Y)(hn:n≤100)(hm:m≤100)(hG:Nat.gcd X Y=G)(hk:(limbs G).length≤k) :
    Calls Tryz.prog 93 #[.slice a n c,.slice b m d] w (NumCK k G w):=by
  have LX:=Lib.hid (bits_le h0)
  have LY:=Lib.hid (bits_le h1)
  have H0:=Lib.hid h0;clear h0
  have H1:=Lib.hid h1;clear h1
  rw [hX] at LX
  rw [hY] at LY
  have HX:=Lib.hid hX;clear hX
  have HY:=Lib.hid hY;clear hY
  have HK:=Lib.hid hk;clear hk
  have HG:=Lib.hid hG;clear hG
  go_enter Tryz.func93,Tryz.ntmps93
  go_wp2_with fail
  refine(of_any a n c xs w H0.out (by omega)).mono ?_
  rw [HX.out]
  rintro e w1 ⟨va,ma,ca,rfl,hma,hra,hb1⟩
  have hmab:ma≤32000:=by have:=LX.out;omega
  have HRA:=Lib.hid hra;clear hra hma
  have HB1:=Lib.hid hb1;clear hb1
  go_wp2_with fail
  refine(of_any b m d ys w1 (row_below (Nat.le_refl _) HB1.out H1.out) (by omega)).mono ?_
  rw [HY.out]
  rintro e w2 ⟨vb,mb,cb,rfl,hmb,hrb,hb2⟩
  have hmbb:mb≤32000:=by have:=LY.out;omega
  have HRB:=Lib.hid hrb;clear hrb hmb
  replace HRA:=Lib.hid (brow_below (Nat.le_refl _) hb2 HRA.out)
  have HB2:=Lib.hid (HB1.out.trans (hb2.mono HB1.out.size));clear hb2
  go_wp2
  go_loopg [5,6] Y (fun y u v wr=>∃(x:Nat) (ao:Option Addr) (mo co:Nat) (bo:Option Addr) (no eo:Nat),u=.slice ao mo co∧v=.slice bo no eo∧mo≤32000∧no≤32000∧Hid (BRow wr ao mo co (bitsOf x)∧BRow wr bo no eo (bitsOf y)∧Nat.gcd x y=G)∧Below w.heap.size w wr)
  case atStart=>exact⟨X,va,ma,ca,vb,mb,cb,rfl,rfl,hmab,hmbb,⟨HRA.out,HRB.out,HG.out⟩,HB2.out⟩
  case round=>
    obtain⟨x,ao,mo,co,bo,no,eo,rfl,rfl,hmo,hno,HW,hbw⟩:=hrel
    obtain⟨y,rfl⟩:∃ y,y=gk:=⟨_,rfl⟩
    by_cases hn0:0<no
    · have HY0:Hid (0<y):=by
        rcases Nat.eq_zero_or_pos y with h | h
        · exfalso;have:=HW.out.2.1.1;rw [h,bits_zero] at this;have h3:0=no:=this;omega
        · exact h
      go_wp2_with fail
      refine(bdiv_any ao bo mo co no eo x y wr HW.out.1 HW.out.2.1 (by omega) (by omega) HY0.out).mono ?_
      rintro e w3 ⟨q,mq,cq,r,mr,cr,rfl,hmq,hmr,hq,hr,hb3⟩
      have hmrb:mr≤32000:=by
        have h1:=bits_mono (Nat.le_of_lt (Nat.mod_lt x HY0.out))
        have h2:=HW.out.2.1.1
        omega
      clear hmq hmr hq
      have HR:=Lib.hid hr;clear hr
      have HBY:=Lib.hid (brow_below (Nat.le_refl _) hb3 HW.out.2.1)
      have HB3:=Lib.hid (hbw.trans (hb3.mono hbw.size));clear hb3
      go_wp2
      go_roundg (x % y)
      case measure=>exact Nat.mod_lt _ HY0.out
      case rel=>exact⟨y,bo,no,eo,r,mr,cr,rfl,rfl,hno,hmrb,⟨HBY.out,HR.out,by rw [←HW.out.2.2,Nat.gcd_comm x y,Nat.gcd_rec y x,Nat.gcd_comm]⟩,HB3.out⟩
    · obtain rfl:no=0:=by omega
      have HE:Hid (x=G):=by
        have h1:=bits_none HW.out.2.1.1
        have h2:=HW.out.2.2
        rw [h1,Nat.gcd_zero_right] at h2
        exact h2
      go_wp2_with fail
      refine(limbs_any ao mo co _ wr HW.out.1 (by omega)).mono ?_
      rw [bval_bits,HE.out]
      rintro e w4 ⟨vt,mt,ct,rfl,hmt,hrt,hb4⟩
      have HMT:=Lib.hid hmt;clear hmt
      have HRT:=Lib.hid hrt;clear hrt
      have HB4:=Lib.hid (hbw.trans (hb4.mono hbw.size));clear hb4
      go_wp2
      go_ret
      exact⟨vt,mt,ct,rfl,by rw [HMT.out];exact HK.out,HRT.out,HB4.out⟩
end Go.Proofs.YtpnlbjnbgemocaaGreat
/- Plain facts on texts of numbers: what is printed is read, and what is read is printed but for noughts ahead. -/
namespace Go.Proofs.YtpnlbjnbgemocaaGreat
set_option linter.unusedVariables false
set_option linter.unusedSimpArgs false
set_option maxRecDepth 100000
open Nums
theorem size_dec_le (n k:Nat)(hk:1≤k)(h:n<10 ^ k):(decStr n).size≤k:=by
  unfold decStr
  split
  · exact hk
  · show(dig n).reverse.toArray.size≤k
    rw [List.size_toArray,List.length_reverse]
    exact length_dig n k h
end Go.Proofs.YtpnlbjnbgemocaaGreat
/- What the document's answer's Parse tells, of any text. -/
namespace Go.Proofs.YtpnlbjnbgemocaaGreat
set_option linter.unusedVariables false
set_option linter.unusedSimpArgs false
set_option maxRecDepth 100000
open Go.RowKit Nums
theorem str_empty {s:ByteArray}(h:s.size=0):s.toList.isEmpty=true:=by
  rw [ByteArray.toList_eq]
  have h1:s.data.toList.length=0:=by simpa using h
  rw [List.length_eq_zero_iff.1 h1];rfl
theorem str_some {s:ByteArray}(h:0<s.size):s.toList.isEmpty=false:=by
  rw [ByteArray.toList_eq]
  have h1:s.data.toList.length=s.size:=by simp
  cases hl:s.data.toList with
  | nil=>rw [hl] at h1;simp at h1;omega
  | cons _ _=>rfl
theorem row_one (w:World)(X:Int)(x:Nat)(hX:X=(x:Int))(h:x<4294967296):Row (w.alloc (.cells #[.int .u32 X] 120)) (some ⟨w.heap.size,0,none⟩) 1 1 [x]:=by
  subst hX
  exact(mem_alloc w [x] _ rfl).row0 (by intro y hy;simp at hy;omega) 1 (by simp) (by unfold maxLen;omega)
end Go.Proofs.YtpnlbjnbgemocaaGreat
/- What the document's answer's Print tells. -/
namespace Go.Proofs.YtpnlbjnbgemocaaGreat
set_option linter.unusedVariables false
set_option linter.unusedSimpArgs false
set_option maxRecDepth 100000
open Go.RowKit Nums
def decDig (n:Nat):List UInt8:=if n=0 then [48] else dig n
theorem decStr_dig (n:Nat):decStr n=⟨(decDig n).reverse.toArray⟩:=by
  unfold decStr decDig
  split
  · rfl
  · rfl
def TextAt (N x:Nat)(t:ByteArray):Prop:=∃ l:List UInt8,t=⟨l.reverse.toArray⟩∧((l=[]∧x=N)∨(l≠[]∧decDig N=l++dig x))
theorem TextAt.start (N:Nat):TextAt N N ⟨#[]⟩:=⟨[],rfl,Or.inl ⟨rfl,rfl⟩⟩
theorem TextAt.step {N x:Nat}{t:ByteArray}(h:TextAt N x t)(hx:t.size=0∨0<x):TextAt N (x / 10) (⟨[UInt8.ofNat (48+x % 10)].toArray⟩++t):=by
  obtain⟨l,rfl,h⟩:=h
  refine⟨l++[UInt8.ofNat (48+x % 10)], ?_,Or.inr ⟨by simp, ?_⟩⟩
  · apply ByteArray.ext
    simp [ByteArray.data_append]
  · rcases h with ⟨rfl,rfl⟩ | ⟨hl,h⟩
    · unfold decDig
      split
      · rename_i h0;subst h0;rw [show 0 / 10=0 from rfl,dig_zero];rfl
      · rename_i h0;rw [dig_pos h0];rfl
    · have hx0:x≠0:=by
        rcases hx with hx | hx
        · exfalso;apply hl
          have:l.reverse.toArray.size=0:=hx
          simpa using this
        · omega
      rw [h,dig_pos hx0,List.append_assoc];rfl
theorem TextAt.done {N:Nat}{t:ByteArray}(h:TextAt N 0 t)(ht:0<t.size):t=decStr N:=by
  obtain⟨l,rfl,h⟩:=h
  rcases h with ⟨rfl,rfl⟩ | ⟨hl,h⟩
  · exact absurd ht (by decide)
  · rw [decStr_dig,h,dig_zero,List.append_nil]
theorem TextAt.len {N x k:Nat}{t:ByteArray}(h:TextAt N x t)(hN:N<10 ^ k)(hk:0<k):t.size≤k:=by
  obtain⟨l,rfl,h⟩:=h
  have e:ByteArray.size ⟨l.reverse.toArray⟩=l.length:=by show l.reverse.toArray.size=_;simp
  rw [e]
  rcases h with ⟨rfl,rfl⟩ | ⟨hl,h⟩
  · exact Nat.zero_le _
  · have h1:=congrArg List.length h
    rw [List.length_append] at h1
    have h2:(decDig N).length≤k:=by
      unfold decDig
      split
      · exact hk
      · exact length_dig N k hN
    omega
def strLen:Value→Nat | .string s=>s.size | _=>0
theorem meas_step (s:ByteArray)(dg:UInt8)(h:s.size≤400):1000-([dg]++s.data.toList).length<1000-s.size:=by
  have e:s.data.toList.length=s.size:=by simp
  rw [List.length_append,e,List.length_singleton];omega
set_option maxHeartbeats 1000000 in
theorem rprint_short (a0:Option Addr)(n0 c0:Nat)(xs:List Nat)(w:World)(u:Nat)(hu:u<4294967296)(hs:Calls Tryz.prog 98 #[.slice a0 n0 c0] w fun e w'=>e=.returned (.tuple #[.int .u64 (u:Int),.bool true])∧w=w') :
    Calls Tryz.prog 76 #[.slice a0 n0 c0] w fun e w'=>e=.returned (.string (decStr u))∧Below w.heap.size w w':=by
  have HS:=Lib.hid hs;clear hs
  have HU:Hid (u<10 ^ 10):=by exact(by omega:u<10 ^ 10)
  go_enter Tryz.func76,Tryz.ntmps76
  go_wp2_with fail
  refine HS.out.mono ?_
  rintro e w' ⟨rfl,rfl⟩
  go_wp2
  go_loopw [3,5] (fun v t wr=>∃(x:Nat) (s:ByteArray),v=.int .u64 (x:Int)∧t=.string s∧x<4294967296∧Hid (TextAt u x s)∧Below w.heap.size w wr) (fun _ t _=>1000-strLen t)
  case atStart=>exact⟨u,⟨#[]⟩,rfl,rfl,hu,TextAt.start u,Below.refl _ _⟩
  case round=>
    obtain⟨x,s,rfl,rfl,hx,HT,hbr⟩:=hrel
    have hsz:s.size≤10:=HT.out.len HU.out (by omega)
    have hcv:=run_convert_bytes_back (P:=Tryz.prog) (wr.alloc (.cells #[.int .u8 (48+(x:Int) % 10)] 5)) 195 9 5 ⟨wr.heap.size,0,none⟩ 1 [UInt8.ofNat (48+x % 10)] Tryz.underlying195 Tryz.underlying5 Tryz.underlying9 (by
      intro j hj
      have hj0:j=0:=by simpa using hj
      subst hj0
      simp [Addr.add,toNat_dig];omega)
    rw [show [UInt8.ofNat (48+x % 10)].length=1 from rfl] at hcv
    have HST:=Lib.hid (fun hh=>HT.out.step (N:=u) (x:=x) (t:=s) hh)
    obtain⟨dg,hdg⟩:∃ dg,dg=UInt8.ofNat (48+x % 10):=⟨_,rfl⟩
    rw [←hdg] at hcv HST
    clear hdg
    rcases Nat.eq_zero_or_pos s.size with h0 | h0
    · have h1:=str_empty h0
      go_wp2
      go_roundw
      case rel=>exact⟨x / 10,_,by go_num,rfl,by omega,HST.out (Or.inl h0),hbr.alloc hbr.size _⟩
      case measure=>exact meas_step s dg (by omega)
    · have h1:=str_some h0
      by_cases hx0:0<x
      · go_wp2
        go_roundw
        case rel=>exact⟨x / 10,_,by go_num,rfl,by omega,HST.out (Or.inr hx0),hbr.alloc hbr.size _⟩
        case measure=>exact meas_step s dg (by omega)
      · obtain rfl:x=0:=by omega
        have HD:Hid (s=decStr u):=HT.out.done h0
        go_wp2
        go_ret
        exact⟨by rw [←HD.out];exact rfl,hbr⟩
end Go.Proofs.YtpnlbjnbgemocaaGreat
/- What the document's answer's Print tells, of a number that is not short. -/
namespace Go.Proofs.YtpnlbjnbgemocaaGreat
set_option linter.unusedVariables false
set_option linter.unusedSimpArgs false
set_option maxRecDepth 100000
open Go.RowKit Nums
theorem bval_drop_le (bs:List Bool)(k:Nat):bval (bs.drop k)≤bval bs:=by
  have h:=bval_append (bs.take k) (bs.drop k)
  rw [List.take_append_drop] at h
  have h2:1*bval (bs.drop k)≤2 ^ (bs.take k).length*bval (bs.drop k):=Nat.mul_le_mul_right _ (Nat.pow_pos (by omega))
  omega
theorem dig_of (d:Nat)(h:d≤9):(UInt8.ofNat (48+d)).toNat=48+d:=by
  rw [UInt8.toNat_ofNat'];omega
set_option maxHeartbeats 2000000 in
theorem rprint_long (a0:Option Addr)(n0 c0:Nat)(xs:List Nat)(w:World)(h0:Row w a0 n0 c0 xs)(hn:n0≤100)(hN:val xs<10 ^ 200)(u:Nat)(hs:Calls Tryz.prog 98 #[.slice a0 n0 c0] w fun e w'=>e=.returned (.tuple #[.int .u64 (u:Int),.bool false])∧w=w') :
    Calls Tryz.prog 76 #[.slice a0 n0 c0] w fun e w'=>e=.returned (.string (decStr (val xs)))∧Below w.heap.size w w':=by
  have HS:=Lib.hid hs;clear hs
  have LX:=Lib.hid (bits_le h0)
  have H0:=Lib.hid h0;clear h0
  obtain⟨N,hNN⟩:∃ N,N=val xs:=⟨_,rfl⟩
  rw [←hNN] at hN LX ⊢
  have VX:=Lib.hid hNN.symm;clear hNN
  have HN:=Lib.hid hN;clear hN
  go_enter Tryz.func76,Tryz.ntmps76
  go_wp2_with fail
  refine HS.out.mono ?_
  rintro e w' ⟨rfl,rfl⟩
  go_wp2_with fail
  refine(of_any a0 n0 c0 xs w H0.out (by omega)).mono ?_
  rw [VX.out]
  rintro e w1 ⟨va,ma,ca,rfl,hma,hra,hb1⟩
  have hmab:ma≤32000:=by have:=LX.out;omega
  have HRA:=Lib.hid hra;clear hra hma
  have HB1:=Lib.hid hb1;clear hb1
  go_wp2_with fail
  refine(of_any _ 1 1 [10] _ (row_one w1 10 10 rfl (by omega)) (by omega)).mono ?_
  rw [show val [10]=10 from rfl]
  rintro e w2 ⟨vb,mb,cb,rfl,hmb,hrb,hb2⟩
  have hmbb:mb≤32000:=by have:=bits_len 10 4 (by omega);omega
  have HRB:=Lib.hid hrb;clear hrb hmb
  have hb3:Below w1.heap.size w1 w2:=((Below.refl _ _).alloc (Nat.le_refl _) _).trans (hb2.mono (by simp))
  replace HRA:=Lib.hid (brow_below (Nat.le_refl _) hb3 HRA.out)
  have HB2:=Lib.hid (HB1.out.trans (hb3.mono HB1.out.size));clear hb2 hb3
  go_wp2
  go_loopw [6,8] (fun v t wr=>∃(X:Nat) (ao:Option Addr) (mo co:Nat) (s:ByteArray),v=.slice ao mo co∧t=.string s∧mo≤32000∧Hid (BRow wr ao mo co (bitsOf X)∧TextAt N X s)∧Below w2.heap.size w2 wr) (fun _ t _=>1000-strLen t)
  case atStart=>exact⟨N,va,ma,ca,⟨#[]⟩,rfl,rfl,hmab,⟨HRA.out,TextAt.start N⟩,Below.refl _ _⟩
  case round =>
    obtain⟨X,ao,mo,co,s,rfl,rfl,hmo,HZ,hbr⟩:=hrel
    have hsz:s.size≤400:=Nat.le_trans (HZ.out.2.len HN.out (by omega)) (by omega)
    have HRBr:=Lib.hid (brow_below (Nat.le_refl _) hbr HRB.out)
    by_cases hgo:s.size=0∨0<mo
    · have HGO : Hid (s.size = 0 ∨ 0 < X) := by
        rcases hgo with h | h
        · exact Or.inl h
        · refine Or.inr ?_
          rcases Nat.eq_zero_or_pos X with e | e
          · exfalso;have:=HZ.out.1.1;rw [e,bits_zero] at this;have h3:0=mo:=this;omega
          · exact e
      have hcases:(s.toList.isEmpty=true)∨(s.toList.isEmpty=false∧0<mo):=by
        rcases Nat.eq_zero_or_pos s.size with h | h
        · exact Or.inl (str_empty h)
        · exact Or.inr ⟨str_some h,by omega⟩
      clear hgo
      rcases hcases with h1 | ⟨h1,hmo0⟩
      all_goals
        go_wp2_with fail
        refine(bdiv_any ao vb mo co mb cb X 10 wr HZ.out.1 HRBr.out (by omega) (by omega) (by omega)).mono ?_
        rintro e w3 ⟨q,mq,cq,r,mr,cr,rfl,hmq,hmr,hq,hr,hb3⟩
        have hmqb:mq≤32000:=by
          have h1:=bits_mono (Nat.div_le_self X 10)
          have h2:(bitsOf X).length=mo:=HZ.out.1.1
          omega
        have hmrb:mr≤32000:=by
          have h1:=bits_len (X % 10) 4 (by omega)
          omega
        have HQ:=Lib.hid hq;clear hq hmq
        have HMR:=Lib.hid hmr;clear hmr
        have HB3:=Lib.hid (hbr.trans (hb3.mono hbr.size));clear hb3
        obtain⟨hlr,-,-,-,b0,o0,hor0,hc0⟩:=hr
        have HLR:=Lib.hid hlr;clear hlr
        have HCR:=Lib.hid hc0;clear hc0
        rcases(show _∨Hid _ from hor0) with rfl | hor0
        all_goals
          go_wp2
          go_loop [11,12] (fun d t=>∃(k dd:Nat),k≤mr∧t=.int .i64 ((k:Int)-1)∧d=.int .i64 (dd:Int)∧dd≤9∧Hid (dd=bval ((bitsOf (X % 10)).drop k))) (fun _ t=>(intOf t+1).toNat)
          case atStart=>exact⟨mr,0,Nat.le_refl _,rfl,rfl,by omega,by rw [List.drop_eq_nil_of_le (by rw [HLR.out];exact Nat.le_refl _)];exact rfl⟩
          case round=>
            obtain⟨k,dd,hk,rfl,rfl,hdd,HDD⟩:=hrel
            by_cases hk0:0<k
            · first
              | (exfalso;have:=hor0.out;omega)
              | (have hcell:=(HCR.out (k-1) (by omega)).2
                 have e:((k:Int)-1).toNat=k-1:=by omega
                 have HDR:=Lib.hid (bval_drop (bitsOf (X % 10)) k hk0 (by rw [HLR.out];exact hk))
                 have HDL:=Lib.hid (bval_drop_le (bitsOf (X % 10)) (k-1))
                 obtain⟨y,hy⟩:∃ y,y=(bitsOf (X % 10)).getD (k-1) false:=⟨_,rfl⟩
                 rw [←hy] at hcell HDR
                 clear hy
                 have HX9:Hid (bval (bitsOf (X % 10))≤9):=by rw [bval_bits];exact(by omega:X % 10≤9)
                 cases y
                 · have hnew:2*dd≤9:=by have h1:=HDR.out;have h2:=HDL.out;have h3:=HX9.out;have h4:=HDD.out;have e0:bnum false=0:=rfl;omega
                   go_wp2
                   go_round
                   case rel=>exact⟨k-1,2*dd,by omega,by go_num,by go_num,hnew,by have h1:=HDR.out;have h4:=HDD.out;have e0:bnum false=0:=rfl;rw [h1,←h4,e0,Nat.zero_add];exact rfl⟩
                   case measure=>simp [intOf];omega
                 · have hnew:2*dd+1≤9:=by have h1:=HDR.out;have h2:=HDL.out;have h3:=HX9.out;have h4:=HDD.out;have e0:bnum true=1:=rfl;omega
                   go_wp2
                   go_round
                   case rel=>exact⟨k-1,2*dd+1,by omega,by go_num,by go_num,hnew,by have h1:=HDR.out;have h4:=HDD.out;have e0:bnum true=1:=rfl;rw [h1,←h4,e0,Nat.add_comm];exact rfl⟩
                   case measure=>simp [intOf];omega)
            · obtain rfl:k=0:=by omega
              have HDX:Hid (dd=X % 10):=by have h:=HDD.out;rw [List.drop_zero,bval_bits] at h;exact h
              have hcv:=run_convert_bytes_back (P:=Tryz.prog) (w3.alloc (.cells #[.int .u8 (48+(dd:Int))] 5)) 195 9 5 ⟨w3.heap.size,0,none⟩ 1 [UInt8.ofNat (48+dd)] Tryz.underlying195 Tryz.underlying5 Tryz.underlying9 (by
                intro j hj
                have hj0:j=0:=by simpa using hj
                subst hj0
                rw [show [UInt8.ofNat (48+dd)][0]=UInt8.ofNat (48+dd) from rfl,dig_of dd hdd]
                simp [Addr.add])
              rw [show [UInt8.ofNat (48+dd)].length=1 from rfl] at hcv
              have HST:=Lib.hid (HZ.out.2.step HGO.out)
              rw [←HDX.out] at HST
              obtain⟨dg,hdg⟩:∃ dg,dg=UInt8.ofNat (48+dd):=⟨_,rfl⟩
              rw [←hdg] at hcv HST
              clear hdg
              go_wp2
              go_roundw
              case rel=>exact⟨X / 10,q,mq,cq,_,rfl,rfl,hmqb,⟨brow_below (Nat.le_refl _) ((Below.refl _ _).alloc (Nat.le_refl _) _) HQ.out,HST.out⟩,HB3.out.alloc HB3.out.size _⟩
              case measure=>exact meas_step s dg hsz
    · have h1:=str_some (s:=s) (by omega)
      have hm0:mo=0:=by omega
      have HX0:Hid (X=0):=bits_none (by rw [HZ.out.1.1];exact hm0)
      have HD:Hid (s=decStr N):=by
        have h:=HZ.out.2
        rw [HX0.out] at h
        exact h.done (by omega)
      clear hgo
      subst hm0
      go_wp2
      go_ret
      exact⟨by rw [←HD.out];exact rfl,HB2.out.trans (hbr.mono HB2.out.size)⟩
set_option maxHeartbeats 1000000 in
theorem short_det (a:Option Addr)(n c:Nat)(xs:List Nat)(w:World)(hr:Row w a n c xs)(hn:n≤100000000) :
    ∃(u:Nat) (p:Bool),u<4294967296∧(p=true→u=val xs)∧Calls Tryz.prog 98 #[.slice a n c] w fun e w'=>e=.returned (.tuple #[.int .u64 (u:Int),.bool p])∧w=w':=by
  obtain⟨hl,-,-,-,hs,b,off,hor,hc⟩:=hr
  have HL:=Lib.hid hl;clear hl
  have HC:=Lib.hid hc;clear hc
  by_cases h0:0<n
  · rcases(show _∨Hid _ from hor) with rfl | hor
    · have hcell:=(HC.out 0 h0).2
      rw [Nat.add_zero] at hcell
      have hx:=getD_lt xs hs 0
      obtain⟨x,hxe⟩:∃ x,x=xs.getD 0 0:=⟨_,rfl⟩
      rw [←hxe] at hcell hx
      have HX:=Lib.hid hxe;clear hxe
      have hz:((n:Int)==0)=false:=by rw [beq_eq_false_iff_ne];omega
      refine⟨x,(n:Int)==1,hx,fun h=>?_, ?_⟩
      · have h1:n=1:=by have:=beq_iff_eq.1 h;omega
        have h2:=HL.out
        rw [h1] at h2
        match xs,h2 with
        | [y],_=>rw [HX.out];simp [val]
      · go_enter Tryz.func98,Tryz.ntmps98
        go_wp2
        go_ret2
        exact⟨rfl,rfl⟩
    · exfalso;have:=hor.out;omega
  · obtain rfl:n=0:=by omega
    have hxs:xs=[]:=List.length_eq_zero_iff.1 HL.out
    refine⟨0,true,by omega,fun _=>by rw [hxs];rfl, ?_⟩
    clear hxs
    go_enter Tryz.func98,Tryz.ntmps98
    go_wp2
    go_ret2
    exact⟨rfl,rfl⟩
theorem rprintN {a0:Option Addr}{n0 c0:Nat}{xs:List Nat}{w:World}(T:ByteArray)(h0:Row w a0 n0 c0 xs)(hn:n0≤12)(hT:decStr (val xs)=T) :
    Calls Tryz.prog 76 #[.slice a0 n0 c0] w fun e w'=>e=.returned (.string T)∧Below w.heap.size w w':=by
  subst hT
  have hN:val xs<10 ^ 200:=by
    have h1:=val_pow h0 hn
    have h2:(4294967296:Nat) ^ 12≤(10 ^ 10) ^ 12:=Nat.pow_le_pow_left (by omega) _
    rw [←Nat.pow_mul] at h2
    have h3:(10:Nat) ^ (10*12)≤10 ^ 200:=Nat.pow_le_pow_right (by omega) (by omega)
    exact Nat.lt_of_lt_of_le h1 (Nat.le_trans h2 h3)
  obtain⟨u,p,hu,hp,hs⟩:=short_det a0 n0 c0 xs w h0 (by omega)
  cases p
  · exact rprint_long a0 n0 c0 xs w h0 (by omega) hN u hs
  · rw [←hp rfl];exact rprint_short a0 n0 c0 xs w u hu hs
end Go.Proofs.YtpnlbjnbgemocaaGreat
