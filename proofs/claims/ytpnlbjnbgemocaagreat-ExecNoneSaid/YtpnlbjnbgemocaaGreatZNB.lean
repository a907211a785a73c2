import Derived.Test.YtpnlbjnbgemocaaGreatRows
import Derived.Test.YtpnlbjnbgemocaaGreatZNAToHpMN7
import Derived.WalkKit
import Derived.Lib.Hide
import Derived.WalkSpells
import Derived.WalkLawsBesides
import Derived.Laws.CopyOwn
import Derived.Deep.QuietTactic
import Derived.BigQuiet
import Derived.Laws.BitsAllLaws
namespace Go.Proofs.YtpnlbjnbgemocaaGreat
set_option linter.unusedVariables false
set_option linter.unusedSimpArgs false
set_option maxRecDepth 100000
open Go.RowKit Nums
def Row (w:World)(a:Option Addr)(n c:Nat)(xs:List Nat):Prop:=
  xs.length=n∧n≤c∧c≤maxLen∧(a=none→c=0)∧Small xs ∧
  ∃ b off,(a=some ⟨b,off,none⟩∨n≤0)∧∀ i,i<n→b<w.heap.size∧w.cell? ⟨b,off+i,none⟩=some (.int .u32 (xs.getD i 0:Nat))
theorem row_nil (w:World):Row w none 0 0 []:=
  ⟨rfl,Nat.le_refl _,Nat.zero_le _,fun _=>rfl,(fun x hx=>by cases hx),0,0,Or.inr (Nat.le_refl _),fun i hi=>by omega⟩
theorem row_below {B:Nat}{w w':World}{a:Option Addr}{n c:Nat}{xs:List Nat}(hB:w.heap.size≤B)(hb:Below B w w')(h:Row w a n c xs):Row w' a n c xs:=by
  obtain⟨h1,h2,h3,h4,h5,b,off,h6,h7⟩:=h
  refine⟨h1,h2,h3,h4,h5,b,off,h6,fun i hi=>⟨?_, ?_⟩⟩
  · exact Nat.lt_of_lt_of_le (h7 i hi).1 hb.size
  · rw [hb.cell (p:=⟨b,off+i,none⟩) (Nat.lt_of_lt_of_le (h7 i hi).1 hB)];exact(h7 i hi).2
theorem row_take {w:World}{a:Option Addr}{n c:Nat}{xs:List Nat}(h:Row w a n c xs)(k c':Nat)(hk:k≤n)(hkc:k≤c')(hc:c'≤c):Row w a k c' (xs.take k):=by
  obtain⟨h1,h2,h3,h4,h5,b,off,h6,h7⟩:=h
  refine⟨by simp;omega,hkc,by omega,fun e=>by have:=h4 e;omega,small_take h5 k,b,off, ?_,fun i hi=>⟨(h7 i (by omega)).1, ?_⟩⟩
  · rcases h6 with h6 | h6
    · exact Or.inl h6
    · exact Or.inr (by omega)
  · rw [(h7 i (by omega)).2]
    congr 3
    simp [List.getElem?_take,hi]
theorem cells_at {w wr:World}{b off n:Nat}{xs:List Nat}(h:∀ i,i<n→b<w.heap.size∧w.cell? ⟨b,off+i,none⟩=some (.int .u32 (xs.getD i 0:Nat)))(hb:Below w.heap.size w wr)(i:Nat)(hi:i<n) :
    wr.cell? ⟨b,off+i,none⟩=some (.int .u32 (xs.getD i 0:Nat)):=by
  rw [hb.cell (p:=⟨b,off+i,none⟩) (h i hi).1];exact(h i hi).2
theorem ret_slice {a:Option Addr}{n m c d:Nat}(h:n=m)(h':c=d):Ending.returned (.slice a n c)=.returned (.slice a m d):=by rw [h,h']
theorem ret_boolN {p q:Bool}(h:p=q):Ending.returned (.bool p)=.returned (.bool q):=by rw [h]
def CutPost (a:Option Addr)(xs:List Nat)(w:World)(e:Ending)(w':World):Prop:=
  (∃ a' m,e=.returned (.slice a' m m)∧m=tl xs∧((m=0∧a'=none)∨(0<m∧a'=a)))∧w=w'
set_option maxHeartbeats 400000 in
theorem cut_any (a:Option Addr)(n c:Nat)(xs:List Nat)(w:World)(hr:Row w a n c xs)(hn:n≤1000000000) :
    Calls Tryz.prog 140 #[.slice a n c] w (CutPost a xs w):=by
  obtain⟨hl,hnc,hcm,hnone,hsm,b,off,hor,hc⟩:=hr
  have H1:=Lib.hid hl;clear hl
  have hK:∀ k:Nat,k≤n→(∀ i,k≤i→xs.getD i 0=0)→(k=0∨xs.getD (k-1) 0≠0)→k=tl xs:=fun k h1 h2 h3=>(tl_unique xs k (by rw [H1.out];exact h1) h2 h3).symm
  have hZ:∀ i,n≤i→xs.getD i 0=0:=fun i hi=>getD_ge xs i (by rw [H1.out];exact hi)
  have HK:=Lib.hid hK;clear hK
  have HZ:=Lib.hid hZ;clear hZ
  have HC:=Lib.hid hc;clear hc
  have HN:=Lib.hid hnone;clear hnone
  unfold maxLen at hcm
  rcases hor with rfl | hn0
  all_goals
    go_enter Tryz.func140,Tryz.ntmps140
    go_wp2
    go_loop [3] (fun t=>∃ k:Nat,k≤n∧t=.int .i64 k∧Hid (∀ i,k≤i→xs.getD i 0=0)) (fun t=>(intOf t).toNat)
    case atStart=>exact⟨n,Nat.le_refl _,rfl,HZ⟩
    case round=>
      obtain⟨k,hk,rfl,hz⟩:=hrel
      by_cases hk0:0<k
      · first
        | (exfalso;omega)
        | (have hcell:=(HC.out (k-1) (by omega)).2
           have e:((k:Int)-1).toNat=k-1:=by omega
           by_cases hx:xs.getD (k-1) 0=0
           · have hx':(((xs.getD (k-1) 0:Nat):Int)==0)=true:=by rw [beq_iff_eq];omega
             have hx'':(((xs[k-1]?.getD 0:Nat):Int)==0)=true:=by simpa using hx'
             have HX:=Lib.hid hx;clear hx
             go_wp2
             go_round
             case rel=>exact⟨k-1,by omega,by go_num,fun i hi=>if h:i=k-1 then by rw [h];exact HX.out else hz.out i (by omega)⟩
             case measure=>simp [intOf];omega
           · have hx':(((xs.getD (k-1) 0:Nat):Int)==0)=false:=by rw [beq_eq_false_iff_ne];omega
             have hx'':(((xs[k-1]?.getD 0:Nat):Int)==0)=false:=by simpa using hx'
             have HX:=Lib.hid hx;clear hx
             go_wp2
             go_ret
             exact⟨⟨_,k,rfl,HK.out k hk hz.out (Or.inr HX.out),Or.inr ⟨hk0,rfl⟩⟩,rfl⟩)
      · go_wp2
        go_ret
        exact⟨⟨none,0,rfl,HK.out 0 (by omega) (fun i hi=>hz.out i (by omega)) (Or.inl rfl),Or.inl ⟨rfl,rfl⟩⟩,rfl⟩
theorem cut_row (a:Option Addr)(n c:Nat)(xs:List Nat)(w:World)(hr:Row w a n c xs)(hn:n≤1000000000) :
    Calls Tryz.prog 140 #[.slice a n c] w fun e w'=>∃ a' m,e=.returned (.slice a' m m)∧m=tl xs∧m≤n∧Row w a' m m (xs.take m)∧((m=0∧a'=none)∨(0<m∧a'=a))∧w=w':=by
  refine(cut_any a n c xs w hr hn).mono ?_
  rintro e w' ⟨⟨a',m,rfl,hm,ha⟩,rfl⟩
  have h1:m≤n:=by have:=tl_le xs;have:=hr.1;omega
  refine⟨a',m,rfl,hm,h1, ?_,ha,rfl⟩
  rcases ha with ⟨h0,rfl⟩ | ⟨h0,rfl⟩
  · subst h0;simpa using row_nil w
  · exact row_take hr m m h1 (Nat.le_refl _) (by have:=hr.2.1;omega)
theorem cut_num (a:Option Addr)(n c:Nat)(xs:List Nat)(w:World)(hr:Row w a n c xs)(hn:n≤1000000000) :
    Calls Tryz.prog 140 #[.slice a n c] w fun e w'=>∃ a' m,e=.returned (.slice a' m m)∧m=(limbs (val xs)).length∧m≤n∧Row w a' m m (limbs (val xs))∧((m=0∧a'=none)∨(0<m∧a'=a))∧w=w':=by
  have hs:=hr.2.2.2.2.1
  refine(cut_row a n c xs w hr hn).mono ?_
  rintro e w' ⟨a',m,rfl,hm,hmn,hrow,hor,rfl⟩
  refine⟨a',m,rfl,by rw [hm,tl_eq xs hs],hmn, ?_,hor,rfl⟩
  rw [hm,limbs_take xs hs] at hrow
  rw [hm]
  exact hrow
end Go.Proofs.YtpnlbjnbgemocaaGreat
/- What a block of 32-bit numbers that the call made itself holds; the laws for make and copy on it. No condition. -/
namespace Go.Proofs.YtpnlbjnbgemocaaGreat
set_option linter.unusedVariables false
set_option linter.unusedSimpArgs false
set_option maxRecDepth 100000
open Go.RowKit Nums
def u32 (x:Nat):Value:=.int .u32 (x:Nat)
def Mem (w:World)(g:Nat)(cs:List Nat):Prop:=w.heap[g]?=some (.cells (cs.map u32).toArray 120 (0,0))
theorem Mem.lt {w:World}{g:Nat}{cs:List Nat}(h:Mem w g cs):g<w.heap.size:=(Array.getElem?_eq_some_iff.1 h).1
theorem Mem.cell {w:World}{g:Nat}{cs:List Nat}(h:Mem w g cs)(i:Nat)(hi:i<cs.length):w.cell? ⟨g,i,none⟩=some (.int .u32 (cs.getD i 0:Nat)):=by
  rw [cell_of_row w g i _ 120 (0,0) h]
  simp [hi,u32]
theorem Mem.free {w:World}{g:Nat}{cs:List Nat}(h:Mem w g cs)(i:Nat):w.frozen? ⟨g,i,none⟩=false:=frozen_of_row w g i _ 120 h
theorem Mem.set {w:World}{g:Nat}{cs:List Nat}(h:Mem w g cs)(i u:Nat):Mem (w.setCell ⟨g,i,none⟩ (.int .u32 (u:Nat))) g (cs.set i u):=by
  have:=heap_setCell_same w g i _ 120 (.int .u32 (u:Nat)) h
  unfold Mem
  rw [this]
  congr 2
  rw [List.setIfInBounds_toArray,List.map_set]
  rfl
theorem Mem.setI {w:World}{g:Nat}{cs:List Nat}(h:Mem w g cs)(i:Nat)(z:Int)(u:Nat)(hz:z=(u:Int)):Mem (w.setCell ⟨g,i,none⟩ (.int .u32 z)) g (cs.set i u):=by
  subst hz;exact h.set i u
theorem Mem.keep {w w':World}{g:Nat}{cs:List Nat}(h:Mem w g cs)(e:w'.heap[g]?=w.heap[g]?):Mem w' g cs:=by unfold Mem;rw [e];exact h
theorem Mem.below {B:Nat}{w w':World}{g:Nat}{cs:List Nat}(h:Mem w g cs)(hb:Below B w w')(hg:g<B):Mem w' g cs:=h.keep (hb.block g hg)
theorem Mem.row {w:World}{g:Nat}{cs:List Nat}(h:Mem w g cs)(hs:Small cs)(off k c:Nat)(hk:off+k≤cs.length)(hkc:k≤c)(hc:c≤maxLen):Row w (some ⟨g,off,none⟩) k c ((cs.drop off).take k):=by
  refine⟨by simp;omega,hkc,hc,by simp,small_take (fun x hx=>hs x (List.mem_of_mem_drop hx)) k,g,off,Or.inl rfl,fun i hi=>⟨h.lt, ?_⟩⟩
  rw [h.cell (off+i) (by omega)]
  congr 3
  simp [List.getElem?_take,hi]
theorem Mem.row0 {w:World}{g:Nat}{cs:List Nat}(h:Mem w g cs)(hs:Small cs)(c:Nat)(hkc:cs.length≤c)(hc:c≤maxLen):Row w (some ⟨g,0,none⟩) cs.length c cs:=by
  have:=h.row hs 0 cs.length c (by omega) hkc hc
  simpa using this
theorem Tryz.info120:(Tryz.prog.info? 120).map (fun i=>(i.zero,i.size,i.bytes))=some (some (.int .u32 0),1,4):=by kernel_rfl
theorem make32 {w:World}{ops:Array Oper}{rest:List Oper}{o:Oper}{a:Act}{Q:Exit→Act→World→Prop}
    (hg:o.guard=none) (l:Operand) (hop:o.op=Op.makeSlice 42 l l) (L:Int) (n:Nat) (hl:a.eval l=.int .i64 L) (hL:L=(n:Int)) (hn:n≤1000000000000)
    (hK:∀ g w',w.heap.size≤g→Mem w' g (List.replicate n 0)→Below w.heap.size w w'→wpList Tryz.prog ops Q rest (a.put o.dst (.slice (some ⟨g,0,none⟩) n n)) w') :
    wpList Tryz.prog ops Q (o::rest) a w:=by
  refine wpList_plain hg fun K hK'=>?_
  obtain⟨i,hi,hz0,hz1,hz2⟩:=info_parts Tryz.info120
  have hr:=run_make (P:=Tryz.prog) w 42 120 i (.int .u32 0) Tryz.underlying42 hi hz0 .i64 .i64 n n (by omega) (Int.le_refl _) (by rw [hz2];omega) (by omega)
  simp only [Int.toNat_natCast] at hr
  subst hL
  unfold Oper.wp
  simp [execOp,hop,hl,hr,Result.andThen]
  refine hK' _ _ (hK _ _ (Nat.le_refl _) ?_ ((Below.refl _ _).alloc (Nat.le_refl _) _))
  unfold Mem
  rw [heap_alloc_new]
  congr 2
  rw [hz1,Nat.mul_one]
  apply Array.ext'
  show(madeCells #[Value.int .u32 0] n).toList=_
  rw [toList_madeCells_one]
  simp [u32]
theorem copy32 {w:World}{ops:Array Oper}{rest:List Oper}{o:Oper}{a:Act}{Q:Exit→Act→World→Prop}(hgd:o.guard=none)(d s:Operand)
    (ho:o.op=.call { callee:=.builtin .copy,args:=#[d,s],argTypes:=#[42,42] })
    (g:Nat) (sp:Option Addr) (n dCap sCap:Nat) (hd:a.eval d=.slice (some ⟨g,0,none⟩) n dCap) (hs:a.eval s=.slice sp n sCap)
    (cs xs:List Nat) (hg:Mem w g cs) (hn:cs.length=n) (hr:Row w sp n sCap xs)
    (B:Nat) (w0:World) (hb:Below B w0 w) (hBg:B≤g)
    (h:∀ w',Mem w' g xs→Below B w0 w'→wpList Tryz.prog ops Q rest (a.put o.dst (goInt n)) w') :
    wpList Tryz.prog ops Q (o::rest) a w:=by
  obtain⟨h1,h2,h3,h4,h5,b,off,hor,hc⟩:=hr
  have hl:(xs.map u32).length=n:=by simpa using h1
  have := wpList_copy_splice (w0 := w0) (w := w) (ops := ops) (rest := rest) (P := Tryz.prog) (Q := Q) hgd d s 42 42 ho 120 Tryz.underlying42 (by obtain ⟨i, hi, hz0, hz1, hz2⟩ := info_parts Tryz.info120; simp [hi, hz1])
    (some ⟨g,0,none⟩) sp n dCap n sCap hd hs g 0 (cs.map u32) 120 hg (xs.map u32) (by rw [hl];exact(Nat.min_self n).symm)
    (by
      intro hp
      refine⟨rfl, ?_⟩
      rcases hor with rfl | h0
      · refine⟨_,rfl, ?_⟩
        intro j v hj
        have hjn:j<n:=by
          rw [←hl];exact(List.getElem?_eq_some_iff.1 hj).1
        have e:(⟨b,off,none⟩:Addr).add j=⟨b,off+j,none⟩:=by unfold Addr.add;split <;> simp_all
        rw [e,(hc j hjn).2,←hj]
        simp [List.getElem?_eq_getElem (h1.symm▸hjn),u32]
      · omega)
    (by simp;omega) (by intro v hv;simp at hv;obtain⟨x,_,rfl⟩:=hv;rfl) B hb hBg
    (by
      intro w' hm hbel
      rw [hl]
      refine h w' ?_ hbel
      have hm:=hm.out
      unfold Mem
      rw [hm]
      congr 2
      unfold Go.splice
      rw [hl,List.drop_eq_nil_of_le (by simp;omega)]
      simp)
  exact this
set_option maxHeartbeats 400000 in
theorem told_any (a:Option Addr)(n c:Nat)(xs:List Nat)(w:World)(hr:Row w a n c xs)(hn:n≤1000000000) :
    Calls Tryz.prog 170 #[.slice a n c] w fun e w'=>(∃ a' m,e=.returned (.slice a' m m)∧m=tl xs∧m≤n∧Row w' a' m m (xs.take m)∧((m=0∧a'=none)∨(0<m∧∃ g,a'=some ⟨g,0,none⟩∧w.heap.size≤g∧Mem w' g (xs.take m))))∧Below w.heap.size w w':=by
  have hs:=hr.2.2.2.2.1
  have HR:=Lib.hid hr;clear hr
  go_enter Tryz.func170,Tryz.ntmps170
  go_wp2_with fail
  refine(cut_row a n c xs w HR.out hn).mono ?_
  rintro e w' ⟨a',m,rfl,hm,hmn,hrow,hor,rfl⟩
  have HM:=Lib.hid hm;clear hm
  have HROW:=Lib.hid hrow;clear hrow
  have HO:=Lib.hid hor;clear hor
  by_cases hm0:0<m
  · go_wp2_with (at_make;refine make32 rfl _ rfl _ m rfl rfl (by omega) ?_)
    intro g w1 hg hmem hbel
    have HG:=Lib.hid hmem;clear hmem
    go_wp2_with (with_reducible refine copy32 rfl _ _ rfl g a' m m m rfl rfl _ (xs.take m) HG.out (by simp) (row_below (Nat.le_refl _) hbel HROW.out) w.heap.size w hbel hg ?_)
    intro w2 hm2 hb2
    have HG2:=Lib.hid hm2;clear hm2
    go_wp2
    go_ret
    have hl:(xs.take m).length=m:=HROW.out.1
    have hrow2:Row w2 (some ⟨g,0,none⟩) m m (xs.take m):=by
      have:=HG2.out.row0 (small_take hs m) m (by omega) (by have:=HROW.out.2.2.1;exact this)
      rw [hl] at this;exact this
    exact⟨⟨_,m,rfl,HM.out,hmn,hrow2,Or.inr ⟨hm0,g,rfl,hg,HG2.out⟩⟩,hb2⟩
  · have hm1:((m:Int)==0)=true:=by rw [beq_iff_eq];omega
    go_wp2
    go_ret
    obtain rfl:m=0:=by omega
    exact⟨⟨none,0,rfl,HM.out,Nat.zero_le _,by simpa using row_nil w,Or.inl ⟨rfl,rfl⟩⟩,Below.refl _ _⟩
end Go.Proofs.YtpnlbjnbgemocaaGreat
/- What Cmp, Trim, Same and Bits tell, of any two rows. No condition but that rows have at most 10^9 numbers. -/
namespace Go.Proofs.YtpnlbjnbgemocaaGreat
set_option linter.unusedVariables false
set_option linter.unusedSimpArgs false
set_option maxRecDepth 100000
open Go.RowKit Nums
def CmpPost (X Y:Nat)(w:World)(e:Ending)(w':World):Prop:=e=.returned (.int .i64 (cmpv X Y))∧Below w.heap.size w w'
theorem CmpPost.lt {X Y:Nat}{w w':World}(h:X<Y)(hb:Below w.heap.size w w'):CmpPost X Y w (.returned (.int .i64 (-1))) w':=⟨by simp [cmpv,h],hb⟩
theorem CmpPost.gt {X Y:Nat}{w w':World}(h:Y<X)(hb:Below w.heap.size w w'):CmpPost X Y w (.returned (.int .i64 1)) w':=⟨by rw [cmpv,if_neg (by omega),if_pos h],hb⟩
theorem CmpPost.eq {X Y:Nat}{w w':World}(h:X=Y)(hb:Below w.heap.size w w'):CmpPost X Y w (.returned (.int .i64 0)) w':=⟨by subst h;simp [cmpv],hb⟩
def Agree (X Y:Nat)(k:Nat):Prop:=∀ j,k≤j→(limbs X).getD j 0=(limbs Y).getD j 0
theorem agree_eq {X Y:Nat}(hl:(limbs X).length=(limbs Y).length)(h:Agree X Y 0):X=Y:=by
  apply limbs_inj
  apply List.ext_getElem hl
  intro i hi hi'
  have:=h i (Nat.zero_le _)
  simpa [hi,hi'] using this
theorem agree_lt {X Y k:Nat}(hl:(limbs X).length=(limbs Y).length)(h:Agree X Y (k+1))(hk:(limbs X).getD k 0<(limbs Y).getD k 0):X<Y:=by
  have:=lt_at (limbs X) (limbs Y) hl (small_limbs X) (small_limbs Y) k (fun j hj=>h j hj) hk
  rwa [val_limbs,val_limbs] at this
theorem Agree.symm {X Y k:Nat}(h:Agree X Y k):Agree Y X k:=fun j hj=>(h j hj).symm
theorem agree_step {X Y k:Nat}(hk:0<k)(h:Agree X Y k)(h':(limbs X).getD (k-1) 0=(limbs Y).getD (k-1) 0):Agree X Y (k-1):=fun j hj=>by
  by_cases e:j=k-1
  · rw [e];exact h'
  · exact h j (by omega)
set_option maxHeartbeats 1000000 in
theorem cmp_any (a0 a1 : Option Addr) (n0 c0 n1 c1 : Nat) (xs ys : List Nat) (w : World) (h0 : Row w a0 n0 c0 xs) (h1 : Row w a1 n1 c1 ys) (hn0 : n0 ≤ 1000000000) (hn1 : n1 ≤ 1000000000) :
    Calls Tryz.prog 136 #[.slice a0 n0 c0,.slice a1 n1 c1] w (CmpPost (val xs) (val ys) w):=by
  have H0:=Lib.hid h0;clear h0
  have H1:=Lib.hid h1;clear h1
  go_enter Tryz.func136,Tryz.ntmps136
  go_wp2_with fail
  refine(cut_num a0 n0 c0 xs w H0.out hn0).mono ?_
  rintro e w' ⟨a0',m0,rfl,hm0,hmn0,hrow0,-,rfl⟩
  have HM0:=Lib.hid hm0;clear hm0
  have HR0:=Lib.hid hrow0;clear hrow0
  go_wp2_with fail
  refine(cut_num a1 n1 c1 ys w H1.out hn1).mono ?_
  rintro e w' ⟨a1',m1,rfl,hm1,hmn1,hrow1,-,rfl⟩
  have HM1:=Lib.hid hm1;clear hm1
  have HR1:=Lib.hid hrow1;clear hrow1
  by_cases hlt:m0<m1
  · go_wp2
    go_ret
    exact CmpPost.lt (lt_of_len (by rw [←HM0.out,←HM1.out];exact hlt)) (Below.refl _ _)
  · by_cases hgt : m1 < m0
    · go_wp2
      go_ret
      exact CmpPost.gt (lt_of_len (by rw [←HM0.out,←HM1.out];exact hgt)) (Below.refl _ _)
    · obtain rfl : m1 = m0 := by omega
      have HL:Hid ((limbs (val xs)).length=(limbs (val ys)).length):=(HM0.out.symm.trans HM1.out)
      have HA:Hid (Agree (val xs) (val ys) m1):=fun j hj=>by
        rw [getD_ge _ _ (by rw [←HM0.out];exact hj),getD_ge _ _ (by rw [←HM1.out];exact hj)]
      obtain⟨X,hX⟩:∃ X,X=val xs:=⟨_,rfl⟩
      obtain⟨Y,hY⟩:∃ Y,Y=val ys:=⟨_,rfl⟩
      rw [←hX] at HR0 HL HA
      rw [←hY] at HR1 HL HA
      have HX:=Lib.hid hX;clear hX
      have HY:=Lib.hid hY;clear hY
      by_cases hm:0<m1
      · obtain ⟨-, -, -, -, -, b0, o0, hor0, hc0⟩ := HR0.out
        obtain⟨-,-,-,-,-,b1,o1,hor1,hc1⟩:=HR1.out
        have HC0:=Lib.hid hc0;clear hc0
        have HC1:=Lib.hid hc1;clear hc1
        rcases hor0 with rfl | hor0
        · rcases hor1 with rfl | hor1
          · go_wp2
            go_loopw [5] (fun t wr=>∃ k:Nat,k≤m1∧t=.int .i64 ((k:Int)-1)∧Hid (Agree X Y k)∧Below w.heap.size w wr) (fun t _=>(intOf t+1).toNat)
            case atStart=>exact⟨m1,Nat.le_refl _,rfl,HA,Below.refl _ _⟩
            case round=>
              obtain⟨k,hk,rfl,hag,hbel⟩:=hrel
              by_cases hk0:0<k
              · have hs0:=HC0.out (k-1) (by omega)
                have hs1:=HC1.out (k-1) (by omega)
                have hcell0:wr.cell? ⟨b0,o0+(k-1),none⟩=some (.int .u32 ((limbs X).getD (k-1) 0:Nat)):=by rw [hbel.cell (p:=⟨b0,o0+(k-1),none⟩) hs0.1];exact hs0.2
                have hcell1:wr.cell? ⟨b1,o1+(k-1),none⟩=some (.int .u32 ((limbs Y).getD (k-1) 0:Nat)):=by rw [hbel.cell (p:=⟨b1,o1+(k-1),none⟩) hs1.1];exact hs1.2
                clear hs0 hs1
                have hi0:(0:Int)≤(k:Int)-1:=by omega
                have hi1:(k:Int)-1<(m1:Int):=by omega
                have e:((k:Int)-1).toNat=k-1:=by omega
                obtain⟨x,hx⟩:∃ x,x=(limbs X).getD (k-1) 0:=⟨_,rfl⟩
                obtain⟨y,hy⟩:∃ y,y=(limbs Y).getD (k-1) 0:=⟨_,rfl⟩
                rw [←hx] at hcell0
                rw [←hy] at hcell1
                have HXx:=Lib.hid hx;clear hx
                have HYy:=Lib.hid hy;clear hy
                by_cases hxy:x<y
                · go_wp2
                  go_quiet (fail)
                  go_wp2
                  go_ret
                  exact CmpPost.lt (by rw [←HX.out,←HY.out];exact agree_lt (k:=k-1) HL.out (by rw [show k-1+1=k by omega];exact hag.out) (by rw [←HXx.out,←HYy.out];exact hxy)) (below_drewN hbel _)
                · by_cases hyx:y<x
                  · go_wp2
                    go_quiet (fail)
                    go_wp2
                    go_quiet (fail)
                    go_wp2
                    go_ret
                    exact CmpPost.gt (by rw [←HX.out,←HY.out];exact agree_lt (k:=k-1) HL.out.symm (by rw [show k-1+1=k by omega];exact hag.out.symm) (by rw [←HXx.out,←HYy.out];exact hyx)) (below_drewN (below_drewN hbel _) _)
                  · go_wp2
                    go_quiet (fail)
                    go_wp2
                    go_quiet (fail)
                    go_wp2
                    go_roundw
                    case rel=>exact⟨k-1,by omega,by go_num,agree_step (by omega) hag.out (by rw [←HXx.out,←HYy.out];omega),below_drewN hbel _⟩
                    case measure=>simp [intOf];omega
              · go_wp2
                go_ret
                obtain rfl:k=0:=by omega
                exact CmpPost.eq (by rw [←HX.out,←HY.out];exact agree_eq HL.out hag.out) hbel
          · exfalso;omega
        · exfalso;omega
      · go_wp2
        go_loopw [5] (fun t wr=>t=.int .i64 (-1)∧Hid (Agree X Y 0)∧Below w.heap.size w wr) (fun t _=>0)
        case atStart => exact ⟨by go_num, (by have : m1 = 0 := by omega
                                              rw [←this];exact HA),Below.refl _ _⟩
        case round=>
          obtain⟨rfl,hag,hbel⟩:=hrel
          go_wp2
          go_ret
          exact CmpPost.eq (by rw [←HX.out,←HY.out];exact agree_eq HL.out hag.out) hbel
theorem cmp_lt (a0 a1:Option Addr)(n0 c0 n1 c1:Nat)(xs ys:List Nat)(w:World)(h0:Row w a0 n0 c0 xs)(h1:Row w a1 n1 c1 ys)(hn0:n0≤1000000000)(hn1:n1≤1000000000)(h:val xs<val ys) :
    Calls Tryz.prog 136 #[.slice a0 n0 c0,.slice a1 n1 c1] w fun e w'=>e=.returned (.int .i64 (-1))∧Below w.heap.size w w':=
  (cmp_any a0 a1 n0 c0 n1 c1 xs ys w h0 h1 hn0 hn1).mono fun e w' ⟨h1,h2⟩=>⟨by rw [h1,cmpv,if_pos h],h2⟩
theorem cmp_ge (a0 a1:Option Addr)(n0 c0 n1 c1:Nat)(xs ys:List Nat)(w:World)(h0:Row w a0 n0 c0 xs)(h1:Row w a1 n1 c1 ys)(hn0:n0≤1000000000)(hn1:n1≤1000000000)(h:val ys≤val xs) :
    Calls Tryz.prog 136 #[.slice a0 n0 c0,.slice a1 n1 c1] w fun e w'=>(∃ r:Int,e=.returned (.int .i64 r)∧0≤r)∧Below w.heap.size w w':=
  (cmp_any a0 a1 n0 c0 n1 c1 xs ys w h0 h1 hn0 hn1).mono fun e w' ⟨h1,h2⟩=>⟨⟨_,h1,by rw [cmpv,if_neg (by omega)];split <;> omega⟩,h2⟩
set_option maxHeartbeats 1000000 in
theorem same_any (a0 a1:Option Addr)(n0 c0 n1 c1:Nat)(xs:List Nat)(w:World)(h0:Row w a0 n0 c0 xs)(h1:Row w a1 n1 c1 xs)(hn0:n0≤1000000000) :
    Calls Tryz.prog 123 #[.slice a0 n0 c0,.slice a1 n1 c1] w fun e w'=>e=.returned (.bool true)∧Below w.heap.size w w':=by
  obtain rfl:n1=n0:=h1.1.symm.trans h0.1
  obtain⟨-,-,-,-,-,b0,o0,hor0,hc0⟩:=h0
  obtain⟨-,-,-,-,-,b1,o1,hor1,hc1⟩:=h1
  have HC0:=Lib.hid hc0;clear hc0
  have HC1:=Lib.hid hc1;clear hc1
  by_cases hm:0<n1
  · rcases hor0 with rfl | hor0
    · rcases hor1 with rfl | hor1
      · go_enter Tryz.func123,Tryz.ntmps123
        go_wp2
        go_loopw [5] (fun t wr=>∃ k:Nat,k≤n1∧t=.int .i64 (k:Int)∧Below w.heap.size w wr) (fun t _=>n1-(intOf t).toNat)
        case atStart=>exact⟨0,Nat.zero_le _,rfl,Below.refl _ _⟩
        case round=>
          obtain⟨k,hk,rfl,hbel⟩:=hrel
          by_cases hk0:k<n1
          · have hs0:=HC0.out k hk0
            have hs1:=HC1.out k hk0
            have hcell0:wr.cell? ⟨b0,o0+k,none⟩=some (.int .u32 (xs.getD k 0:Nat)):=by rw [hbel.cell (p:=⟨b0,o0+k,none⟩) hs0.1];exact hs0.2
            have hcell1:wr.cell? ⟨b1,o1+k,none⟩=some (.int .u32 (xs.getD k 0:Nat)):=by rw [hbel.cell (p:=⟨b1,o1+k,none⟩) hs1.1];exact hs1.2
            clear hs0 hs1
            obtain⟨x,hx⟩:∃ x,x=xs.getD k 0:=⟨_,rfl⟩
            rw [←hx] at hcell0 hcell1
            clear hx
            have hi0:(0:Int)≤(k:Int):=by omega
            have hi1:(k:Int)<(n1:Int):=by omega
            go_wp2
            go_quiet (fail)
            go_wp2
            go_roundw
            case rel=>exact⟨k+1,by omega,by go_num,below_drewN hbel _⟩
            case measure=>simp [intOf];omega
          · go_wp2
            go_ret
            exact⟨rfl,hbel⟩
      · exfalso;omega
    · exfalso;omega
  · go_enter Tryz.func123,Tryz.ntmps123
    go_wp2
    go_loopw [5] (fun t wr=>t=.int .i64 0∧Below w.heap.size w wr) (fun t _=>0)
    case atStart=>exact⟨rfl,Below.refl _ _⟩
    case round=>
      obtain⟨rfl,hbel⟩:=hrel
      go_wp2
      go_ret
      exact⟨rfl,hbel⟩
theorem trim_any (a:Option Addr)(n c:Nat)(xs:List Nat)(w:World)(hr:Row w a n c xs)(hn:n≤1000000000) :
    Calls Tryz.prog 176 #[.slice a n c] w fun e w'=>∃ a' m,e=.returned (.slice a' m m)∧m=(limbs (val xs)).length∧m≤n∧Row w' a' m m (limbs (val xs))∧Below w.heap.size w w':=by
  have HS:=Lib.hid hr.2.2.2.2.1
  have HR:=Lib.hid hr;clear hr
  go_enter Tryz.func176,Tryz.ntmps176
  go_wp2_with fail
  refine(told_any a n c xs w HR.out hn).mono ?_
  rintro e w' ⟨⟨a',m,rfl,hm,hmn,hrow,hor⟩,hb⟩
  have HM:=Lib.hid hm;clear hm
  have HROW:=Lib.hid hrow;clear hrow
  have HO:=Lib.hid hor;clear hor
  have HB:=Lib.hid hb;clear hb
  go_wp2
  go_ret
  refine⟨a',m,rfl,by rw [HM.out,tl_eq xs HS.out],hmn, ?_,HB.out⟩
  have h:=HROW.out
  have e:xs.take m=limbs (val xs):=by rw [HM.out];exact limbs_take xs HS.out
  rw [e] at h
  exact h
end Go.Proofs.YtpnlbjnbgemocaaGreat
/- What Add tells, of any two rows: the sum. Condition: rows of at most 10^9 numbers. -/
namespace Go.Proofs.YtpnlbjnbgemocaaGreat
set_option linter.unusedVariables false
set_option linter.unusedSimpArgs false
set_option maxRecDepth 100000
open Go.RowKit Nums
def Num (N:Nat)(w:World)(e:Ending)(w':World):Prop:=
  ∃ a' m,e=.returned (.slice a' m m)∧m=(limbs N).length∧Row w' a' m m (limbs N)∧Below w.heap.size w w'
theorem num_of_cut {N:Nat}{w0 w:World}{zs:List Nat}{g n:Nat}(hm:Mem w g zs)(hs:Small zs)(hl:zs.length=n)(hn:n≤1000000000)(hv:val zs=N)(hb:Below w0.heap.size w0 w) :
    Calls Tryz.prog 140 #[.slice (some ⟨g,0,none⟩) n n] w (Num N w0):=by
  subst hl
  refine(cut_num _ _ _ zs w (hm.row0 hs zs.length (Nat.le_refl _) (by unfold maxLen;omega)) hn).mono ?_
  rintro e w' ⟨a',m,rfl,hm,hmn,hrow,-,rfl⟩
  rw [hv] at hm hrow
  exact⟨a',m,rfl,hm,hrow,hb⟩
set_option maxHeartbeats 1000000 in
theorem add_any (a0 a1:Option Addr)(n0 c0 n1 c1:Nat)(xs ys:List Nat)(w:World)(h0:Row w a0 n0 c0 xs)(h1:Row w a1 n1 c1 ys)(hn0:n0≤100000000)(hn1:n1≤100000000) :
    Calls Tryz.prog 138 #[.slice a0 n0 c0,.slice a1 n1 c1] w (Num (val xs+val ys) w):=by
  have H0:=Lib.hid h0;clear h0
  have H1:=Lib.hid h1;clear h1
  go_enter Tryz.func138,Tryz.ntmps138
  go_wp2_with fail
  refine(cut_num a0 n0 c0 xs w H0.out (by omega)).mono ?_
  rintro e w' ⟨a0',m0,rfl,hm0,hmn0,hrow0,-,rfl⟩
  have HM0:=Lib.hid hm0;clear hm0
  have HR0:=Lib.hid hrow0;clear hrow0
  go_wp2_with fail
  refine(cut_num a1 n1 c1 ys w H1.out (by omega)).mono ?_
  rintro e w' ⟨a1',m1,rfl,hm1,hmn1,hrow1,-,rfl⟩
  have HM1:=Lib.hid hm1;clear hm1
  have HR1:=Lib.hid hrow1;clear hrow1
  obtain⟨X,hX⟩:∃ X,X=val xs:=⟨_,rfl⟩
  obtain⟨Y,hY⟩:∃ Y,Y=val ys:=⟨_,rfl⟩
  rw [←hX] at HR0 HM0
  rw [←hY] at HR1 HM1
  have HS:Hid (X+Y=val xs+val ys):=by rw [hX,hY];exact rfl
  clear hX hY H0 H1
  by_cases hlt:m0<m1
  · obtain ⟨p, rfl⟩ : ∃ p, p = a1' := ⟨_, rfl⟩
    obtain⟨q,rfl⟩:∃ q,q=a0':=⟨_,rfl⟩
    obtain⟨mp,rfl⟩:∃ mp,mp=m1:=⟨_,rfl⟩
    obtain⟨mq,rfl⟩:∃ mq,mq=m0:=⟨_,rfl⟩
    obtain⟨P,rfl⟩:∃ P,P=Y:=⟨_,rfl⟩
    obtain⟨Q,rfl⟩:∃ Q,Q=X:=⟨_,rfl⟩
    have hle:mq≤mp:=by omega
    have hS:P+Q=val xs+val ys:=by rw [←HS.out];omega
    have HS':=Lib.hid hS;clear hS
    go_wp2_with (at_make;refine make32 rfl _ rfl _ (mp+1) rfl (by omega) (by omega) ?_)
    intro g w1 hg hmem hbel
    have HG:=Lib.hid hmem;clear hmem
    obtain⟨-,-,-,-,-,b0,o0,hor0,hc0⟩:=HR1.out
    obtain⟨-,-,-,-,-,b1,o1,hor1,hc1⟩:=HR0.out
    have HC0:=Lib.hid hc0;clear hc0
    have HC1:=Lib.hid hc1;clear hc1
    have HL0:Hid (mp=(limbs P).length):=HM1
    have HL1:Hid (mq=(limbs Q).length):=HM0
    rcases(show _∨Hid _ from hor0) with rfl | hor0 <;> rcases(show _∨Hid _ from hor1) with rfl | hor1
    all_goals
      go_wp2
      go_loopw [6,25] (fun cv t wr=>∃(k c:Nat) (zs:List Nat),k≤mp∧t=.int .i64 (k:Int)∧cv=.int .u64 (c:Int)∧c≤1∧Hid (zs.length=mp+1∧Small zs∧Mem wr g zs∧SumAt P Q zs k c)∧Below w.heap.size w wr) (fun _ t _=>mp-(intOf t).toNat)
      case atStart=>exact⟨0,0,List.replicate (mp+1) 0,Nat.zero_le _,rfl,rfl,by omega,⟨by simp,by intro x hx;simp at hx;omega,HG.out,by simp [SumAt,val]⟩,hbel⟩
      case round =>
        obtain⟨k,c,zs,hk,rfl,rfl,hc1,HZ,hbr⟩:=hrel
        by_cases hk0:k<mp
        · first
          | (exfalso;have:=hor0.out;omega)
          | (have hcell0:=cells_at HC0.out hbr k hk0
             have hx:=getD_lt (limbs P) (small_limbs P) k
             obtain⟨x,hxe⟩:∃ x,x=(limbs P).getD k 0:=⟨_,rfl⟩
             rw [←hxe] at hcell0 hx
             have HXE:=Lib.hid hxe;clear hxe
             have hz:=HZ.out.2.2.1.cell k (by rw [HZ.out.1];omega)
             have hzf:=HZ.out.2.2.1.free k
             by_cases hk1:k<mq
             · first
               | (exfalso;have:=hor1.out;omega)
               | (have hcell1:=cells_at HC1.out hbr k hk1
                  have hy:=getD_lt (limbs Q) (small_limbs Q) k
                  obtain⟨y,hye⟩:∃ y,y=(limbs Q).getD k 0:=⟨_,rfl⟩
                  rw [←hye] at hcell1 hy
                  have HYE:=Lib.hid hye;clear hye
                  go_wp2
                  go_roundw
                  case rel=>exact⟨k+1,(c+x+y) / 4294967296,zs.set k ((c+x+y) % 4294967296),by omega,by go_num,by go_num,by omega,⟨by simp [HZ.out.1],small_set HZ.out.2.1 _ _ (by omega),HZ.out.2.2.1.setI k _ _ (by omega),HZ.out.2.2.2.step (by rw [HZ.out.1];omega) HXE.out HYE.out (by omega)⟩,hbr.setCell (by exact hg) _⟩
                  case measure=>simp [intOf];omega)
             · go_wp2
               go_roundw
               case rel=>exact⟨k+1,(c+x) / 4294967296,zs.set k ((c+x) % 4294967296),by omega,by go_num,by go_num,by omega,⟨by simp [HZ.out.1],small_set HZ.out.2.1 _ _ (by omega),HZ.out.2.2.1.setI k _ _ (by omega),HZ.out.2.2.2.step (y:=0) (by rw [HZ.out.1];omega) HXE.out (by rw [getD_ge _ _ (by rw [←HL1.out];omega)]) (by omega)⟩,hbr.setCell (by exact hg) _⟩
               case measure=>simp [intOf];omega)
        · obtain rfl:mp=k:=by omega
          have hz:=HZ.out.2.2.1.cell mp (by rw [HZ.out.1];omega)
          have hzf:=HZ.out.2.2.1.free mp
          have hcc:((c:Int) % 4294967296)=(c:Int):=by omega
          go_wp2_with fail
          refine(num_of_cut (N:=P+Q) (w0:=w) (n:=mp+1) (HZ.out.2.2.1.setI mp _ c (by omega)) (small_set HZ.out.2.1 _ _ (by omega)) (by simp [HZ.out.1]) (by omega) (HZ.out.2.2.2.done HZ.out.1 (by rw [←HL0.out];omega) (by rw [←HL1.out];omega)) (hbr.setCell (by exact hg) _)).mono ?_
          rintro e w' ⟨a',m,rfl,hm,hrow,hb⟩
          have HM:=Lib.hid hm;clear hm
          have HROW:=Lib.hid hrow;clear hrow
          have HB:=Lib.hid hb;clear hb
          go_wp2
          go_ret
          rw [←HS'.out]
          exact⟨a',m,rfl,HM.out,HROW.out,HB.out⟩
  · obtain ⟨p, rfl⟩ : ∃ p, p = a0' := ⟨_, rfl⟩
    obtain⟨q,rfl⟩:∃ q,q=a1':=⟨_,rfl⟩
    obtain⟨mp,rfl⟩:∃ mp,mp=m0:=⟨_,rfl⟩
    obtain⟨mq,rfl⟩:∃ mq,mq=m1:=⟨_,rfl⟩
    obtain⟨P,rfl⟩:∃ P,P=X:=⟨_,rfl⟩
    obtain⟨Q,rfl⟩:∃ Q,Q=Y:=⟨_,rfl⟩
    have hle:mq≤mp:=by omega
    have HS':=Lib.hid HS.out
    go_wp2_with (at_make;refine make32 rfl _ rfl _ (mp+1) rfl (by omega) (by omega) ?_)
    intro g w1 hg hmem hbel
    have HG:=Lib.hid hmem;clear hmem
    obtain⟨-,-,-,-,-,b0,o0,hor0,hc0⟩:=HR0.out
    obtain⟨-,-,-,-,-,b1,o1,hor1,hc1⟩:=HR1.out
    have HC0:=Lib.hid hc0;clear hc0
    have HC1:=Lib.hid hc1;clear hc1
    have HL0:Hid (mp=(limbs P).length):=HM0
    have HL1:Hid (mq=(limbs Q).length):=HM1
    rcases(show _∨Hid _ from hor0) with rfl | hor0 <;> rcases(show _∨Hid _ from hor1) with rfl | hor1
    all_goals
      go_wp2
      go_loopw [6,25] (fun cv t wr=>∃(k c:Nat) (zs:List Nat),k≤mp∧t=.int .i64 (k:Int)∧cv=.int .u64 (c:Int)∧c≤1∧Hid (zs.length=mp+1∧Small zs∧Mem wr g zs∧SumAt P Q zs k c)∧Below w.heap.size w wr) (fun _ t _=>mp-(intOf t).toNat)
      case atStart=>exact⟨0,0,List.replicate (mp+1) 0,Nat.zero_le _,rfl,rfl,by omega,⟨by simp,by intro x hx;simp at hx;omega,HG.out,by simp [SumAt,val]⟩,hbel⟩
      case round =>
        obtain⟨k,c,zs,hk,rfl,rfl,hc1,HZ,hbr⟩:=hrel
        by_cases hk0:k<mp
        · first
          | (exfalso;have:=hor0.out;omega)
          | (have hcell0:=cells_at HC0.out hbr k hk0
             have hx:=getD_lt (limbs P) (small_limbs P) k
             obtain⟨x,hxe⟩:∃ x,x=(limbs P).getD k 0:=⟨_,rfl⟩
             rw [←hxe] at hcell0 hx
             have HXE:=Lib.hid hxe;clear hxe
             have hz:=HZ.out.2.2.1.cell k (by rw [HZ.out.1];omega)
             have hzf:=HZ.out.2.2.1.free k
             by_cases hk1:k<mq
             · first
               | (exfalso;have:=hor1.out;omega)
               | (have hcell1:=cells_at HC1.out hbr k hk1
                  have hy:=getD_lt (limbs Q) (small_limbs Q) k
                  obtain⟨y,hye⟩:∃ y,y=(limbs Q).getD k 0:=⟨_,rfl⟩
                  rw [←hye] at hcell1 hy
                  have HYE:=Lib.hid hye;clear hye
                  go_wp2
                  go_roundw
                  case rel=>exact⟨k+1,(c+x+y) / 4294967296,zs.set k ((c+x+y) % 4294967296),by omega,by go_num,by go_num,by omega,⟨by simp [HZ.out.1],small_set HZ.out.2.1 _ _ (by omega),HZ.out.2.2.1.setI k _ _ (by omega),HZ.out.2.2.2.step (by rw [HZ.out.1];omega) HXE.out HYE.out (by omega)⟩,hbr.setCell (by exact hg) _⟩
                  case measure=>simp [intOf];omega)
             · go_wp2
               go_roundw
               case rel=>exact⟨k+1,(c+x) / 4294967296,zs.set k ((c+x) % 4294967296),by omega,by go_num,by go_num,by omega,⟨by simp [HZ.out.1],small_set HZ.out.2.1 _ _ (by omega),HZ.out.2.2.1.setI k _ _ (by omega),HZ.out.2.2.2.step (y:=0) (by rw [HZ.out.1];omega) HXE.out (by rw [getD_ge _ _ (by rw [←HL1.out];omega)]) (by omega)⟩,hbr.setCell (by exact hg) _⟩
               case measure=>simp [intOf];omega)
        · obtain rfl:mp=k:=by omega
          have hz:=HZ.out.2.2.1.cell mp (by rw [HZ.out.1];omega)
          have hzf:=HZ.out.2.2.1.free mp
          have hcc:((c:Int) % 4294967296)=(c:Int):=by omega
          go_wp2_with fail
          refine(num_of_cut (N:=P+Q) (w0:=w) (n:=mp+1) (HZ.out.2.2.1.setI mp _ c (by omega)) (small_set HZ.out.2.1 _ _ (by omega)) (by simp [HZ.out.1]) (by omega) (HZ.out.2.2.2.done HZ.out.1 (by rw [←HL0.out];omega) (by rw [←HL1.out];omega)) (hbr.setCell (by exact hg) _)).mono ?_
          rintro e w' ⟨a',m,rfl,hm,hrow,hb⟩
          have HM:=Lib.hid hm;clear hm
          have HROW:=Lib.hid hrow;clear hrow
          have HB:=Lib.hid hb;clear hb
          go_wp2
          go_ret
          rw [←HS'.out]
          exact⟨a',m,rfl,HM.out,HROW.out,HB.out⟩
end Go.Proofs.YtpnlbjnbgemocaaGreat
/- What bits.Add32 and bits.Sub32 tell, of any two numbers below 2^32 and a carry of 0 or 1. -/
namespace Go.Proofs.YtpnlbjnbgemocaaGreat
set_option linter.unusedVariables false
set_option linter.unusedSimpArgs false
set_option maxRecDepth 100000
open Go.RowKit Nums
theorem top_bit (x:Nat)(h:x<4294967296):x.testBit 31=decide (2147483648≤x):=by
  rw [Nat.testBit_eq_decide_div_mod_eq,decide_eq_decide];omega
theorem borrow_nat (x y b d:Nat)(hx:x<4294967296)(hy:y<4294967296)(hb:b≤1)(hd:d<4294967296)(h:(y+b≤x∧d+y+b=x)∨(x<y+b∧d+y+b=x+4294967296)) :
    (((4294967295 ^^^ x) &&& y) ||| ((4294967295 ^^^ (x ^^^ y)) &&& d)) / 2147483648=if x<y+b then 1 else 0:=by
  have b1:((4294967295 ^^^ x) &&& y)<2 ^ 32:=Nat.and_lt_two_pow _ (by omega)
  have b2:((4294967295 ^^^ (x ^^^ y)) &&& d)<2 ^ 32:=Nat.and_lt_two_pow _ (by omega)
  have b3:=Nat.or_lt_two_pow b1 b2
  have ht:(((4294967295 ^^^ x) &&& y) ||| ((4294967295 ^^^ (x ^^^ y)) &&& d)).testBit 31=decide (x<y+b):=by
    rw [Nat.testBit_or,Nat.testBit_and,Nat.testBit_and,Nat.testBit_xor,Nat.testBit_xor,Nat.testBit_xor,top_bit x hx,top_bit y hy,top_bit d hd,show Nat.testBit 4294967295 31=true from by decide]
    by_cases h1:2147483648≤x <;> by_cases h2:2147483648≤y <;> by_cases h3:2147483648≤d <;> simp [h1,h2,h3] <;> omega
  generalize (((4294967295 ^^^ x) &&& y) ||| ((4294967295 ^^^ (x ^^^ y)) &&& d))=N at *
  rw [Nat.testBit_eq_decide_div_mod_eq,decide_eq_decide] at ht
  split <;> omega
def SubBit (x y b:Nat)(d b':Nat):Prop:=d<4294967296∧b'≤1∧d+y+b=x+4294967296*b'
set_option maxHeartbeats 1000000 in
theorem sub32_any (x y b:Nat)(w:World)(hx:x<4294967296)(hy:y<4294967296)(hb:b≤1) :
    Calls Tryz.prog 173 #[.int .u32 (x:Nat),.int .u32 (y:Nat),.int .u32 (b:Nat)] w fun e w'=>(∃ d b':Nat,e=.returned (.tuple #[.int .u32 (d:Nat),.int .u32 (b':Nat)])∧SubBit x y b d b')∧w=w':=by
  go_enter Tryz.func173,Tryz.ntmps173
  go_wp2
  go_ret2
  refine⟨?_,rfl⟩
  obtain⟨d,hd⟩:∃ d:Nat,(((x:Int)-y-b) % 4294967296)=(d:Int):=⟨(((x:Int)-y-b) % 4294967296).toNat,by omega⟩
  have hd1:d<4294967296:=by omega
  have hd2:(y+b≤x∧d+y+b=x)∨(x<y+b∧d+y+b=x+4294967296):=by omega
  refine⟨d,if x<y+b then 1 else 0, ?_,hd1, ?_, ?_⟩
  · rw [←borrow_nat x y b d hx hy hb hd1 hd2,hd]
    have e0:(IntKind.u32.max:Int)=((4294967295:Nat):Int):=by decide
    have m1:4294967295 ^^^ x<4294967296:=Nat.xor_lt_two_pow (n:=32) (by omega) hx
    have m2:x ^^^ y<4294967296:=Nat.xor_lt_two_pow (n:=32) hx hy
    have m3:4294967295 ^^^ (x ^^^ y)<4294967296:=Nat.xor_lt_two_pow (n:=32) (by omega) m2
    have m4:(4294967295 ^^^ x) &&& y<4294967296:=Nat.and_lt_two_pow (n:=32) _ hy
    have m5:(4294967295 ^^^ (x ^^^ y)) &&& d<4294967296:=Nat.and_lt_two_pow (n:=32) _ hd1
    rw [e0,u32_xor_nat _ _ (by omega) hx,u32_and_nat _ _ m1 hy,u32_xor_nat _ _ hx hy,u32_xor_nat _ _ (by omega) m2,u32_and_nat _ _ m3 hd1,u32_or_nat _ _ m4 m5]
    rfl
  · split <;> omega
  · split <;> omega
theorem sub32_zero (x b:Nat)(w:World)(hx:x<4294967296)(hb:b≤1) :
    Calls Tryz.prog 173 #[.int .u32 (x:Nat),.int .u32 0,.int .u32 (b:Nat)] w fun e w'=>(∃ d b':Nat,e=.returned (.tuple #[.int .u32 (d:Nat),.int .u32 (b':Nat)])∧SubBit x 0 b d b')∧w=w':=
  sub32_any x 0 b w hx (by omega) hb
theorem add32_any (x y b:Nat)(w:World)(hx:x<4294967296)(hy:y<4294967296)(hb:b≤1) :
    Calls Tryz.prog 206 #[.int .u32 (x:Nat),.int .u32 (y:Nat),.int .u32 (b:Nat)] w fun e w'=>(∃ d c:Nat,e=.returned (.tuple #[.int .u32 (d:Nat),.int .u32 (c:Nat)])∧d<4294967296∧c≤1∧d+4294967296*c=x+y+b)∧w=w':=by
  go_enter Tryz.func206,Tryz.ntmps206
  go_wp2
  go_ret2
  exact⟨⟨(x+y+b) % 4294967296,(x+y+b) / 4294967296,by simp,by omega,by omega,by omega⟩,rfl⟩
end Go.Proofs.YtpnlbjnbgemocaaGreat
/- What Sub tells, of any two rows: the difference, or that there is none. Condition: rows of at most 10^8 numbers. -/
namespace Go.Proofs.YtpnlbjnbgemocaaGreat
set_option linter.unusedVariables false
set_option linter.unusedSimpArgs false
set_option maxRecDepth 100000
open Go.RowKit Nums
def Num2 (N:Nat)(w:World)(e:Ending)(w':World):Prop:=
  ∃ a' m,e=.returned (.tuple #[.slice a' m m,.int .i64 0])∧m=(limbs N).length∧Row w' a' m m (limbs N)∧Below w.heap.size w w'
set_option maxHeartbeats 2000000 in
theorem sub_ge (a0 a1:Option Addr)(n0 c0 n1 c1:Nat)(xs ys:List Nat)(w:World)(h0:Row w a0 n0 c0 xs)(h1:Row w a1 n1 c1 ys)(hn0:n0≤100000000)(hn1:n1≤100000000)(hge:val ys≤val xs) :
    Calls Tryz.prog 139 #[.slice a0 n0 c0,.slice a1 n1 c1] w (Num2 (val xs-val ys) w):=by
  have H0:=Lib.hid h0;clear h0
  have H1:=Lib.hid h1;clear h1
  have HGE:=Lib.hid hge;clear hge
  go_enter Tryz.func139,Tryz.ntmps139
  go_wp2_with fail
  refine(cut_num a0 n0 c0 xs w H0.out (by omega)).mono ?_
  rintro e w' ⟨p,mp,rfl,hm0,hmn0,hrow0,-,rfl⟩
  have HL0:=Lib.hid hm0;clear hm0
  have HR0:=Lib.hid hrow0;clear hrow0
  go_wp2_with fail
  refine(cut_num a1 n1 c1 ys w H1.out (by omega)).mono ?_
  rintro e w' ⟨q,mq,rfl,hm1,hmn1,hrow1,-,rfl⟩
  have HL1:=Lib.hid hm1;clear hm1
  have HR1:=Lib.hid hrow1;clear hrow1
  obtain⟨P,hX⟩:∃ X,X=val xs:=⟨_,rfl⟩
  obtain⟨Q,hY⟩:∃ Y,Y=val ys:=⟨_,rfl⟩
  rw [←hX] at HR0 HL0 HGE
  rw [←hY] at HR1 HL1 HGE
  have HS':Hid (P-Q=val xs-val ys):=by rw [hX,hY];exact rfl
  clear hX hY H0 H1
  have hle:mq≤mp:=by rw [HL0.out,HL1.out];exact limbs_len_mono HGE.out
  go_wp2_with fail
  refine(cmp_ge p q mp mp mq mq _ _ w HR0.out HR1.out (by omega) (by omega) (by rw [val_limbs,val_limbs];exact HGE.out)).mono ?_
  rintro e w0 ⟨⟨r,rfl,hr0⟩,hb0⟩
  go_wp2_with (at_make;refine make32 rfl _ rfl _ mp rfl (by omega) (by omega) ?_)
  intro g w1 hg hmem hbel1
  have hg0:=hb0.size
  have hbel:Below w.heap.size w w1:=hb0.trans (hbel1.mono hb0.size)
  have hg:w.heap.size≤g:=by omega
  clear hbel1 hb0
  have HG:=Lib.hid hmem;clear hmem
  obtain⟨-,-,-,-,-,b0,o0,hor0,hc0⟩:=HR0.out
  obtain⟨-,-,-,-,-,b1,o1,hor1,hc1⟩:=HR1.out
  have HC0:=Lib.hid hc0;clear hc0
  have HC1:=Lib.hid hc1;clear hc1
  rcases(show _∨Hid _ from hor0) with rfl | hor0 <;> rcases(show _∨Hid _ from hor1) with rfl | hor1
  all_goals
    go_wp2
    go_loopw [7,23] (fun bv t wr=>∃(k b:Nat) (zs:List Nat),k≤mp∧t=.int .i64 (k:Int)∧bv=.int .u32 (b:Int)∧b≤1∧Hid (zs.length=mp∧Small zs∧Mem wr g zs∧DiffAt P Q zs k b)∧Below w.heap.size w wr) (fun _ t _=>mp-(intOf t).toNat)
    case atStart=>exact⟨0,0,List.replicate mp 0,Nat.zero_le _,rfl,rfl,by omega,⟨by simp,by intro x hx;simp at hx;omega,HG.out,by simp [DiffAt,val]⟩,hbel⟩
    case round =>
      obtain⟨k,b,zs,hk,rfl,rfl,hc1,HZ,hbr⟩:=hrel
      by_cases hk0:k<mp
      · first
        | (exfalso;have:=hor0.out;omega)
        | (have hcell0:=cells_at HC0.out hbr k hk0
           have hx:=getD_lt (limbs P) (small_limbs P) k
           obtain⟨x,hxe⟩:∃ x,x=(limbs P).getD k 0:=⟨_,rfl⟩
           rw [←hxe] at hcell0 hx
           have HXE:=Lib.hid hxe;clear hxe
           have hz:=HZ.out.2.2.1.cell k (by rw [HZ.out.1];omega)
           have hzf:=HZ.out.2.2.1.free k
           by_cases hk1:k<mq
           · first
             | (exfalso;have:=hor1.out;omega)
             | (have hcell1:=cells_at HC1.out hbr k hk1
                have hy:=getD_lt (limbs Q) (small_limbs Q) k
                obtain⟨y,hye⟩:∃ y,y=(limbs Q).getD k 0:=⟨_,rfl⟩
                rw [←hye] at hcell1 hy
                have HYE:=Lib.hid hye;clear hye
                go_wp2_with fail
                refine(sub32_any x y b _ hx hy hc1).mono ?_
                rintro e w' ⟨⟨d,b',rfl,hsb⟩,rfl⟩
                have HSB:=Lib.hid hsb;clear hsb
                go_wp2
                go_roundw
                case rel=>exact⟨k+1,b',zs.set k d,by omega,by go_num,rfl,HSB.out.2.1,⟨by simp [HZ.out.1],small_set HZ.out.2.1 _ _ HSB.out.1,HZ.out.2.2.1.setI k _ _ rfl,HZ.out.2.2.2.step (by rw [HZ.out.1];omega) HXE.out HYE.out HSB.out.2.2⟩,hbr.setCell (by exact hg) _⟩
                case measure=>simp [intOf];omega)
           · go_wp2_with fail
             refine(sub32_zero x b _ hx hc1).mono ?_
             rintro e w' ⟨⟨d,b',rfl,hsb⟩,rfl⟩
             have HSB:=Lib.hid hsb;clear hsb
             go_wp2
             go_roundw
             case rel=>exact⟨k+1,b',zs.set k d,by omega,by go_num,rfl,HSB.out.2.1,⟨by simp [HZ.out.1],small_set HZ.out.2.1 _ _ HSB.out.1,HZ.out.2.2.1.setI k _ _ rfl,HZ.out.2.2.2.step (y:=0) (by rw [HZ.out.1];omega) HXE.out (by rw [getD_ge _ _ (by rw [←HL1.out];omega)]) HSB.out.2.2⟩,hbr.setCell (by exact hg) _⟩
             case measure=>simp [intOf];omega)
      · obtain rfl:mp=k:=by omega
        go_wp2_with fail
        refine(num_of_cut (N:=P-Q) (w0:=w) (n:=mp) HZ.out.2.2.1 HZ.out.2.1 HZ.out.1 (by omega) (HZ.out.2.2.2.done HZ.out.2.1 HZ.out.1 (by rw [←HL0.out];omega) (by rw [←HL1.out];omega) HGE.out) hbr).mono ?_
        rintro e w' ⟨a',m,rfl,hm,hrow,hb⟩
        have HM:=Lib.hid hm;clear hm
        have HROW:=Lib.hid hrow;clear hrow
        have HB:=Lib.hid hb;clear hb
        go_wp2
        go_ret2
        rw [←HS'.out]
        exact⟨a',m,rfl,HM.out,HROW.out,HB.out⟩
end Go.Proofs.YtpnlbjnbgemocaaGreat
/- What Mul tells, of any two rows: the product. Condition: rows of at most 10^8 numbers. -/
namespace Go.Proofs.YtpnlbjnbgemocaaGreat
set_option linter.unusedVariables false
set_option linter.unusedSimpArgs false
set_option maxRecDepth 100000
open Go.RowKit Nums
theorem mul_room (c x y z:Nat)(hc:c<4294967296)(hx:x<4294967296)(hy:y<4294967296)(hz:z<4294967296):x*y≤18446744065119617025∧(c+(x*y+z)) / 4294967296<4294967296:=by
  have h1:x*y≤4294967295*4294967295:=Nat.mul_le_mul (by omega) (by omega)
  exact⟨by omega,by omega⟩
end Go.Proofs.YtpnlbjnbgemocaaGreat
