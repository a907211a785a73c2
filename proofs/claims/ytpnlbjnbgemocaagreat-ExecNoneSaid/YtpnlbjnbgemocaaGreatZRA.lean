import Derived.Test.YtpnlbjnbgemocaaGreatZNB
import Derived.Test.YtpnlbjnbgemocaaGreatZNAToHpMN7
import Derived.Laws.BitsAllLaws
import Derived.Test.YtpnlbjnbgemocaaGreatZNC
namespace Go.Proofs.YtpnlbjnbgemocaaGreat
set_option linter.unusedVariables false
set_option linter.unusedSimpArgs false
set_option maxRecDepth 100000
open Go.RowKit Nums
def BRow (w:World)(a:Option Addr)(n c:Nat)(bs:List Bool):Prop:=
  bs.length=n∧n≤c∧c≤maxLen∧(a=none→c=0) ∧
  ∃ b off,(a=some ⟨b,off,none⟩∨n≤0)∧∀ i,i<n→b<w.heap.size∧w.cell? ⟨b,off+i,none⟩=some (.bool (bs.getD i false))
theorem brow_nil (w:World):BRow w none 0 0 []:=
  ⟨rfl,Nat.le_refl _,Nat.zero_le _,fun _=>rfl,0,0,Or.inr (Nat.le_refl _),fun i hi=>by omega⟩
theorem brow_below {B:Nat}{w w':World}{a:Option Addr}{n c:Nat}{bs:List Bool}(hB:w.heap.size≤B)(hb:Below B w w')(h:BRow w a n c bs):BRow w' a n c bs:=by
  obtain⟨h1,h2,h3,h4,b,off,h6,h7⟩:=h
  refine⟨h1,h2,h3,h4,b,off,h6,fun i hi=>⟨?_, ?_⟩⟩
  · exact Nat.lt_of_lt_of_le (h7 i hi).1 hb.size
  · rw [hb.cell (p:=⟨b,off+i,none⟩) (Nat.lt_of_lt_of_le (h7 i hi).1 hB)];exact(h7 i hi).2
theorem brow_take {w:World}{a:Option Addr}{n c:Nat}{bs:List Bool}(h:BRow w a n c bs)(k:Nat)(hk:k≤n):BRow w a k c (bs.take k):=by
  obtain⟨h1,h2,h3,h4,b,off,h6,h7⟩:=h
  refine⟨by simp;omega,by omega,h3,h4,b,off, ?_,fun i hi=>⟨(h7 i (by omega)).1, ?_⟩⟩
  · rcases h6 with h6 | h6
    · exact Or.inl h6
    · exact Or.inr (by omega)
  · rw [(h7 i (by omega)).2]
    congr 2
    simp [List.getElem?_take,hi]
def BNum (N:Nat)(w:World)(e:Ending)(w':World):Prop:=
  ∃ a' m c',e=.returned (.slice a' m c')∧m=(bitsOf N).length∧BRow w' a' m c' (bitsOf N)∧Below w.heap.size w w'
set_option maxHeartbeats 1000000 in
theorem at_any (a:Option Addr)(n c:Nat)(bs:List Bool)(w:World)(I:Int)(i:Nat)(hI:I=(i:Int))(hr:BRow w a n c bs)(hn:n≤1000000000)(hi:i≤1000000000) :
    Calls Tryz.prog 144 #[.slice a n c,.int .i64 I] w fun e w'=>e=.returned (.bool (bs.getD i false))∧w=w':=by
  subst hI
  obtain⟨hl,hnc,hcm,hnone,b,off,hor,hc⟩:=hr
  have HL:=Lib.hid hl;clear hl
  have HC:=Lib.hid hc;clear hc
  clear hnone
  unfold maxLen at hcm
  rcases(show _∨Hid _ from hor) with rfl | hor
  all_goals
    by_cases hlt:i<n
    · first
      | (exfalso;have:=hor.out;omega)
      | (have hcell:=(HC.out i hlt).2
         go_enter Tryz.func144,Tryz.ntmps144
         go_wp2
         go_ret
         exact⟨rfl,rfl⟩)
    · have HG:Hid (bs.getD i false=false):=bgetD_ge bs i (by rw [HL.out];omega)
      go_enter Tryz.func144,Tryz.ntmps144
      go_wp2
      go_ret
      exact⟨ret_boolN (show false=bs.getD i false from HG.out.symm),rfl⟩
set_option maxHeartbeats 1000000 in
theorem bcut_any (a:Option Addr)(n c:Nat)(bs:List Bool)(w:World)(hr:BRow w a n c bs)(hn:n≤1000000000) :
    Calls Tryz.prog 143 #[.slice a n c] w fun e w'=>e=.returned (.slice a (btl bs) c)∧w=w':=by
  obtain⟨hl,hnc,hcm,hnone,b,off,hor,hc⟩:=hr
  have HK:Hid (∀ k:Nat,k≤n→(∀ i,k≤i→bs.getD i false=false)→(k=0∨bs.getD (k-1) false=true)→k=btl bs):=fun k h1 h2 h3=>(btl_unique bs k (by omega) h2 h3).symm
  have HZ:Hid (∀ i,n≤i→bs.getD i false=false):=fun i hi=>bgetD_ge bs i (by omega)
  clear hl
  have HC:=Lib.hid hc;clear hc
  have HN:=Lib.hid hnone;clear hnone
  unfold maxLen at hcm
  rcases(show _∨Hid _ from hor) with rfl | hor
  all_goals
    go_enter Tryz.func143,Tryz.ntmps143
    go_wp2
    go_loop [3] (fun t=>∃ k:Nat,k≤n∧t=.int .i64 k∧Hid (∀ i,k≤i→bs.getD i false=false)) (fun t=>(intOf t).toNat)
    case atStart=>exact⟨n,Nat.le_refl _,rfl,HZ⟩
    case round=>
      obtain⟨k,hk,rfl,hz⟩:=hrel
      by_cases hk0:0<k
      · first
        | (exfalso;have:=hor.out;omega)
        | (have hcell:=(HC.out (k-1) (by omega)).2
           have e:((k:Int)-1).toNat=k-1:=by omega
           obtain⟨x,hxe⟩:∃ x,x=bs.getD (k-1) false:=⟨_,rfl⟩
           rw [←hxe] at hcell
           have HX:=Lib.hid hxe;clear hxe
           cases x with
           | false=>
             go_wp2
             go_round
             case rel=>exact⟨k-1,by omega,by go_num,fun i hi=>if h:i=k-1 then by rw [h];exact HX.out.symm else hz.out i (by omega)⟩
             case measure=>simp [intOf];omega
           | true=>
             have HE:Hid (k=btl bs):=HK.out k hk hz.out (Or.inr HX.out.symm)
             go_wp2
             go_ret
             exact⟨ret_slice HE.out rfl,rfl⟩)
      · obtain rfl:k=0:=by omega
        have HE:Hid (0=btl bs):=HK.out 0 hk hz.out (Or.inl rfl)
        go_wp2
        go_ret
        exact⟨ret_slice HE.out rfl,rfl⟩
theorem bcut_num (a:Option Addr)(n c:Nat)(bs:List Bool)(w:World)(hr:BRow w a n c bs)(hn:n≤1000000000) :
    Calls Tryz.prog 143 #[.slice a n c] w fun e w'=>∃ m,e=.returned (.slice a m c)∧m=(bitsOf (bval bs)).length∧m≤n∧BRow w a m c (bitsOf (bval bs))∧w=w':=by
  refine(bcut_any a n c bs w hr hn).mono ?_
  rintro e w' ⟨rfl,rfl⟩
  have h1:btl bs≤n:=by have:=btl_le bs;have:=hr.1;omega
  refine⟨btl bs,rfl,btl_eq bs,h1, ?_,rfl⟩
  rw [bits_bval]
  exact brow_take hr _ h1
def BAgree (xs ys:List Bool)(k:Nat):Prop:=∀ j,k≤j→xs.getD j false=ys.getD j false
theorem bagree_step {xs ys:List Bool}{k:Nat}(hk:0<k)(h:BAgree xs ys k)(h':xs.getD (k-1) false=ys.getD (k-1) false):BAgree xs ys (k-1):=fun j hj=>by
  by_cases e:j=k-1
  · rw [e];exact h'
  · exact h j (by omega)
set_option maxHeartbeats 2000000 in
theorem bcmp_any (a0 a1:Option Addr)(n0 c0 n1 c1:Nat)(xs ys:List Bool)(w:World)(h0:BRow w a0 n0 c0 xs)(h1:BRow w a1 n1 c1 ys)(hn0:n0≤100000000)(hn1:n1≤100000000) :
    Calls Tryz.prog 141 #[.slice a0 n0 c0,.slice a1 n1 c1] w fun e w'=>e=.returned (.int .i64 (cmpv (bval xs) (bval ys)))∧w=w':=by
  have HL0:=Lib.hid h0.1
  have HL1:=Lib.hid h1.1
  have H0:=Lib.hid h0;clear h0
  have H1:=Lib.hid h1;clear h1
  obtain⟨R,hR⟩:∃ R,R=cmpv (bval xs) (bval ys):=⟨_,rfl⟩
  rw [←hR]
  have HR:=Lib.hid hR;clear hR
  have HA:Hid (∀ m,n0≤m→n1≤m→BAgree xs ys m):=fun m h0 h1 j hj=>by
    rw [bgetD_ge xs j (by rw [HL0.out];omega),bgetD_ge ys j (by rw [HL1.out];omega)]
  rcases Nat.le_total n0 n1 with hle | hle
  all_goals
    go_enter Tryz.func141,Tryz.ntmps141
    go_wp2_with fail
    all_goals
      go_loop [5] (fun t=>∃ k:Nat,k≤100000000∧t=.int .i64 ((k:Int)-1)∧Hid (BAgree xs ys k)) (fun t=>(intOf t+1).toNat)
      case atStart=>first | exact⟨n1,hn1,rfl,HA.out n1 (by omega) (by omega)⟩ | exact⟨n0,hn0,rfl,HA.out n0 (by omega) (by omega)⟩
      case round=>
        obtain⟨k,hk,rfl,HG⟩:=hrel
        by_cases hk0:0<k
        · have HX:=Lib.hid (at_any a0 n0 c0 xs w ((k:Int)-1) (k-1) (by omega) H0.out (by omega) (by omega))
          have HY:=Lib.hid (at_any a1 n1 c1 ys w ((k:Int)-1) (k-1) (by omega) H1.out (by omega) (by omega))
          obtain⟨x,hx⟩:∃ x,x=xs.getD (k-1) false:=⟨_,rfl⟩
          obtain⟨y,hy⟩:∃ y,y=ys.getD (k-1) false:=⟨_,rfl⟩
          rw [←hx] at HX
          rw [←hy] at HY
          have HXE:=Lib.hid hx;clear hx
          have HYE:=Lib.hid hy;clear hy
          cases x <;> cases y
          · go_wp2_with fail
            refine HX.out.mono ?_
            rintro e w' ⟨rfl,rfl⟩
            go_wp2_with fail
            refine HY.out.mono ?_
            rintro e w' ⟨rfl,rfl⟩
            go_wp2
            go_round
            case rel=>exact⟨k-1,by omega,by go_num,bagree_step (by omega) HG.out (HXE.out.symm.trans HYE.out)⟩
            case measure=>simp [intOf];omega
          · have HE:Hid (R=-1):=by
              rw [HR.out,cmpv,if_pos (blt_at xs ys (k-1) (fun j hj=>HG.out j (by omega)) HXE.out.symm HYE.out.symm)];exact rfl
            go_wp2_with fail
            refine HX.out.mono ?_
            rintro e w' ⟨rfl,rfl⟩
            go_wp2_with fail
            refine HY.out.mono ?_
            rintro e w' ⟨rfl,rfl⟩
            go_wp2_with fail
            refine HX.out.mono ?_
            rintro e w' ⟨rfl,rfl⟩
            go_wp2
            go_ret
            exact⟨by rw [HE.out];exact rfl,rfl⟩
          · have HE:Hid (R=1):=by
              have h:=blt_at ys xs (k-1) (fun j hj=>(HG.out j (by omega)).symm) HYE.out.symm HXE.out.symm
              rw [HR.out,cmpv,if_neg (by omega),if_pos h];exact rfl
            go_wp2_with fail
            refine HX.out.mono ?_
            rintro e w' ⟨rfl,rfl⟩
            go_wp2_with fail
            refine HY.out.mono ?_
            rintro e w' ⟨rfl,rfl⟩
            go_wp2_with fail
            refine HX.out.mono ?_
            rintro e w' ⟨rfl,rfl⟩
            go_wp2
            go_ret
            exact⟨by rw [HE.out];exact rfl,rfl⟩
          · go_wp2_with fail
            refine HX.out.mono ?_
            rintro e w' ⟨rfl,rfl⟩
            go_wp2_with fail
            refine HY.out.mono ?_
            rintro e w' ⟨rfl,rfl⟩
            go_wp2
            go_round
            case rel=>exact⟨k-1,by omega,by go_num,bagree_step (by omega) HG.out (HXE.out.symm.trans HYE.out)⟩
            case measure=>simp [intOf];omega
        · obtain rfl:k=0:=by omega
          have HE:Hid (R=0):=by
            have h:=beq_at xs ys (fun j=>HG.out j (Nat.zero_le _))
            rw [HR.out,cmpv,if_neg (by omega),if_neg (by omega)];exact rfl
          go_wp2
          go_ret
          exact⟨by rw [HE.out];exact rfl,rfl⟩
end Go.Proofs.YtpnlbjnbgemocaaGreat
/- Rows of bits that the call appends to; what add and sub tell of two rows of bits. -/
namespace Go.Proofs.YtpnlbjnbgemocaaGreat
set_option linter.unusedVariables false
set_option linter.unusedSimpArgs false
set_option maxRecDepth 100000
open Go.RowKit Nums
theorem Tryz.infoN4:(Tryz.prog.info? 4).map (fun i=>(i.zero,i.size,i.bytes))=some (some (.bool false),1,1):=by kernel_rfl
def OwnB (w:World)(B:Nat)(v:Value)(bs:List Bool):Prop:=w.ownsRow B 4 1 v bs.length (bs.map Value.bool)
theorem append_bool {w0:World}{b:Bool}{ops:Array Oper}{rest:List Oper}{o:Oper}{a:Act}{Q:Exit→Act→World→Prop}(hgd:o.guard=none)(s x:Operand)
    (ho:o.op=.call { callee:=.builtin .append,args:=#[s,x],argTypes:=#[41,41] }) (B:Nat) (v:Value) (bs:List Bool) (hs:a.eval s=v) (hx:a.eval x=.slice (some ⟨w0.heap.size,0,none⟩) 1 1)
    (hown:OwnB w0 B v bs) (hB:B≤w0.heap.size) (hn:bs.length≤1000000000)
    (hK:∀ v' w',OwnB w' B v' (bs++[b])→Below B w0 w'→wpList Tryz.prog ops Q rest (a.put o.dst v') w') :
    wpList Tryz.prog ops Q (o::rest) a (w0.alloc (.cells #[.bool b] 4)):=by
  obtain⟨i0,hi,hz0,hz1,hz2⟩:=info_parts Tryz.infoN4
  refine wpList_append_own (w0.alloc (.cells #[.bool b] 4)) hgd s x 41 ho B 4 i0 (.bool false) 1 1 Tryz.underlying41 hi hz0 hz1 hz2 rfl (by decide) v bs.length _ hs (World.ownsRow.alloc hown _) ⟨w0.heap.size,0,none⟩ 1 1 [.bool b] hx rfl ?_ ?_ ?_ ?_ ?_ ?_
  · intro j u hj
    match j,hj with
    | 0,hj=>simp at hj;subst hj;simp [Addr.add]
  · intro u hu;simp at hu;subst hu;rfl
  · unfold maxLen;omega
  · omega
  · simp;omega
  · intro v' w' h1 h2 _
    refine hK v' w' ?_ ?_
    · unfold OwnB;simp only [List.length_append,List.map_append];exact h1
    · exact((Below.refl B w0).alloc hB _).grown h2 (by simp;omega) (fun k hk=>(hown.lt k hk).1)
theorem append_u32 {w0:World}{z:Int}{ops:Array Oper}{rest:List Oper}{o:Oper}{a:Act}{Q:Exit→Act→World→Prop}(hgd:o.guard=none)(s x:Operand)
    (ho:o.op=.call { callee:=.builtin .append,args:=#[s,x],argTypes:=#[42,42] }) (B:Nat) (v:Value) (cs:List Nat) (u:Nat) (hs:a.eval s=v) (hx:a.eval x=.slice (some ⟨w0.heap.size,0,none⟩) 1 1)
    (hz:z=(u:Int)) (hown:w0.ownsRow B 120 1 v cs.length (cs.map u32)) (hB:B≤w0.heap.size) (hn:cs.length≤1000000000)
    (hK:∀ v' w',w'.ownsRow B 120 1 v' (cs++[u]).length ((cs++[u]).map u32)→Below B w0 w'→wpList Tryz.prog ops Q rest (a.put o.dst v') w') :
    wpList Tryz.prog ops Q (o::rest) a (w0.alloc (.cells #[.int .u32 z] 120)):=by
  subst hz
  obtain⟨i0,hi,hz0,hz1,hz2⟩:=info_parts Tryz.info120
  refine wpList_append_own (w0.alloc (.cells #[.int .u32 (u:Nat)] 120)) hgd s x 42 ho B 120 i0 (.int .u32 0) 1 4 Tryz.underlying42 hi hz0 hz1 hz2 rfl (by decide) v cs.length _ hs (World.ownsRow.alloc hown _) ⟨w0.heap.size,0,none⟩ 1 1 [.int .u32 (u:Nat)] hx rfl ?_ ?_ ?_ ?_ ?_ ?_
  · intro j u hj
    match j,hj with
    | 0,hj=>simp at hj;subst hj;simp [Addr.add]
  · intro u hu;simp at hu;subst hu;rfl
  · unfold maxLen;omega
  · omega
  · simp;omega
  · intro v' w' h1 h2 _
    refine hK v' w' ?_ ?_
    · simp only [List.length_append,List.map_append];exact h1
    · exact((Below.refl B w0).alloc hB _).grown h2 (by simp;omega) (fun k hk=>(hown.lt k hk).1)
theorem brow_own {w:World}{B:Nat}{v:Value}{bs:List Bool}(h:OwnB w B v bs):∃ a c,v=.slice a bs.length c∧BRow w a bs.length c bs∧(∀ g,v.ownBlock=some g→B≤g):=by
  have hlt:=h.lt
  rcases h.2 with ⟨rfl,h0⟩ | ⟨g,cap,cur,rfl,hBg,hgg,hnc,hcm,_⟩
  · have:bs=[]:=List.length_eq_zero_iff.1 h0
    subst this
    exact⟨none,0,rfl,brow_nil w,fun g hg=>by simp [Value.ownBlock] at hg⟩
  · refine⟨some ⟨g,0,none⟩,cap,rfl,⟨rfl,hnc,hcm,by simp,g,0,Or.inl rfl,fun i hi=>⟨(hlt g rfl).2, ?_⟩⟩,fun g' hg'=>(hlt g' hg').1⟩
    rw [Nat.zero_add,h.cellAt i (by omega)]
    simp [hi]
theorem bcut_own (w0 w:World)(B:Nat)(v:Value)(bs:List Bool)(N:Nat)(h:OwnB w B v bs)(hv:bval bs=N)(hn:bs.length≤1000000000)(hb:Below w0.heap.size w0 w):Calls Tryz.prog 143 #[v] w (BNum N w0):=by
  subst hv
  obtain⟨a,c,rfl,hrow,_⟩:=brow_own h
  refine(bcut_num a _ c bs w hrow hn).mono ?_
  rintro e w' ⟨m,rfl,hm,hmn,hr,rfl⟩
  exact⟨a,m,c,rfl,hm,hr,hb⟩
end Go.Proofs.YtpnlbjnbgemocaaGreat
/- What sub tells of two rows of bits, the second no greater. -/
namespace Go.Proofs.YtpnlbjnbgemocaaGreat
set_option linter.unusedVariables false
set_option linter.unusedSimpArgs false
set_option maxRecDepth 100000
open Go.RowKit Nums
def BDiffAt (xs ys out:List Bool)(k:Nat)(l:Bool):Prop:=out.length=k∧bval out+bval (ys.take k)=bval (xs.take k)+2 ^ k*bnum l
theorem BDiffAt.step {xs ys out:List Bool}{k:Nat}{l x y b l':Bool}(h:BDiffAt xs ys out k l)(hx:x=xs.getD k false)(hy:y=ys.getD k false)(hb:bnum b+bnum y+bnum l=bnum x+2*bnum l'):BDiffAt xs ys (out++[b]) (k+1) l':=by
  obtain⟨h1,h2⟩:=h
  refine⟨by simp [h1], ?_⟩
  rw [bval_snoc,h1,bval_take_next xs,bval_take_next ys,←hx,←hy,Nat.pow_succ,Nat.mul_assoc]
  have e:2 ^ k*(bnum b+bnum y+bnum l)=2 ^ k*(bnum x+2*bnum l'):=by rw [hb]
  simp only [Nat.mul_add] at e
  omega
theorem BDiffAt.done {xs ys out:List Bool}{k:Nat}{l:Bool}(h:BDiffAt xs ys out k l)(hx:xs.length≤k)(hy:ys.length≤k)(hle:bval ys≤bval xs):bval out=bval xs-bval ys:=by
  obtain⟨h1,h2⟩:=h
  rw [List.take_of_length_le hx,List.take_of_length_le hy] at h2
  have h3:=bval_lt out
  rw [h1] at h3
  cases l
  · simp [bnum] at h2;omega
  · simp [bnum] at h2;omega
end Go.Proofs.YtpnlbjnbgemocaaGreat
/- What Of tells: the bits of a row of numbers. -/
namespace Go.Proofs.YtpnlbjnbgemocaaGreat
set_option linter.unusedVariables false
set_option linter.unusedSimpArgs false
set_option maxRecDepth 100000
open Go.RowKit Nums
theorem pow32 (i:Nat):4294967296 ^ i=2 ^ (32*i):=by rw [Nat.pow_mul]
def OfAt (xs:List Nat)(x:Nat)(out:List Bool)(i k:Nat):Prop:=out.length=32*i+k∧bval out=val (xs.take i)+2 ^ (32*i)*(x % 2 ^ k)
theorem OfAt.step {xs:List Nat}{x i k:Nat}{out:List Bool}{b:Bool}(h:OfAt xs x out i k)(hb:bnum b=x / 2 ^ k % 2):OfAt xs x (out++[b]) i (k+1):=by
  obtain⟨h1,h2⟩:=h
  refine⟨by simp [h1];omega, ?_⟩
  rw [bval_snoc,h1,h2,hb,Nat.pow_succ,Nat.mod_mul,Nat.mul_add,Nat.pow_add,Nat.mul_assoc,Nat.add_assoc]
theorem OfAt.next {xs:List Nat}{x i:Nat}{out:List Bool}(h:OfAt xs x out i 32)(hx:x=xs.getD i 0)(hl:x<4294967296):∀ y,OfAt xs y out (i+1) 0:=by
  obtain⟨h1,h2⟩:=h
  intro y
  refine⟨by omega, ?_⟩
  rw [h2,val_take_next,←hx,pow32,Nat.mod_eq_of_lt (show x<2 ^ 32 from hl),Nat.pow_zero,Nat.mod_one,Nat.mul_zero,Nat.add_zero]
theorem and_one (v:Nat)(hv:v<4294967296):bits BinOp.and IntKind.u32 (v:Int) 1=((v % 2:Nat):Int):=by
  have:=u32_and_nat v 1 hv (by omega)
  rw [nat_mask1] at this
  exact this
theorem bnum_and (x k:Nat)(h:x / 2 ^ k<4294967296):bnum (bits BinOp.and IntKind.u32 ((x:Int) / 2 ^ k) 1==1)=x / 2 ^ k % 2:=by
  have e:((x:Int) / 2 ^ k)=((x / 2 ^ k:Nat):Int):=by simp
  rw [e,and_one _ h]
  rcases Nat.mod_two_eq_zero_or_one (x / 2 ^ k) with h1 | h1
  · rw [h1];rfl
  · rw [h1];rfl
set_option maxHeartbeats 4000000 in
theorem of_any (a:Option Addr)(n c:Nat)(xs:List Nat)(w:World)(hr:Row w a n c xs)(hn:n≤100000) :
    Calls Tryz.prog 100 #[.slice a n c] w (BNum (val xs) w):=by
  obtain⟨hl,-,-,-,hsm,b0,o0,hor0,hc0⟩:=hr
  have HL:=Lib.hid hl;clear hl
  have HC0:=Lib.hid hc0;clear hc0
  rcases(show _∨Hid _ from hor0) with rfl | hor0
  all_goals
    go_enter Tryz.func100,Tryz.ntmps100
    go_wp2
    go_loopw [3,4] (fun v t wr=>∃(i:Nat) (out:List Bool),i≤n∧t=.int .i64 (i:Int)∧Hid (OwnB wr w.heap.size v out∧∀ y,OfAt xs y out i 0)∧Below w.heap.size w wr) (fun _ t _=>n-(intOf t).toNat)
    case atStart=>exact⟨0,[],Nat.zero_le _,rfl,⟨World.ownsRow_nil _ _ _ _,fun y=>⟨rfl,by rw [Nat.pow_zero,Nat.mod_one];rfl⟩⟩,Below.refl _ _⟩
    case round =>
      obtain⟨i,out,hi,rfl,HZ,hbr⟩:=hrel
      by_cases hi0:i<n
      · first
        | (exfalso;have:=hor0.out;omega)
        | (obtain⟨wo,rfl⟩:∃ wo:World,wo=wr:=⟨_,rfl⟩
           have hx:=getD_lt xs hsm i
           obtain⟨x,hxe⟩:∃ x,x=xs.getD i 0:=⟨_,rfl⟩
           rw [←hxe] at hx
           have HXE:=Lib.hid hxe;clear hxe
           go_wp2
           go_loopw [3,5] (fun v t wr=>∃(k:Nat) (out:List Bool),k≤32∧t=.int .i64 (k:Int)∧Hid (OwnB wr w.heap.size v out∧OfAt xs x out i k)∧Below w.heap.size w wr) (fun _ t _=>32-(intOf t).toNat)
           case atStart=>exact⟨0,out,Nat.zero_le _,rfl,⟨HZ.out.1,HZ.out.2 x⟩,hbr⟩
           case round=>
             obtain⟨k,out2,hk,rfl,HY,hbr2⟩:=hrel
             by_cases hk0:k<32
             · have hcell0:=cells_at HC0.out hbr2 i hi0
               rw [←HXE.out] at hcell0
               have hdv:x / 2 ^ k<4294967296:=Nat.lt_of_le_of_lt (Nat.div_le_self _ _) hx
               have HAND:=Lib.hid (bnum_and x k hdv)
               have HOL:Hid (out2.length=32*i+k):=HY.out.2.1
               have HLEN:Hid (out2.length≤1000000000):=by have:=HOL.out;exact(by omega:out2.length≤1000000000)
               have si:(0:Int)≤(k:Int):=by omega
               have sj:(k:Int)<64:=by omega
               go_wp2_with (at_builtin;refine append_bool rfl _ _ rfl w.heap.size _ out2 rfl rfl HY.out.1 hbr2.size HLEN.out ?_)
               intro v' w2 hown' hb2
               have HOW:=Lib.hid hown';clear hown'
               go_wp2
               go_roundw
               case rel=>exact⟨k+1,_,by omega,by go_num,⟨HOW.out,HY.out.2.step HAND.out⟩,hbr2.trans hb2⟩
               case measure=>simp [intOf];omega
             · obtain rfl:k=32:=by omega
               go_wp2
               go_roundw
               case rel=>exact⟨i+1,out2,by omega,by go_num,⟨HY.out.1,HY.out.2.next HXE.out hx⟩,hbr2⟩
               case measure=>simp [intOf];omega)
      · obtain rfl:n=i:=by omega
        have HV:Hid (bval out=val xs):=by
          have h:=(HZ.out.2 0).2
          rw [List.take_of_length_le (by rw [HL.out];exact Nat.le_refl _),Nat.zero_mod,Nat.mul_zero,Nat.add_zero] at h
          exact h
        have HLEN:Hid (out.length≤1000000000):=by have:=(HZ.out.2 0).1;exact(by omega:out.length≤1000000000)
        go_wp2_with fail
        refine(bcut_own w wr w.heap.size _ out _ HZ.out.1 HV.out HLEN.out hbr).mono ?_
        rintro e w' ⟨a',m,c',rfl,hm,hrow,hb⟩
        have HM':=Lib.hid hm;clear hm
        have HROW:=Lib.hid hrow;clear hrow
        have HB:=Lib.hid hb;clear hb
        go_wp2
        go_ret
        exact⟨a',m,c',rfl,HM'.out,HROW.out,HB.out⟩
end Go.Proofs.YtpnlbjnbgemocaaGreat
/- What Limbs tells: the numbers of a row of bits. -/
namespace Go.Proofs.YtpnlbjnbgemocaaGreat
set_option linter.unusedVariables false
set_option linter.unusedSimpArgs false
set_option maxRecDepth 100000
open Go.RowKit Nums
def NumC (N:Nat)(w:World)(e:Ending)(w':World):Prop:=
  ∃ a' m c,e=.returned (.slice a' m c)∧m=(limbs N).length∧Row w' a' m c (limbs N)∧Below w.heap.size w w'
theorem bval_split (bs:List Bool)(a b:Nat)(ha:a≤bs.length):bval (bs.take (a+b))=bval (bs.take a)+2 ^ a*bval ((bs.drop a).take b):=by
  have e:bs.take (a+b)=bs.take a++(bs.drop a).take b:=by rw [List.take_add]
  rw [e,bval_append,List.length_take,Nat.min_eq_left ha]
theorem limbs_of {cs:List Nat}{N m:Nat}(hs:Small cs)(hv:val cs=N)(hm:m=(bitsOf N).length)(hl:cs.length*32<m+32):cs=limbs N:=by
  have h:=limbs_val cs hs
  rw [hv] at h
  have ht:tl cs=cs.length:=by
    rcases Nat.lt_or_ge (tl cs) cs.length with hlt | hge
    · exfalso
      have h1:=tl_eq cs hs
      rw [hv] at h1
      have h2:=lt_pow_len N
      rw [←h1] at h2
      have h3:N<2 ^ (32*tl cs):=by rw [←pow32];exact h2
      have h4:=bits_len N _ h3
      omega
    · have:=tl_le cs;omega
  rw [h,ht,List.take_length]
theorem or_bit (n k:Nat)(hn:n<2 ^ k)(hk:k<32):bits BinOp.or IntKind.u32 (n:Int) ((2:Int) ^ k % 4294967296)=((n+2 ^ k:Nat):Int):=by
  have h1:2 ^ k≤2147483648:=Nat.pow_le_pow_right (n:=2) (by omega) (show k≤31 by omega)
  have e:((2:Int) ^ k % 4294967296)=((2 ^ k:Nat):Int):=by
    have:((2:Int) ^ k)=((2 ^ k:Nat):Int):=by simp
    rw [this];omega
  rw [e,u32_or_nat _ _ (by omega) (by omega),Nat.or_comm,nat_join k (2 ^ k) n (Nat.mod_self _) hn,Nat.add_comm]
theorem limb_bit {N i k x:Nat}{b:Bool}(h1:x<2 ^ k)(h2:x=bval (((bitsOf N).drop (32*i)).take k))(hb:b=(bitsOf N).getD (32*i+k) false):x+2 ^ k*bnum b<2 ^ (k+1)∧x+2 ^ k*bnum b=bval (((bitsOf N).drop (32*i)).take (k+1)):=by
  constructor
  · rw [Nat.pow_succ]
    cases b <;> simp [bnum] <;> omega
  · rw [bval_take_next,←h2,hb]
    congr 3
    simp
theorem limb_bit0 {N i k x:Nat}(h:x+2 ^ k*bnum false<2 ^ (k+1)∧x+2 ^ k*bnum false=bval (((bitsOf N).drop (32*i)).take (k+1))):x<2 ^ (k+1)∧x=bval (((bitsOf N).drop (32*i)).take (k+1)):=by
  have e:bnum false=0:=rfl
  rw [e,Nat.mul_zero,Nat.add_zero] at h
  exact h
theorem limb_bit1 {N i k x:Nat}(h:x+2 ^ k*bnum true<2 ^ (k+1)∧x+2 ^ k*bnum true=bval (((bitsOf N).drop (32*i)).take (k+1))):x+2 ^ k<2 ^ (k+1)∧x+2 ^ k=bval (((bitsOf N).drop (32*i)).take (k+1)):=by
  have e:bnum true=1:=rfl
  rw [e,Nat.mul_one] at h
  exact h
theorem limb_end {N i k x:Nat}(hk:k≤32)(h2:x=bval (((bitsOf N).drop (32*i)).take k))(h:k=32∨32*i+k=(bitsOf N).length):x=bval (((bitsOf N).drop (32*i)).take 32):=by
  rcases h with h | h
  · rw [h2,h]
  · have hl:((bitsOf N).drop (32*i)).length=k:=by rw [List.length_drop];omega
    rw [h2,List.take_of_length_le (by omega),List.take_of_length_le (by omega)]
theorem append_own {w0:World}{z:Int}{ops:Array Oper}{rest:List Oper}{o:Oper}{a:Act}{Q:Exit→Act→World→Prop}(hgd:o.guard=none)(s x:Operand)
    (ho:o.op=.call { callee:=.builtin .append,args:=#[s,x],argTypes:=#[42,42] }) (B:Nat) (v:Value) (cs:List Nat) (u:Nat) (hs:a.eval s=v) (hx:a.eval x=.slice (some ⟨w0.heap.size,0,none⟩) 1 1)
    (hz:z=(u:Int)) (hown:OwnU w0 B v cs) (hB:B≤w0.heap.size) (hn:cs.length≤1000000000)
    (hK:∀ v' w',OwnU w' B v' (cs++[u])→Below B w0 w'→wpList Tryz.prog ops Q rest (a.put o.dst v') w') :
    wpList Tryz.prog ops Q (o::rest) a (w0.alloc (.cells #[.int .u32 z] 120)):=
  append_u32 hgd s x ho B v cs u hs hx hz hown hB hn hK
theorem row_ownv {w:World}{B:Nat}{v:Value}{cs:List Nat}(h:w.ownsRow B 120 1 v cs.length (cs.map u32))(hs:Small cs):∃ a c,v=.slice a cs.length c∧Row w a cs.length c cs:=by
  rcases h.2 with ⟨rfl,h0⟩ | ⟨g,cap,cur,rfl,hBg,hgg,hnc,hcm,_⟩
  · have:cs=[]:=List.length_eq_zero_iff.1 h0
    subst this
    exact⟨none,0,rfl,row_nil w⟩
  · exact⟨_,cap,rfl,row_own h hs⟩
set_option maxHeartbeats 4000000 in
theorem limbs_any (a:Option Addr)(n c:Nat)(bs:List Bool)(w:World)(hr:BRow w a n c bs)(hn:n≤10000000) :
    Calls Tryz.prog 102 #[.slice a n c] w (NumC (bval bs) w):=by
  have HR:=Lib.hid hr;clear hr
  go_enter Tryz.func102,Tryz.ntmps102
  go_wp2_with fail
  refine(bcut_num a n c bs w HR.out (by omega)).mono ?_
  rintro e w' ⟨m,rfl,hm,hmn,hrow,rfl⟩
  obtain⟨N,hN⟩:∃ N,N=bval bs:=⟨_,rfl⟩
  rw [←hN] at hm hrow
  have HN:=Lib.hid hN;clear hN HR
  have HM:=Lib.hid hm;clear hm
  obtain⟨hl,hnc,hcm,-,b0,o0,hor0,hc0⟩:=hrow
  have HL:=Lib.hid hl;clear hl
  have HC0:=Lib.hid hc0;clear hc0
  unfold maxLen at hcm
  rcases(show _∨Hid _ from hor0) with rfl | hor0
  all_goals
    go_wp2
    go_loopw [3,4] (fun v t wr=>∃(i:Nat) (cs:List Nat),i*32<m+32∧t=.int .i64 (32*(i:Int))∧Hid (OwnU wr w.heap.size v cs∧cs.length=i∧Small cs∧val cs=bval ((bitsOf N).take (32*i)))∧Below w.heap.size w wr) (fun _ t _=>(m+32)-(intOf t).toNat)
    case atStart=>exact⟨0,[],by omega,rfl,⟨World.ownsRow_nil _ _ _ _,rfl,(fun x hx=>by cases hx),rfl⟩,Below.refl _ _⟩
    case round =>
      obtain⟨i,cs,hi,rfl,HZ,hbr⟩:=hrel
      by_cases hi0:32*i<m
      · first
        | (exfalso;have:=hor0.out;omega)
        | (obtain⟨wo,rfl⟩:∃ wo:World,wo=wr:=⟨_,rfl⟩
           go_wp2
           go_loop [5,6] (fun v t=>∃(k x:Nat),k≤32∧32*i+k≤m∧t=.int .i64 (k:Int)∧v=.int .u32 (x:Int)∧Hid (x<2 ^ k∧x=bval (((bitsOf N).drop (32*i)).take k))) (fun _ t=>32-(intOf t).toNat)
           case atStart=>exact⟨0,0,by omega,by omega,rfl,rfl,⟨by decide,rfl⟩⟩
           case round=>
             obtain⟨k,x,hk,hkm,rfl,rfl,HY⟩:=hrel
             by_cases hk0:k<32∧32*i+k<m
             · obtain⟨hk1,hk2⟩:=hk0
               have hs0:=HC0.out (32*i+k) hk2
               have hcell:wo.cell? ⟨b0,o0+(32*i+k),none⟩=some (.bool ((bitsOf N).getD (32*i+k) false)):=by rw [hbr.cell (p:=⟨b0,o0+(32*i+k),none⟩) hs0.1];exact hs0.2
               clear hs0
               obtain⟨b,hb⟩:∃ b,b=(bitsOf N).getD (32*i+k) false:=⟨_,rfl⟩
               rw [←hb] at hcell
               have HBE:=Lib.hid hb;clear hb
               have hor:=or_bit x k HY.out.1 hk1
               have e1:(32*(i:Int)+(k:Int)).toNat=32*i+k:=by omega
               have si:(0:Int)≤(k:Int):=by omega
               have sj:(k:Int)<64:=by omega
               have HST:=Lib.hid (limb_bit HY.out.1 HY.out.2 HBE.out)
               cases b
               · go_wp2
                 go_round
                 case rel=>exact⟨k+1,by omega,by omega,by omega,x,rfl,limb_bit0 HST.out⟩
                 case measure=>simp [intOf];omega
               · go_wp2
                 go_round
                 case rel=>exact⟨k+1,by omega,by omega,by omega,x+2 ^ k,by simp,limb_bit1 HST.out⟩
                 case measure=>simp [intOf];omega
             · have HX:=Lib.hid (limb_end hk HY.out.2 (by rw [HL.out];omega:k=32∨32*i+k=(bitsOf N).length))
               have HXL:Hid (x<4294967296):=Nat.lt_of_lt_of_le HY.out.1 (Nat.pow_le_pow_right (n:=2) (by omega) hk)
               have HCL:Hid (cs.length≤1000000000):=by have:=HZ.out.2.1;exact(by omega:cs.length≤1000000000)
               have hnew:val (cs++[x])=bval ((bitsOf N).take (32*(i+1))):=by
                 rw [show 32*(i+1)=32*i+32 by omega,bval_split _ _ _ (by rw [HL.out];omega),←HX.out,val_append,HZ.out.2.2.2,HZ.out.2.1,pow32]
                 simp [val]
               have HNEW:=Lib.hid hnew;clear hnew
               rcases(by omega:k=32∨(k<32∧32*i+k=m)) with h | ⟨h,h'⟩
               all_goals
                 have hkk:k=32∨¬(32*(i:Int)+(k:Int)<(m:Int)):=by omega
                 first | (subst h) | (have hq:¬(32*(i:Int)+(k:Int)<(m:Int)):=by omega)
                 clear hkk hk0
                 go_wp2_with (at_builtin;refine append_own rfl _ _ rfl w.heap.size _ cs x rfl rfl rfl HZ.out.1 hbr.size HCL.out ?_)
                 intro v' w2 hown' hb2
                 have HOW:=Lib.hid hown';clear hown'
                 go_wp2
                 go_roundw
                 case rel=>exact⟨i+1,cs++[x],by omega,by go_num,⟨HOW.out,by simp [HZ.out.2.1],small_append HZ.out.2.2.1 (by intro z hz;rw [List.mem_singleton] at hz;rw [hz];exact HXL.out),HNEW.out⟩,hbr.trans hb2⟩
                 case measure=>simp [intOf];omega)
      · have HV:Hid (val cs=N):=by
          rw [HZ.out.2.2.2,List.take_of_length_le (by rw [HL.out];omega),bval_bits];exact rfl
        have HCE:Hid (cs=limbs N):=limbs_of HZ.out.2.2.1 HV.out HM.out (by rw [HZ.out.2.1];exact hi)
        obtain⟨ra,rc,hve,hrow⟩:=row_ownv HZ.out.1 HZ.out.2.2.1
        rw [HCE.out] at hve hrow
        subst hve
        have HROW:=Lib.hid hrow;clear hrow
        go_wp2
        go_ret
        rw [←HN.out]
        exact⟨ra,_,rc,rfl,rfl,HROW.out,hbr⟩
end Go.Proofs.YtpnlbjnbgemocaaGreat
