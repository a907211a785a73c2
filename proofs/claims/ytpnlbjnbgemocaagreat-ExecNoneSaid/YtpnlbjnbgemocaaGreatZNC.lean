import Derived.Test.YtpnlbjnbgemocaaGreatZNB
import Derived.Test.YtpnlbjnbgemocaaGreatZNAToHpMN7
import Derived.Deep.LoopGhost
import Derived.BigRegion
namespace Go.Proofs.YtpnlbjnbgemocaaGreat
set_option linter.unusedVariables false
set_option linter.unusedSimpArgs false
set_option maxRecDepth 100000
open Go.RowKit Nums
theorem or_limbs (r x:Nat)(hr:r<4294967296)(hx:x<4294967296):bits BinOp.or IntKind.u64 ((r:Int)*4294967296) (x:Int)=((r*4294967296+x:Nat):Int):=by
  have e:((r:Int)*4294967296)=((r*4294967296:Nat):Int):=by simp
  rw [e,u64_or_nat _ _ (by omega) (by omega),nat_join 32 (r*4294967296) x (by omega) (by omega)]
theorem grown_set {w wr:World}{g:Nat}(h:w.grownBy wr (some g))(i:Nat)(u:Value):w.grownBy (wr.setCell ⟨g,i,none⟩ u) (some g):=
  ⟨h.os,h.tape,h.output,by simpa [World.setCell] using h.size,fun k hk hne=>by rw [Below.heap_setCell _ _ _ _ (fun e=>hne (by simp [e]))];exact h.block k hk hne⟩
theorem grown_refl (w:World)(row:Option Nat):w.grownBy w row:=⟨rfl,rfl,rfl,Nat.le_refl _,fun _ _ _=>rfl⟩
set_option maxHeartbeats 1000000 in
theorem shrink_any (g n c:Nat)(cs:List Nat)(w:World)(D:Int)(d:Nat)(hD:D=(d:Int))(hd:0<d)(hdl:d<4294967296)(hm:Mem w g cs)(hs:Small cs)(hn:n≤cs.length)(hn1:n≤1000000000) :
    Calls Tryz.prog 185 #[.slice (some ⟨g,0,none⟩) n c,.int .u32 D] w fun e w'=>(∃ qs:List Nat,∃ r:Nat,e=.returned (.int .u32 (r:Nat))∧qs.length=n∧Small qs∧r<d∧val (cs.take n)=val qs*d+r∧Mem w' g (qs++cs.drop n))∧w.grownBy w' (some g):=by
  subst hD
  have HM:=Lib.hid hm;clear hm
  have hdi:(0:Int)<(d:Int):=by omega
  have hdi1:(1:Int)≤(d:Int):=by omega
  go_enter Tryz.func185,Tryz.ntmps185
  go_wp2
  go_loopw [5,6] (fun rv t wr=>∃(k r:Nat) (qs:List Nat),k≤n∧t=.int .i64 ((k:Int)-1)∧rv=.int .u64 (r:Int)∧r<d∧Hid (qs.length=n-k∧Small qs∧val ((cs.take n).drop k)=val qs*d+r∧Mem wr g (cs.take k++(qs++cs.drop n)))∧w.grownBy wr (some g)) (fun _ t _=>(intOf t+1).toNat)
  case atStart=>exact⟨n,0,[],Nat.le_refl _,rfl,rfl,hd,⟨by simp,(fun x hx=>by cases hx),by simp [val],by simpa using HM.out⟩,grown_refl _ _⟩
  case round=>
    obtain⟨k,r,qs,hk,rfl,rfl,hr,HZ,hgr⟩:=hrel
    by_cases hk0:0<k
    · have hcell:wr.cell? ⟨g,k-1,none⟩=some (.int .u32 (cs.getD (k-1) 0:Nat)):=by
        rw [HZ.out.2.2.2.cell (k-1) (by simp;omega),getD_seam cs _ k hk0 (by omega)]
      have hfree:=HZ.out.2.2.2.free (k-1)
      have hx:=getD_lt cs hs (k-1)
      obtain⟨x,hxe⟩:∃ x,x=cs.getD (k-1) 0:=⟨_,rfl⟩
      rw [←hxe] at hcell hx
      have HXE:=Lib.hid hxe;clear hxe
      have e:((k:Int)-1).toNat=k-1:=by omega
      have hor:=or_limbs r x (by omega) hx
      obtain⟨t,ht⟩:∃ t,t=r*4294967296+x:=⟨_,rfl⟩
      rw [←ht] at hor
      have hroom:=short_room r x d t hd hr hx ht
      have HT:=Lib.hid ht;clear ht
      obtain⟨q,hq⟩:∃ q,q=t / d:=⟨_,rfl⟩
      obtain⟨r',hr'⟩:∃ r',r'=t % d:=⟨_,rfl⟩
      have hr1:r'<d:=by rw [hr'];exact Nat.mod_lt _ hd
      rw [←hq] at hroom
      have hqi:(t:Int) / (d:Int)=(q:Int):=by rw [hq];simp
      have hri:(t:Int) % (d:Int)=(r':Int):=by rw [hr'];simp
      have HQ:Hid (t=q*d+r'):=by rw [hq,hr',Nat.mul_comm];exact(Nat.div_add_mod t d).symm
      clear hq hr'
      go_wp2
      go_roundw
      case rel=>exact⟨k-1,r',q::qs,by omega,by go_num,congrArg (Value.int .u64) hri,hr1,⟨by simp [HZ.out.1];omega,small_cons.2 ⟨hroom,HZ.out.2.1⟩,short_step cs qs k n d r x t q r' hk0 hk hn HZ.out.2.2.1 HXE.out HT.out HQ.out,by
        have:=HZ.out.2.2.2.setI (k-1) _ q rfl
        rw [set_seam cs _ k q hk0 (by omega)] at this
        exact this⟩,grown_set hgr _ _⟩
      case measure=>simp [intOf];omega
    · go_wp2
      go_ret
      obtain rfl:k=0:=by omega
      exact⟨⟨qs,r,rfl,by simpa using HZ.out.1,HZ.out.2.1,hr,by simpa using HZ.out.2.2.1,by simpa using HZ.out.2.2.2⟩,hgr⟩
theorem tail_room (xs:List Nat)(hs:Small xs)(k r:Nat)(hl:xs.length≤2)(hk:0<k)(h:r=val (xs.drop k)):r<4294967296:=by
  have h2:=val_lt (xs.drop k) (fun x hx=>hs x (List.mem_of_mem_drop hx))
  rw [←h,List.length_drop] at h2
  have h3:xs.length-k≤1:=by omega
  have h4:4294967296 ^ (xs.length-k)≤4294967296 ^ 1:=Nat.pow_le_pow_right (by omega) h3
  omega
theorem word_step {xs ys:List Nat}{x t r:Nat}{k:Nat}(h:xs.drop (k-1)=x::ys)(ht:t=r*4294967296+x)(hr:r=val ys):t=val (xs.drop (k-1)):=by
  rw [h,ht,hr];simp only [val];omega
set_option maxHeartbeats 1000000 in
theorem word_any (a:Option Addr)(n c:Nat)(xs:List Nat)(w:World)(hr:Row w a n c xs)(hn:n≤2) :
    Calls Tryz.prog 171 #[.slice a n c] w fun e w'=>e=.returned (.int .u64 (val xs:Nat))∧w=w':=by
  obtain⟨hl,-,-,-,hs,b,off,hor,hc⟩:=hr
  have HL:=Lib.hid hl;clear hl
  have HC:=Lib.hid hc;clear hc
  have HV:Hid (val (xs.drop 0)=val xs):=rfl
  have HE:Hid (∀ k,n≤k→val (xs.drop k)=0):=fun k hk=>by rw [List.drop_eq_nil_of_le (by rw [HL.out];exact hk)];rfl
  rcases(show _∨Hid _ from hor) with rfl | hor
  all_goals
    go_enter Tryz.func171,Tryz.ntmps171
    go_wp2
    go_loop [3,4] (fun v t=>∃(k r:Nat),k≤n∧t=.int .i64 ((k:Int)-1)∧v=.int .u64 (r:Int)∧Hid (r=val (xs.drop k))) (fun _ t=>(intOf t+1).toNat)
    case atStart=>exact⟨n,0,Nat.le_refl _,rfl,rfl,(HE.out n (Nat.le_refl _)).symm⟩
    case round=>
      obtain⟨k,r,hk,rfl,rfl,HZ⟩:=hrel
      by_cases hk0:0<k
      · first
        | (exfalso;have:=hor.out;omega)
        | (have hcell:=(HC.out (k-1) (by omega)).2
           have hx:=getD_lt xs hs (k-1)
           have HR:Hid (r<4294967296):=tail_room xs hs k r (by rw [HL.out];exact hn) hk0 HZ.out
           have HD:Hid (xs.drop (k-1)=xs.getD (k-1) 0::xs.drop k):=drop_pred xs k hk0 (by rw [HL.out];exact hk)
           obtain⟨x,hxe⟩:∃ x,x=xs.getD (k-1) 0:=⟨_,rfl⟩
           rw [←hxe] at hcell hx HD
           have HXE:=Lib.hid hxe;clear hxe
           have e:((k:Int)-1).toNat=k-1:=by omega
           have hrl:=HR.out
           have hor:=or_limbs r x hrl hx
           obtain⟨t,ht⟩:∃ t,t=r*4294967296+x:=⟨_,rfl⟩
           rw [←ht] at hor
           have HT:=Lib.hid ht;clear ht
           go_wp2
           go_round
           case rel=>exact⟨k-1,t,by omega,by go_num,rfl,word_step HD.out HT.out HZ.out⟩
           case measure=>simp [intOf];omega)
      · go_wp2
        go_ret
        obtain rfl:k=0:=by omega
        have hz:r=val xs:=by have:=HZ.out;simpa using this
        exact⟨by subst hz;exact rfl,rfl⟩
end Go.Proofs.YtpnlbjnbgemocaaGreat
/- What split, and divide by one limb, tell. -/
namespace Go.Proofs.YtpnlbjnbgemocaaGreat
set_option linter.unusedVariables false
set_option linter.unusedSimpArgs false
set_option maxRecDepth 100000
open Go.RowKit Nums
theorem mem_alloc (w:World)(cs:List Nat)(vs:Array Value)(h:vs=(cs.map u32).toArray):Mem (w.alloc (.cells vs 120)) w.heap.size cs:=by
  unfold Mem;rw [heap_alloc_new,h]
theorem cut_pair (w:World)(A B:Int)(a b:Nat)(hA:A=(a:Int))(hB:B=(b:Int))(ha:a<4294967296)(hb:b<4294967296) :
    Calls Tryz.prog 140 #[.slice (some ⟨w.heap.size,0,none⟩) 2 2] (w.alloc (.cells #[.int .u32 A,.int .u32 B] 120)) (Num (a+4294967296*b) w):=by
  subst hA;subst hB
  exact num_of_cut (zs:=[a,b]) (mem_alloc w [a,b] _ rfl) (by intro x hx;simp at hx;omega) rfl (by omega) (by simp [val]) ((Below.refl _ _).alloc (Nat.le_refl _) _)
set_option maxHeartbeats 1000000 in
theorem split_any (X:Int)(x:Nat)(w:World)(hX:X=(x:Int))(hx:x<18446744073709551616) :
    Calls Tryz.prog 172 #[.int .u64 X] w (Num x w):=by
  subst hX
  have h1:x / 4294967296<4294967296:=by omega
  obtain⟨lo,hlo⟩:∃ lo,lo=x % 4294967296:=⟨_,rfl⟩
  obtain⟨hi,hhi⟩:∃ hi,hi=x / 4294967296:=⟨_,rfl⟩
  have hloI:(x:Int) % 4294967296=(lo:Int):=by omega
  have hhiI:(x:Int) / 4294967296=(hi:Int):=by omega
  have hl:lo<4294967296:=by omega
  have hh:hi<4294967296:=by omega
  have hs:lo+4294967296*hi=x:=by omega
  have HLO:=Lib.hid hloI;clear hloI hlo
  have HHI:=Lib.hid hhiI;clear hhiI hhi
  have HS:=Lib.hid hs;clear hs
  go_enter Tryz.func172,Tryz.ntmps172
  go_wp2_with fail
  refine(cut_pair w _ _ lo hi HLO.out (by first | exact HHI.out | (rw [HHI.out];omega)) hl hh).mono ?_
  rw [HS.out]
  rintro e w' ⟨a',m,rfl,hm,hrow,hb⟩
  have HM:=Lib.hid hm;clear hm
  have HROW:=Lib.hid hrow;clear hrow
  have HB:=Lib.hid hb;clear hb
  go_wp2
  go_ret
  exact⟨a',m,rfl,HM.out,HROW.out,HB.out⟩
def QR (A B:Nat)(w:World)(e:Ending)(w':World):Prop:=
  ∃ q mq r mr,e=.returned (.tuple #[.slice q mq mq,.slice r mr mr])∧mq=(limbs (A / B)).length∧Row w' q mq mq (limbs (A / B))∧mr=(limbs (A % B)).length∧Row w' r mr mr (limbs (A % B))∧Below w.heap.size w w'
set_option maxHeartbeats 1000000 in
theorem divide_less (a0 a1:Option Addr)(n0 n1:Nat)(A B:Nat)(w:World)(h0:Row w a0 n0 n0 (limbs A))(h1:Row w a1 n1 n1 (limbs B))(hn0:n0≤100000000)(hn1:n1≤100000000)(hlt:A<B) :
    Calls Tryz.prog 169 #[.slice a0 n0 n0,.slice a1 n1 n1] w (QR A B w):=by
  have H0:=Lib.hid h0;clear h0
  have H1:=Lib.hid h1;clear h1
  have HL:=Lib.hid hlt;clear hlt
  go_enter Tryz.func169,Tryz.ntmps169
  go_wp2_with fail
  refine(cmp_lt a0 a1 n0 n0 n1 n1 _ _ w H0.out H1.out (by omega) (by omega) (by rw [val_limbs,val_limbs];exact HL.out)).mono ?_
  rintro e w1 ⟨rfl,hb⟩
  have HB:=Lib.hid hb;clear hb
  go_wp2_with fail
  refine(told_any a0 n0 n0 (limbs A) w1 (row_below (Nat.le_refl _) HB.out H0.out) (by omega)).mono ?_
  rintro e w2 ⟨⟨a',m,rfl,hm,hmn,hrow,-⟩,hb2⟩
  have HB2:=Lib.hid hb2;clear hb2
  have hml:m=(limbs A).length:=by rw [hm,tl_limbs]
  rw [hml,List.take_length] at hrow
  rw [←hml] at hrow
  have HM:=Lib.hid hml;clear hml hm
  have HROW:=Lib.hid hrow;clear hrow
  go_wp2
  go_ret2
  have hq:A / B=0:=Nat.div_eq_of_lt HL.out
  have hr:A % B=A:=Nat.mod_eq_of_lt HL.out
  refine⟨none,0,a',m,rfl, ?_, ?_, ?_, ?_,HB.out.trans (HB2.out.mono HB.out.size)⟩
  · rw [hq,limbs_zero];rfl
  · rw [hq,limbs_zero];exact row_nil _
  · rw [hr];exact HM.out
  · rw [hr];exact HROW.out
theorem quot_rest (A V d r:Nat)(hr:r<d)(h:A=V*d+r):V=A / d∧r=A % d:=by
  have h2:A=d*V+r:=by rw [h,Nat.mul_comm]
  constructor
  · rw [h2,Nat.mul_add_div (by omega),Nat.div_eq_of_lt hr];rfl
  · rw [h2,Nat.mul_add_mod,Nat.mod_eq_of_lt hr]
set_option maxHeartbeats 2000000 in
theorem divide_short (a0 a1:Option Addr)(n0 n1:Nat)(A B:Nat)(w:World)(h0:Row w a0 n0 n0 (limbs A))(h1:Row w a1 n1 n1 (limbs B))(hn0:n0≤100000000)(hn1:n1=1)(hge:B≤A) :
    Calls Tryz.prog 169 #[.slice a0 n0 n0,.slice a1 n1 n1] w (QR A B w):=by
  subst hn1
  have hl1:(limbs B).length=1:=h1.1
  have hl0:(limbs A).length=n0:=h0.1
  have hBv:B=(limbs B).getD 0 0:=by
    have h:=val_limbs B
    match hb:limbs B,hl1 with
    | [b],_=>rw [hb] at h;simp [val] at h;simp [h]
  have hB0:0<B:=by
    rcases Nat.eq_zero_or_pos B with h | h
    · rw [h,limbs_zero] at hl1;simp at hl1
    · exact h
  have hBl:B<4294967296:=by rw [hBv];exact getD_lt _ (small_limbs B) 0
  have HL1:=Lib.hid hl1;clear hl1
  have HL0:=Lib.hid hl0;clear hl0
  obtain⟨-,-,-,-,-,b1,o1,hor1,hc1⟩:=h1
  have hcell:=hc1 0 (by omega)
  rw [←hBv,Nat.add_zero] at hcell
  have HBV:=Lib.hid hBv;clear hBv
  rcases hor1 with rfl | hor1
  case inr=>omega
  have H1:Hid (Row w (some ⟨b1,o1,none⟩) 1 1 (limbs B)):=⟨HL1.out,by omega,by unfold maxLen;omega,by simp,small_limbs B,b1,o1,Or.inl rfl,hc1⟩
  clear hc1
  have HC:=Lib.hid hcell;clear hcell
  have H0:=Lib.hid h0;clear h0
  have HG:=Lib.hid hge;clear hge
  go_enter Tryz.func169,Tryz.ntmps169
  go_wp2_with fail
  refine(cmp_ge a0 _ n0 n0 1 1 _ _ w H0.out H1.out (by omega) (by omega) (by rw [val_limbs,val_limbs];exact HG.out)).mono ?_
  rintro e w1 ⟨⟨r,rfl,hr0⟩,hb⟩
  have HB:=Lib.hid hb;clear hb
  go_wp2_with fail
  refine(told_any a0 n0 n0 (limbs A) w1 (row_below (Nat.le_refl _) HB.out H0.out) (by omega)).mono ?_
  rintro e w2 ⟨⟨a',m,rfl,hm,hmn,hrow,hor⟩,hb2⟩
  have hml:m=(limbs A).length:=by rw [hm,tl_limbs]
  have hmpos:0<m:=by
    rw [hml]
    rcases Nat.eq_zero_or_pos (limbs A).length with h | h
    · have:=length_limbs_zero.1 h;have:=HG.out;omega
    · exact h
  rcases hor with ⟨h,_⟩ | ⟨_,g,rfl,hg,hmem⟩
  · omega
  rw [hml,List.take_length] at hmem
  have HM:=Lib.hid hml;clear hml hm hrow
  have HMEM:=Lib.hid hmem;clear hmem
  have HB2:Hid (Below w.heap.size w w2):=HB.out.trans (hb2.mono HB.out.size)
  have hg:w.heap.size≤g:=Nat.le_trans HB.out.size hg
  clear hb2
  have hcellB:w2.cell? ⟨b1,o1,none⟩=some (.int .u32 (B:Nat)):=by
    rw [HB2.out.cell (p:=⟨b1,o1,none⟩) HC.out.1];exact HC.out.2
  go_wp2_with fail
  refine(shrink_any g m m (limbs A) w2 _ B rfl hB0 hBl HMEM.out (small_limbs A) (by rw [HM.out];exact Nat.le_refl _) (by omega)).mono ?_
  rintro e w3 ⟨⟨qs,r',rfl,hql,hqs,hr',hv,hmem3⟩,hgr⟩
  have hv':A=val qs*B+r':=by
    rw [List.take_of_length_le (by rw [HM.out];exact Nat.le_refl _),val_limbs] at hv;exact hv
  rw [List.drop_eq_nil_of_le (by rw [HM.out];exact Nat.le_refl _),List.append_nil] at hmem3
  have HQR:=Lib.hid (quot_rest A (val qs) B r' hr' hv')
  have HQL:=Lib.hid hql;clear hql
  have HMEM3:=Lib.hid hmem3;clear hmem3
  have hb3:Below w.heap.size w w3:=HB2.out.grown hgr HB2.out.size (by rintro k hk;simp at hk;omega)
  have HB3:=Lib.hid hb3;clear hb3 hgr hv hv' hcellB
  go_wp2_with fail
  refine(num_of_cut (N:=A / B) (w0:=w) (n:=m) HMEM3.out hqs HQL.out (by omega) HQR.out.1 HB3.out).mono ?_
  rintro e w4 ⟨q,mq,rfl,hmq,hrowq,hb4⟩
  have HMQ:=Lib.hid hmq;clear hmq
  have HRQ:=Lib.hid hrowq;clear hrowq
  have HB4:=Lib.hid hb4;clear hb4
  go_wp2_with fail
  refine(split_any _ r' w4 rfl (by omega)).mono ?_
  rintro e w5 ⟨rr,mr,rfl,hmr,hrowr,hb5⟩
  have HMR:=Lib.hid hmr;clear hmr
  have HRR:=Lib.hid hrowr;clear hrowr
  have HB5:=Lib.hid hb5;clear hb5
  go_wp2
  go_ret2
  refine⟨q,mq,rr,mr,rfl,HMQ.out,row_below (Nat.le_refl _) HB5.out HRQ.out, ?_, ?_,HB4.out.trans (HB5.out.mono HB4.out.size)⟩
  · rw [←HQR.out.2];exact HMR.out
  · rw [←HQR.out.2];exact HRR.out
end Go.Proofs.YtpnlbjnbgemocaaGreat
/- What Div and Gcd tell, once it is known what divide tells. -/
namespace Go.Proofs.YtpnlbjnbgemocaaGreat
set_option linter.unusedVariables false
set_option linter.unusedSimpArgs false
set_option maxRecDepth 100000
open Go.RowKit Nums
def QR3 (A B:Nat)(w:World)(e:Ending)(w':World):Prop:=
  ∃ q mq r mr,e=.returned (.tuple #[.slice q mq mq,.slice r mr mr,.int .i64 0])∧mq=(limbs (A / B)).length∧Row w' q mq mq (limbs (A / B))∧mr=(limbs (A % B)).length∧Row w' r mr mr (limbs (A % B))∧Below w.heap.size w w'
def Divides (A B:Nat):Prop:=∀(a0 a1:Option Addr) (n0 n1:Nat) (w:World),Row w a0 n0 n0 (limbs A)→Row w a1 n1 n1 (limbs B)→n0≤100000000→n1≤100000000→Calls Tryz.prog 169 #[.slice a0 n0 n0,.slice a1 n1 n1] w (QR A B w)
set_option maxHeartbeats 1000000 in
theorem div_of (a0 a1:Option Addr)(n0 c0 n1 c1:Nat)(xs ys:List Nat)(w:World)(h0:Row w a0 n0 c0 xs)(h1:Row w a1 n1 c1 ys)(hn0:n0≤100000000)(hn1:n1≤100000000)(hz:0<val ys)(hd:Divides (val xs) (val ys)) :
    Calls Tryz.prog 135 #[.slice a0 n0 c0,.slice a1 n1 c1] w (QR3 (val xs) (val ys) w):=by
  have H0:=Lib.hid h0;clear h0
  have H1:=Lib.hid h1;clear h1
  have HD:=Lib.hid hd;clear hd
  have HP:Hid (0<(limbs (val ys)).length):=by
    rcases Nat.eq_zero_or_pos (limbs (val ys)).length with h | h
    · have:=length_limbs_zero.1 h;exact absurd this (by omega)
    · exact h
  have HZ:=Lib.hid hz;clear hz
  go_enter Tryz.func135,Tryz.ntmps135
  go_wp2_with fail
  refine(cut_num a0 n0 c0 xs w H0.out (by omega)).mono ?_
  rintro e w' ⟨p,mp,rfl,hm0,hmn0,hrow0,-,rfl⟩
  have HR0:=Lib.hid hrow0;clear hrow0 hm0
  go_wp2_with fail
  refine(cut_num a1 n1 c1 ys w H1.out (by omega)).mono ?_
  rintro e w' ⟨q,mq,rfl,hm1,hmn1,hrow1,-,rfl⟩
  have hmq:0<mq:=by rw [hm1];exact HP.out
  have HR1:=Lib.hid hrow1;clear hrow1 hm1
  have hmz:((mq:Int)==0)=false:=by rw [beq_eq_false_iff_ne];omega
  go_wp2_with fail
  refine(HD.out p q mp mq w HR0.out HR1.out (by omega) (by omega)).mono ?_
  rintro e w' ⟨q',mq',r',mr',rfl,h1,h2,h3,h4,h5⟩
  have K1:=Lib.hid h1;clear h1
  have K2:=Lib.hid h2;clear h2
  have K3:=Lib.hid h3;clear h3
  have K4:=Lib.hid h4;clear h4
  have K5:=Lib.hid h5;clear h5
  go_wp2
  go_ret3
  exact⟨q',mq',r',mr',rfl,K1.out,K2.out,K3.out,K4.out,K5.out⟩
theorem word_lt (xs:List Nat)(hs:Small xs)(hl:xs.length≤2):val xs<18446744073709551616:=by
  have h2:=val_lt xs hs
  have h4:4294967296 ^ xs.length≤4294967296 ^ 2:=Nat.pow_le_pow_right (by omega) hl
  omega
set_option maxHeartbeats 2000000 in
theorem gcd_of (M:Nat)(hM:M≤100000000)(a0 a1:Option Addr)(n0 c0 n1 c1:Nat)(xs ys:List Nat)(w:World)(h0:Row w a0 n0 c0 xs)(h1:Row w a1 n1 c1 ys)(hn0:n0≤M)(hn1:n1≤M)
    (hd:∀ A B,0<B→(limbs A).length≤M→(limbs B).length≤M→(2<(limbs A).length∨2<(limbs B).length)→Divides A B) :
    Calls Tryz.prog 132 #[.slice a0 n0 c0,.slice a1 n1 c1] w (Num (Nat.gcd (val xs) (val ys)) w):=by
  have H0:=Lib.hid h0;clear h0
  have H1:=Lib.hid h1;clear h1
  have HD:=Lib.hid hd;clear hd
  go_enter Tryz.func132,Tryz.ntmps132
  go_wp2_with fail
  refine(cut_num a0 n0 c0 xs w H0.out (by omega)).mono ?_
  rintro e w' ⟨p,mp,rfl,hm0,hmn0,hrow0,-,rfl⟩
  have HR0:=Lib.hid hrow0;clear hrow0 hm0
  go_wp2_with fail
  refine(cut_num a1 n1 c1 ys w H1.out (by omega)).mono ?_
  rintro e w' ⟨q,mq,rfl,hm1,hmn1,hrow1,-,rfl⟩
  have HR1:=Lib.hid hrow1;clear hrow1 hm1
  obtain⟨G,hG⟩:∃ G,G=Nat.gcd (val xs) (val ys):=⟨_,rfl⟩
  have HG:=Lib.hid hG;clear hG
  go_wp2
  go_loopg [0,1] (val ys) (fun B u v wr=>∃(A:Nat) (a b:Option Addr) (m n:Nat),u=.slice a m m∧v=.slice b n n∧m≤M∧n≤M∧Hid (Row wr a m m (limbs A)∧Row wr b n n (limbs B)∧G=Nat.gcd A B)∧Below w.heap.size w wr)
  case atStart=>exact⟨val xs,p,q,mp,mq,rfl,rfl,by omega,by omega,⟨HR0.out,HR1.out,HG.out⟩,Below.refl _ _⟩
  case round=>
    obtain⟨A,a,b,m,n,rfl,rfl,hm,hn,HZ,hbr⟩:=hrel
    have HLm:Hid ((limbs A).length=m):=HZ.out.1.1
    have HLn:Hid ((limbs gk).length=n):=HZ.out.2.1.1
    by_cases hn0:0<n
    · have HB0:Hid (0<gk):=by
        rcases Nat.eq_zero_or_pos gk with h | h
        · exfalso;have:=HLn.out;rw [h,limbs_zero] at this;simp at this;omega
        · exact h
      by_cases hlong:2<m∨2<n
      · have HDV:Hid (Divides A gk):=HD.out A gk HB0.out (by rw [HLm.out];exact hm) (by rw [HLn.out];exact hn) (by rw [HLm.out,HLn.out];exact hlong)
        have hcases:2<m∨(m≤2∧2<n):=by omega
        clear hlong
        rcases hcases with h2 | ⟨h2,h3⟩
        all_goals
          go_wp2_with fail
          refine(HDV.out a b m n wr HZ.out.1 HZ.out.2.1 (by omega) (by omega)).mono ?_
          rintro e w' ⟨q',mq',r',mr',rfl,k1,k2,k3,k4,k5⟩
          have K3:=Lib.hid k3;clear k3
          have K4:=Lib.hid k4;clear k4
          have K5:=Lib.hid k5;clear k5 k1 k2
          have hmr:mr'≤M:=by
            have h1:=limbs_len_mono (Nat.le_of_lt (Nat.mod_lt A HB0.out))
            have h2:=HLn.out
            have h3:=K3.out
            omega
          go_wp2
          go_roundg (A % gk)
          case measure=>exact Nat.mod_lt _ HB0.out
          case rel=>exact⟨gk,b,r',n,mr',rfl,rfl,hn,hmr,⟨row_below (Nat.le_refl _) K5.out HZ.out.2.1,K4.out,by rw [HZ.out.2.2,Nat.gcd_comm,Nat.gcd_rec,Nat.gcd_comm]⟩,hbr.trans (K5.out.mono hbr.size)⟩
      · have hm2:m≤2:=by omega
        have hn2:n≤2:=by omega
        clear hlong
        have hnz:((n:Int)==0)=false:=by rw [beq_eq_false_iff_ne];omega
        go_wp2_with fail
        refine(word_any a m m (limbs A) wr HZ.out.1 hm2).mono ?_
        rintro e w' ⟨rfl,rfl⟩
        go_wp2_with fail
        refine(word_any b n n (limbs gk) wr HZ.out.2.1 hn2).mono ?_
        rintro e w' ⟨rfl,rfl⟩
        have HX:Hid (val (limbs A)<18446744073709551616):=word_lt _ (small_limbs A) (by rw [HLm.out];exact hm2)
        have HY:Hid (val (limbs gk)<18446744073709551616):=word_lt _ (small_limbs gk) (by rw [HLn.out];exact hn2)
        have HGG:Hid (G=Nat.gcd (val (limbs A)) (val (limbs gk))):=by rw [val_limbs,val_limbs];exact HZ.out.2.2
        obtain⟨X,hX⟩:∃ X,X=val (limbs A):=⟨_,rfl⟩
        obtain⟨Y,hY⟩:∃ Y,Y=val (limbs gk):=⟨_,rfl⟩
        rw [←hX] at HX HGG ⊢
        rw [←hY] at HY HGG ⊢
        clear hX hY
        obtain⟨wo,rfl⟩:∃ wo:World,wo=wr:=⟨_,rfl⟩
        go_wp2
        go_loopg [7,8] Y (fun y u v wr=>∃ x:Nat,u=.int .u64 (x:Int)∧v=.int .u64 (y:Int)∧Hid (x<18446744073709551616∧y<18446744073709551616∧G=Nat.gcd x y)∧Below w.heap.size w wr)
        case atStart=>exact⟨X,rfl,rfl,⟨HX.out,HY.out,HGG.out⟩,hbr⟩
        case round=>
          obtain⟨x,rfl,rfl,HW,hbw⟩:=hrel
          obtain⟨yv,rfl⟩:∃ y,y=gk:=⟨_,rfl⟩
          by_cases hy0:0<yv
          · have hy1:(1:Int)≤(yv:Int):=by omega
            go_wp2
            go_quiet (fail)
            go_wp2
            go_roundg (x % yv)
            case measure=>exact Nat.mod_lt _ hy0
            case rel=>exact⟨yv,rfl,congrArg (Value.int .u64) (by simp),⟨HW.out.2.1,Nat.lt_trans (Nat.mod_lt _ hy0) HW.out.2.1,by rw [HW.out.2.2,Nat.gcd_comm,Nat.gcd_rec,Nat.gcd_comm]⟩,below_drewN hbw _⟩
          · obtain rfl:yv=0:=by omega
            have HGX:Hid (G=x):=by have:=HW.out.2.2;rw [Nat.gcd_zero_right] at this;exact this
            have HX1:=Lib.hid HW.out.1
            go_wp2_with fail
            refine(split_any _ x wr rfl HX1.out).mono ?_
            rintro e w' ⟨a',m',rfl,hm',hrow,hb⟩
            have HM:=Lib.hid hm';clear hm'
            have HROW:=Lib.hid hrow;clear hrow
            have HB:=Lib.hid hb;clear hb
            go_wp2
            go_ret
            rw [←HG.out,HGX.out]
            exact⟨a',m',rfl,HM.out,HROW.out,hbw.trans (HB.out.mono hbw.size)⟩
    · obtain rfl:n=0:=by omega
      have hG0:gk=0:=length_limbs_zero.1 HLn.out
      have HGA:Hid (G=A):=by have:=HZ.out.2.2;rw [hG0,Nat.gcd_zero_right] at this;exact this
      clear hG0
      go_wp2_with fail
      refine(told_any a m m (limbs A) wr HZ.out.1 (by omega)).mono ?_
      rintro e w' ⟨⟨a',m',rfl,hm',hmn',hrow,-⟩,hb2⟩
      have hml:m'=(limbs A).length:=by rw [hm',tl_limbs]
      rw [hml,List.take_length] at hrow
      rw [←hml] at hrow
      have HM:=Lib.hid hml;clear hml hm'
      have HROW:=Lib.hid hrow;clear hrow
      have HB2:=Lib.hid hb2;clear hb2
      go_wp2
      go_ret
      rw [←HG.out,HGA.out]
      exact⟨a',m',rfl,HM.out,HROW.out,hbr.trans (HB2.out.mono hbr.size)⟩
end Go.Proofs.YtpnlbjnbgemocaaGreat
/- What follow tells: ten times a number that the call owns, and a digit. -/
namespace Go.Proofs.YtpnlbjnbgemocaaGreat
set_option linter.unusedVariables false
set_option linter.unusedSimpArgs false
set_option maxRecDepth 100000
open Go.RowKit Nums
def OwnU (w:World)(B:Nat)(v:Value)(cs:List Nat):Prop:=w.ownsRow B 120 1 v cs.length (cs.map u32)
theorem cell_own {w:World}{B g n cap:Nat}{cs:List Nat}(h:w.ownsRow B 120 1 (.slice (some ⟨g,0,none⟩) n cap) n (cs.map u32))(j:Nat)(hj:j<n):w.cell? ⟨g,j,none⟩=some (.int .u32 (cs.getD j 0:Nat)):=by
  have hl:(cs.map u32).length=n:=by have:=h.1;simpa using this
  rw [h.cellAt j (by omega)]
  have:j<cs.length:=by simp at hl;omega
  simp [this,u32]
end Go.Proofs.YtpnlbjnbgemocaaGreat
/- What Parse tells, of any text: the number of its digits, or which error. -/
namespace Go.Proofs.YtpnlbjnbgemocaaGreat
set_option linter.unusedVariables false
set_option linter.unusedSimpArgs false
set_option maxRecDepth 100000
open Go.RowKit Nums
theorem row_own {w:World}{B g n cap:Nat}{cs:List Nat}(h:w.ownsRow B 120 1 (.slice (some ⟨g,0,none⟩) n cap) n (cs.map u32))(hs:Small cs):Row w (some ⟨g,0,none⟩) n cap cs:=by
  have hl:cs.length=n:=by have:=h.1;simpa using this
  have hg:=(h.lt g rfl).2
  rcases h.2 with ⟨h',_⟩ | ⟨g',cap',cur,h',_,hgg,hnc,hcm,_⟩
  · simp at h'
  · simp only [Value.slice.injEq,Option.some.injEq,Addr.mk.injEq,and_true,true_and] at h'
    obtain⟨rfl,rfl⟩:=h'
    exact⟨hl,hnc,hcm,by simp,hs,g,0,Or.inl rfl,fun i hi=>⟨hg,by rw [Nat.zero_add];exact cell_own h i hi⟩⟩
end Go.Proofs.YtpnlbjnbgemocaaGreat
/- What slices.Reverse tells of a row of bytes that the call owns: the row turned round. -/
namespace Go.Proofs.YtpnlbjnbgemocaaGreat
set_option linter.unusedVariables false
set_option linter.unusedSimpArgs false
set_option maxRecDepth 100000
open Go.RowKit Nums
def b8 (c:UInt8):Value:=.int .u8 (c.toNat:Int)
end Go.Proofs.YtpnlbjnbgemocaaGreat
/- What Print tells, of any row: its number in radix 10. Condition: rows of at most 10^6 numbers. -/
namespace Go.Proofs.YtpnlbjnbgemocaaGreat
set_option linter.unusedVariables false
set_option linter.unusedSimpArgs false
set_option maxRecDepth 100000
open Go.RowKit Nums
end Go.Proofs.YtpnlbjnbgemocaaGreat
