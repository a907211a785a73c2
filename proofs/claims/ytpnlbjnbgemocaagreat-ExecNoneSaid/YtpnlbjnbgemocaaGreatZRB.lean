import Derived.Test.YtpnlbjnbgemocaaGreatZRA
import Derived.Test.YtpnlbjnbgemocaaGreatZND
import Derived.Lib.ItoaNum
import Derived.Laws.AppendOwnNone
namespace Go.Proofs.YtpnlbjnbgemocaaGreat
set_option linter.unusedVariables false
set_option linter.unusedSimpArgs false
set_option maxRecDepth 100000
open Go.RowKit Nums
theorem append_copy {w0:World}{ops:Array Oper}{rest:List Oper}{o:Oper}{a:Act}{Q:Exit→Act→World→Prop}(hgd:o.guard=none)(s x:Operand)
    (ho:o.op=.call { callee:=.builtin .append,args:=#[s,x],argTypes:=#[42,42] }) (b off k c:Nat) (xs:List Nat) (hs:a.eval s=.slice (some ⟨w0.heap.size,0,none⟩) 0 0) (hx:a.eval x=.slice (some ⟨b,off,none⟩) k c)
    (hcells:∀ i,i<k→b<w0.heap.size∧w0.cell? ⟨b,off+i,none⟩=some (.int .u32 (xs.getD i 0:Nat))) (hk:k≤xs.length) (hn:k≤1000000000)
    (hK:∀ v' w',OwnU w' w0.heap.size v' (xs.take k)→Below w0.heap.size w0 w'→wpList Tryz.prog ops Q rest (a.put o.dst v') w') :
    wpList Tryz.prog ops Q (o::rest) a (w0.alloc (.cells #[] 120)):=by
  obtain⟨i0,hi,hz0,hz1,hz2⟩:=info_parts Tryz.info120
  have hown:(w0.alloc (.cells #[] 120)).ownsRow w0.heap.size 120 1 (.slice (some ⟨w0.heap.size,0,none⟩) 0 0) 0 []:=World.ownsRow_lit (base:=w0.heap.size) (e:=120) (size:=1) w0 #[] 0 (Nat.le_refl _) (Nat.zero_le _) (by simp)
  have hl:(xs.take k).length=k:=by simp;omega
  refine wpList_append_own (w0.alloc (.cells #[] 120)) hgd s x 42 ho w0.heap.size 120 i0 (.int .u32 0) 1 4 Tryz.underlying42 hi hz0 hz1 hz2 rfl (by decide) _ 0 [] hs hown ⟨b,off,none⟩ k c ((xs.take k).map u32) hx ?_ ?_ ?_ ?_ ?_ ?_ ?_
  · simp;omega
  · intro j u hj
    have hjk:j<k:=by
      have:=(List.getElem?_eq_some_iff.1 hj).1
      simp at this;omega
    have e:(⟨b,off,none⟩:Addr).add j=⟨b,off+j,none⟩:=by unfold Addr.add;split <;> simp_all
    have hjx:j<xs.length:=by omega
    have h2:=(Below.refl w0.heap.size w0).alloc (Nat.le_refl _) (.cells #[] 120)
    rw [e,h2.cell (p:=⟨b,off+j,none⟩) (hcells j hjk).1,(hcells j hjk).2,←hj]
    simp [List.getElem?_take,hjk,hjx,u32]
  · intro u hu;obtain⟨y,_,rfl⟩:=List.mem_map.1 hu;rfl
  · unfold maxLen;omega
  · omega
  · simp
  · intro v' w' h1 h2 _
    refine hK v' w' ?_ ?_
    · unfold OwnU;rw [hl];simpa using h1
    · exact((Below.refl _ w0).alloc (Nat.le_refl _) _).grown h2 (by simp) (fun k hk=>by simp [Value.ownBlock] at hk;omega)
theorem numC_own {w0 w:World}{v:Value}{cs:List Nat}{N:Nat}(h:OwnU w w0.heap.size v cs)(he:cs=limbs N)(hb:Below w0.heap.size w0 w):NumC N w0 (.returned v) w:=by
  have hs:Small cs:=by rw [he];exact small_limbs N
  obtain⟨a,c,rfl,hr⟩:=row_ownv h hs
  rw [he] at hr ⊢
  exact⟨a,_,c,rfl,rfl,hr,hb⟩
theorem numC_zero {w0:World}{N:Nat}(h:N=0):NumC N w0 (.returned (.slice (some ⟨w0.heap.size,0,none⟩) 0 0)) (w0.alloc (.cells #[] 120)):=by
  subst h
  refine⟨some ⟨w0.heap.size,0,none⟩,0,0,rfl,by rw [limbs_zero];rfl, ?_,(Below.refl _ _).alloc (Nat.le_refl _) _⟩
  rw [limbs_zero]
  exact⟨rfl,Nat.le_refl _,Nat.zero_le _,by simp,(fun x hx=>by cases hx),0,0,Or.inr (Nat.le_refl _),fun i hi=>by omega⟩
set_option maxHeartbeats 2000000 in
theorem rtrim_any (a:Option Addr)(n c:Nat)(xs:List Nat)(w:World)(hr:Row w a n c xs)(hn:n≤100000000) :
    Calls Tryz.prog 92 #[.slice a n c] w (NumC (val xs) w):=by
  have hr0:=hr
  obtain⟨hl,hnc,hcm,hnone,hsm,b,off,hor,hc⟩:=hr
  have HR:=Lib.hid hr0;clear hr0
  have H1:=Lib.hid hl;clear hl
  have hK:∀ k:Nat,k≤n→(∀ i,k≤i→xs.getD i 0=0)→(k=0∨xs.getD (k-1) 0≠0)→k=tl xs:=fun k h1 h2 h3=>(tl_unique xs k (by rw [H1.out];exact h1) h2 h3).symm
  have hZ:∀ i,n≤i→xs.getD i 0=0:=fun i hi=>getD_ge xs i (by rw [H1.out];exact hi)
  have HK:=Lib.hid hK;clear hK
  have HZ:=Lib.hid hZ;clear hZ
  have HC:=Lib.hid hc;clear hc
  have HN:=Lib.hid hnone;clear hnone
  unfold maxLen at hcm
  rcases(show _∨Hid _ from hor) with rfl | hor
  all_goals
    go_enter Tryz.func92,Tryz.ntmps92
    go_wp2
    go_loop [3] (fun t=>∃ k:Nat,k≤n∧t=.int .i64 k∧Hid (∀ i,k≤i→xs.getD i 0=0)) (fun t=>(intOf t).toNat)
    case atStart=>exact⟨n,Nat.le_refl _,rfl,HZ⟩
    case round=>
      obtain⟨k,hk,rfl,hz⟩:=hrel
      by_cases hk0:0<k
      · first
        | (exfalso;have:=hor.out;omega)
        | (have hcell:=(HC.out (k-1) (by omega)).2
           have e:((k:Int)-1).toNat=k-1:=by omega
           obtain⟨x,hxe⟩:∃ x,x=xs.getD (k-1) 0:=⟨_,rfl⟩
           rw [←hxe] at hcell
           have HX:=Lib.hid hxe;clear hxe
           by_cases hx:x=0
           · have hx':((x:Int)==0)=true:=by rw [beq_iff_eq];omega
             have HXZ:=Lib.hid hx;clear hx
             go_wp2
             go_round
             case rel=>exact⟨k-1,by omega,by go_num,fun i hi=>if h:i=k-1 then by rw [h,←HX.out];exact HXZ.out else hz.out i (by omega)⟩
             case measure=>simp [intOf];omega
           · have hx':((x:Int)==0)=false:=by rw [beq_eq_false_iff_ne];omega
             have HXZ:=Lib.hid hx;clear hx
             have HE:Hid (k=tl xs):=HK.out k hk hz.out (Or.inr (by rw [←HX.out];exact HXZ.out))
             have HLX:Hid (xs.take k=limbs (val xs)):=by rw [HE.out];exact limbs_take xs hsm
             have HKL:Hid (k≤xs.length):=by rw [H1.out];exact hk
             go_wp2_with (at_builtin;refine append_copy rfl _ _ rfl b off k c xs rfl rfl (fun i hi=>HC.out i (by omega)) HKL.out (by omega) ?_)
             intro v' w' hown hb
             have HOW:=Lib.hid hown;clear hown
             go_wp2
             go_ret
             exact numC_own HOW.out HLX.out hb)
      · obtain rfl:k=0:=by omega
        have HE:Hid (val xs=0):=(val_zero_tl xs).2 (HK.out 0 hk hz.out (Or.inl rfl)).symm
        first
        | (rcases a with _ | x
           · have hc0:c=0:=HN.out rfl
             subst hc0
             go_wp2
             go_ret
             exact numC_zero HE.out
           · go_wp2
             go_ret
             exact numC_zero HE.out)
        | (go_wp2
           go_ret
           exact numC_zero HE.out)
end Go.Proofs.YtpnlbjnbgemocaaGreat
/- What the document's answer's Add, Sub, Cmp, Bits tell. -/
namespace Go.Proofs.YtpnlbjnbgemocaaGreat
set_option linter.unusedVariables false
set_option linter.unusedSimpArgs false
set_option maxRecDepth 100000
open Go.RowKit Nums
theorem bits_le {w:World}{a:Option Addr}{n c:Nat}{xs:List Nat}(h:Row w a n c xs):(bitsOf (val xs)).length≤32*n:=by
  apply bits_len
  have:=val_lt xs h.2.2.2.2.1
  rw [h.1,pow32] at this
  exact this
theorem bits_mono {a b:Nat}(h:a≤b):(bitsOf a).length≤(bitsOf b).length:=by
  apply bits_len
  have h1:=bval_lt (bitsOf b)
  rw [bval_bits] at h1
  omega
theorem bits_add {a b k:Nat}(ha:(bitsOf a).length≤k)(hb:(bitsOf b).length≤k):(bitsOf (a+b)).length≤k+1:=by
  apply bits_len
  have h1:=bval_lt (bitsOf a)
  have h2:=bval_lt (bitsOf b)
  rw [bval_bits] at h1 h2
  have h3:=Nat.pow_le_pow_right (n:=2) (by omega) ha
  have h4:=Nat.pow_le_pow_right (n:=2) (by omega) hb
  rw [Nat.pow_succ]
  omega
end Go.Proofs.YtpnlbjnbgemocaaGreat
/- What the document's answer's Mul tells; what Bits tells. -/
namespace Go.Proofs.YtpnlbjnbgemocaaGreat
set_option linter.unusedVariables false
set_option linter.unusedSimpArgs false
set_option maxRecDepth 100000
open Go.RowKit Nums
theorem bval_drop (ys:List Bool)(k:Nat)(hk:0<k)(hl:k≤ys.length):bval (ys.drop (k-1))=bnum (ys.getD (k-1) false)+2*bval (ys.drop k):=by
  obtain⟨j,rfl⟩:∃ j,k=j+1:=⟨k-1,by omega⟩
  have h1:j<ys.length:=by omega
  simp only [Nat.add_sub_cancel]
  rw [List.drop_eq_getElem_cons h1]
  simp only [bval]
  simp [h1]
theorem len_bits32 (x:Nat)(h0:0<x)(hx:x<4294967296):1≤Lib.bitLen x∧Lib.bitLen x≤32∧2 ^ (Lib.bitLen x-1)≤x∧x<2 ^ Lib.bitLen x:=by
  have h:=Lib.bitLenAux_bounds 64 x (by omega) (by omega)
  have h2:=Lib.bitLen_le x 32 (by omega) hx
  exact⟨h.1,h2,h.2.1,h.2.2⟩
theorem bits_top (N m y:Nat)(hl:(limbs N).length=m+1)(hy:y=(limbs N).getD m 0)(hy0:0<y):(bitsOf N).length=m*32+Lib.bitLen y:=by
  have hyl:y<4294967296:=by rw [hy];exact getD_lt _ (small_limbs N) m
  obtain⟨h1,h2,h3,h4⟩:=len_bits32 y hy0 hyl
  have e:=val_take_succ (limbs N) m (by omega)
  rw [List.take_of_length_le (by omega),←hy,val_limbs] at e
  have hlow:=val_lt ((limbs N).take m) (small_take (small_limbs N) m)
  rw [List.length_take,Nat.min_eq_left (by omega)] at hlow
  rw [pow32] at e hlow
  have hup:N<2 ^ (m*32+Lib.bitLen y):=by
    have h5:2 ^ (32*m)*(y+1)≤2 ^ (32*m)*2 ^ Lib.bitLen y:=Nat.mul_le_mul_left _ h4
    rw [←Nat.pow_add,Nat.mul_add] at h5
    rw [show m*32+Lib.bitLen y=32*m+Lib.bitLen y by omega]
    omega
  have hlo:2 ^ (m*32+Lib.bitLen y-1)≤N:=by
    have h5:2 ^ (32*m)*2 ^ (Lib.bitLen y-1)≤2 ^ (32*m)*y:=Nat.mul_le_mul_left _ h3
    rw [←Nat.pow_add] at h5
    rw [show m*32+Lib.bitLen y-1=32*m+(Lib.bitLen y-1) by omega]
    omega
  have h6:=bits_len N _ hup
  have h7:=bval_lt (bitsOf N)
  rw [bval_bits] at h7
  have h8:2 ^ (m*32+Lib.bitLen y-1)<2 ^ (bitsOf N).length:=by omega
  have h9:=(Nat.pow_lt_pow_iff_right (a:=2) (by omega)).1 h8
  omega
set_option maxHeartbeats 1000000 in
theorem bits_any (a:Option Addr)(n c:Nat)(xs:List Nat)(w:World)(h0:Row w a n c xs)(hn:n≤100000000) :
    Calls Tryz.prog 131 #[.slice a n c] w fun e w'=>e=.returned (.int .i64 ((bitsOf (val xs)).length:Nat))∧w=w':=by
  have H0:=Lib.hid h0;clear h0
  go_enter Tryz.func131,Tryz.ntmps131
  go_wp2_with fail
  refine(cut_num a n c xs w H0.out (by omega)).mono ?_
  rintro e w' ⟨p,mp,rfl,hm0,hmn0,hrow0,-,rfl⟩
  obtain⟨N,hN⟩:∃ N,N=val xs:=⟨_,rfl⟩
  rw [←hN] at hm0 hrow0
  have HN:=Lib.hid hN;clear hN
  have HL:=Lib.hid hm0;clear hm0
  rcases(by omega:mp=0∨0<mp) with rfl | hpos
  · have HZ:Hid ((bitsOf N).length=0):=by rw [length_limbs_zero.1 HL.out.symm,bits_zero];exact rfl
    go_wp2
    go_ret
    exact⟨by rw [←HN.out,HZ.out];exact rfl,rfl⟩
  · obtain⟨m,rfl⟩:∃ m,mp=m+1:=⟨mp-1,by omega⟩
    obtain⟨-,-,-,-,-,b0,o0,hor0,hc0⟩:=hrow0
    rcases hor0 with rfl | hor0
    case inr=>omega
    have hcell:=(hc0 m (by omega)).2
    clear hc0
    have hyl:=getD_lt (limbs N) (small_limbs N) m
    have hy0:(limbs N).getD m 0≠0:=by
      intro h
      have e:=val_take_succ (limbs N) m (by rw [←HL.out];omega)
      rw [h,List.take_of_length_le (by rw [←HL.out];exact Nat.le_refl _),val_limbs] at e
      have h2:=val_lt ((limbs N).take m) (small_take (small_limbs N) _)
      rw [List.length_take,Nat.min_eq_left (by rw [←HL.out];omega)] at h2
      have h3:=limbs_len N m (by omega)
      have:=HL.out
      omega
    obtain⟨y,hy⟩:∃ y,y=(limbs N).getD m 0:=⟨_,rfl⟩
    rw [←hy] at hcell hyl hy0
    have HT:=Lib.hid (bits_top N m y HL.out.symm hy (by omega))
    clear hy
    have hbl:Lib.bitLen y≤32:=(len_bits32 y (by omega) hyl).2.1
    obtain⟨t,ht⟩:∃ t,t=Lib.bitLen y:=⟨_,rfl⟩
    rw [←ht] at hbl HT
    have hmz:(((m:Int)+1)==0)=false:=by rw [beq_eq_false_iff_ne];omega
    have HLEN:Hid (∀ wx,Calls Tryz.prog 168 #[.int .u32 (y:Int)] wx fun e w'=>e=.returned (.int .i64 (t:Int))∧wx=w'):=by
      intro wx
      refine(Tryz.bits_Len32 (y:Int) wx (by omega) (by omega)).mono ?_
      rintro e w' ⟨rfl,rfl⟩
      exact⟨by rw [Int.toNat_natCast,ht],rfl⟩
    clear ht hy0
    go_wp2_with fail
    refine(HLEN.out _).mono ?_
    rintro e w' ⟨rfl,rfl⟩
    go_wp2
    go_ret
    refine⟨congrArg Ending.returned (congrArg (Value.int .i64) ?_),rfl⟩
    rw [←HN.out,HT.out]
    show((m:Int)*32+(t:Int))=_
    omega
end Go.Proofs.YtpnlbjnbgemocaaGreat
/- The calls of the document's answer in the words of the numbers that they are handed. -/
namespace Go.Proofs.YtpnlbjnbgemocaaGreat
set_option linter.unusedVariables false
set_option linter.unusedSimpArgs false
set_option maxRecDepth 100000
open Go.RowKit Nums
section
variable {w:World} {a b:Option Addr} {n c m d:Nat} {xs ys:List Nat} {X Y N k:Nat}
def NumCK (k N:Nat)(w:World)(e:Ending)(w':World):Prop:=∃ a' m c,e=.returned (.slice a' m c)∧m≤k∧Row w' a' m c (limbs N)∧Below w.heap.size w w'
theorem numCK {e:Ending}{w':World}(h:NumC N w e w')(hk:(limbs N).length≤k):NumCK k N w e w':=by
  obtain⟨a',m,c,h1,h2,h3,h4⟩:=h
  exact⟨a',m,c,h1,by omega,h3,h4⟩
theorem rtrimN (k N:Nat)(h0:Row w a n c xs)(hn:n≤100)(hN:val xs=N)(hk:(limbs N).length≤k):Calls Tryz.prog 92 #[.slice a n c] w (NumCK k N w):=by
  subst hN
  exact(rtrim_any a n c xs w h0 (by omega)).mono fun e w' h=>numCK h hk
theorem bitsN (T:Nat)(h0:Row w a n c xs)(hn:n≤100)(hT:(bitsOf (val xs)).length=T):Calls Tryz.prog 131 #[.slice a n c] w fun e w'=>e=.returned (.int .i64 (T:Int))∧Below w.heap.size w w':=by
  subst hT
  exact(bits_any a n c xs w h0 (by omega)).mono fun e w' ⟨h1,h2⟩=>⟨h1,by subst h2;exact Below.refl _ _⟩
end
end Go.Proofs.YtpnlbjnbgemocaaGreat
