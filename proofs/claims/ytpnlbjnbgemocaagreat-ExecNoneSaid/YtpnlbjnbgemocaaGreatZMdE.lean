import Derived.Test.YtpnlbjnbgemocaaGreatZMdD
import Derived.Deep.RegionHeld3
import Derived.Deep.DeepCutAuto
namespace Go.Proofs.YtpnlbjnbgemocaaGreat
set_option linter.unusedVariables false
set_option linter.unusedSimpArgs false
set_option maxRecDepth 100000
open Go.RowKit
theorem appendZ {w:World}{ops:Array Oper}{rest:List Oper}{o:Oper}{a:Act}{Q:Exit→Act→World→Prop}{cs:Array Value}(hgd:o.guard=none)(s x:Operand)
    (hop:o.op=.call { callee:=.builtin .append,args:=#[s,x],argTypes:=#[23,23] })
    (B:Nat) (v:Value) (xs:List InsM) (X:InsM) (T:TypeId) (H:Nat) (hs:a.eval s=v) (hx:a.eval x=.slice (some ⟨H,0,none⟩) 1 1) (hH:w.heap.size=H) (hcs:X.cs.toArray=cs) (hown:OwnS w B v xs) (hB:B≤H) (hl:xs.length≤100000000)
    (hK:∀ v' w',OwnS w' B v' (xs++[X])→Only [v.ownBlock] w w'→(v'.ownBlock=v.ownBlock∨∃ k,v'.ownBlock=some k∧H≤k)→wpList Tryz.prog ops Q rest (a.put o.dst v') w') :
    wpList Tryz.prog ops Q (o::rest) a (w.alloc (.cells cs T)):=by
  subst hcs
  exact appendX hgd s x hop B v xs X T H hs hx hH hown hB hl hK
theorem flatMap_take {α β:Type}{l:List α}{g:α→List β}{k:Nat}{x:α}(h:l[k]?=some x):(l.take (k+1)).flatMap g=(l.take k).flatMap g++g x:=by rw [take_snoc h,List.flatMap_append];simp
set_option maxHeartbeats 8000000 in
theorem deriv15_t (B:Nat)(v:FlatV)(f:FlatM)(A A2:Option Addr)(m c n c2:Nat)(S:Int)(ss:List Int)(w:World)(hf:FlatIs w B v f)(hr:IRow w B A2 n c2 ss)(hB:B≤w.heap.size)(hg:goodB f=true)(hs:SmallF f)(hn:f.names.length=n) :
    Calls Tryz.prog 70 #[flatV v,.agg #[.slice A m c,.slice A2 n c2,.int .i64 S]] w (BodyPost B (derivL f ss) w):=by
  obtain⟨⟨i1,i2,i3⟩,⟨nm1,nm2,nm3⟩,⟨o1,o2,o3⟩,⟨e1,e2,e3⟩,⟨m1,m2,m3⟩,⟨c1,cn,c3⟩,⟨x1,x2,x3⟩,⟨g1,g2,g3⟩⟩:=v
  obtain⟨W1,hW1⟩:∃ W1,W1=(w.alloc (.cells #[.slice i1 i2 i3,.slice nm1 nm2 nm3,.slice o1 o2 o3,.slice e1 e2 e3,.slice m1 m2 m3,.slice c1 cn c3,.slice x1 x2 x3,.slice g1 g2 g3] 83)).alloc (.cells #[.slice A m c,.slice A2 n c2,.int .i64 S] 86):=⟨_,rfl⟩
  obtain⟨hk1,hk2,hs1,hb1⟩:=two_new hW1
  have HKF:=Lib.hid (show Blk W1 w.heap.size 83 #[.slice i1 i2 i3,.slice nm1 nm2 nm3,.slice o1 o2 o3,.slice e1 e2 e3,.slice m1 m2 m3,.slice c1 cn c3,.slice x1 x2 x3,.slice g1 g2 g3] from hk1)
  have HKP:=Lib.hid (show Blk W1 (w.heap.size+1) 86 #[.slice A m c,.slice A2 n c2,.int .i64 S] from hk2)
  have HB1:=Lib.hid hb1
  have HS1:=Lib.hid hs1
  have HBB:=Lib.hid hB
  have HBS:Hid (B≤W1.heap.size):=Lib.hid (Nat.le_trans hB hb1.size)
  have HF:=Lib.hid (fun W (hb:Below W1.heap.size W1 W)=>hf.below ((hb1.trans (hb.mono hb1.size)).mono hB))
  have HR:=Lib.hid (fun W (hb:Below W1.heap.size W1 W)=>hr.below ((hb1.trans (hb.mono hb1.size)).mono hB))
  have HBW:=Lib.hid (fun W (hb:Below W1.heap.size W1 W)=>Nat.le_trans hB (hb1.trans (hb.mono hb1.size)).size)
  have HGD:=Lib.hid hg
  have HSM:=Lib.hid hs
  have HNM:=Lib.hid hn
  have hme:=hf.eqs.len_le
  have hmm:=hf.mems.len_le
  have hmc:=hf.conts.len_le
  have hmu:=hf.outs.len_le
  have hma:=hf.again.len_le
  unfold maxLen at hme hmm hmc hmu hma
  simp only at hme hmm hmc hmu hma
  have HEE:Hid (f.eqs.length=e2):=Lib.hid hf.eqs.1
  have HMM:Hid (f.mems.length=m2):=Lib.hid hf.mems.1
  have HCC:Hid (f.conts.length=cn):=Lib.hid hf.conts.1
  have HUU:Hid (f.outs.length=o2):=Lib.hid hf.outs.1
  have HAA:Hid (f.again.length=g2):=Lib.hid hf.again.1
  clear hf hr hB hg hs hn hk1 hk2 hs1 hb1
  have HPB:Hid (∀ W,Below W1.heap.size W1 W→(W.cell? ⟨w.heap.size,0,none⟩=some (.slice i1 i2 i3)∧W.cell? ⟨w.heap.size,1,none⟩=some (.slice nm1 nm2 nm3)∧W.cell? ⟨w.heap.size,2,none⟩=some (.slice o1 o2 o3)∧W.cell? ⟨w.heap.size,3,none⟩=some (.slice e1 e2 e3)∧W.cell? ⟨w.heap.size,4,none⟩=some (.slice m1 m2 m3)∧W.cell? ⟨w.heap.size,5,none⟩=some (.slice c1 cn c3)∧W.cell? ⟨w.heap.size,6,none⟩=some (.slice x1 x2 x3)∧W.cell? ⟨w.heap.size,7,none⟩=some (.slice g1 g2 g3))∧W.cell? ⟨w.heap.size+1,0,none⟩=some (.slice A m c)∧W.cell? ⟨w.heap.size+1,1,none⟩=some (.slice A2 n c2)∧W.cell? ⟨w.heap.size+1,2,none⟩=some (.int .i64 S)):=Lib.hid fun W hb=>by
    have h1:=HKF.out.later hb
    have h2:=HKP.out.later hb
    exact⟨⟨h1.cell 0 rfl,h1.cell 1 rfl,h1.cell 2 rfl,h1.cell 3 rfl,h1.cell 4 rfl,h1.cell 5 rfl,h1.cell 6 rfl,h1.cell 7 rfl⟩,h2.cell 0 rfl,h2.cell 1 rfl,h2.cell 2 rfl⟩
  have HGM:=Lib.hid (mem_fine HGD.out HNM.out HSM.out)
  have HGC:=Lib.hid (cont_fine HGD.out HNM.out HSM.out)
  have HGO:=Lib.hid (outs_fine HGD.out HNM.out).1
  have HGA:=Lib.hid (outs_fine HGD.out HNM.out).2
  unfold flatV sl3
  go_enter Tryz.func70,Tryz.ntmps70
  go_upto_region 1 with fail
  rw [←hW1]
  clear hW1
  go_wp2_with fail
  go_loopw [5,6] (fun u t wr=>∃(k:Nat) (xs:List InsM) (a3:Option Addr) (n3 c3:Nat),k≤cn∧u=.slice a3 n3 c3∧t=.int .i64 k∧Hid (OwnS wr W1.heap.size (.slice a3 n3 c3) xs)∧Hid (InsL (PartN B w.heap.size wr (.slice a3 n3 c3)) wr xs ((f.conts.take k).mapIdx (slopeI ss)))∧Hid (Below W1.heap.size W1 wr)) (fun _ t _=>cn-(intOf t).toNat)
  case atStart=>exact⟨0,[],none,0,0,Nat.zero_le _,rfl,rfl,Lib.hid (OwnS.nil _ _),Lib.hid (InsL.nil _ _),Lib.hid (Below.refl _ _)⟩
  case round =>
    obtain⟨k,xs,a3,n3,c3',hk,rfl,rfl,HXO,HXL,HB⟩:=hrel
    obtain⟨⟨f0,f1,f2,f3,f4,f5,f6,f7⟩,p0,p1,p2⟩:=HPB.out _ HB.out
    by_cases hlt:k<cn
    · obtain ⟨x, hx⟩ := (HF.out _ HB.out).conts.ex hlt
      obtain⟨b,off,hab,hbb,hat⟩:=(HF.out _ HB.out).conts.at_ hx
      obtain⟨d1,d2,r,⟨s1,s2,s3⟩,_,_,hrr,hrs,y0,y1,y2,y3,y4,y5,y6,y7,y8⟩:=hat.cells
      obtain⟨_,hz3,hz4,hz5,hz6⟩:=HGC.out k x hx
      dsimp only at hab hrs y8
      subst hab
      have hbl:b<wr.heap.size:=Nat.lt_of_lt_of_le hbb (HBW.out _ HB.out)
      have hkI:(k:Int)<(cn:Int):=by omega
      have HLEN:Hid (xs.length≤100000000):=Lib.hid (HXL.out.le (by
        have h4:=HSM.out.conts
        simp only [List.length_mapIdx,List.length_take]
        omega))
      have HMT:=Lib.hid (mapIdx_take (g:=slopeI ss) hx)
      obtain⟨wo,rfl⟩:∃ wo:World,wo=wr:=⟨_,rfl⟩
      obtain⟨W3,hW3⟩:∃ W3,W3=wo.alloc (.cells (contvs x d1 d2 r (s1,s2,s3)) 140):=⟨_,rfl⟩
      have hb3:Below wo.heap.size wo W3:=by rw [hW3];exact(Below.refl _ _).alloc (Nat.le_refl _) _
      have HK3:=Lib.hid (show Blk W3 wo.heap.size 140 (contvs x d1 d2 r (s1,s2,s3)) from by rw [hW3];exact Blk.new _ _ _)
      have hlW:wo.heap.size<W3.heap.size:=HK3.out.lt
      have HBr3:=Lib.hid (fun W (hb:Below W3.heap.size W3 W)=>(hb3.trans (hb.mono hb3.size)))
      have HBc3:=Lib.hid (fun W (hb:Below W3.heap.size W3 W)=>HB.out.trans ((HBr3.out W hb).mono HB.out.size))
      have HS3:Hid (W1.heap.size≤W3.heap.size):=Lib.hid (Nat.le_trans HB.out.size hb3.size)
      have HHR:Hid (w.heap.size≤wo.heap.size):=Lib.hid (by have:=HB.out.size;have:=HS1.out;omega)
      have HRS:=Lib.hid (fun W (hb:Below W3.heap.size W3 W)=>(hrs.keep fun _ _ _ q p=>p.keep q fun _ hp=>((HBr3.out W hb).mono (HBW.out _ HB.out)).cell hp:SRow 2 SlopeAt W B s1 s2 s3 x.slopes))
      have HSL:Hid (x.slopes.length=s2):=Lib.hid hrs.1
      have hms:=hrs.len_le
      unfold maxLen at hms
      have HZ6:=Lib.hid hz6
      have HZ5:=Lib.hid hz5
      have HSG:=Lib.hid (fun W (hb:Below W3.heap.size W3 W)=>slot15_t A A2 m c n c2 B S x.guard ss W (HR.out W (HBc3.out W hb)) (HBW.out W (HBc3.out W hb)) hz4)
      unfold contvs at hW3
      dsimp only at hW3
      clear hx hat hrr hrs hz3 hz4 hz5 hz6
      go_upto_region 6 with fail
      rw [←hW3]
      clear hW3 hb3 f0 f1 f2 f3 f4 f5 f6 f7 p0 p1 p2 y0 y1 y2 y3 y4 y5 y6 y7 y8
      have b8:W3.cell? ⟨wo.heap.size,8,none⟩=some (.slice s1 s2 s3):=HK3.out.cell 8 rfl
      go_wp2_with fail
      clear b8
      go_loopw [8,9] (fun u t wr=>∃(j:Nat) (l:List Int) (a4:Option Addr) (n4 c4:Nat),j≤s2∧u=.slice a4 n4 c4∧t=.int .i64 j∧Hid (l=(x.slopes.take j).flatMap (fun(s:SlopeM)=>[slotS ss s.guard,slotS ss s.var]))∧Hid (Own wr W3.heap.size (.slice a4 n4 c4) l)∧Hid (Below W3.heap.size W3 wr)) (fun _ t _=>s2-(intOf t).toNat)
      case atStart=>exact⟨0,[],none,0,0,Nat.zero_le _,rfl,rfl,Lib.hid rfl,Lib.hid (Own.nil _ _),Lib.hid (Below.refl _ _)⟩
      case round=>
        obtain⟨j,l,a4,n4,c4,hj,rfl,rfl,HL,HO,HBj⟩:=hrel
        have b8:wr.cell? ⟨wo.heap.size,8,none⟩=some (.slice s1 s2 s3):=(HK3.out.later HBj.out).cell 8 rfl
        by_cases hlt2:j<s2
        · obtain⟨z,hz⟩:=(HRS.out _ HBj.out).ex hlt2
          obtain⟨bs,offs,hsb,hbs,hsa⟩:=(HRS.out _ HBj.out).at_ hz
          obtain⟨hzg,hzv⟩:=HZ6.out z (List.mem_of_getElem? hz)
          subst hsb
          have hjI:(j:Int)<(s2:Int):=by omega
          have HFT:=Lib.hid (flatMap_take (g:=(fun(s:SlopeM)=>[slotS ss s.guard,slotS ss s.var])) hz)
          have hbsW:bs<W3.heap.size:=Nat.lt_of_lt_of_le hbs (HBW.out _ (HBc3.out _ (Below.refl _ _)))
          have hll:l.length≤1000000000:=by
            have h1:=flatMap_len (fun(s:SlopeM)=>[slotS ss s.guard,slotS ss s.var]) 2 (x.slopes.take j) (fun _ _=>Nat.le_refl _)
            have h2:(x.slopes.take j).length≤x.slopes.length:=by rw [List.length_take];exact Nat.min_le_right _ _
            have:=HZ5.out
            rw [HL.out]
            omega
          have y0:=hsa.guard.1
          have y1:=hsa.var.1
          have HPW:Hid (∀ W,Below W3.heap.size wr W→W.cell? ⟨wo.heap.size,8,none⟩=some (.slice (some ⟨bs,offs,none⟩) s2 s3)∧W.cell? ⟨bs,offs+j*2,none⟩=some (.int .i64 z.guard)∧W.cell? ⟨bs,offs+j*2+1,none⟩=some (.int .i64 z.var)∧W.cell? ⟨w.heap.size+1,0,none⟩=some (.slice A m c)∧W.cell? ⟨w.heap.size+1,1,none⟩=some (.slice A2 n c2)∧W.cell? ⟨w.heap.size+1,2,none⟩=some (.int .i64 S)):=Lib.hid fun W hb=>by
            have k1:=HK3.out.later (HBj.out.trans hb)
            exact⟨k1.cell 8 rfl,(hb.cell (p:=⟨bs,_,none⟩) hbsW).trans y0,(hb.cell (p:=⟨bs,_,none⟩) hbsW).trans y1,(HPB.out W (HBc3.out W (HBj.out.trans hb))).2⟩
          have HBd:=Lib.hid (Below.refl W3.heap.size wr).drew
          have HZG:=Lib.hid (fun W (hb:Below W3.heap.size W3 W)=>slot15_t A A2 m c n c2 B S z.guard ss W (HR.out W (HBc3.out W hb)) (HBW.out W (HBc3.out W hb)) hzg)
          have HZV:=Lib.hid (fun W (hb:Below W3.heap.size W3 W)=>slot15_t A A2 m c n c2 B S z.var ss W (HR.out W (HBc3.out W hb)) (HBW.out W (HBc3.out W hb)) hzv)
          clear hz hsa hzg hzv
          go_upto_region 10 with fail
          clear y0 y1 b8
          go_region_held3 (fun w'=>w'.cell? ⟨wo.heap.size,8,none⟩=some (.slice (some ⟨bs,offs,none⟩) s2 s3)∧w'.cell? ⟨bs,offs+j*2,none⟩=some (.int .i64 z.guard)∧w'.cell? ⟨bs,offs+j*2+1,none⟩=some (.int .i64 z.var)∧w'.cell? ⟨w.heap.size+1,0,none⟩=some (.slice A m c)∧w'.cell? ⟨w.heap.size+1,1,none⟩=some (.slice A2 n c2)∧w'.cell? ⟨w.heap.size+1,2,none⟩=some (.int .i64 S)) (first | with_reducible exact HPW.out _ HBd.out | with_reducible exact HPW.out _ HB4.out | with_reducible exact HPW.out _ HB5.out | with_reducible exact HPW.out _ (HB5.out.alloc HS5.out _) | with_reducible exact HPW.out _ HB7.out | go_keep) (first
            | (go_at_call 71;first
              | ((with_reducible refine(HZG.out _ (HBj.out.trans HBd.out)).mono ?_);rintro e w4 ⟨rfl,hb⟩;have HB4r:=Lib.hid (show Below wr.heap.size wr w4 from(Below.refl _ _).drew.trans hb);have HB4:=Lib.hid (HB4r.out.mono HBj.out.size);clear hb)
              | ((with_reducible refine(HZV.out _ (HBj.out.trans HB4.out)).mono ?_);rintro e w5 ⟨rfl,hb⟩;have HB5r:=Lib.hid (HB4r.out.trans (hb.mono HB4r.out.size));have HB5:=Lib.hid (HB5r.out.mono HBj.out.size);have HS5:Hid (W3.heap.size≤w5.heap.size):=Lib.hid (HBj.out.trans HB5.out).size;clear hb))
            | (refine stepN rfl _ _ rfl W3.heap.size (.slice a4 n4 c4) l [slotS ss z.guard,slotS ss z.var] 3 w5.heap.size 2 2 rfl rfl rfl rfl rfl (HO.out.below HB5r.out (Nat.le_refl _)) HS5.out hll (by decide) ?_;intro v7 w7 hown7 honly7 hat7;obtain⟨a7,n7,c7,hv7⟩:=own_slice hown7;subst hv7;have HO7:=Lib.hid hown7;have HB7:=Lib.hid (HB5.out.trans (honly7.own (HO.out.below HB5r.out (Nat.le_refl _)) HS5.out));clear hown7 honly7 hat7))
          go_wp2_with fail
          go_roundw
          case rel=>exact⟨j+1,_,a7,n7,c7,by omega,rfl,by go_num,Lib.hid (by rw [HFT.out,HL.out]),HO7,Lib.hid (HBj.out.trans HB7.out)⟩
          case measure=>simp [intOf];omega
        · obtain rfl:s2=j:=by omega
          obtain⟨a5,c5,hv5,ha5⟩:=HO.out.irowP
          obtain⟨n5,hn5⟩:∃ n5,n5=l.length:=⟨_,rfl⟩
          rw [←hn5] at hv5 ha5
          injection hv5 with e1' e2' e3'
          subst e1' e2' e3'
          have HA5:=Lib.hid ha5
          have HL5:Hid (l=x.slopes.flatMap (fun(s:SlopeM)=>[slotS ss s.guard,slotS ss s.var])):=Lib.hid (by rw [HL.out,←HSL.out,List.take_length])
          have b6:wr.cell? ⟨wo.heap.size,6,none⟩=some (.int .i64 x.guard):=(HK3.out.later HBj.out).cell 6 rfl
          obtain⟨_,p0,p1,p2⟩:=HPB.out _ (HBc3.out _ HBj.out)
          clear hn5 ha5 hlt2
          go_wp2_with (first
            | (go_at_call 71;(with_reducible refine(HSG.out _ HBj.out).mono ?_);rintro e w6 ⟨rfl,hb⟩;have HB6:=Lib.hid (HBj.out.trans (hb.mono HBj.out.size));have HA6:=Lib.hid (HA5.out.keep (keepLt hb));obtain⟨XX,hXX⟩:∃ XX:InsM,XX=⟨⟨#[115,108,111,112,101]⟩,0,(a4,n4,c4),(k:Int),0,false,(none,0,0),(none,0,0),⟨#[]⟩,slotS ss x.guard,(none,0,0)⟩:=⟨_,rfl⟩;have HIX:Hid (InsR (NewP B wo.heap.size w6) w6 XX (slopeI ss k x)):=Lib.hid ⟨by rw [hXX] <;> rfl,by rw [hXX] <;> rfl,by rw [hXX];show IRowP _ _ _ _ _ (x.slopes.flatMap (fun(s:SlopeM)=>[slotS ss s.guard,slotS ss s.var]));rw [←HL5.out];exact HA6.out.weak (fun b p=>⟨p.2,.inr (Nat.le_trans (Nat.le_of_lt hlW) p.1)⟩),by rw [hXX] <;> rfl,by rw [hXX] <;> rfl,by rw [hXX] <;> rfl,by rw [hXX];exact URowP.nil _ _,by rw [hXX];exact URowP.nil _ _,by rw [hXX] <;> rfl,by rw [hXX] <;> rfl,by rw [hXX];exact IRowP.nil _ _⟩;have HXX:=Lib.hid hXX;clear hXX hb)
            | (at_builtin;refine appendZ rfl _ _ rfl W1.heap.size (.slice a3 n3 c3') xs XX 96 _ rfl rfl rfl (by rw [HXX.out] <;> rfl) (HXO.out.later (HBr3.out _ HB6.out)) (Nat.le_trans HS3.out HB6.out.size) HLEN.out ?_;intro v7 w7 hown7 honly7 hat7;obtain⟨a7,n7,c7,hv7⟩:=own_sliceS hown7;subst hv7;have HO7:=Lib.hid hown7;have HRE:=Lib.hid (round_end HXO.out HXL.out (HBr3.out _ HB6.out) HIX.out HBS.out (Nat.le_refl _) HHR.out honly7 hat7 (Nat.le_refl _));have HB7:=Lib.hid ((HBc3.out _ HB6.out).trans (honly7.ownS (HXO.out.later (HBr3.out _ HB6.out)) (Nat.le_trans HS3.out HB6.out.size)));clear hown7 honly7 hat7))
          go_roundw
          case rel=>exact⟨k+1,xs++[XX],a7,n7,c7,by omega,rfl,by go_num,HO7,Lib.hid (by rw [HMT.out];exact HRE.out),HB7⟩
          case measure=>simp [intOf];omega
    · obtain rfl:cn=k:=by omega
      replace HXL:=Lib.hid (show InsL (PartN B w.heap.size wr (.slice a3 n3 c3')) wr xs (derivL f ss) from by have:=HXL.out;rwa [←HCC.out,List.take_length] at this)
      go_wp2
      go_ret
      exact⟨_,xs,rfl,HXO.out.more (by have:=HS1.out;omega),HXL.out,HB1.out.trans (HB.out.mono (by have:=HS1.out;omega))⟩
end Go.Proofs.YtpnlbjnbgemocaaGreat
