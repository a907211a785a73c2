import Derived.Test.YtpnlbjnbgemocaaGreatZEyC
import Derived.Deep.DeepCutAuto
import Derived.Test.YtpnlbjnbgemocaaGreatZQKToExFN4
import Derived.Deep.RegionHeld3
import Derived.Test.YtpnlbjnbgemocaaGreatZRoF
namespace Go.Proofs.YtpnlbjnbgemocaaGreat
set_option linter.unusedVariables false
set_option linter.unusedSimpArgs false
set_option maxRecDepth 100000
open Go.RowKit
def put11A (arr:Array Value)(o:Nat)(x0 x1 x2 x3 x4 x5 x6 x7 x8 x9 x10:Value):Array Value:=(((((((((((arr.setIfInBounds (o) x0).setIfInBounds (o+1) x1).setIfInBounds (o+2) x2).setIfInBounds (o+3) x3).setIfInBounds (o+4) x4).setIfInBounds (o+5) x5).setIfInBounds (o+6) x6).setIfInBounds (o+7) x7).setIfInBounds (o+8) x8).setIfInBounds (o+9) x9).setIfInBounds (o+10) x10)
theorem put11A_size (arr:Array Value)(o:Nat)(x0 x1 x2 x3 x4 x5 x6 x7 x8 x9 x10:Value):(put11A arr o x0 x1 x2 x3 x4 x5 x6 x7 x8 x9 x10).size=arr.size:=by simp [put11A]
theorem put11A_far (arr:Array Value)(o p:Nat)(x0 x1 x2 x3 x4 x5 x6 x7 x8 x9 x10:Value)(h:p<o∨o+11≤p):(put11A arr o x0 x1 x2 x3 x4 x5 x6 x7 x8 x9 x10)[p]?=arr[p]?:=by
  unfold put11A
  rw [Array.getElem?_setIfInBounds_ne (by omega),Array.getElem?_setIfInBounds_ne (by omega),Array.getElem?_setIfInBounds_ne (by omega),Array.getElem?_setIfInBounds_ne (by omega),Array.getElem?_setIfInBounds_ne (by omega),Array.getElem?_setIfInBounds_ne (by omega),Array.getElem?_setIfInBounds_ne (by omega),Array.getElem?_setIfInBounds_ne (by omega),Array.getElem?_setIfInBounds_ne (by omega),Array.getElem?_setIfInBounds_ne (by omega),Array.getElem?_setIfInBounds_ne (by omega)]
theorem put11A_at (arr:Array Value)(o t:Nat)(x0 x1 x2 x3 x4 x5 x6 x7 x8 x9 x10 u:Value)(ho:o+11≤arr.size)(h:[x0,x1,x2,x3,x4,x5,x6,x7,x8,x9,x10][t]?=some u):(put11A arr o x0 x1 x2 x3 x4 x5 x6 x7 x8 x9 x10)[o+t]?=some u:=by
  have ht:t<11:=by have:=(List.getElem?_eq_some_iff.1 h).1;simpa using this
  unfold put11A
  match t,ht with
  | 0,_=>simp at h;subst h;simp [Array.getElem?_setIfInBounds];omega
  | 1,_=>simp at h;subst h;simp [Array.getElem?_setIfInBounds];omega
  | 2,_=>simp at h;subst h;simp [Array.getElem?_setIfInBounds];omega
  | 3,_=>simp at h;subst h;simp [Array.getElem?_setIfInBounds];omega
  | 4,_=>simp at h;subst h;simp [Array.getElem?_setIfInBounds];omega
  | 5,_=>simp at h;subst h;simp [Array.getElem?_setIfInBounds];omega
  | 6,_=>simp at h;subst h;simp [Array.getElem?_setIfInBounds];omega
  | 7,_=>simp at h;subst h;simp [Array.getElem?_setIfInBounds];omega
  | 8,_=>simp at h;subst h;simp [Array.getElem?_setIfInBounds];omega
  | 9,_=>simp at h;subst h;simp [Array.getElem?_setIfInBounds];omega
  | 10,_=>simp at h;subst h;simp [Array.getElem?_setIfInBounds];omega
def put5A (arr:Array Value)(o:Nat)(x0 x1 x2 x3 x4:Value):Array Value:=(((((arr.setIfInBounds (o) x0).setIfInBounds (o+1) x1).setIfInBounds (o+2) x2).setIfInBounds (o+3) x3).setIfInBounds (o+4) x4)
theorem put5A_size (arr:Array Value)(o:Nat)(x0 x1 x2 x3 x4:Value):(put5A arr o x0 x1 x2 x3 x4).size=arr.size:=by simp [put5A]
theorem put5A_far (arr:Array Value)(o p:Nat)(x0 x1 x2 x3 x4:Value)(h:p<o∨o+5≤p):(put5A arr o x0 x1 x2 x3 x4)[p]?=arr[p]?:=by
  unfold put5A
  rw [Array.getElem?_setIfInBounds_ne (by omega),Array.getElem?_setIfInBounds_ne (by omega),Array.getElem?_setIfInBounds_ne (by omega),Array.getElem?_setIfInBounds_ne (by omega),Array.getElem?_setIfInBounds_ne (by omega)]
theorem put5A_at (arr:Array Value)(o t:Nat)(x0 x1 x2 x3 x4 u:Value)(ho:o+5≤arr.size)(h:[x0,x1,x2,x3,x4][t]?=some u):(put5A arr o x0 x1 x2 x3 x4)[o+t]?=some u:=by
  have ht:t<5:=by have:=(List.getElem?_eq_some_iff.1 h).1;simpa using this
  unfold put5A
  match t,ht with
  | 0,_=>simp at h;subst h;simp [Array.getElem?_setIfInBounds];omega
  | 1,_=>simp at h;subst h;simp [Array.getElem?_setIfInBounds];omega
  | 2,_=>simp at h;subst h;simp [Array.getElem?_setIfInBounds];omega
  | 3,_=>simp at h;subst h;simp [Array.getElem?_setIfInBounds];omega
  | 4,_=>simp at h;subst h;simp [Array.getElem?_setIfInBounds];omega
def icn (q:InsP)(a r:Option Addr×Nat×Nat):List Value:=[.string q.op,.int .i64 q.dst,.slice a.1 a.2.1 a.2.2,.int .i64 q.k,.int .i64 0,.bool false,.slice none 0 0,.slice none 0 0,.string ⟨#[]⟩,.int .i64 q.guard,.slice r.1 r.2.1 r.2.2]
def InsN (P:Nat→Prop)(w:World)(arr:Array Value)(j:Nat)(q:InsP):Prop:=∃ a r:Option Addr×Nat×Nat,(∀ t u,(icn q a r)[t]?=some u→arr[j*11+t]?=some u)∧IRowP P w a.1 a.2.1 a.2.2 q.args∧IRowP P w r.1 r.2.1 r.2.2 q.resets
theorem InsN.keep {P Q:Nat→Prop}{w w':World}{arr:Array Value}{j:Nat}{q:InsP}(h:InsN P w arr j q)(hk:KeepP P Q w w'):InsN Q w' arr j q:=by
  obtain⟨a,r,h1,h2,h3⟩:=h;exact⟨a,r,h1,h2.keep hk,h3.keep hk⟩
theorem andOnlyB {B:Nat}{w w' w'':World}(h:Below B w w')(hB:B≤w'.heap.size)(ho:Only [some B] w' w''):Below B w w'':=h.trans (ho.below hB (by intro j hj;simp at hj;omega))
theorem arr_some {arr:Array Value}{m p:Nat}(h:arr.size=m)(hp:p<m):∃ u,arr[p]?=some u:=⟨_,Array.getElem?_eq_getElem (by omega)⟩
set_option maxHeartbeats 8000000 in
theorem eachI_t (B:Nat)(a:Option Addr)(n c:Nat)(xs:List InsP)(w:World)(h:SRow 11 InsAt w B a n c xs)(hBw:B≤w.heap.size)(hn:n≤100000)(hx:∀ q∈xs,q.args.length≤1000000∧q.resets.length≤1000000∧q.lit.kind=0) :
    Calls Tryz.prog 112 #[.slice a n c,.func (.func 113) #[] #[]] w fun e w'=>(∃ g arr,e=.returned (.slice (some ⟨g,0,none⟩) n n)∧w.heap.size≤g∧Blk w' g 96 arr∧arr.size=n*11∧∀ i q,xs[i]?=some q→InsN (fun b=>g<b∧b<w'.heap.size) w' arr i q)∧Below w.heap.size w w':=by
  have HL:=Lib.hid h.1
  have HH:=Lib.hid (fun(W:World) (hb:Below w.heap.size w W)=>(h.keep (fun _ _ _ hb' r=>r.keep hb' fun _ hp=>hb.cell (Nat.lt_of_lt_of_le hp hBw)):SRow 11 InsAt W B a n c xs))
  have HBW:=Lib.hid hBw
  have HX:=Lib.hid hx
  have HN:=Lib.hid hn
  have hnI:(n:Int)≤100000:=by omega
  clear h hx hBw
  go_enter Tryz.func112,Tryz.ntmps112
  go_wp2_with (at_make;refine mkG 23 96 zIns 11 168 Tryz.underlying23 Tryz.zInfo96 zIns_cells (by omega) rfl _ rfl n rfl (by omega) ?_)
  obtain⟨W1,hW1⟩:∃ W1,W1=w.alloc (.cells (madeCells zIns (n*11)) 96):=⟨_,rfl⟩
  have HB1:=Lib.hid (show Below w.heap.size w W1 by rw [hW1];exact(Below.refl _ _).alloc (Nat.le_refl _) _)
  have HK1:=Lib.hid (show Blk W1 w.heap.size 96 (madeCells zIns (n*11)) by rw [hW1];exact Blk.new _ _ _)
  rw [←hW1]
  clear hW1
  go_wp2_with fail
  go_loopw [13] (fun t wr=>∃ k:Nat,k≤n∧t=.int .i64 k∧Hid (Below w.heap.size w wr)∧Hid (∃ arr,Blk wr w.heap.size 96 arr∧arr.size=n*11∧∀ i q,i<k→xs[i]?=some q→InsN (fun b=>w.heap.size<b∧b<wr.heap.size) wr arr i q)) (fun t _=>n-(intOf t).toNat)
  case atStart=>exact⟨0,Nat.zero_le _,rfl,HB1,Lib.hid ⟨_,HK1.out,size_madeCells _ _,fun i q hi=>absurd hi (Nat.not_lt_zero _)⟩⟩
  case round=>
    obtain⟨k,hk,rfl,HB,HA⟩:=hrel
    have hkb:(k:Int)≤100000:=by omega
    by_cases hlt:k<n
    · obtain⟨q,hq⟩:∃ q,xs[k]?=some q:=⟨_,List.getElem?_eq_getElem (by rw [HL.out];exact hlt)⟩
      obtain⟨b,off,ha,hbB,hat⟩:=(HH.out _ HB.out).at_ hq
      obtain⟨hqa,hqr,hqk⟩:=HX.out q (List.mem_of_getElem? hq)
      obtain⟨a0,m0,d0,r0,hw,-,-,-,c0,c1,c2,c3,c4,c5,c6,c7,c8,c9,c10⟩:=hat.cells
      rw [hqk] at c4
      subst ha
      obtain⟨arr,hblk,hsz,hall⟩:=HA.out
      have HBK:=Lib.hid hblk
      have HSZ:=Lib.hid hsz
      have HAL:=Lib.hid hall
      have HQ:=Lib.hid hq
      have HWA:=Lib.hid hw.args
      have HWR:=Lib.hid hw.resets
      have HQL:Hid (a0.2.1≤1000000∧r0.2.1≤1000000):=Lib.hid ⟨by rw [←hw.args.1];exact hqa,by rw [←hw.resets.1];exact hqr⟩
      have HBLT:=Lib.hid (And.intro hbB HB1.out.size)
      have hkI:(k:Int)<(n:Int):=by omega
      clear hblk hsz hall hq hat hw hqa hqr hqk hbB HA
      go_upto_region 5 with fail
      obtain⟨W3,hW3⟩:∃ W3,W3=wr.alloc (.cells #[.string q.op,.int .i64 q.dst,.slice a0.1 a0.2.1 a0.2.2,.int .i64 q.k,.int .i64 0,.bool q.lit.neg,.slice m0.1 m0.2.1 m0.2.2,.slice d0.1 d0.2.1 d0.2.2,.string q.lit.name,.int .i64 q.guard,.slice r0.1 r0.2.1 r0.2.2] 96):=⟨_,rfl⟩
      have hb3:Below wr.heap.size wr W3:=by rw [hW3];exact(Below.refl _ _).alloc (Nat.le_refl _) _
      have HB3:=Lib.hid hb3
      have HK3:=Lib.hid (show Blk W3 wr.heap.size 96 #[.string q.op,.int .i64 q.dst,.slice a0.1 a0.2.1 a0.2.2,.int .i64 q.k,.int .i64 0,.bool q.lit.neg,.slice m0.1 m0.2.1 m0.2.2,.slice d0.1 d0.2.1 d0.2.2,.string q.lit.name,.int .i64 q.guard,.slice r0.1 r0.2.1 r0.2.2] by rw [hW3];exact Blk.new _ _ _)
      rw [←hW3]
      clear hW3 hb3 c0 c1 c2 c3 c4 c5 c6 c7 c8 c9 c10
      have p0:=HK3.out.cell 0 rfl
      have p1:=HK3.out.cell 1 rfl
      have p2:=HK3.out.cell 2 rfl
      have p3:=HK3.out.cell 3 rfl
      have p4:=HK3.out.cell 4 rfl
      have p5:=HK3.out.cell 5 rfl
      have p6:=HK3.out.cell 6 rfl
      have p7:=HK3.out.cell 7 rfl
      have p8:=HK3.out.cell 8 rfl
      have p9:=HK3.out.cell 9 rfl
      have p10:=HK3.out.cell 10 rfl
      go_wp2_with (go_at_call 113;(with_reducible refine(ownIns_t q a0 r0 _ _ _ _ _ ((HWA.out.below (HB3.out.mono (Nat.le_trans HBW.out HB.out.size))).more (Nat.le_trans HBW.out (Nat.le_trans HB.out.size HB3.out.size))) ((HWR.out.below (HB3.out.mono (Nat.le_trans HBW.out HB.out.size))).more (Nat.le_trans HBW.out (Nat.le_trans HB.out.size HB3.out.size))) HQL.out.1 HQL.out.2).mono ?_);rintro e w4 ⟨⟨a',r',rfl,hra,hrr⟩,hb4⟩;have HRA:=Lib.hid hra;have HRR:=Lib.hid hrr;have HB4:=Lib.hid hb4;have HBK4:=Lib.hid ((HBK.out.later HB3.out).later hb4);clear hra hrr hb4 p0 p1 p2 p3 p4 p5 p6 p7 p8 p9 p10;obtain⟨u0,hu0⟩:=arr_some (p:=k*11) HSZ.out (by omega);have z0:=HBK4.out.cell _ hu0;have y0:=HBK4.out.free (k*11);obtain⟨u1,hu1⟩:=arr_some (p:=k*11+1) HSZ.out (by omega);have z1:=HBK4.out.cell _ hu1;have y1:=HBK4.out.free (k*11+1);obtain⟨u2,hu2⟩:=arr_some (p:=k*11+2) HSZ.out (by omega);have z2:=HBK4.out.cell _ hu2;have y2:=HBK4.out.free (k*11+2);obtain⟨u3,hu3⟩:=arr_some (p:=k*11+3) HSZ.out (by omega);have z3:=HBK4.out.cell _ hu3;have y3:=HBK4.out.free (k*11+3);obtain⟨u4,hu4⟩:=arr_some (p:=k*11+4) HSZ.out (by omega);have z4:=HBK4.out.cell _ hu4;have y4:=HBK4.out.free (k*11+4);obtain⟨u5,hu5⟩:=arr_some (p:=k*11+5) HSZ.out (by omega);have z5:=HBK4.out.cell _ hu5;have y5:=HBK4.out.free (k*11+5);obtain⟨u6,hu6⟩:=arr_some (p:=k*11+6) HSZ.out (by omega);have z6:=HBK4.out.cell _ hu6;have y6:=HBK4.out.free (k*11+6);obtain⟨u7,hu7⟩:=arr_some (p:=k*11+7) HSZ.out (by omega);have z7:=HBK4.out.cell _ hu7;have y7:=HBK4.out.free (k*11+7);obtain⟨u8,hu8⟩:=arr_some (p:=k*11+8) HSZ.out (by omega);have z8:=HBK4.out.cell _ hu8;have y8:=HBK4.out.free (k*11+8);obtain⟨u9,hu9⟩:=arr_some (p:=k*11+9) HSZ.out (by omega);have z9:=HBK4.out.cell _ hu9;have y9:=HBK4.out.free (k*11+9);obtain⟨u10,hu10⟩:=arr_some (p:=k*11+10) HSZ.out (by omega);have z10:=HBK4.out.cell _ hu10;have y10:=HBK4.out.free (k*11+10);clear hu0 hu1 hu2 hu3 hu4 hu5 hu6 hu7 hu8 hu9 hu10)
      go_roundw
      case rel=>
        have HLT:w.heap.size<W3.heap.size:=Nat.lt_of_lt_of_le HBK.out.lt HB3.out.size
        have HG:w.heap.size<wr.heap.size:=HBK.out.lt
        have HO:=Lib.hid (show Only [some w.heap.size] w4 (((((((((((w4.setCell ⟨w.heap.size,k*11,none⟩ (Value.string q.op)).setCell ⟨w.heap.size,k*11+1,none⟩ (Value.int .i64 q.dst)).setCell ⟨w.heap.size,k*11+2,none⟩ (Value.slice a'.1 a'.2.1 a'.2.2)).setCell ⟨w.heap.size,k*11+3,none⟩ (Value.int .i64 q.k)).setCell ⟨w.heap.size,k*11+4,none⟩ (Value.int .i64 0)).setCell ⟨w.heap.size,k*11+5,none⟩ (Value.bool false)).setCell ⟨w.heap.size,k*11+6,none⟩ (Value.slice none 0 0)).setCell ⟨w.heap.size,k*11+7,none⟩ (Value.slice none 0 0)).setCell ⟨w.heap.size,k*11+8,none⟩ (Value.string ⟨#[]⟩)).setCell ⟨w.heap.size,k*11+9,none⟩ (Value.int .i64 q.guard)).setCell ⟨w.heap.size,k*11+10,none⟩ (Value.slice r'.1 r'.2.1 r'.2.2)) from((((((((((Only.set (S:=[some w.heap.size]) (by simp) _ _ _).trans (Only.set (by simp) _ _ _)).trans (Only.set (by simp) _ _ _)).trans (Only.set (by simp) _ _ _)).trans (Only.set (by simp) _ _ _)).trans (Only.set (by simp) _ _ _)).trans (Only.set (by simp) _ _ _)).trans (Only.set (by simp) _ _ _)).trans (Only.set (by simp) _ _ _)).trans (Only.set (by simp) _ _ _)).trans (Only.set (by simp) _ _ _))
        have HSS:=Lib.hid (show(((((((((((w4.setCell ⟨w.heap.size,k*11,none⟩ (Value.string q.op)).setCell ⟨w.heap.size,k*11+1,none⟩ (Value.int .i64 q.dst)).setCell ⟨w.heap.size,k*11+2,none⟩ (Value.slice a'.1 a'.2.1 a'.2.2)).setCell ⟨w.heap.size,k*11+3,none⟩ (Value.int .i64 q.k)).setCell ⟨w.heap.size,k*11+4,none⟩ (Value.int .i64 0)).setCell ⟨w.heap.size,k*11+5,none⟩ (Value.bool false)).setCell ⟨w.heap.size,k*11+6,none⟩ (Value.slice none 0 0)).setCell ⟨w.heap.size,k*11+7,none⟩ (Value.slice none 0 0)).setCell ⟨w.heap.size,k*11+8,none⟩ (Value.string ⟨#[]⟩)).setCell ⟨w.heap.size,k*11+9,none⟩ (Value.int .i64 q.guard)).setCell ⟨w.heap.size,k*11+10,none⟩ (Value.slice r'.1 r'.2.1 r'.2.2)).heap.size=w4.heap.size by simp)
        have HBE:=Lib.hid (show Below w.heap.size w w4 from(HB.out.trans (HB3.out.mono HB.out.size)).trans (HB4.out.mono (Nat.le_trans HB.out.size HB3.out.size)))
        refine⟨k+1,by omega,by go_num,Lib.hid (andOnlyB HBE.out HBE.out.size HO.out),Lib.hid ⟨put11A arr (k*11) (.string q.op) (.int .i64 q.dst) (.slice a'.1 a'.2.1 a'.2.2) (.int .i64 q.k) (.int .i64 0) (.bool false) (.slice none 0 0) (.slice none 0 0) (.string ⟨#[]⟩) (.int .i64 q.guard) (.slice r'.1 r'.2.1 r'.2.2), ?_,by rw [put11A_size];exact HSZ.out,fun i q' hi hq'=>?_⟩⟩
        · exact((((((((((HBK4.out.putI _ _).putI _ _).putI _ _).putI _ _).putI _ _).putI _ _).putI _ _).putI _ _).putI _ _).putI _ _).putI _ _
        · have hkeep:KeepP (fun b=>w.heap.size<b∧b<w4.heap.size) (fun b=>w.heap.size<b∧b<(((((((((((w4.setCell ⟨w.heap.size,k*11,none⟩ (Value.string q.op)).setCell ⟨w.heap.size,k*11+1,none⟩ (Value.int .i64 q.dst)).setCell ⟨w.heap.size,k*11+2,none⟩ (Value.slice a'.1 a'.2.1 a'.2.2)).setCell ⟨w.heap.size,k*11+3,none⟩ (Value.int .i64 q.k)).setCell ⟨w.heap.size,k*11+4,none⟩ (Value.int .i64 0)).setCell ⟨w.heap.size,k*11+5,none⟩ (Value.bool false)).setCell ⟨w.heap.size,k*11+6,none⟩ (Value.slice none 0 0)).setCell ⟨w.heap.size,k*11+7,none⟩ (Value.slice none 0 0)).setCell ⟨w.heap.size,k*11+8,none⟩ (Value.string ⟨#[]⟩)).setCell ⟨w.heap.size,k*11+9,none⟩ (Value.int .i64 q.guard)).setCell ⟨w.heap.size,k*11+10,none⟩ (Value.slice r'.1 r'.2.1 r'.2.2)).heap.size) w4 (((((((((((w4.setCell ⟨w.heap.size,k*11,none⟩ (Value.string q.op)).setCell ⟨w.heap.size,k*11+1,none⟩ (Value.int .i64 q.dst)).setCell ⟨w.heap.size,k*11+2,none⟩ (Value.slice a'.1 a'.2.1 a'.2.2)).setCell ⟨w.heap.size,k*11+3,none⟩ (Value.int .i64 q.k)).setCell ⟨w.heap.size,k*11+4,none⟩ (Value.int .i64 0)).setCell ⟨w.heap.size,k*11+5,none⟩ (Value.bool false)).setCell ⟨w.heap.size,k*11+6,none⟩ (Value.slice none 0 0)).setCell ⟨w.heap.size,k*11+7,none⟩ (Value.slice none 0 0)).setCell ⟨w.heap.size,k*11+8,none⟩ (Value.string ⟨#[]⟩)).setCell ⟨w.heap.size,k*11+9,none⟩ (Value.int .i64 q.guard)).setCell ⟨w.heap.size,k*11+10,none⟩ (Value.slice r'.1 r'.2.1 r'.2.2)):=keepOnly HO.out fun b h=>⟨h.2,by simp;omega,by rw [HSS.out];exact h⟩
          rcases(show i<k∨i=k by omega) with hik | rfl
          · obtain⟨a2,r2,h1,h2,h3⟩:=HAL.out i q' hik hq'
            have hk4:KeepP (fun b=>w.heap.size<b∧b<wr.heap.size) (fun b=>w.heap.size<b∧b<w4.heap.size) wr w4:=keepB (HB3.out.trans (HB4.out.mono HB3.out.size)) fun b h=>⟨h.2,h.1,Nat.lt_of_lt_of_le h.2 (Nat.le_trans HB3.out.size HB4.out.size)⟩
            refine⟨a2,r2,fun t u hu=>?_,(h2.keep hk4).keep hkeep,(h3.keep hk4).keep hkeep⟩
            have ht:t<11:=by have:=(List.getElem?_eq_some_iff.1 hu).1;simpa [icn] using this
            rw [put11A_far _ _ _ _ _ _ _ _ _ _ _ _ _ _ (by omega)]
            exact h1 t u hu
          · rw [HQ.out] at hq'
            injection hq' with hq'
            subst hq'
            refine⟨a',r',fun t u hu=>put11A_at _ _ _ _ _ _ _ _ _ _ _ _ _ _ u (by rw [HSZ.out];omega) hu, ?_, ?_⟩
            · exact(HRA.out.weak fun b h=>⟨Nat.lt_of_lt_of_le HLT h.1,h.2⟩).keep hkeep
            · exact(HRR.out.weak fun b h=>⟨Nat.lt_of_lt_of_le HLT h.1,h.2⟩).keep hkeep
      case measure=>simp [intOf];omega
    · obtain rfl:k=n:=by omega
      go_wp2_with fail
      go_ret
      obtain⟨arr,hblk,hsz,hall⟩:=HA.out
      exact⟨⟨w.heap.size,arr,rfl,Nat.le_refl _,hblk,hsz,fun i q hq=>hall i q (by rw [←HL.out];exact(List.getElem?_eq_some_iff.1 hq).1) hq⟩,HB.out⟩
def RowN (w:World)(B:Nat)(n:Option Addr×Nat×Nat)(xs:List InsP):Prop:=∃ g arr,n=(some ⟨g,0,none⟩,xs.length,xs.length)∧B≤g∧Blk w g 96 arr∧arr.size=xs.length*11∧∀ i q,xs[i]?=some q→InsN (fun b=>B≤b∧b<w.heap.size) w arr i q
theorem RowN.later {w w':World}{B:Nat}{n:Option Addr×Nat×Nat}{xs:List InsP}(h:RowN w B n xs)(hb:Below w.heap.size w w'):RowN w' B n xs:=by
  obtain⟨g,arr,h1,h2,h3,h4,h5⟩:=h
  exact⟨g,arr,h1,h2,h3.later hb,h4,fun i q hq=>(h5 i q hq).keep (keepB hb fun b h=>⟨h.2,h.1,Nat.lt_of_lt_of_le h.2 hb.size⟩)⟩
theorem RowN.weakB {w:World}{B B':Nat}{n:Option Addr×Nat×Nat}{xs:List InsP}(h:RowN w B n xs)(hB:B'≤B):RowN w B' n xs:=by
  obtain⟨g,arr,h1,h2,h3,h4,h5⟩:=h
  exact⟨g,arr,h1,Nat.le_trans hB h2,h3,h4,fun i q hq=>(h5 i q hq).keep fun b h=>⟨⟨Nat.le_trans hB h.1,h.2⟩,fun _=>rfl⟩⟩
theorem RowN.only {w w':World}{B:Nat}{n:Option Addr×Nat×Nat}{xs:List InsP}{S:List (Option Nat)}(h:RowN w B n xs)(ho:Only S w w')(hS:∀ j,some j∈S→j<B):RowN w' B n xs:=by
  obtain⟨g,arr,h1,h2,h3,h4,h5⟩:=h
  have hk:KeepP (fun b=>B≤b∧b<w.heap.size) (fun b=>B≤b∧b<w'.heap.size) w w':=keepOnly ho fun b h=>⟨h.2,fun e=>by have:=hS b e;omega,h.1,Nat.lt_of_lt_of_le h.2 ho.size⟩
  exact⟨g,arr,h1,h2,h3.only ho (fun e=>by have:=hS g e;omega),h4,fun i q hq=>(h5 i q hq).keep hk⟩
theorem eachI_r (B:Nat)(v:Option Addr×Nat×Nat)(xs:List InsP)(w:World)(h:SRow 11 InsAt w B v.1 v.2.1 v.2.2 xs)(hBw:B≤w.heap.size)(hn:v.2.1≤100000)(hx:∀ q∈xs,q.args.length≤1000000∧q.resets.length≤1000000∧q.lit.kind=0) :
    Calls Tryz.prog 112 #[.slice v.1 v.2.1 v.2.2,.func (.func 113) #[] #[]] w fun e w'=>(∃ n:Option Addr×Nat×Nat,e=.returned (.slice n.1 n.2.1 n.2.2)∧RowN w' w.heap.size n xs)∧Below w.heap.size w w':=by
  refine(eachI_t B v.1 v.2.1 v.2.2 xs w h hBw hn hx).mono ?_
  rintro e w' ⟨⟨g,arr,rfl,hg,hk,hs,ha⟩,hb⟩
  have hl:=h.1
  refine⟨⟨(some ⟨g,0,none⟩,xs.length,xs.length),by rw [hl],g,arr,rfl,hg,hk,by rw [hl];exact hs,fun i q hq=>(ha i q hq).keep fun b h=>⟨⟨Nat.le_of_lt (Nat.lt_of_le_of_lt hg h.1),h.2⟩,fun _=>rfl⟩⟩,hb⟩
end Go.Proofs.YtpnlbjnbgemocaaGreat
namespace Go.Proofs.YtpnlbjnbgemocaaGreat
set_option linter.unusedVariables false
set_option linter.unusedSimpArgs false
set_option maxRecDepth 100000
open Go.RowKit Nums
theorem RV.Is.put3R {r t:RV}{k j g T:Nat}{q:Rat}{w:World}(h:r.Is k j q w)(hx:Blk w g T #[.bool t.s,.slice t.a t.n t.c,.slice t.b t.m t.d])(x y z:Value):r.Is k j q (((w.setCell ⟨g,0,none⟩ x).setCell ⟨g,1,none⟩ y).setCell ⟨g,2,none⟩ z):=by
  obtain⟨xs,ys,h1,h2,h3⟩:=h
  exact⟨xs,ys,h1.put3 hx.tri x y z,h2.put3 hx.tri x y z,h3⟩
theorem norm_v {r:RV}{k j:Nat}{q:Rat}{w:World}(h:r.Is k j q w)(hk:k≤95)(hj1:1≤j)(hj:j≤95):Calls Tryz.prog 85 #[.agg #[.bool r.s,.slice r.a r.n r.c,.slice r.b r.m r.d]] w (RatV k j q w):=by
  obtain⟨xs,ys,h1,h2,h3,h4,h5⟩:=h;exact(normR k j q h1 h2 h3 h4 h5 hk hj1 hj).mono ratK_V
theorem input_at {r:RV}{kk j:Nat}{q:Rat}{w:World}(b off n c:Nat)(fl:Option Addr)(fn fc k:Nat)(hk:k<n)(hn:n≤10)(hr:r.Is kk j q w)(hb:b<w.heap.size)
    (c0:w.cell? ⟨b,off+k*3,none⟩=some (.bool r.s)) (c1:w.cell? ⟨b,off+k*3+1,none⟩=some (.slice r.a r.n r.c)) (c2:w.cell? ⟨b,off+k*3+2,none⟩=some (.slice r.b r.m r.d)) (h2:kk≤90∧1≤j∧j≤90) :
    Calls Tryz.prog 146 #[.agg #[.slice (some ⟨b,off,none⟩) n c,.slice fl fn fc],.int .i64 (k:Int)] w (RatV kk j q w):=by
  obtain⟨W1,hW1⟩:∃ W1,W1=w.alloc (.cells #[.slice (some ⟨b,off,none⟩) n c,.slice fl fn fc] 124):=⟨_,rfl⟩
  obtain⟨W2,hW2⟩:∃ W2,W2=W1.alloc (.cells #[.bool false,.slice none 0 0,.slice none 0 0] 46):=⟨_,rfl⟩
  have hb1:Below w.heap.size w W1:=by rw [hW1];exact below_one _ _
  have hb2:Below W1.heap.size W1 W2:=by rw [hW2];exact below_one _ _
  have HK1:=Lib.hid ((show Blk W1 w.heap.size 124 #[.slice (some ⟨b,off,none⟩) n c,.slice fl fn fc] by rw [hW1];exact Blk.new _ _ _).later hb2)
  have HK2:=Lib.hid (show Blk W2 W1.heap.size 46 #[.bool false,.slice none 0 0,.slice none 0 0] by rw [hW2];exact Blk.new _ _ _)
  have HB:=Lib.hid (bthen hb1 hb2)
  have HR:=Lib.hid (hr.later HB.out)
  have HS1:=Lib.hid (show w.heap.size+1=W1.heap.size by rw [hW1];simp)
  have HL:=Lib.hid (show w.heap.size<W1.heap.size by rw [hW1];simp)
  have d0:=(HB.out.cell (p:=⟨b,off+k*3,none⟩) hb).trans c0
  have d1:=(HB.out.cell (p:=⟨b,off+k*3+1,none⟩) hb).trans c1
  have d2:=(HB.out.cell (p:=⟨b,off+k*3+2,none⟩) hb).trans c2
  have HW1:=Lib.hid hW1
  have HW2:=Lib.hid hW2
  have H2:=Lib.hid h2
  have p0:=HK1.out.cell 0 rfl
  have hkI:(k:Int)<(n:Int):=by omega
  have hnI:(n:Int)≤10:=by omega
  clear hb1 hb2 hr hW1 hW2 h2 c0 c1 c2 hb hn
  go_enter Tryz.func146,Tryz.ntmps146
  go_upto_region 1 with fail
  rw [←HW1.out,←HW2.out];simp only [HS1.out];clear HW1 HW2 HS1
  go_wp2_with (go_at_call 85;(with_reducible refine(norm_v HR.out (by have:=H2.out;omega) (by have:=H2.out;omega) (by have:=H2.out;omega)).mono ?_);rintro e w3 ⟨rn,rfl,hn,hb⟩;have HN:=Lib.hid hn;replace HK2:=Lib.hid (HK2.out.later hb);replace HB:=Lib.hid (bthen HB.out hb);clear hn hb d0 d1 d2 p0;obtain⟨q0,q1,q2,q3,q4,q5,q6⟩:=HK2.out.tri)
  exact bodyPost_ret (v:=.agg #[.bool rn.s,.slice rn.a rn.n rn.c,.slice rn.b rn.m rn.d]) (by simp [results,Tryz.results146,go_sem, *]) rfl ⟨rn,rfl,HN.out.put3R (t:=⟨false,none,0,0,none,0,0⟩) HK2.out _ _ _,below_put3 HB.out (Nat.le_of_lt HL.out) _ _ _⟩
end Go.Proofs.YtpnlbjnbgemocaaGreat
namespace Go.Proofs.YtpnlbjnbgemocaaGreat
set_option linter.unusedVariables false
set_option linter.unusedSimpArgs false
set_option maxRecDepth 100000
open Go.RowKit Nums
theorem append_all {w0:World}{ops:Array Oper}{rest:List Oper}{o:Oper}{a:Act}{Q:Exit→Act→World→Prop}(hgd:o.guard=none)(s x:Operand)
    (ho:o.op=.call { callee:=.builtin .append,args:=#[s,x],argTypes:=#[42,42] }) (ad:Addr) (k c:Nat) (xs:List Nat) (hs:a.eval s=.slice (some ⟨w0.heap.size,0,none⟩) 0 0) (hx:a.eval x=.slice (some ad) k c)
    (hl:xs.length=k) (hcells:∀ j u,(xs.map u32)[j]?=some u→w0.cell? (ad.add j)=some u) (hn:k≤1000000000)
    (hK:∀ v' w',OwnU w' w0.heap.size v' xs→Below w0.heap.size w0 w'→wpList Tryz.prog ops Q rest (a.put o.dst v') w') :
    wpList Tryz.prog ops Q (o::rest) a (w0.alloc (.cells #[] 120)):=by
  obtain⟨i0,hi,hz0,hz1,hz2⟩:=info_parts Tryz.info120
  have hown:(w0.alloc (.cells #[] 120)).ownsRow w0.heap.size 120 1 (.slice (some ⟨w0.heap.size,0,none⟩) 0 0) 0 []:=World.ownsRow_lit (base:=w0.heap.size) (e:=120) (size:=1) w0 #[] 0 (Nat.le_refl _) (Nat.zero_le _) (by simp)
  refine wpList_append_own (w0.alloc (.cells #[] 120)) hgd s x 42 ho w0.heap.size 120 i0 (.int .u32 0) 1 4 Tryz.underlying42 hi hz0 hz1 hz2 rfl (by decide) _ 0 [] hs hown ad k c (xs.map u32) hx ?_ ?_ ?_ ?_ ?_ ?_ ?_
  · simp;omega
  · intro j u hj
    have h1:=hcells j u hj
    have h2:=(Below.refl w0.heap.size w0).alloc (Nat.le_refl _) (.cells #[] 120)
    exact(h2.cell (World.block_lt_of_cell? w0 _ h1)).trans h1
  · intro u hu;obtain⟨y,_,rfl⟩:=List.mem_map.1 hu;rfl
  · unfold maxLen;omega
  · omega
  · simp
  · intro v' w' h1 h2 _
    refine hK v' w' ?_ ?_
    · unfold OwnU;rw [hl];simpa using h1
    · exact((Below.refl _ w0).alloc (Nat.le_refl _) _).grown h2 (by simp) (fun k hk=>by simp [Value.ownBlock] at hk;omega)
theorem clone_t {a:Option Addr}{n c:Nat}{xs:List Nat}{w:World}(h:Row w a n c xs)(hn:n≤1000):Calls Tryz.prog 125 #[.slice a n c] w fun e w'=>(∃ a' c',e=.returned (.slice a' n c')∧Row w' a' n c' xs)∧Below w.heap.size w w':=by
  obtain⟨h1,h2,h3,h4,h5,b,off,h6,h7⟩:=h
  have qs:∀(w:World) (a:Option Addr) (n c n' c':Nat),(binOp .eql 42 (.slice a n c) (.slice none n' c')).run Tryz.prog w=.ok (.bool a.isNone) w:=fun w a n c n' c'=>Lib.run_eql_slice_nil w _ _ a n c n' c' Tryz.underlying42
  cases a with
  | none=>
    obtain rfl:c=0:=h4 rfl
    obtain rfl:n=0:=by omega
    obtain rfl:xs=[]:=List.length_eq_zero_iff.1 h1
    go_enter Tryz.func125,Tryz.ntmps125
    go_wp2
    go_ret
    exact⟨⟨none,0,rfl,row_nil _⟩,Below.refl _ _⟩
  | some ad=>
    have HC:=Lib.hid (show ∀ j u,(xs.map u32)[j]?=some u→w.cell? (ad.add j)=some u from fun j u hj=>by
      have hjl:j<xs.length:=by have:=(List.getElem?_eq_some_iff.1 hj).1;simpa using this
      have e:=h6.resolve_right (by omega)
      cases e
      have e2:(⟨b,off,none⟩:Addr).add j=⟨b,off+j,none⟩:=by unfold Addr.add;split <;> simp_all
      rw [e2,(h7 j (by omega)).2,←hj]
      simp [hjl,u32])
    have H1:=Lib.hid h1
    have H5:=Lib.hid h5
    clear h1 h2 h3 h4 h5 h6 h7
    go_enter Tryz.func125,Tryz.ntmps125
    go_wp2_with (at_builtin;refine append_all rfl _ _ rfl ad n c xs rfl rfl H1.out HC.out (by omega) ?_)
    intro v' w' hown hb
    obtain⟨a',c',rfl,hr⟩:=row_ownv hown H5.out
    have HR:=Lib.hid hr
    have HB:=Lib.hid hb
    clear hown hr hb
    go_wp2
    go_ret
    exact⟨⟨a',c',by rw [H1.out];first | done | rfl,by rw [←H1.out];exact HR.out⟩,HB.out⟩
theorem cell_put3 {w:World}{g h i:Nat}{a b c:Value}(hne:h<g):(((w.setCell ⟨g,0,none⟩ a).setCell ⟨g,1,none⟩ b).setCell ⟨g,2,none⟩ c).cell? ⟨h,i,none⟩=w.cell? ⟨h,i,none⟩:=by
  rw [World.cell?_setCell_far _ _ _ _ (show g≠h by omega),World.cell?_setCell_far _ _ _ _ (show g≠h by omega),World.cell?_setCell_far _ _ _ _ (show g≠h by omega)]
set_option maxHeartbeats 4000000 in
theorem ownNumber_t {r:RV}{k j:Nat}{q:Rat}{w:World}(hr:r.Is k j q w)(hk:k≤1000)(hj:j≤1000):Calls Tryz.prog 77 #[.agg #[.bool r.s,.slice r.a r.n r.c,.slice r.b r.m r.d]] w (RatV k j q w):=by
  obtain⟨xs,ys,hx,hy,hq,hnk,hmj⟩:=hr
  obtain⟨W1,hW1⟩:∃ W1,W1=w.alloc (.cells #[.bool r.s,.slice r.a r.n r.c,.slice r.b r.m r.d] 46):=⟨_,rfl⟩
  obtain⟨W2,hW2⟩:∃ W2,W2=W1.alloc (.cells #[.bool false,.slice none 0 0,.slice none 0 0] 46):=⟨_,rfl⟩
  have hb1:Below w.heap.size w W1:=by rw [hW1];exact below_one _ _
  have hb2:Below W1.heap.size W1 W2:=by rw [hW2];exact below_one _ _
  have HK1:=Lib.hid ((show Blk W1 w.heap.size 46 #[.bool r.s,.slice r.a r.n r.c,.slice r.b r.m r.d] by rw [hW1];exact Blk.new _ _ _).later hb2)
  have HK2:=Lib.hid (show Blk W2 W1.heap.size 46 #[.bool false,.slice none 0 0,.slice none 0 0] by rw [hW2];exact Blk.new _ _ _)
  have HB:=Lib.hid (bthen hb1 hb2)
  have HX:=Lib.hid (hx.later HB.out)
  have HY:=Lib.hid (hy.later HB.out)
  have HQ:=Lib.hid hq
  have HNK:=Lib.hid (And.intro hnk hmj)
  have HKJ:=Lib.hid (And.intro hk hj)
  have HS1:=Lib.hid (show w.heap.size+1=W1.heap.size by rw [hW1];simp)
  have HL:=Lib.hid (show w.heap.size<W1.heap.size by rw [hW1];simp)
  have HW1:=Lib.hid hW1
  have HW2:=Lib.hid hW2
  clear hb1 hb2 hx hy hq hnk hmj hk hj hW1 hW2
  obtain⟨q0,q1,q2,-,-,-,-⟩:=HK1.out.tri
  go_enter Tryz.func77,Tryz.ntmps77
  go_upto_region 1 with fail
  rw [←HW1.out,←HW2.out];simp only [HS1.out];clear HW1 HW2 HS1
  go_region_held3 (fun w'=>w'.cell? ⟨w.heap.size,0,none⟩=some (.bool r.s)∧w'.cell? ⟨w.heap.size,1,none⟩=some (.slice r.a r.n r.c)∧w'.cell? ⟨w.heap.size,2,none⟩=some (.slice r.b r.m r.d))
    (first | (refine⟨?_, ?_, ?_⟩ <;> with_reducible assumption) | (refine⟨?_, ?_, ?_⟩ <;> (rw [cell_put3 HL.out];with_reducible assumption)) | (go_keep;done))
    (first
      | (have mk:=G1;clear mk
         go_at_call 125
         refine(clone_t HY.out (by have:=HNK.out;have:=HKJ.out;omega)).mono ?_
         rintro e w4 ⟨⟨b2,d2,rfl,hr2⟩,hb⟩
         replace HK1:=Lib.hid (HK1.out.later hb)
         replace HK2:=Lib.hid (HK2.out.later hb)
         replace HX:=Lib.hid (HX.out.later hb)
         replace HY:=Lib.hid (HY.out.later hb)
         replace HB:=Lib.hid (bthen HB.out hb)
         clear q0 q1 q2
         obtain⟨q0,q1,q2,-,-,-,-⟩:=HK1.out.tri
         replace HR1:=Lib.hid (HR1.out.later hb)
         have HR2:=Lib.hid hr2
         clear hr2 hb
         obtain⟨z0,z1,z2,z3,z4,z5,z6⟩:=HK2.out.tri
         have G2:Hid True:=trivial)
      | (go_at_call 125
         refine(clone_t (HX.out.later (by first | exact Below.refl _ _ | exact(Below.refl _ _).drew)) (by have:=HNK.out;have:=HKJ.out;omega)).mono ?_
         rintro e w3 ⟨⟨a2,c2,rfl,hr1⟩,hb0⟩
         have hb:Below W2.heap.size W2 w3:=bthen (by first | exact Below.refl _ _ | exact(Below.refl _ _).drew) hb0
         replace HK1:=Lib.hid (HK1.out.later hb)
         replace HK2:=Lib.hid (HK2.out.later hb)
         replace HX:=Lib.hid (HX.out.later hb)
         replace HY:=Lib.hid (HY.out.later hb)
         replace HB:=Lib.hid (bthen HB.out hb)
         clear q0 q1 q2
         obtain⟨q0,q1,q2,-,-,-,-⟩:=HK1.out.tri
         have HR1:=Lib.hid hr1
         clear hr1 hb hb0
         have G1:Hid True:=trivial))
  all_goals
    go_wp2_with fail
    exact bodyPost_ret (v:=.agg #[.bool r.s,.slice a2 r.n c2,.slice b2 r.m d2]) (by simp [results,Tryz.results77,go_sem, *]) rfl ⟨⟨r.s,a2,r.n,c2,b2,r.m,d2⟩,rfl,RV.Is.put3R (t:=⟨false,none,0,0,none,0,0⟩) (r:=⟨r.s,a2,r.n,c2,b2,r.m,d2⟩) ⟨xs,ys,HR1.out,HR2.out,HQ.out,HNK.out.1,HNK.out.2⟩ HK2.out _ _ _,below_put3 HB.out (Nat.le_of_lt HL.out) _ _ _⟩
end Go.Proofs.YtpnlbjnbgemocaaGreat
namespace Go.Proofs.YtpnlbjnbgemocaaGreat
set_option linter.unusedVariables false
set_option linter.unusedSimpArgs false
set_option maxRecDepth 100000
open Go.RowKit Nums
theorem Blk.putNum {w:World}{g T:Nat}{x0 x1 x2 x3 x4:Value}(h:Blk w g T #[x0,x1,x2,x3,x4])(y1 y2 y3:Value):Blk (((w.setCell ⟨g,1,none⟩ y1).setCell ⟨g,2,none⟩ y2).setCell ⟨g,3,none⟩ y3) g T #[x0,y1,y2,y3,x4]:=by
  have b1:Blk _ g T #[x0,y1,x2,x3,x4]:=h.putR 1 y1
  have b2:Blk _ g T #[x0,y1,y2,x3,x4]:=b1.putR 2 y2
  have b3:Blk _ g T #[x0,y1,y2,y3,x4]:=b2.putR 3 y3
  exact b3
theorem RV.Is.putNum {r t:RV}{k j g T:Nat}{q:Rat}{w:World}{x0 x4:Value}(h:r.Is k j q w)(b0:Blk w g T #[x0,.bool t.s,.slice t.a t.n t.c,.slice t.b t.m t.d,x4])(y1 y2 y3:Value):r.Is k j q (((w.setCell ⟨g,1,none⟩ y1).setCell ⟨g,2,none⟩ y2).setCell ⟨g,3,none⟩ y3):=by
  have b1:Blk _ g T #[x0,y1,.slice t.a t.n t.c,.slice t.b t.m t.d,x4]:=b0.putR 1 y1
  have b2:Blk _ g T #[x0,y1,y2,.slice t.b t.m t.d,x4]:=b1.putR 2 y2
  have h1:=h.setB (i:=1) (u:=.bool t.s) b0 rfl (by intro x;simp) y1
  have h2:=h1.setB (i:=2) (u:=.slice t.a t.n t.c) b1 rfl (by intro x;simp) y2
  exact h2.setB (i:=3) (u:=.slice t.b t.m t.d) b2 rfl (by intro x;simp) y3
set_option maxHeartbeats 4000000 in
theorem own_t {r:RV}{kk j:Nat}{q:Rat}{w:World}(k:Int)(nm:ByteArray)(hr:r.Is kk j q w)(hk:kk≤1000)(hj:j≤1000):Calls Tryz.prog 38 #[.agg #[.int .i64 k,.bool r.s,.slice r.a r.n r.c,.slice r.b r.m r.d,.string nm]] w (ValV k kk j q nm w):=by
  obtain⟨W1,hW1⟩:∃ W1,W1=w.alloc (.cells #[.int .i64 k,.bool r.s,.slice r.a r.n r.c,.slice r.b r.m r.d,.string nm] 51):=⟨_,rfl⟩
  obtain⟨W2,hW2⟩:∃ W2,W2=W1.alloc (.cells #[.int .i64 0,.bool false,.slice none 0 0,.slice none 0 0,.string ⟨#[]⟩] 51):=⟨_,rfl⟩
  have hb1:Below w.heap.size w W1:=by rw [hW1];exact below_one _ _
  have hb2:Below W1.heap.size W1 W2:=by rw [hW2];exact below_one _ _
  have HK1:=Lib.hid ((show Blk W1 w.heap.size 51 #[.int .i64 k,.bool r.s,.slice r.a r.n r.c,.slice r.b r.m r.d,.string nm] by rw [hW1];exact Blk.new _ _ _).later hb2)
  have HK2:=Lib.hid (show Blk W2 W1.heap.size 51 #[.int .i64 0,.bool false,.slice none 0 0,.slice none 0 0,.string ⟨#[]⟩] by rw [hW2];exact Blk.new _ _ _)
  have HB:=Lib.hid (bthen hb1 hb2)
  have HR:=Lib.hid (hr.later HB.out)
  have HKJ:=Lib.hid (And.intro hk hj)
  have HS1:=Lib.hid (show w.heap.size+1=W1.heap.size by rw [hW1];simp)
  have HL:=Lib.hid (show w.heap.size<W1.heap.size by rw [hW1];simp)
  have HW1:=Lib.hid hW1
  have HW2:=Lib.hid hW2
  have hne:w.heap.size≠W1.heap.size:=by rw [hW1];simp
  have hne':=hne.symm
  clear hb1 hb2 hr hk hj hW1 hW2
  obtain⟨p0,p1,p2,p3,p4⟩:=HK1.out.fiveR
  go_enter Tryz.func38,Tryz.ntmps38
  go_upto_region 1 with fail
  rw [←HW1.out,←HW2.out];simp only [HS1.out];clear HW1 HW2 HS1
  go_upto_region 2 with (go_at_call 77;(with_reducible refine(ownNumber_t HR.out HKJ.out.1 HKJ.out.2).mono ?_);rintro e w3 ⟨rn,rfl,hn,hb⟩;have HN:=Lib.hid hn;replace HK1:=Lib.hid (HK1.out.later hb);replace HK2:=Lib.hid (HK2.out.later hb);replace HB:=Lib.hid (bthen HB.out hb);clear hn hb p0 p1 p2 p3 p4;obtain⟨p0,p1,p2,p3,p4⟩:=HK1.out.fiveR;obtain⟨f0,f1,f2,f3,f4⟩:=HK1.out.fiveF)
  clear p0 p1 p2 p3 p4 f0 f1 f2 f3 f4
  have HKA:=Lib.hid (HK1.out.putNum (.bool rn.s) (.slice rn.a rn.n rn.c) (.slice rn.b rn.m rn.d))
  have HNA:=Lib.hid (HN.out.putNum (t:=r) HK1.out (.bool rn.s) (.slice rn.a rn.n rn.c) (.slice rn.b rn.m rn.d))
  have HKB:=Lib.hid (show Blk (((w3.setCell ⟨w.heap.size,1,none⟩ (.bool rn.s)).setCell ⟨w.heap.size,2,none⟩ (.slice rn.a rn.n rn.c)).setCell ⟨w.heap.size,3,none⟩ (.slice rn.b rn.m rn.d)) W1.heap.size 51 #[.int .i64 0,.bool false,.slice none 0 0,.slice none 0 0,.string ⟨#[]⟩] from((Below.heap_setCell _ ⟨w.heap.size,3,none⟩ _ _ hne').trans ((Below.heap_setCell _ ⟨w.heap.size,2,none⟩ _ _ hne').trans (Below.heap_setCell _ ⟨w.heap.size,1,none⟩ _ _ hne'))).trans HK2.out)
  have HBB:=Lib.hid (((HB.out.setCell (p:=⟨w.heap.size,1,none⟩) (Nat.le_refl _) (.bool rn.s)).setCell (p:=⟨w.heap.size,2,none⟩) (Nat.le_refl _) (.slice rn.a rn.n rn.c)).setCell (p:=⟨w.heap.size,3,none⟩) (Nat.le_refl _) (.slice rn.b rn.m rn.d))
  generalize (((w3.setCell ⟨w.heap.size,1,none⟩ (.bool rn.s)).setCell ⟨w.heap.size,2,none⟩ (.slice rn.a rn.n rn.c)).setCell ⟨w.heap.size,3,none⟩ (.slice rn.b rn.m rn.d))=W5 at HKA HNA HKB HBB ⊢
  obtain⟨p0,p1,p2,p3,p4⟩:=HKA.out.fiveR
  obtain⟨z0,z1,z2,z3,z4⟩:=HKB.out.fiveR
  obtain⟨y0,y1,y2,y3,y4⟩:=HKB.out.fiveF
  go_wp2_with fail
  exact bodyPost_ret (v:=.agg #[.int .i64 k,.bool rn.s,.slice rn.a rn.n rn.c,.slice rn.b rn.m rn.d,.string nm]) (by simp [results,Tryz.results38,go_sem, *]) rfl ⟨rn,rfl,HNA.out.put5 HKB.out _ _ _ _ _,below_put5 HBB.out (Nat.le_of_lt HL.out) _ _ _ _ _⟩
end Go.Proofs.YtpnlbjnbgemocaaGreat
namespace Go.Proofs.YtpnlbjnbgemocaaGreat
set_option linter.unusedVariables false
set_option linter.unusedSimpArgs false
set_option maxRecDepth 100000
open Go.RowKit Nums
structure VM where
  k:Int
  r:RV
  nm:ByteArray
  q:Rat
structure VAt (w:World) (b o:Nat) (x:VM):Prop where
  c0:w.cell? ⟨b,o,none⟩=some (.int .i64 x.k)
  c1:w.cell? ⟨b,o+1,none⟩=some (.bool x.r.s)
  c2:w.cell? ⟨b,o+2,none⟩=some (.slice x.r.a x.r.n x.r.c)
  c3:w.cell? ⟨b,o+3,none⟩=some (.slice x.r.b x.r.m x.r.d)
  c4:w.cell? ⟨b,o+4,none⟩=some (.string x.nm)
  num:x.r.Is 19 19 x.q w
theorem VAt.later {w w':World}{b o:Nat}{x:VM}(h:VAt w b o x)(hl:b<w.heap.size)(hb:Below w.heap.size w w'):VAt w' b o x:=
  ⟨(hb.cell (p:=⟨b,o,none⟩) hl).trans h.c0,(hb.cell (p:=⟨b,o+1,none⟩) hl).trans h.c1,(hb.cell (p:=⟨b,o+2,none⟩) hl).trans h.c2,(hb.cell (p:=⟨b,o+3,none⟩) hl).trans h.c3,(hb.cell (p:=⟨b,o+4,none⟩) hl).trans h.c4,h.num.later hb⟩
def VRow (w:World)(a:Option Addr)(n c:Nat)(L:List VM):Prop:=
  L.length=n∧n≤c∧c≤maxLen∧∃ b off,(a=some ⟨b,off,none⟩∨n≤0)∧∀ i x,L[i]?=some x→b<w.heap.size∧VAt w b (off+i*5) x
theorem VRow.later {w w':World}{a:Option Addr}{n c:Nat}{L:List VM}(h:VRow w a n c L)(hb:Below w.heap.size w w'):VRow w' a n c L:=by
  obtain⟨h1,h2,h3,b,off,h4,h5⟩:=h
  exact⟨h1,h2,h3,b,off,h4,fun i x hx=>⟨Nat.lt_of_lt_of_le (h5 i x hx).1 hb.size,(h5 i x hx).2.later (h5 i x hx).1 hb⟩⟩
theorem VRow.at_ {w:World}{a:Option Addr}{n c:Nat}{L:List VM}(h:VRow w a n c L){i:Nat}{x:VM}(hx:L[i]?=some x):∃ b off,a=some ⟨b,off,none⟩∧b<w.heap.size∧VAt w b (off+i*5) x:=by
  obtain⟨h1,h2,h3,b,off,h4,h5⟩:=h
  have hi:i<L.length:=(List.getElem?_eq_some_iff.1 hx).1
  exact⟨b,off,h4.resolve_right (by omega),h5 i x hx⟩
set_option maxHeartbeats 4000000 in
theorem index_no (a:Option Addr)(n c:Nat)(L:List VM)(w:World)(h:VRow w a n c L)(hn:n≤100000)(hL:∀ x∈L,x.k≠0):Calls Tryz.prog 177 #[.slice a n c,.func (.func 165) #[] #[]] w fun e w'=>e=.returned (.int .i64 (-1))∧Below w.heap.size w w':=by
  have HL:=Lib.hid h.1
  have HH:=Lib.hid (fun(W:World) (hb:Below w.heap.size w W)=>h.later hb)
  have HK:=Lib.hid hL
  have HN:=Lib.hid hn
  clear h hL hn
  go_enter Tryz.func177,Tryz.ntmps177
  go_wp2_with fail
  go_loopw [8] (fun t8 wr=>∃ k:Nat,k≤n∧t8=.int .i64 k∧Hid (Below w.heap.size w wr)) (fun t _=>n-(intOf t).toNat)
  case atStart=>exact⟨0,Nat.zero_le _,rfl,Lib.hid (Below.refl _ _)⟩
  case round=>
    obtain⟨k,hk,rfl,HB⟩:=hrel
    have hkb:(k:Int)≤100000:=by have:=HN.out;omega
    by_cases hlt:k<n
    · obtain⟨x,hx⟩:∃ x,L[k]?=some x:=⟨_,List.getElem?_eq_getElem (by rw [HL.out];exact hlt)⟩
      obtain⟨b,off,ha,hbB,hat⟩:=(HH.out _ HB.out).at_ hx
      have HD:=Lib.hid (decide_eq_false (HK.out x (List.mem_of_getElem? hx)))
      obtain⟨c0,c1,c2,c3,c4,-⟩:=hat
      subst ha
      clear hx
      go_wp2_with (go_at_call 165;(with_reducible refine(isNothing_t x.k x.r x.nm _).mono ?_);rintro e w1 ⟨rfl,hb⟩;rw [HD.out];have HB1:=Lib.hid (HB.out.trans (hb.mono HB.out.size));clear hb)
      go_roundw
      case rel=>exact⟨k+1,by omega,by go_num,HB1⟩
      case measure=>simp [intOf];omega
    · obtain rfl:k=n:=by omega
      go_wp2_with fail
      go_ret
      exact⟨rfl,HB.out⟩
theorem contains_no (a:Option Addr)(n c:Nat)(L:List VM)(w:World)(h:VRow w a n c L)(hn:n≤100000)(hL:∀ x∈L,x.k≠0):Calls Tryz.prog 161 #[.slice a n c,.func (.func 165) #[] #[]] w fun e w'=>e=.returned (.bool false)∧Below w.heap.size w w':=by
  have HI:=Lib.hid (index_no a n c L w h hn hL)
  clear h hn hL
  go_enter Tryz.func161,Tryz.ntmps161
  go_wp2_with (go_at_call 177;(with_reducible refine HI.out.mono ?_);rintro e w1 ⟨rfl,hb⟩;have HB:=Lib.hid hb;clear hb)
  go_ret
  exact⟨rfl,HB.out⟩
end Go.Proofs.YtpnlbjnbgemocaaGreat
namespace Go.Proofs.YtpnlbjnbgemocaaGreat
set_option linter.unusedVariables false
set_option linter.unusedSimpArgs false
set_option maxRecDepth 100000
open Go.RowKit Nums
def NoU (arr:Array Value):Prop:=∀(p:Nat) (u:Value),arr[p]?=some u→∀ z:Int,u≠Value.int .u32 z
theorem NoU.set {arr:Array Value}(h:NoU arr)(i:Nat)(y:Value)(hy:∀ z:Int,y≠Value.int .u32 z):NoU (arr.setIfInBounds i y):=by
  intro p u hu
  rw [Array.getElem?_setIfInBounds] at hu
  split at hu
  · split at hu
    · injection hu with hu;subst hu;exact hy
    · cases hu
  · exact h p u hu
theorem NoU.made (z:Array Value)(n:Nat)(hz:∀ i:Nat,∀ x:Int,z[i]!≠Value.int .u32 x):NoU (madeCells z n):=by
  intro p u hu
  have hp:p<n:=by have:=(Array.getElem?_eq_some_iff.1 hu).1;rwa [size_madeCells] at this
  rw [made_get hp] at hu
  injection hu with hu
  subst hu
  exact hz _
theorem zVal_noU:∀ i:Nat,∀ x:Int,zVal[i]!≠Value.int .u32 x:=by
  intro i x
  match i with
  | 0=>simp [zVal]
  | 1=>simp [zVal]
  | 2=>simp [zVal]
  | 3=>simp [zVal]
  | 4=>simp [zVal]
  | i+5=>simp [zVal];intro h;cases h
theorem RV.Is.setN {r:RV}{k j g T i:Nat}{q:Rat}{w:World}{arr:Array Value}(h:r.Is k j q w)(hx:Blk w g T arr)(hn:NoU arr)(hi:i<arr.size)(y:Value):r.Is k j q (w.setCell ⟨g,i,none⟩ y):=
  h.setB hx (Array.getElem?_eq_getElem hi) (hn i _ (Array.getElem?_eq_getElem hi)) y
theorem put5A_noU {arr:Array Value}(h:NoU arr)(o:Nat)(x:VM)(r:RV):NoU (put5A arr o (.int .i64 x.k) (.bool r.s) (.slice r.a r.n r.c) (.slice r.b r.m r.d) (.string x.nm)):=
  ((((h.set _ _ (by intro z;simp)).set _ _ (by intro z;simp)).set _ _ (by intro z;simp)).set _ _ (by intro z;simp)).set _ _ (by intro z;simp)
theorem RV.Is.set5N {r t:RV}{k j g T o:Nat}{q:Rat}{w:World}{arr:Array Value}(x:VM)(h:t.Is k j q w)(hx:Blk w g T arr)(hn:NoU arr)(hi:o+5≤arr.size):t.Is k j q (((((w.setCell ⟨g,o,none⟩ (.int .i64 x.k)).setCell ⟨g,o+1,none⟩ (.bool r.s)).setCell ⟨g,o+2,none⟩ (.slice r.a r.n r.c)).setCell ⟨g,o+3,none⟩ (.slice r.b r.m r.d)).setCell ⟨g,o+4,none⟩ (.string x.nm)):=by
  have b1:=hx.putI o (.int .i64 x.k)
  have b2:=b1.putI (o+1) (.bool r.s)
  have b3:=b2.putI (o+2) (.slice r.a r.n r.c)
  have b4:=b3.putI (o+3) (.slice r.b r.m r.d)
  have n1:=hn.set o (.int .i64 x.k) (by intro z;simp)
  have n2:=n1.set (o+1) (.bool r.s) (by intro z;simp)
  have n3:=n2.set (o+2) (.slice r.a r.n r.c) (by intro z;simp)
  have n4:=n3.set (o+3) (.slice r.b r.m r.d) (by intro z;simp)
  have s1:=h.setN (i:=o) hx hn (by omega) (.int .i64 x.k)
  have s2:=s1.setN (i:=o+1) b1 n1 (by simp;omega) (.bool r.s)
  have s3:=s2.setN (i:=o+2) b2 n2 (by simp;omega) (.slice r.a r.n r.c)
  have s4:=s3.setN (i:=o+3) b3 n3 (by simp;omega) (.slice r.b r.m r.d)
  exact s4.setN (i:=o+4) b4 n4 (by simp;omega) (.string x.nm)
def ValN (w:World)(arr:Array Value)(i:Nat)(x:VM):Prop:=∃ r:RV,(∀ t u,[.int .i64 x.k,.bool r.s,.slice r.a r.n r.c,.slice r.b r.m r.d,.string x.nm][t]?=some u→arr[i*5+t]?=some u)∧r.Is 19 19 x.q w
set_option maxHeartbeats 8000000 in
theorem eachV_t (a:Option Addr)(n c:Nat)(xs:List VM)(w:World)(h:VRow w a n c xs)(hn:n≤100000) :
    Calls Tryz.prog 37 #[.slice a n c,.func (.func 38) #[] #[]] w fun e w'=>(∃ g arr,e=.returned (.slice (some ⟨g,0,none⟩) n n)∧w.heap.size≤g∧Blk w' g 51 arr∧arr.size=n*5∧NoU arr∧∀ i x,xs[i]?=some x→ValN w' arr i x)∧Below w.heap.size w w':=by
  have HL:=Lib.hid h.1
  have HH:=Lib.hid (fun(W:World) (hb:Below w.heap.size w W)=>h.later hb)
  have HN:=Lib.hid hn
  have hnI:(n:Int)≤100000:=by omega
  clear h
  go_enter Tryz.func37,Tryz.ntmps37
  go_wp2_with (at_make;refine mkG 22 51 zVal 5 80 Tryz.underlying22 Tryz.zInfo51 zVal_cells (by omega) rfl _ rfl n rfl (by omega) ?_)
  obtain⟨W1,hW1⟩:∃ W1,W1=w.alloc (.cells (madeCells zVal (n*5)) 51):=⟨_,rfl⟩
  have HB1:=Lib.hid (show Below w.heap.size w W1 by rw [hW1];exact(Below.refl _ _).alloc (Nat.le_refl _) _)
  have HK1:=Lib.hid (show Blk W1 w.heap.size 51 (madeCells zVal (n*5)) by rw [hW1];exact Blk.new _ _ _)
  rw [←hW1]
  clear hW1
  go_wp2_with fail
  go_loopw [13] (fun t wr=>∃ k:Nat,k≤n∧t=.int .i64 k∧Hid (Below w.heap.size w wr)∧Hid (∃ arr,Blk wr w.heap.size 51 arr∧arr.size=n*5∧NoU arr∧∀ i x,i<k→xs[i]?=some x→ValN wr arr i x)) (fun t _=>n-(intOf t).toNat)
  case atStart=>exact⟨0,Nat.zero_le _,rfl,HB1,Lib.hid ⟨_,HK1.out,size_madeCells _ _,NoU.made _ _ zVal_noU,fun i x hi=>absurd hi (Nat.not_lt_zero _)⟩⟩
  case round=>
    obtain⟨k,hk,rfl,HB,HA⟩:=hrel
    have hkb:(k:Int)≤100000:=by omega
    by_cases hlt:k<n
    · obtain⟨x,hq⟩:∃ x,xs[k]?=some x:=⟨_,List.getElem?_eq_getElem (by rw [HL.out];exact hlt)⟩
      obtain⟨b,off,ha,hbB,hat⟩:=(HH.out _ HB.out).at_ hq
      obtain⟨c0,c1,c2,c3,c4,hnum⟩:=hat
      subst ha
      obtain⟨arr,hblk,hsz,hno,hall⟩:=HA.out
      have HBK:=Lib.hid hblk
      have HSZ:=Lib.hid hsz
      have HNO:=Lib.hid hno
      have HAL:=Lib.hid hall
      have HQ:=Lib.hid hq
      have HNM:=Lib.hid hnum
      have hkI:(k:Int)<(n:Int):=by omega
      clear hblk hsz hno hall hq hnum hbB HA
      go_upto_region 5 with fail
      obtain⟨W3,hW3⟩:∃ W3,W3=wr.alloc (.cells #[.int .i64 x.k,.bool x.r.s,.slice x.r.a x.r.n x.r.c,.slice x.r.b x.r.m x.r.d,.string x.nm] 51):=⟨_,rfl⟩
      have hb3:Below wr.heap.size wr W3:=by rw [hW3];exact(Below.refl _ _).alloc (Nat.le_refl _) _
      have HB3:=Lib.hid hb3
      have HK3:=Lib.hid (show Blk W3 wr.heap.size 51 #[.int .i64 x.k,.bool x.r.s,.slice x.r.a x.r.n x.r.c,.slice x.r.b x.r.m x.r.d,.string x.nm] by rw [hW3];exact Blk.new _ _ _)
      rw [←hW3]
      clear hW3 hb3 c0 c1 c2 c3 c4
      have p0:=HK3.out.cell 0 rfl
      have p1:=HK3.out.cell 1 rfl
      have p2:=HK3.out.cell 2 rfl
      have p3:=HK3.out.cell 3 rfl
      have p4:=HK3.out.cell 4 rfl
      go_wp2_with (go_at_call 38;(with_reducible refine(own_t x.k x.nm (HNM.out.later HB3.out) (by omega) (by omega)).mono ?_);rintro e w4 ⟨r,rfl,hr,hb4⟩;have HR4:=Lib.hid hr;have HB4:=Lib.hid hb4;have HBK4:=Lib.hid ((HBK.out.later HB3.out).later hb4);clear hr hb4 p0 p1 p2 p3 p4;obtain⟨u0,hu0⟩:=arr_some (p:=k*5) HSZ.out (by omega);have z0:=HBK4.out.cell _ hu0;have y0:=HBK4.out.free (k*5);obtain⟨u1,hu1⟩:=arr_some (p:=k*5+1) HSZ.out (by omega);have z1:=HBK4.out.cell _ hu1;have y1:=HBK4.out.free (k*5+1);obtain⟨u2,hu2⟩:=arr_some (p:=k*5+2) HSZ.out (by omega);have z2:=HBK4.out.cell _ hu2;have y2:=HBK4.out.free (k*5+2);obtain⟨u3,hu3⟩:=arr_some (p:=k*5+3) HSZ.out (by omega);have z3:=HBK4.out.cell _ hu3;have y3:=HBK4.out.free (k*5+3);obtain⟨u4,hu4⟩:=arr_some (p:=k*5+4) HSZ.out (by omega);have z4:=HBK4.out.cell _ hu4;have y4:=HBK4.out.free (k*5+4);clear hu0 hu1 hu2 hu3 hu4)
      go_roundw
      case rel=>
        have HO:=Lib.hid (show Only [some w.heap.size] w4 (((((w4.setCell ⟨w.heap.size,k*5,none⟩ (Value.int .i64 x.k)).setCell ⟨w.heap.size,k*5+1,none⟩ (Value.bool r.s)).setCell ⟨w.heap.size,k*5+2,none⟩ (Value.slice r.a r.n r.c)).setCell ⟨w.heap.size,k*5+3,none⟩ (Value.slice r.b r.m r.d)).setCell ⟨w.heap.size,k*5+4,none⟩ (Value.string x.nm)) from((((Only.set (S:=[some w.heap.size]) (by simp) _ _ _).trans (Only.set (by simp) _ _ _)).trans (Only.set (by simp) _ _ _)).trans (Only.set (by simp) _ _ _)).trans (Only.set (by simp) _ _ _))
        have HBE:=Lib.hid (show Below w.heap.size w w4 from(HB.out.trans (HB3.out.mono HB.out.size)).trans (HB4.out.mono (Nat.le_trans HB.out.size HB3.out.size)))
        refine⟨k+1,by omega,by go_num,Lib.hid (andOnlyB HBE.out HBE.out.size HO.out),Lib.hid ⟨put5A arr (k*5) (.int .i64 x.k) (.bool r.s) (.slice r.a r.n r.c) (.slice r.b r.m r.d) (.string x.nm), ?_,by rw [put5A_size];exact HSZ.out,put5A_noU HNO.out _ _ _,fun i x' hi hq'=>?_⟩⟩
        · exact((((HBK4.out.putI _ _).putI _ _).putI _ _).putI _ _).putI _ _
        · rcases(show i<k∨i=k by omega) with hik | rfl
          · obtain⟨r2,h1,h2⟩:=HAL.out i x' hik hq'
            refine⟨r2,fun t u hu=>?_,RV.Is.set5N x ((h2.later HB3.out).later HB4.out) HBK4.out HNO.out (by rw [HSZ.out];omega)⟩
            have ht:t<5:=by have:=(List.getElem?_eq_some_iff.1 hu).1;simpa using this
            rw [put5A_far _ _ _ _ _ _ _ _ (by omega)]
            exact h1 t u hu
          · rw [HQ.out] at hq'
            injection hq' with hq'
            subst hq'
            exact⟨r,fun t u hu=>put5A_at _ _ _ _ _ _ _ _ u (by rw [HSZ.out];omega) hu,RV.Is.set5N x HR4.out HBK4.out HNO.out (by rw [HSZ.out];omega)⟩
      case measure=>simp [intOf];omega
    · obtain rfl:k=n:=by omega
      go_wp2_with fail
      go_ret
      obtain⟨arr,hblk,hsz,hno,hall⟩:=HA.out
      exact⟨⟨w.heap.size,arr,rfl,Nat.le_refl _,hblk,hsz,hno,fun i x hq=>hall i x (by rw [←HL.out];exact(List.getElem?_eq_some_iff.1 hq).1) hq⟩,HB.out⟩
set_option maxHeartbeats 4000000 in
theorem eachV_none (a:Option Addr)(c:Nat)(w:World) :
    Calls Tryz.prog 37 #[.slice a 0 c,.func (.func 111) #[] #[]] w fun e w'=>e=.returned (.slice (some ⟨w.heap.size,0,none⟩) 0 0)∧w'=w.alloc (.cells #[] 51):=by
  go_enter Tryz.func37,Tryz.ntmps37
  go_wp2_with (at_make;refine mkG 22 51 zVal 5 80 Tryz.underlying22 Tryz.zInfo51 zVal_cells (by omega) rfl _ rfl 0 rfl (by omega) ?_)
  rw [made_zero]
  go_loopw [13] (fun t wr=>t=.int .i64 0∧Hid (wr=w.alloc (.cells #[] 51))) (fun t _=>0)
  case atStart=>exact⟨rfl,Lib.hid rfl⟩
  case round=>
    obtain⟨rfl,hw⟩:=hrel
    go_wp2_with fail
    go_ret
    exact⟨rfl,hw.out⟩
end Go.Proofs.YtpnlbjnbgemocaaGreat
namespace Go.Proofs.YtpnlbjnbgemocaaGreat
set_option linter.unusedVariables false
set_option linter.unusedSimpArgs false
set_option maxRecDepth 100000
open Go.RowKit Gr
theorem rplan_right {f:FlatM}{n:Nat}{out:List Nat}{xs:List Int}{S:Nat}(hg:goodB f=true)(hG:(gOf f).length=n)(h:RPlan f n out xs S):RightP f n (ints out) xs (S:Int):=by
  obtain⟨sls,hlo⟩:=h.slots
  have hoi:=hlo.out
  have hltS:∀ k,k<n→sls.getD k 0<S:=fun k hk=>by
    have:=Pl.top_ge (fun k=>sls.getD k 0+1) n k hk
    rw [←hlo.top] at this;omega
  have ho:=h.once
  have hxl:=hoi.1
  have hget:∀ v:Nat,v<n→∃ k,k<n∧(ints out).getD k 0=(v:Int)∧xs.getD v 0=(sls.getD k 0:Nat):=fun v hv=>by
    obtain⟨k,hk,e1,e2⟩:=ho.plc hv
    exact⟨k,hk,e2,hoi.2 k hk v e2⟩
  refine⟨hg,ho,⟨hxl,fun x hx=>?_⟩,fun v hv u hu hnd=>?_,fun a ha k hk e=>?_⟩
  · obtain⟨v,hv,e⟩:=List.mem_iff_getElem.1 hx
    obtain⟨k,hk,_,e2⟩:=hget v (by omega)
    have:xs.getD v 0=x:=by simp [hv,e]
    rw [this] at e2
    have:=hltS k hk
    omega
  · obtain⟨i,hi,e1,e2⟩:=ho.plc hv
    obtain⟨j,hj,e3,e4⟩:=ho.plc hu
    rw [e1,e3]
    rw [getD_map] at e2 e4
    have hil:i<out.length:=by rw [h.len];exact hi
    have hsp:out=out.take i++out.getD i 0::out.drop (i+1):=by
      have h1:=List.take_append_drop i out
      rw [List.drop_eq_getElem_cons hil] at h1
      conv=>lhs;rw [←h1]
      simp [hil]
    have hr:=(h.lst _ _ _ hsp).1.2.2 u (by
      have:out.getD i 0=v:=by omega
      rw [this]
      unfold ndB at hnd
      simp only [Bool.and_eq_true,decide_eq_true_eq] at hnd
      exact⟨by rw [hG];exact hv,by rw [hG];exact hu,by simpa using hnd.2⟩)
    obtain⟨q,hq,eq⟩:=List.mem_iff_getElem.1 hr
    rw [List.length_take] at hq
    have hqi:q<i:=by omega
    have e5:out.getD q 0=u:=by
      rw [List.getElem_take] at eq
      have:q<out.length:=by omega
      simp [this,eq]
    have hjq:j=q:=nd_inj ho.nd (by rw [ho.len];exact hj) (by rw [ho.len];omega) (by rw [getD_map,getD_map,e5];exact e4)
    omega
  · have han:a<n:=ha
    obtain⟨x,hx,ex⟩:=ho.get (show k<n by omega)
    obtain⟨y,hy,ey⟩:=ho.get han
    rw [ex,ey,Int.toNat_natCast,Int.toNat_natCast,hoi.2 k (by omega) x ex,hoi.2 a ha y ey] at e
    refine Classical.byContradiction fun hc=>?_
    exact hlo.free a ha k hk (by omega) (by omega)
end Go.Proofs.YtpnlbjnbgemocaaGreat
