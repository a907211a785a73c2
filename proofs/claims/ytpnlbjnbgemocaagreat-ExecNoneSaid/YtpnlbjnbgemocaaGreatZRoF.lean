import Derived.Test.YtpnlbjnbgemocaaGreatZRoARfA
import Derived.Test.YtpnlbjnbgemocaaGreatZQFToMdHN6
import Derived.Laws.ResultCell
import Derived.Laws.Rows
import Derived.Deep.DeepCutAuto
namespace Go.Proofs.YtpnlbjnbgemocaaGreat
set_option linter.unusedVariables false
set_option linter.unusedSimpArgs false
set_option maxRecDepth 100000
open Go.RowKit Gr
def Tk (L:Nat→Nat)(sls:List Nat)(i s:Nat):Prop:=∃ k,k<i∧sls.getD k 0=s∧i≤L k
theorem pig {sls:List Nat}{k s:Nat}(h:∀ s',s'<s→∃ k',k'<k∧sls.getD k' 0=s'):s≤k:=by
  have:=Pl.nodup_sub (List.range s) ((List.range k).map fun j=>sls.getD j 0) List.nodup_range fun x hx=>by
    obtain⟨k',h1,h2⟩:=h x (List.mem_range.1 hx)
    exact List.mem_map.2 ⟨k',List.mem_range.2 h1,h2⟩
  simpa using this
theorem Tk.pig {L:Nat→Nat}{sls:List Nat}{i s:Nat}(h:∀ s',s'<s→Tk L sls i s'):s≤i:=
  Go.Proofs.YtpnlbjnbgemocaaGreat.pig fun s' hs=>by obtain⟨k,h1,h2,_⟩:=h s' hs;exact⟨k,h1,h2⟩
structure RoP (L:Nat→Nat) (o:List Int) (n i:Nat) (sls:List Nat) (xs:List Int) (S:Nat):Prop where
  len:sls.length=i
  out:OutI o n i sls xs
  free:∀ k,k<i→∀ k',k'<k→k≤L k'→sls.getD k' 0≠sls.getD k 0
  least:∀ k,k<i→∀ s,s<sls.getD k 0→∃ k',k'<k∧sls.getD k' 0=s∧k≤L k'
  top:S=Pl.top (fun k=>sls.getD k 0+1) i
theorem RoP.le {L:Nat→Nat}{o:List Int}{n i:Nat}{sls:List Nat}{xs:List Int}{S:Nat}(h:RoP L o n i sls xs S):S≤i:=by
  rw [h.top]
  refine Pl.top_le _ _ _ fun k hk=>?_
  have:sls.getD k 0≤k:=pig fun s' hs=>by
    obtain⟨k',h1,h2,_⟩:=h.least k hk s' hs
    exact⟨k',h1,h2⟩
  omega
theorem RoP.step {L:Nat→Nat}{o:List Int}{n i v s:Nat}{sls:List Nat}{xs:List Int}{S:Nat}(h:RoP L o n i sls xs S)(ho:Once o n)(hi:i<n)(hv:o.getD i 0=(v:Int))(hvn:v<n)
    (h1:∀ s',s'<s→Tk L sls i s') (h2:¬ Tk L sls i s):RoP L o n (i+1) (sls++[s]) (xs.set v (s:Int)) (max S (s+1)):=by
  have g:∀ k,(sls++[s]).getD k 0=if k<i then sls.getD k 0 else if k=i then s else 0:=fun k=>by rw [getD_snoc,h.len]
  have gl:∀ k,k<i→(sls++[s]).getD k 0=sls.getD k 0:=fun k hk=>by rw [g,if_pos hk]
  have gi:(sls++[s]).getD i 0=s:=by rw [g,if_neg (Nat.lt_irrefl _),if_pos rfl]
  refine⟨by simp [h.len],h.out.add ho hi h.len hv hvn,fun k hk k' hk' hl=>?_,fun k hk s' hs'=>?_, ?_⟩
  · by_cases e:k=i
    · subst e
      rw [gi,gl k' hk']
      exact fun q=>h2 ⟨k',hk',q,hl⟩
    · rw [gl k (by omega),gl k' (by omega)]
      exact h.free k (by omega) k' hk' hl
  · by_cases e:k=i
    · subst e
      rw [gi] at hs'
      obtain⟨k',a1,a2,a3⟩:=h1 s' hs'
      exact⟨k',a1,by rw [gl k' a1];exact a2,a3⟩
    · rw [gl k (by omega)] at hs'
      obtain⟨k',a1,a2,a3⟩:=h.least k (by omega) s' hs'
      exact⟨k',a1,by rw [gl k' (by omega)];exact a2,a3⟩
  · show _=max (Pl.top (fun k=>(sls++[s]).getD k 0+1) i) ((sls++[s]).getD i 0+1)
    rw [gi,←top_congr (f:=fun k=>sls.getD k 0+1) (g:=fun k=>(sls++[s]).getD k 0+1) i fun k hk=>by simp only [gl k hk],←h.top]
structure OM (w5:World) (gs gp n:Nat) (A:Option Addr) (c:Nat) (xs:List Int) (S:Nat) (W:World):Prop where
  lt:gs<gp
  bx:Blk W gp 86 #[.slice A n c,.slice (some ⟨gs,0,none⟩) n n,.int .i64 (S:Int)]
  mem:IMem W gs xs
  old:Below gs w5 W
theorem OM.drew {w5:World}{gs gp n:Nat}{A:Option Addr}{c:Nat}{xs:List Int}{S:Nat}{W:World}(h:OM w5 gs gp n A c xs S W):OM w5 gs gp n A c xs S W.drew:=⟨h.lt,h.bx,h.mem,h.old.drew⟩
theorem OM.drewN {w5:World}{gs gp n q:Nat}{A:Option Addr}{c:Nat}{xs:List Int}{S:Nat}{W:World}(h:OM w5 gs gp n A c xs S W):OM w5 gs gp n A c xs S (W.drewN q):=⟨h.lt,h.bx,h.mem,below_drewN h.old⟩
theorem OM.put {w5:World}{gs gp n:Nat}{A:Option Addr}{c:Nat}{xs:List Int}{S:Nat}{W:World}(h:OM w5 gs gp n A c xs S W)(u:Nat)(x:Int):OM w5 gs gp n A c (xs.set u x) S (W.setCell ⟨gs,u,none⟩ (.int .i64 x)):=
  ⟨h.lt,by unfold Blk;rw [Below.heap_setCell W _ _ gp (by have:=h.lt;simp;omega)];exact h.bx,h.mem.set u x,h.old.setCell (Nat.le_refl _) _⟩
theorem OM.putS {w5:World}{gs gp n:Nat}{A:Option Addr}{c:Nat}{xs:List Int}{S:Nat}{W:World}(h:OM w5 gs gp n A c xs S W)(S':Nat):OM w5 gs gp n A c xs S' (W.setCell ⟨gp,2,none⟩ (.int .i64 (S':Int))):=by
  refine⟨h.lt, ?_,h.mem.setOther (by have:=h.lt;simp;omega) _,h.old.setCell (Nat.le_of_lt h.lt) _⟩
  have h1:Blk W gp 86 [.slice A n c,.slice (some ⟨gs,0,none⟩) n n,.int .i64 (S:Int)].toArray:=h.bx
  exact h1.put 2 _
def bnat:Value→Nat
  | .bool true=>1
  | _=>0
def RoL2 (L:Nat→Nat)(sls:List Nat)(i:Nat)(sv tv:Value):Prop:=∃(s:Nat) (b:Bool),sv=.int .i64 (s:Int)∧tv=.bool b∧(∀ s',s'<s→Tk L sls i s')∧(b=false→¬ Tk L sls i s)
def RoL3 (L:Nat→Nat)(sls:List Nat)(i s:Nat)(tv kv:Value):Prop:=∃(k:Nat) (b:Bool),k≤i∧kv=.int .i64 (k:Int)∧tv=.bool b∧(b=true↔∃ k',k'<k∧sls.getD k' 0=s∧i≤L k')
structure RPlan (f:FlatM) (n:Nat) (out:List Nat) (xs:List Int) (S:Nat):Prop where
  lst:IsLst (gOf f) out
  len:out.length=n
  once:Once (ints out) n
  slots:∃ sls,RoP (Lpl (laF f (ints out)) (ints out)) (ints out) n n sls xs S
def ROfPost (f:FlatM)(n:Nat)(w:World)(e:Ending)(w':World):Prop:=
  ((∃ A c out g xs S,e=.returned (.tuple #[planV A n c (some ⟨g,0,none⟩) n n (S:Nat),.int .i64 0])∧IRow w' w'.heap.size A n c (ints out)∧IMem w' g xs∧RPlan f n out xs S) ∨
    (e=.returned (.tuple #[planV none 0 0 none 0 0 0,.int .i64 140])∧∃ out,IsLst (gOf f) out∧out.length<n∧∀ y,¬ Rdy (gOf f) out y))∧Below w.heap.size w w'
set_option maxHeartbeats 4000000 in
theorem rof_t (v : FlatV) (f : FlatM) (B : Nat) (w : World) (h : FlatIs w B v f) (hB : B ≤ w.heap.size) (hg : goodB f = true) (hs : SmallF f) :
    Calls Tryz.prog 32 #[flatV v] w (ROfPost f v.names.2.1 w):=by
  have hsm:v.names.2.1≤200:=by rw [←h.names.1];exact hs.names
  have hn:v.names.2.1≤1000000:=by omega
  have HNN:Hid (f.names.length=v.names.2.1):=Lib.hid h.names.1
  have HGL:Hid ((gOf f).length=v.names.2.1):=Lib.hid (by unfold gOf;rw [gTo_len];exact h.names.1)
  obtain⟨W1,hW1⟩:∃ W1,W1=(w.alloc (.cells (fvs v) 83)).alloc (.cells #[.slice none 0 0,.slice none 0 0,.int .i64 0] 86):=⟨_,rfl⟩
  have hb1:Below w.heap.size w W1:=by rw [hW1];exact((Below.refl _ _).alloc (Nat.le_refl _) _).alloc (by simp) _
  have hs1:W1.heap.size=w.heap.size+2:=by rw [hW1];simp
  have HR:=Lib.hid (show Blk W1 (w.heap.size+1) 86 #[.slice none 0 0,.slice none 0 0,.int .i64 0] from by rw [hW1];have:=Blk.new (w.alloc (.cells (fvs v) 83)) 86 #[.slice none 0 0,.slice none 0 0,.int .i64 0];rw [size_alloc] at this;exact this)
  have HK:=Lib.hid (show Blk W1 w.heap.size 83 (fvs v) from by rw [hW1];exact(Blk.new _ _ _).alloc _)
  have HGC:Hid (Calls Tryz.prog 64 #[flatV v] W1 fun e w'=>e=.returned (.bool true)∧Below W1.heap.size W1 w'):=Lib.hid (by
    have:=refGood_t v f B W1 (h.below (hb1.mono hB)) (by omega) hn
    rw [hg] at this;exact this)
  have HB1:=Lib.hid hb1
  have HS1:=Lib.hid hs1
  have HIS:=Lib.hid (fun W (hb:Below W1.heap.size W1 W)=>h.below (hb1.trans (hb.mono (by omega)) |>.mono hB))
  have hBW:B≤W1.heap.size:=by omega
  have HNC:=Lib.hid (fun W (hb:Below W1.heap.size W1 W)=>needs14_t v f B W (HIS.out W hb) (Nat.le_trans hBW hb.size) hg hs)
  have HLC:=Lib.hid (fun W (hb:Below W1.heap.size W1 W) (A:Option Addr) (c:Nat) (o:List Int) (hr:IRow W W.heap.size A v.names.2.1 c o)=>lasts_t v f B A v.names.2.1 c W.heap.size o W (HIS.out W hb) (Nat.le_trans hBW hb.size) hg hs hr (Nat.le_refl _) hn)
  unfold flatV sl3 at HNC HLC
  clear h hB hg hb1 hs1 hs hBW
  obtain⟨f0,f1,f2,f3,f4,f5,f6,f7⟩:=HK.out.flat
  unfold flatV sl3 at HGC ⊢
  unfold fvs at hW1
  go_enter Tryz.func32,Tryz.ntmps32
  go_upto_region 1 with fail
  rw [←hW1]
  clear hW1
  go_wp2_with (first | (go_at_call 64;(with_reducible refine HGC.out.mono ?_);rintro e w2 ⟨rfl,hb2⟩;have HB:=Lib.hid hb2;clear hb2;clear f0 f1 f2 f3 f4 f5 f6 f7;obtain⟨f0,f1,f2,f3,f4,f5,f6,f7⟩:=(HK.out.later HB.out).flat) | (go_at_call 66;(with_reducible refine(HNC.out _ HB.out).mono ?_);rintro e w3 ⟨g3,rfl,hgr,hb3⟩;have HGR:=Lib.hid hgr;have HB3:=Lib.hid (HB.out.trans (hb3.mono HB.out.size));clear hgr hb3))
  rw [HNN.out] at HGR
  rw [HNN.out]
  have HOC:=Lib.hid (rorder_t (some ⟨g3,0,none⟩) v.names.2.1 v.names.2.1 w3.heap.size (gOf f) w3 HGR.out (Nat.le_refl _) hn)
  refine HOC.out.mono ?_
  clear f0 f1 f2 f3 f4 f5 f6 f7
  rintro e w4 ⟨ho | ho,hb4⟩
  rotate_left
  · obtain⟨rfl,out,hno1,hno2,hno3⟩:=ho
    have HNO:Hid (∃ out,IsLst (gOf f) out∧out.length<v.names.2.1∧∀ y,¬ Rdy (gOf f) out y):=Lib.hid ⟨out,hno1,by rw [←HGL.out];exact hno2,hno3⟩
    have HB4:=Lib.hid (HB3.out.trans (hb4.mono HB3.out.size))
    clear hb4 hno1 hno2 hno3
    have r0:=(HR.out.later HB4.out).cell 0 rfl
    have r1:=(HR.out.later HB4.out).cell 1 rfl
    have r2:=(HR.out.later HB4.out).cell 2 rfl
    have rf0:=(HR.out.later HB4.out).free 0
    have rf1:=(HR.out.later HB4.out).free 1
    have rf2:=(HR.out.later HB4.out).free 2
    have HB2:Hid (Below w.heap.size w w4):=Lib.hid (HB1.out.trans (HB4.out.mono HB1.out.size))
    have HRZ:=Lib.hid ((HR.out.later HB4.out).put3 (.slice none 0 0) (.slice none 0 0) (.int .i64 0))
    have HD:Hid (Below w.heap.size w (((w4.setCell ⟨w.heap.size+1,0,none⟩ (.slice none 0 0)).setCell ⟨w.heap.size+1,1,none⟩ (.slice none 0 0)).setCell ⟨w.heap.size+1,2,none⟩ (.int .i64 0))):=Lib.hid (((HB2.out.setCell (p:=⟨w.heap.size+1,0,none⟩) (Nat.le_succ _) _).setCell (p:=⟨w.heap.size+1,1,none⟩) (Nat.le_succ _) _).setCell (p:=⟨w.heap.size+1,2,none⟩) (Nat.le_succ _) _)
    go_wp2_with fail
    refine ret_plan rfl (w.heap.size+1) _ _ _ HRZ.out rfl rfl ?_
    exact⟨.inr ⟨rfl,HNO.out⟩,HD.out⟩
  · obtain ⟨A, c, out, rfl, hown, hlst, hlen⟩ := ho
    rw [HGL.out] at hown hlen
    rw [HGL.out]
    have HB4:=Lib.hid (HB3.out.trans (hb4.mono HB3.out.size))
    have HLST:=Lib.hid hlst
    have HLEN:=Lib.hid hlen
    have HON:=Lib.hid (lst_once hlst hlen HGL.out)
    have HO4:=Lib.hid (own_row hown)
    have HLA:=Lib.hid (HLC.out w4 HB4.out A c (ints out) HO4.out)
    have HOW4:=Lib.hid hown
    clear hb4 hown hlst hlen HNC HLC
    obtain⟨f0,f1,f2,f3,f4,f5,f6,f7⟩:=(HK.out.later HB4.out).flat
    go_wp2_with (first
      | (go_at_call 67;(with_reducible refine HLA.out.mono ?_);rintro e w5 ⟨g5,rfl,hm5,hg5,hb5⟩;have HB5:=Lib.hid (HB4.out.trans (hb5.mono HB4.out.size));have HO5:=Lib.hid ((HO4.out.below hb5).more hb5.size);have HM5:=Lib.hid hm5;have HOW5:=Lib.hid (HOW4.out.below hb5 (Nat.le_refl _));clear hm5 hg5 hb5 f0 f1 f2 f3 f4 f5 f6 f7;obtain⟨f0,f1,f2,f3,f4,f5,f6,f7⟩:=(HK.out.later HB5.out).flat)
      | (at_make;refine makeI rfl _ rfl _ v.names.2.1 rfl rfl (by omega) ?_))
    intro w6 hm6 hb6
    rw [HNN.out] at HM5
    rw [HNN.out]
    obtain⟨gs,hgs⟩:∃ gs,gs=w5.heap.size:=⟨_,rfl⟩
    obtain⟨gp,hgp⟩:∃ gp,gp=w6.heap.size:=⟨_,rfl⟩
    rw [←hgs] at hm6 hb6 ⊢
    have hlt56:gs<gp:=by rw [hgp];exact hm6.lt
    have HG5:Hid (g5<gs):=Lib.hid (by rw [hgs];exact HM5.out.lt)
    obtain⟨W7,hW7⟩:∃ W7,W7=w6.alloc (.cells #[.slice A v.names.2.1 c,.slice (some ⟨gs,0,none⟩) v.names.2.1 v.names.2.1,.int .i64 0] 86):=⟨_,rfl⟩
    have HOM:Hid (OM w5 gs gp v.names.2.1 A c (List.replicate v.names.2.1 0) 0 W7):=Lib.hid (by
      rw [hW7]
      refine⟨hlt56, ?_,hm6.alloc _,hb6.alloc (by rw [←hgp];exact Nat.le_of_lt hlt56) _⟩
      have:=Blk.new w6 86 #[.slice A v.names.2.1 c,.slice (some ⟨gs,0,none⟩) v.names.2.1 v.names.2.1,.int .i64 0]
      rw [←hgp] at this
      exact this)
    have HRO:Hid (∀ W,Below gs w5 W→IRow W gs A v.names.2.1 c (ints out)):=Lib.hid fun W hb=>by have:=HO5.out;rw [←hgs] at this;exact this.below hb
    have HOWB:Hid (∀ W,Below gs w5 W→Own W w3.heap.size (.slice A v.names.2.1 c) (ints out)):=Lib.hid fun W hb=>HOW5.out.below hb (by rw [hgs];exact Nat.le_refl _)
    have HLM:Hid (∀ W,Below gs w5 W→IMem W g5 (lastsL (gOf f) (endB f) (ints out) v.names.2.1)):=Lib.hid fun W hb=>HM5.out.below hb HG5.out
    have HRB:Hid (∀ W,Below gs w5 W→Blk W (w.heap.size+1) 86 #[.slice none 0 0,.slice none 0 0,.int .i64 0]):=Lib.hid fun W hb=>(HR.out.later HB5.out).later (by rw [←hgs];exact hb)
    have HWB:Hid (∀ W,Below gs w5 W→Below w.heap.size w W):=Lib.hid fun W hb=>(HB1.out.trans (HB5.out.mono HB1.out.size)).trans (hb.mono (by rw [hgs];exact Nat.le_trans HB1.out.size HB5.out.size))
    have HRG:Hid (w.heap.size+1<gs):=Lib.hid (by rw [hgs];have:=HB5.out.size;have:=HS1.out;omega)
    obtain⟨L,hL⟩:∃ L,L=Lpl (laF f (ints out)) (ints out):=⟨_,rfl⟩
    have HLL:Hid (∀ k:Nat,k<v.names.2.1→∃ u M:Nat,u<v.names.2.1∧(ints out).getD k 0=(u:Int)∧(lastsL (gOf f) (endB f) (ints out) v.names.2.1).getD u 0=(M:Int)∧L k=M):=Lib.hid fun k hk=>by rw [hL];exact plan_last HON.out hk
    have HLE:=Lib.hid hL
    have HOL:Hid ((lastsL (gOf f) (endB f) (ints out) v.names.2.1).length=v.names.2.1):=Lib.hid (lasts_len _ _ _ _)
    clear hm6 hb6 hL HM5 HO5 HLA HO4
    go_upto_region 8 with fail
    try rw [←hgs]
    rw [←hW7,←hgp]
    clear hW7 hgp hgs f0 f1 f2 f3 f4 f5 f6 f7
    go_wp2_with fail
    go_loopw [8] (fun t wr=>∃ i:Nat,i≤v.names.2.1∧t=.int .i64 i∧Hid (∃ sls xs S,OM w5 gs gp v.names.2.1 A c xs S wr∧RoP L (ints out) v.names.2.1 i sls xs S)) (fun t _=>v.names.2.1-(intOf t).toNat)
    case atStart=>exact⟨0,Nat.zero_le _,rfl,Lib.hid ⟨[],_,0,HOM.out,rfl,⟨by simp,fun k hk=>by omega⟩,fun k hk=>by omega,fun k hk=>by omega,rfl⟩⟩
    case round =>
      obtain⟨i,hi,rfl,hz⟩:=hrel
      obtain⟨sls,xs,S,hom,hrp⟩:=hz.out
      have HO:=Lib.hid hom
      have HRP:=Lib.hid hrp
      have hSi:S≤i:=hrp.le
      clear hom hrp hz
      by_cases hil:i<v.names.2.1
      · have hiI : (i : Int) < (v.names.2.1 : Int) := by omega
        go_wp2_with fail
        go_loopw [9,10] (fun sv tv wr=>RoL2 L sls i sv tv∧Hid (OM w5 gs gp v.names.2.1 A c xs S wr)) (fun sv tv _=>2*(i+1-(intOf sv).toNat)+bnat tv)
        case atStart=>exact⟨⟨0,true,rfl,rfl,fun s' hs'=>by omega,fun hb=>by cases hb⟩,HO⟩
        case round =>
          obtain⟨⟨s,b,rfl,rfl,ht,hnt⟩,hom⟩:=hrel
          have HT:=Lib.hid ht
          have HNT:=Lib.hid hnt
          have hsi:s≤i:=Tk.pig ht
          clear ht hnt
          cases b with
          | true =>
            go_wp2_with fail
            go_loopw [10,11] (fun tv kv wr=>RoL3 L sls i s tv kv∧Hid (OM w5 gs gp v.names.2.1 A c xs S wr)) (fun _ kv _=>i-(intOf kv).toNat)
            case atStart=>exact⟨⟨0,false,Nat.zero_le _,rfl,rfl,by simp⟩,hom⟩
            case round=>
              obtain⟨⟨k,b,hk,rfl,rfl,hb⟩,hom3⟩:=hrel
              have HBI:=Lib.hid hb
              clear hb
              by_cases hki:k<i
              · have hkI:(k:Int)<(i:Int):=by omega
                have r0:=hom3.out.bx.cell 0 rfl
                have r1:=hom3.out.bx.cell 1 rfl
                have r2:=hom3.out.bx.cell 2 rfl
                obtain⟨bb,off,rfl,hlb,oc⟩:=(HRO.out _ hom3.out.old).at_ (show k<v.names.2.1 by omega)
                obtain⟨u,M,hu,hou,hlu,hLM⟩:=HLL.out k (by omega)
                rw [hou] at oc
                have lc:=(HLM.out _ hom3.out.old).cell u (by rw [HOL.out];exact hu)
                rw [hlu] at lc
                have xc:=hom3.out.mem.cell u (by rw [HRP.out.out.1];exact hu)
                rw [HRP.out.out.2 k hki u hou] at xc
                have hkn:(k:Int)<(v.names.2.1:Int):=by omega
                have huI:(u:Int)<(v.names.2.1:Int):=by omega
                obtain⟨q,hq⟩:∃ q,q=sls.getD k 0:=⟨_,rfl⟩
                rw [←hq] at xc
                have HQ:=Lib.hid hq
                have HLMM:=Lib.hid hLM
                clear hou hlu hLM hq hlb
                by_cases hqs:q=s
                · subst hqs
                  by_cases hMi:i≤M
                  · have hMI:(i:Int)≤(M:Int):=by omega
                    have hd1:(decide ((i:Int)≤(M:Int)))=true:=decide_eq_true hMI
                    go_wp2_with fail
                    go_quiet (fail)
                    go_wp2
                    go_roundw
                    case rel=>exact⟨⟨k+1,true,by omega,by go_num,rfl,⟨fun _=>⟨k,by omega,HQ.out.symm,by rw [HLMM.out];exact hMi⟩,fun _=>rfl⟩⟩,Lib.hid hom3.out.drewN⟩
                    case measure=>simp [intOf];omega
                  · have hMJ:¬(i:Int)≤(M:Int):=by omega
                    have hMI:(M:Int)<(i:Int):=by omega
                    have hd1:(decide ((i:Int)≤(M:Int)))=false:=decide_eq_false hMJ
                    go_wp2_with fail
                    go_quiet (fail)
                    go_wp2
                    go_roundw
                    case rel=>exact⟨⟨k+1,b,by omega,by go_num,rfl,HBI.out.trans ⟨fun⟨k',a1,a2,a3⟩=>⟨k',by omega,a2,a3⟩,fun⟨k',a1,a2,a3⟩=>by
                      by_cases e:k'=k
                      · subst e;rw [HLMM.out] at a3;omega
                      · exact⟨k',by omega,a2,a3⟩⟩⟩,Lib.hid hom3.out.drewN⟩
                    case measure=>simp [intOf];omega
                · have hqI:¬(q:Int)=(s:Int):=by omega
                  have hd1:((q:Int)==(s:Int))=false:=by rw [beq_eq_false_iff_ne];exact hqI
                  go_wp2_with fail
                  go_quiet (fail)
                  go_wp2
                  go_roundw
                  case rel=>exact⟨⟨k+1,b,by omega,by go_num,rfl,HBI.out.trans ⟨fun⟨k',a1,a2,a3⟩=>⟨k',by omega,a2,a3⟩,fun⟨k',a1,a2,a3⟩=>by
                    by_cases e:k'=k
                    · subst e;rw [←HQ.out] at a2;exact(hqs a2).elim
                    · exact⟨k',by omega,a2,a3⟩⟩⟩,Lib.hid hom3.out.drewN⟩
                  case measure=>simp [intOf];omega
              · obtain rfl:k=i:=by omega
                cases b with
                | true=>
                  have HTK:Hid (Tk L sls k s):=Lib.hid (HBI.out.1 rfl)
                  have HT2:Hid (∀ s',s'<s+1→Tk L sls k s'):=Lib.hid fun s' hs'=>by
                    by_cases e:s'=s
                    · subst e;exact HTK.out
                    · exact HT.out s' (by omega)
                  have hs1:s+1≤k:=Tk.pig HT2.out
                  go_wp2_with fail
                  go_roundw
                  case rel=>exact⟨⟨s+1,true,by go_num,rfl,HT2.out,fun hb=>by cases hb⟩,hom3⟩
                  case measure=>simp [intOf,bnat];omega
                | false=>
                  have HTK:Hid (¬ Tk L sls k s):=Lib.hid fun h=>by have:=HBI.out.2 h;cases this
                  go_wp2_with fail
                  go_roundw
                  case rel=>exact⟨⟨s,false,rfl,rfl,HT.out,fun _=>HTK.out⟩,hom3⟩
                  case measure=>simp [intOf,bnat]
          | false=>
            have HNK:Hid (¬ Tk L sls i s):=Lib.hid (HNT.out rfl)
            have r0:=hom.out.bx.cell 0 rfl
            have r1:=hom.out.bx.cell 1 rfl
            have r2:=hom.out.bx.cell 2 rfl
            have rf2:=hom.out.bx.free 2
            obtain⟨bb,off,rfl,hlb,oc⟩:=(HRO.out _ hom.out.old).at_ hil
            obtain⟨u,M,hu,hou,_,_⟩:=HLL.out i hil
            rw [hou] at oc
            have xc:=hom.out.mem.cell u (by rw [HRP.out.out.1];exact hu)
            have xf:=hom.out.mem.free u
            have huI:(u:Int)<(v.names.2.1:Int):=by omega
            have HNX:=Lib.hid (HRP.out.step HON.out hil hou hu HT.out HNK.out)
            have hgsp:gs<gp:=hom.out.lt
            clear hou hlb
            by_cases hSs:S<s+1
            · have hSI:(S:Int)<(s:Int)+1:=by omega
              rw [Nat.max_eq_right (by omega)] at HNX
              go_wp2_with fail
              go_region
              go_wp2_with fail
              go_roundw
              case rel=>exact⟨i+1,by omega,by go_num,Lib.hid ⟨_,_,_,by first | (rw [show max (S:Int) ((s:Int)+1)=((s+1:Nat):Int) by omega];exact((hom.out.put u s).putS (s+1)).drew) | exact((hom.out.put u s).putS (s+1)).drew,HNX.out⟩⟩
              case measure=>simp [intOf];omega
            · have hSI:(s:Int)+1≤(S:Int):=by omega
              have hSJ:¬(S:Int)<(s:Int)+1:=by omega
              rw [Nat.max_eq_left (by omega)] at HNX
              go_wp2_with fail
              go_region
              go_wp2_with fail
              go_roundw
              case rel=>exact⟨i+1,by omega,by go_num,Lib.hid ⟨_,_,_,by first | (rw [show max (S:Int) ((s:Int)+1)=(S:Int) by omega];exact((hom.out.put u s).putS S).drew) | exact((hom.out.put u s).putS S).drew,HNX.out⟩⟩
              case measure=>simp [intOf];omega
      · obtain rfl:i=v.names.2.1:=by omega
        have HBG:=Lib.hid HO.out.old
        have r0:=HO.out.bx.cell 0 rfl
        have r1:=HO.out.bx.cell 1 rfl
        have r2:=HO.out.bx.cell 2 rfl
        have HRW:=Lib.hid (HRB.out _ HBG.out)
        have q0:=HRW.out.cell 0 rfl
        have q1:=HRW.out.cell 1 rfl
        have q2:=HRW.out.cell 2 rfl
        have qf0:=HRW.out.free 0
        have qf1:=HRW.out.free 1
        have qf2:=HRW.out.free 2
        have HRZ:=Lib.hid (HRW.out.put3 (.slice A v.names.2.1 c) (.slice (some ⟨gs,0,none⟩) v.names.2.1 v.names.2.1) (.int .i64 (S:Int)))
        have HS3:Hid (Only [some (w.heap.size+1)] wr (((wr.setCell ⟨w.heap.size+1,0,none⟩ (.slice A v.names.2.1 c)).setCell ⟨w.heap.size+1,1,none⟩ (.slice (some ⟨gs,0,none⟩) v.names.2.1 v.names.2.1)).setCell ⟨w.heap.size+1,2,none⟩ (.int .i64 (S:Int)))):=Lib.hid (((Only.set (by simp) _ _ _).trans (Only.set (by simp) _ _ _)).trans (Only.set (by simp) _ _ _))
        have HBF:Hid (Below w.heap.size w (((wr.setCell ⟨w.heap.size+1,0,none⟩ (.slice A v.names.2.1 c)).setCell ⟨w.heap.size+1,1,none⟩ (.slice (some ⟨gs,0,none⟩) v.names.2.1 v.names.2.1)).setCell ⟨w.heap.size+1,2,none⟩ (.int .i64 (S:Int)))):=Lib.hid ((((HWB.out _ HBG.out).setCell (p:=⟨w.heap.size+1,0,none⟩) (Nat.le_succ _) _).setCell (p:=⟨w.heap.size+1,1,none⟩) (Nat.le_succ _) _).setCell (p:=⟨w.heap.size+1,2,none⟩) (Nat.le_succ _) _)
        go_wp2_with fail
        refine ret_plan rfl (w.heap.size+1) _ _ _ HRZ.out rfl rfl ?_
        refine⟨.inl ⟨A,c,out,gs,xs,S,rfl, ?_, ?_,HLST.out,HLEN.out,HON.out,sls,by rw [←HLE.out];exact HRP.out⟩,HBF.out⟩
        · exact own_row ((HOWB.out _ HBG.out).only HS3.out (fun k hk=>by have h1:=((HOWB.out _ HBG.out).lt hk).1;have h2:=HB3.out.size;have h3:=HS1.out;simp;omega))
        · exact HO.out.mem.only HS3.out (by simp;have:=HRG.out;omega)
end Go.Proofs.YtpnlbjnbgemocaaGreat
