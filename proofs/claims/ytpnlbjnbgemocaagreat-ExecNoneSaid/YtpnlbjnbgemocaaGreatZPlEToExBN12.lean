import Derived.Test.YtpnlbjnbgemocaaGreatZPlASfK
import Derived.Test.YtpnlbjnbgemocaaGreatZPlC
import Derived.Test.YtpnlbjnbgemocaaGreatZSfAToFlPN13
import Derived.Test.YtpnlbjnbgemocaaGreatZNdAToPlanMN6
import Derived.Test.YtpnlbjnbgemocaaGreatZFlAToHpKN11
import Derived.BigRegion
import Derived.Test.YtpnlbjnbgemocaaGreatZCdAToSfGN6
import Derived.Deep.RegionHeld3
import Derived.Laws.ResultCell
import Derived.Laws.Rows
import Derived.Deep.DeepCutAuto
import Derived.Maps.OwnSet
import Derived.Maps.Views
import Derived.Test.YtpnlbjnbgemocaaGreatZSfL
import Derived.Deep.RegionWith
namespace Go.Proofs.YtpnlbjnbgemocaaGreat
set_option linter.unusedVariables false
set_option linter.unusedSimpArgs false
set_option maxRecDepth 100000
open Go.RowKit
def lastTo (G:List (List Int))(o:List Int)(x:Nat):Nat→Int
  | 0=>plc o x
  | k+1=>if ndB G (o.getD k 0) x=true then max (lastTo G o x k) (k:Int) else lastTo G o x k
def lastV (G:List (List Int))(Z:List Bool)(o:List Int)(x:Nat):Int:=if Z.getD x false=true then(o.length:Int) else lastTo G o x o.length
def lastsL (G:List (List Int))(Z:List Bool)(o:List Int)(n:Nat):List Int:=(List.range n).map fun x=>lastV G Z o x
theorem plc_rng (o:List Int)(x:Int):-1≤plc o x∧plc o x≤(o.length:Int):=by
  unfold plc
  cases h:o.findIdx? (fun y=>y==x) with
  | none=>simp
  | some i=>
    have:=(List.findIdx?_eq_some_iff_getElem.1 h).1
    simp only
    omega
theorem lastTo_rng (G:List (List Int))(o:List Int)(x:Nat):∀ k,k≤o.length→-1≤lastTo G o x k∧lastTo G o x k≤(o.length:Int)
  | 0,_=>plc_rng o x
  | k+1,h=>by
    have ih:=lastTo_rng G o x k (by omega)
    unfold lastTo
    split
    · omega
    · exact ih
theorem lasts_len (G:List (List Int))(Z:List Bool)(o:List Int)(n:Nat):(lastsL G Z o n).length=n:=by simp [lastsL]
theorem lasts_get (G:List (List Int))(Z:List Bool)(o:List Int){n j:Nat}(h:j<n):(lastsL G Z o n).getD j 0=lastV G Z o j:=by simp [lastsL,h]
structure LSt (L:List Int) (n x:Nat) (xs:List Int):Prop where
  len:xs.length=n
  get:∀ j,j<x→xs.getD j 0=L.getD j 0
theorem LSt.set {L:List Int}{n x:Nat}{xs:List Int}(h:LSt L n x xs)(u:Int):LSt L n x (xs.set x u):=
  ⟨by rw [List.length_set];exact h.len,fun j hj=>by rw [←h.get j hj];simp [List.getElem?_set,show x≠j by omega]⟩
theorem set_self {xs:List Int}{x:Nat}{u:Int}(h:x<xs.length):(xs.set x u).getD x 0=u:=by simp [h]
theorem LSt.next {L:List Int}{n x:Nat}{xs:List Int}(h:LSt L n x xs)(e:xs.getD x 0=L.getD x 0):LSt L n (x+1) xs:=
  ⟨h.len,fun j hj=>if hx:j=x then by subst hx;exact e else h.get j (by omega)⟩
theorem LSt.done {L:List Int}{n:Nat}{xs:List Int}(h:LSt L n n xs)(hl:L.length=n):xs=L:=by
  apply List.ext_getElem?
  intro i
  by_cases hi:i<n
  · have:=h.get i hi
    have h1:i<xs.length:=by rw [h.len];exact hi
    have h2:i<L.length:=by omega
    simpa [List.getD,List.getElem?_eq_getElem h1,List.getElem?_eq_getElem h2] using this
  · rw [List.getElem?_eq_none (by rw [h.len];omega),List.getElem?_eq_none (by omega)]
def LastsPost (f:FlatM)(o:List Int)(w:World)(e:Ending)(w':World):Prop:=
  ∃ g,e=.returned (.slice (some ⟨g,0,none⟩) f.names.length f.names.length)∧IMem w' g (lastsL (gOf f) (endB f) o f.names.length)∧w.heap.size≤g∧Below w.heap.size w w'
theorem endB_get {f:FlatM}:(endB f).length=f.names.length:=by simp [endB]
set_option maxHeartbeats 4000000 in
theorem lasts_t (v:FlatV)(f:FlatM)(B:Nat)(A:Option Addr)(n c B':Nat)(o:List Int)(w:World)(h:FlatIs w B v f)(hB:B≤w.heap.size)(hg:goodB f=true)(hs:SmallF f)(ho:IRow w B' A n c o)(hB':B'≤w.heap.size)(hn:n≤1000000) :
    Calls Tryz.prog 67 #[flatV v,.slice A n c] w (LastsPost f o w):=by
  have HN:=Lib.hid h.names.1
  have hsm:v.names.2.1≤200:=by rw [←h.names.1];exact hs.names
  have HLO:=Lib.hid ho.1
  have HS:=Lib.hid hs
  have HG:=Lib.hid hg
  have HC:=Lib.hid (Ctx.mk' h hB);clear h hs hg
  have HO:=Lib.hid ho;clear ho
  have HBB:=Lib.hid hB';clear hB'
  have CN:Hid (∀ W,FlatIs W B v f→B≤W.heap.size→Calls Tryz.prog 66 #[flatV v] W (NeedsAll f W)):=Lib.hid fun W h1 h2=>needs14_t v f B W h1 h2 HG.out HS.out
  have CE:Hid (∀ W,FlatIs W B v f→B≤W.heap.size→Calls Tryz.prog 119 #[flatV v] W (EndPost f W)):=Lib.hid fun W h1 h2=>end14_t v f B W h1 h2 HG.out HS.out
  unfold flatV sl3 at CN CE
  unfold flatV sl3
  obtain⟨W1,hW1⟩:∃ W1,W1=w.alloc (.cells (fvs v) 83):=⟨_,rfl⟩
  have HW1:=Lib.hid hW1
  have H1:=Lib.hid (show FlatIs W1 B v f∧B≤W1.heap.size∧Blk W1 w.heap.size 83 (fvs v)∧Below w.heap.size w W1 by rw [hW1];exact⟨HC.out.is,by rw [size_alloc];omega,HC.out.blk,HC.out.old⟩)
  unfold fvs at hW1
  try dsimp only at hW1
  go_enter Tryz.func67,Tryz.ntmps67
  go_upto_region 1 with fail
  rw [←hW1]
  clear hW1 hB
  obtain⟨f0,f1,f2,f3,f4,f5,f6,f7⟩:=H1.out.2.2.1.flat
  go_wp2_with (first
    | (go_at_call 66;(with_reducible refine(CN.out _ H1.out.1 H1.out.2.1).mono ?_);rintro e w2 ⟨g2,rfl,hgr,hb⟩;have H2:=Lib.hid (show FlatIs w2 B v f∧B≤w2.heap.size∧Blk w2 w.heap.size 83 (fvs v)∧Below w.heap.size w w2 from⟨H1.out.1.below (hb.mono H1.out.2.1),Nat.le_trans H1.out.2.1 hb.size,H1.out.2.2.1.later hb,H1.out.2.2.2.trans (hb.mono (Nat.le_of_lt H1.out.2.2.1.lt))⟩);have HGR:=Lib.hid hgr;clear hgr hb;obtain⟨f0,f1,f2,f3,f4,f5,f6,f7⟩:=H2.out.2.2.1.flat)
    | (go_at_call 119;(with_reducible refine(CE.out _ H2.out.1 H2.out.2.1).mono ?_);rintro e w3 ⟨g3,rfl,hbm,hg3,hb⟩;have H3:=Lib.hid (show FlatIs w3 B v f∧B≤w3.heap.size∧Blk w3 w.heap.size 83 (fvs v)∧Below w.heap.size w w3 from⟨H2.out.1.below (hb.mono H2.out.2.1),Nat.le_trans H2.out.2.1 hb.size,H2.out.2.2.1.later hb,H2.out.2.2.2.trans (hb.mono (Nat.le_of_lt H2.out.2.2.1.lt))⟩);replace HGR:=Lib.hid ((HGR.out.below hb).more hb.size);have HBM:=Lib.hid hbm;clear hbm hb;obtain⟨f0,f1,f2,f3,f4,f5,f6,f7⟩:=H3.out.2.2.1.flat)
    | (at_make;refine makeI rfl _ rfl _ v.names.2.1 rfl rfl (by omega) ?_))
  intro w4 hmem hb4
  rw [HN.out]
  have HM4:=Lib.hid hmem
  have HB4:=Lib.hid hb4
  clear hmem hb4 f0 f1 f2 f3 f4 f5 f6 f7
  obtain⟨g,hgg⟩:∃ g,g=w3.heap.size:=⟨_,rfl⟩
  rw [←hgg] at HM4 HB4 ⊢
  have hwg:w.heap.size<g:=by rw [hgg];exact H3.out.2.2.1.lt
  have hB'g:B'≤g:=Nat.le_trans HBB.out (Nat.le_of_lt hwg)
  have HK:Hid (∀ W,Below g w4 W→Blk W w.heap.size 83 (fvs v)∧GRow W g (some ⟨g2,0,none⟩) v.names.2.1 v.names.2.1 (gOf f)∧BMem W g3 (endB f)∧IRow W B' A n c o∧Below w.heap.size w W):=Lib.hid fun W hb=>by
    have hb3:Below g w3 W:=HB4.out.trans hb
    refine⟨H3.out.2.2.1.below hb3 hwg, ?_,HBM.out.below hb3 (by rw [hgg];exact HBM.out.lt),HO.out.below ((H3.out.2.2.2.mono HBB.out).trans (hb3.mono hB'g)),H3.out.2.2.2.trans (hb3.mono (Nat.le_of_lt hwg))⟩
    have:=HGR.out.below (w':=W) (by rw [←hgg];exact hb3)
    rw [←hgg,HN.out] at this
    exact this
  clear H1 H2 H3 HGR HBM CN CE hgg
  obtain⟨f0,f1,f2,f3,f4,f5,f6,f7⟩:=(HK.out _ (Below.refl _ _)).1.flat
  go_wp2_with fail
  clear f0 f1 f2 f3 f4 f5 f6 f7
  obtain⟨L,hL⟩:∃ L,L=lastsL (gOf f) (endB f) o v.names.2.1:=⟨_,rfl⟩
  have HL:=Lib.hid hL;clear hL
  go_loopw [8] (fun t wr=>∃ x:Nat,x≤v.names.2.1∧t=.int .i64 x∧Hid (∃ xs,IMem wr g xs∧LSt L v.names.2.1 x xs)∧Hid (Below g w4 wr)) (fun t _=>v.names.2.1-(intOf t).toNat)
  case atStart=>exact⟨0,Nat.zero_le _,rfl,Lib.hid ⟨_,HM4.out,by simp,fun j hj=>by omega⟩,Lib.hid (Below.refl _ _)⟩
  case round =>
    obtain⟨x,hx,rfl,hms,hbr⟩:=hrel
    obtain⟨hfb,hgr,hbm,hro,hold⟩:=HK.out _ hbr.out
    obtain⟨f0,f1,f2,f3,f4,f5,f6,f7⟩:=hfb.flat
    by_cases hlt:x<v.names.2.1
    · obtain ⟨xs, hxs, hst⟩ := hms.out
      have kc:=hxs.cell x (by rw [hst.len];exact hlt)
      have kf:=hxs.free x
      have HXS:=Lib.hid hxs
      have HST:=Lib.hid hst
      have HRO:=Lib.hid hro
      have hnn:n≤1000000:=hn
      clear hfb hgr hbm hro hold hms hxs hst
      go_wp2_with (go_at_call 120;(with_reducible refine(place_t A n c B' o (x:Int) _ HRO.out).mono ?_);rintro e w' ⟨rfl,rfl⟩)
      have HX0:Hid (∃ ys,IMem (wr.setCell ⟨g,x,none⟩ (.int .i64 (plc o (x:Int)))) g ys∧LSt L v.names.2.1 x ys∧ys.getD x 0=lastTo (gOf f) o x 0):=Lib.hid ⟨_,HXS.out.set x _,HST.out.set _,set_self (by rw [HST.out.len];exact hlt)⟩
      have HB5:Hid (Below g w4 (wr.setCell ⟨g,x,none⟩ (.int .i64 (plc o (x:Int))))):=Lib.hid (hbr.out.setCell (Nat.le_refl _) _)
      clear kc kf HXS HST HRO f0 f1 f2 f3 f4 f5 f6 f7 hbr
      go_loopw [9] (fun t wr=>∃ k:Nat,k≤n∧t=.int .i64 k∧Hid (∃ xs,IMem wr g xs∧LSt L v.names.2.1 x xs∧xs.getD x 0=lastTo (gOf f) o x k)∧Hid (Below g w4 wr)) (fun t _=>n-(intOf t).toNat)
      case atStart=>exact⟨0,Nat.zero_le _,rfl,HX0,HB5⟩
      case round=>
        obtain⟨k,hk,rfl,hms,hbr⟩:=hrel
        obtain⟨hfb,hgr,hbm,hro,hold⟩:=HK.out _ hbr.out
        obtain⟨xs,hxs,hst,hcur⟩:=hms.out
        have kc:=hxs.cell x (by rw [hst.len];exact hlt)
        have kf:=hxs.free x
        have hrng:=lastTo_rng (gOf f) o x k (by rw [HLO.out];exact hk)
        rw [hcur] at kc
        obtain⟨m,hm⟩:∃ m,m=lastTo (gOf f) o x k:=⟨_,rfl⟩
        rw [←hm] at kc hrng
        have HMM:=Lib.hid hm
        have HXS:=Lib.hid hxs
        have HST:=Lib.hid hst
        have HGR:=Lib.hid hgr
        have HBM:=Lib.hid hbm
        have hln:=HLO.out
        rw [hln] at hrng
        have hms':=hms
        clear hms hcur hm hgr hxs hst hbm hold hln
        by_cases hlt2:k<n
        · obtain⟨b,off,rfl,hlb,hcell⟩:=hro.at_ hlt2
          obtain⟨X,hX⟩:∃ X,X=o.getD k 0:=⟨_,rfl⟩
          rw [←hX] at hcell
          have HX:=Lib.hid hX
          clear hro hX hfb
          cases hnd:ndB (gOf f) X x with
          | true=>
            have HND:=Lib.hid hnd;clear hnd
            have HNX:Hid (lastTo (gOf f) o x (k+1)=max m (k:Int)):=Lib.hid (by
              rw [HMM.out];show(if ndB (gOf f) (o.getD k 0) x=true then _ else _)=_;rw [←HX.out,HND.out];rfl)
            have hmax:max m (k:Int)=(if m<(k:Int) then(k:Int) else m):=by split <;> omega
            rw [hmax] at HNX;clear hmax
            by_cases hmk:m<(k:Int)
            · rw [if_pos hmk] at HNX
              go_wp2_with (go_at_call 117;(with_reducible refine(needs_any (some ⟨g2,0,none⟩) v.names.2.1 v.names.2.1 g (gOf f) X (x:Int) _ HGR.out).mono ?_);rintro e w' ⟨rfl,rfl⟩;rw [HND.out])
              go_roundw
              case rel=>exact⟨k+1,by omega,by go_num,Lib.hid ⟨_,HXS.out.set x _,HST.out.set _,by rw [HNX.out];exact set_self (by rw [HST.out.len];exact hlt)⟩,Lib.hid (hbr.out.setCell (Nat.le_refl _) _)⟩
              case measure=>simp [intOf];omega
            · rw [if_neg hmk] at HNX
              have hmk2:(k:Int)≤m:=by omega
              clear hmk
              go_wp2_with (go_at_call 117;(with_reducible refine(needs_any (some ⟨g2,0,none⟩) v.names.2.1 v.names.2.1 g (gOf f) X (x:Int) _ HGR.out).mono ?_);rintro e w' ⟨rfl,rfl⟩;rw [HND.out])
              go_roundw
              case rel=>exact⟨k+1,by omega,by go_num,Lib.hid ⟨_,HXS.out.set x _,HST.out.set _,by rw [HNX.out];exact set_self (by rw [HST.out.len];exact hlt)⟩,Lib.hid (hbr.out.setCell (Nat.le_refl _) _)⟩
              case measure=>simp [intOf];omega
          | false=>
            have HND:=Lib.hid hnd;clear hnd
            have HNX:Hid (lastTo (gOf f) o x (k+1)=m):=Lib.hid (by
              rw [HMM.out];show(if ndB (gOf f) (o.getD k 0) x=true then _ else _)=_;rw [←HX.out,HND.out];rfl)
            go_wp2_with (go_at_call 117;(with_reducible refine(needs_any (some ⟨g2,0,none⟩) v.names.2.1 v.names.2.1 g (gOf f) X (x:Int) _ HGR.out).mono ?_);rintro e w' ⟨rfl,rfl⟩;rw [HND.out])
            go_roundw
            case rel=>exact⟨k+1,by omega,by go_num,Lib.hid (by obtain⟨xs,h1,h2,h3⟩:=hms'.out;exact⟨xs,h1,h2,by rw [h3,HNX.out,HMM.out]⟩),hbr⟩
            case measure=>simp [intOf];omega
        · obtain rfl:k=n:=by omega
          have hze:=HBM.out.cell x (by rw [endB_get,HN.out];exact hlt)
          have HLX:Hid (L.getD x 0=lastV (gOf f) (endB f) o x):=Lib.hid (by rw [HL.out];exact lasts_get _ _ _ hlt)
          cases hzz:(endB f).getD x false with
          | true=>
            rw [hzz] at hze
            have HZZ:Hid (L.getD x 0=(k:Int)):=Lib.hid (by rw [HLX.out];unfold lastV;rw [if_pos hzz,HLO.out])
            clear hzz
            obtain⟨f0,f1,f2,f3,f4,f5,f6,f7⟩:=hfb.flat
            clear hfb hro
            go_wp2_with fail
            go_roundw
            case rel=>exact⟨x+1,by omega,by go_num,Lib.hid ⟨_,HXS.out.set x _,(HST.out.set _).next (by rw [HZZ.out];exact set_self (by rw [HST.out.len];exact hlt))⟩,Lib.hid (hbr.out.setCell (Nat.le_refl _) _)⟩
            case measure=>simp [intOf];omega
          | false=>
            rw [hzz] at hze
            have HZZ:Hid (L.getD x 0=m):=Lib.hid (by rw [HLX.out];unfold lastV;rw [if_neg (by rw [hzz];simp),HLO.out,HMM.out])
            clear hzz
            obtain⟨f0,f1,f2,f3,f4,f5,f6,f7⟩:=hfb.flat
            clear hfb hro
            go_wp2_with fail
            go_roundw
            case rel=>exact⟨x+1,by omega,by go_num,Lib.hid (by obtain⟨xs,h1,h2,h3⟩:=hms'.out;exact⟨xs,h1,h2.next (by rw [h3,HZZ.out,HMM.out])⟩),hbr⟩
            case measure=>simp [intOf];omega
    · obtain rfl:x=v.names.2.1:=by omega
      have HD:Hid (LastsPost f o w (.returned (.slice (some ⟨g,0,none⟩) v.names.2.1 v.names.2.1)) wr):=Lib.hid (by
        obtain⟨xs,hxs,hst⟩:=hms.out
        refine⟨g,by rw [HN.out], ?_,Nat.le_of_lt hwg,hold⟩
        rw [HN.out,←HL.out,←hst.done (by rw [HL.out];exact lasts_len _ _ _ _)]
        exact hxs)
      go_wp2
      go_ret
      exact HD.out
end Go.Proofs.YtpnlbjnbgemocaaGreat
namespace Go.Proofs.YtpnlbjnbgemocaaGreat
set_option linter.unusedVariables false
set_option linter.unusedSimpArgs false
set_option maxRecDepth 100000
open Go.RowKit
structure Once (o:List Int) (n:Nat):Prop where
  len:o.length=n
  pl:∀ x∈o,0≤x∧x<(n:Int)
  nd:o.Nodup
theorem toNat_nd:∀(o:List Int),o.Nodup→(∀ x∈o,0≤x)→(o.map Int.toNat).Nodup:=by
  intro o
  induction o with
  | nil=>intro _ _;simp
  | cons a o ih=>
    intro h hp
    obtain⟨h1,h2⟩:=List.nodup_cons.1 h
    rw [List.map_cons,List.nodup_cons]
    refine⟨fun hm=>?_,ih h2 fun x hx=>hp x (List.mem_cons_of_mem _ hx)⟩
    obtain⟨y,hy,e⟩:=List.mem_map.1 hm
    have e1:=hp a List.mem_cons_self
    have e2:=hp y (List.mem_cons_of_mem _ hy)
    have:y=a:=by omega
    exact h1 (this▸hy)
theorem Once.mem {o:List Int}{n:Nat}(h:Once o n){v:Nat}(hv:v<n):(v:Int)∈o:=by
  have h1:=Gr.mem_of_full (n:=n) (l:=o.map Int.toNat) (toNat_nd o h.nd fun x hx=>(h.pl x hx).1) (fun x hx=>by
    obtain⟨y,hy,rfl⟩:=List.mem_map.1 hx
    have:=h.pl y hy;omega) (by simp [h.len]) v hv
  obtain⟨y,hy,e⟩:=List.mem_map.1 h1
  have:=(h.pl y hy).1
  have:(v:Int)=y:=by omega
  rw [this];exact hy
theorem plc_mem {o:List Int}{x:Int}(h:x∈o):∃ i:Nat,i<o.length∧plc o x=(i:Int)∧o.getD i 0=x:=by
  unfold plc
  cases e:o.findIdx? (fun y=>y==x) with
  | none=>
    rw [List.findIdx?_eq_none_iff] at e
    have:=e x h
    simp at this
  | some i=>
    obtain⟨hi,h1,_⟩:=List.findIdx?_eq_some_iff_getElem.1 e
    refine⟨i,hi,rfl, ?_⟩
    simp at h1
    simp [hi,h1]
theorem nd_inj {o:List Int}(h:o.Nodup){i j:Nat}(hi:i<o.length)(hj:j<o.length)(e:o.getD i 0=o.getD j 0):i=j:=by
  have e1:o[i]=o[j]:=by simpa [hi,hj] using e
  exact(List.getElem_inj h).1 e1
theorem Once.plc {o:List Int}{n:Nat}(h:Once o n){v:Nat}(hv:v<n):∃ i:Nat,i<n∧plc o (v:Int)=(i:Int)∧o.getD i 0=(v:Int):=by
  have:=plc_mem (h.mem hv);rwa [h.len] at this
theorem Once.get {o:List Int}{n:Nat}(h:Once o n){i:Nat}(hi:i<n):∃ v:Nat,v<n∧o.getD i 0=(v:Int):=by
  have:=h.pl _ (getD_mem (show i<o.length by rw [h.len];exact hi))
  exact⟨(o.getD i 0).toNat,by omega,by omega⟩
theorem getD_set (xs:List Int)(i k:Nat)(u:Int)(hi:i<xs.length):(xs.set i u).getD k 0=if k=i then u else xs.getD k 0:=by
  by_cases e:k=i
  · subst e;simp [hi]
  · rw [if_neg e];simp [Ne.symm e]
end Go.Proofs.YtpnlbjnbgemocaaGreat
namespace Go.Proofs.YtpnlbjnbgemocaaGreat
set_option linter.unusedVariables false
set_option linter.unusedSimpArgs false
set_option maxRecDepth 100000
open Go.RowKit
theorem getD_snoc (sls:List Nat)(s k:Nat):(sls++[s]).getD k 0=if k<sls.length then sls.getD k 0 else if k=sls.length then s else 0:=by
  by_cases h:k<sls.length
  · rw [if_pos h];simp [List.getElem?_append_left h]
  · rw [if_neg h]
    by_cases e:k=sls.length
    · rw [if_pos e,e];simp
    · rw [if_neg e];simp [List.getElem?_append_right (show sls.length≤k by omega),show k-sls.length≠0 by omega]
theorem top_congr {f g:Nat→Nat}:∀ n,(∀ i,i<n→f i=g i)→Pl.top f n=Pl.top g n:=by
  intro n
  induction n with
  | zero=>intro _;rfl
  | succ n ih=>
    intro h
    show max (Pl.top f n) (f n)=max (Pl.top g n) (g n)
    rw [ih fun i hi=>h i (by omega),h n (by omega)]
theorem intsN_nd:∀(l:List Nat),l.Nodup→(Gr.ints l).Nodup:=by
  intro l
  induction l with
  | nil=>intro _;exact List.nodup_nil
  | cons a l ih=>
    intro h
    obtain⟨h1,h2⟩:=List.nodup_cons.1 h
    unfold Gr.ints
    rw [List.map_cons,List.nodup_cons]
    refine⟨fun hm=>?_,ih h2⟩
    obtain⟨y,hy,e⟩:=List.mem_map.1 hm
    have:y=a:=by omega
    exact h1 (this▸hy)
end Go.Proofs.YtpnlbjnbgemocaaGreat
namespace Go.Proofs.YtpnlbjnbgemocaaGreat
set_option linter.unusedVariables false
set_option linter.unusedSimpArgs false
set_option maxRecDepth 100000
open Go.RowKit
end Go.Proofs.YtpnlbjnbgemocaaGreat
namespace Go.Proofs.YtpnlbjnbgemocaaGreat
set_option linter.unusedVariables false
set_option linter.unusedSimpArgs false
set_option maxRecDepth 100000
open Go.RowKit Gr
def OutI (o:List Int)(n i:Nat)(sls:List Nat)(xs:List Int):Prop:=xs.length=n∧∀ k,k<i→∀ v:Nat,o.getD k 0=(v:Int)→xs.getD v 0=(sls.getD k 0:Nat)
theorem OutI.add {o:List Int}{n i v s:Nat}{sls:List Nat}{xs:List Int}(h:OutI o n i sls xs)(ho:Once o n)(hi:i<n)(hl:sls.length=i)(hv:o.getD i 0=(v:Int))(hvn:v<n):OutI o n (i+1) (sls++[s]) (xs.set v (s:Int)):=by
  refine⟨by rw [List.length_set];exact h.1,fun k hk u hu=>?_⟩
  rw [getD_set _ _ _ _ (by rw [h.1];exact hvn),getD_snoc]
  by_cases e:k=i
  · subst e
    have:u=v:=by rw [hv] at hu;omega
    rw [if_pos this,if_neg (by omega),if_pos hl.symm]
  · have:u≠v:=fun q=>e (nd_inj ho.nd (by rw [ho.len];omega) (by rw [ho.len];omega) (by rw [hu,hv,q]))
    rw [if_neg this,if_pos (by omega)]
    exact h.2 k (by omega) u hu
def Lpl (la:Nat→Nat)(o:List Int)(i:Nat):Nat:=la (o.getD i 0).toNat
theorem lst_once {G:List (List Int)}{out:List Nat}{n:Nat}(h:IsLst G out)(hl:out.length=n)(hG:G.length=n):Once (ints out) n where
  len:=by rw [ints_len];exact hl
  pl:=fun x hx=>by
    obtain⟨y,hy,rfl⟩:=List.mem_map.1 hx
    have:=h.lt y hy
    omega
  nd:=intsN_nd _ h.nd
def laF (f:FlatM)(o:List Int)(v:Nat):Nat:=(lastV (gOf f) (endB f) o v).toNat
theorem lastTo_ge (G:List (List Int))(o:List Int)(x:Nat):∀ k,plc o (x:Int)≤lastTo G o x k
  | 0=>Int.le_refl _
  | k+1=>by
    have:=lastTo_ge G o x k
    unfold lastTo
    split <;> omega
theorem lastV_ge {f:FlatM}{o:List Int}{n v:Nat}(ho:Once o n)(hv:v<n):plc o (v:Int)≤lastV (gOf f) (endB f) o v:=by
  obtain⟨i,hi,e1,e2⟩:=ho.plc hv
  unfold lastV
  split
  · rw [e1,ho.len];omega
  · exact lastTo_ge _ _ _ _
def planV (A:Option Addr)(n c:Nat)(A2:Option Addr)(n2 c2:Nat)(S:Int):Value:=.agg #[.slice A n c,.slice A2 n2 c2,.int .i64 S]
theorem own_row {w:World}{B:Nat}{A:Option Addr}{n c:Nat}{xs:List Int}(h:Own w B (.slice A n c) xs):IRow w w.heap.size A n c xs:=by
  obtain⟨a,c',e,hr⟩:=h.irow
  injection e with e1 e2 e3
  subst e1 e2 e3
  exact hr
theorem Tryz.info86:(Tryz.prog.info? 86).map (·.size)=some 3:=by kernel_rfl
theorem ret_plan {fn:Func}{p u:Tmp}(h:fn.results=#[.cell p 86,.tmp u]){a:Act}{w:World}{R:Ending→World→Prop}(g:Nat)(x y z:Value)(hg:Blk w g 86 #[x,y,z])(hp:a.tmps.getD p undef=.pointer (some ⟨g,0,none⟩))(hd:a.defers=[])
    (hR:R (.returned (.tuple #[.agg #[x,y,z],a.tmps.getD u undef])) w):bodyPost Tryz.prog fn R .ret a w:=by
  refine bodyPost_ret_by (v:=.tuple #[.agg #[x,y,z],a.tmps.getD u undef]) ?_ hd hR
  rw [results_cell_tmp h,hp]
  have:=run_loadVar_row (P:=Tryz.prog) w g 86 86 #[x,y,z] (0,0) _ hg Tryz.underlying86 rfl Tryz.info86
  simp [asAddr,Result.andThen,this]
theorem Blk.put3 {w:World}{g T:Nat}{a b c:Value}(h:Blk w g T #[a,b,c])(x y z:Value):Blk (((w.setCell ⟨g,0,none⟩ x).setCell ⟨g,1,none⟩ y).setCell ⟨g,2,none⟩ z) g T #[x,y,z]:=by
  have h1:Blk w g T [a,b,c].toArray:=h
  exact((h1.put 0 x).put 1 y).put 2 z
end Go.Proofs.YtpnlbjnbgemocaaGreat
namespace Go.Proofs.YtpnlbjnbgemocaaGreat
set_option linter.unusedVariables false
set_option linter.unusedSimpArgs false
set_option maxRecDepth 100000
open Go.RowKit
def TellsIf (P:Prop)(w:World)(e:Ending)(w':World):Prop:=(∃ b,e=.returned (.bool b)∧(b=true↔P))∧Below w.heap.size w w'
theorem TellsIf.no {P:Prop}{w w':World}(h:¬ P)(hb:Below w.heap.size w w'):TellsIf P w (.returned (.bool false)) w':=⟨⟨false,rfl,by simp [h]⟩,hb⟩
theorem TellsIf.yes {P:Prop}{w w':World}(h:P)(hb:Below w.heap.size w w'):TellsIf P w (.returned (.bool true)) w':=⟨⟨true,rfl,by simp [h]⟩,hb⟩
end Go.Proofs.YtpnlbjnbgemocaaGreat
namespace Go.Proofs.YtpnlbjnbgemocaaGreat
set_option linter.unusedVariables false
set_option linter.unusedSimpArgs false
set_option maxRecDepth 100000
open Go.RowKit
open Maps
def ApartTo (la:Nat→Nat)(o sl:List Int)(i:Nat):Prop:=∀ a,a<i→∀ k,k<a→sl.getD (o.getD k 0).toNat 0=sl.getD (o.getD a 0).toNat 0→Lpl la o k<a
end Go.Proofs.YtpnlbjnbgemocaaGreat
namespace Go.Proofs.YtpnlbjnbgemocaaGreat
set_option linter.unusedVariables false
set_option linter.unusedSimpArgs false
set_option maxRecDepth 100000
open Go.RowKit Gr
def BehindP (G:List (List Int))(o:List Int)(n:Nat):Prop:=∀ v:Nat,v<n→∀ u:Nat,u<n→ndB G (v:Int) (u:Int)=true→plc o (u:Int)<plc o (v:Int)
structure RightP (f:FlatM) (n:Nat) (o sl:List Int) (S:Int):Prop where
  good:goodB f=true
  once:Once o n
  slots:sl.length=n∧∀ x∈sl,0≤x∧x<S
  behind:BehindP (gOf f) o n
  apart:ApartTo (laF f o) o sl n
end Go.Proofs.YtpnlbjnbgemocaaGreat
namespace Go.Proofs.YtpnlbjnbgemocaaGreat
set_option linter.unusedVariables false
set_option linter.unusedSimpArgs false
set_option maxRecDepth 100000
open Go.RowKit Gr
theorem Tryz.info9:(Tryz.prog.info? 9).map (fun i=>(i.zero,i.size,i.bytes))=some (some (.string ⟨#[]⟩),1,16):=by kernel_rfl
theorem make3 (w:World):(Instr.makeSlice 76 (.int .i64 3) (.int .i64 3)).run Tryz.prog w=.ok (.slice (some ⟨w.heap.size,0,none⟩) 3 3) (w.alloc (.cells #[.string ⟨#[]⟩,.string ⟨#[]⟩,.string ⟨#[]⟩] 9)):=by
  obtain⟨i,hi,hz0,hz1,hz2⟩:=info_parts Tryz.info9
  have hr:=run_make (P:=Tryz.prog) w 76 9 i (.string ⟨#[]⟩) Tryz.underlying76 hi hz0 .i64 .i64 3 3 (by omega) (by omega) (by rw [hz2];omega) (by omega)
  rw [hz1] at hr
  rw [hr]
  have e:madeCells (Value.string ⟨#[]⟩).cells (Int.toNat 3*1)=#[.string ⟨#[]⟩,.string ⟨#[]⟩,.string ⟨#[]⟩]:=by
    apply Array.ext'
    show(madeCells #[Value.string ⟨#[]⟩] (Int.toNat 3*1)).toList=_
    rw [toList_madeCells_one]
    rfl
  rw [e]
  rfl
def noVal:ValM:=⟨0,false,[],[],⟨#[]⟩⟩
def chainM:FlatM:=⟨[⟨#[118]⟩],[⟨#[]⟩,⟨#[]⟩,⟨#[]⟩],[2],[⟨0,⟨#[105,110]⟩,[],0,noVal,-1⟩,⟨1,⟨#[110,101,103]⟩,[0],0,noVal,-1⟩,⟨2,⟨#[110,101,103]⟩,[1],0,noVal,-1⟩],[],[],[],[]⟩
def chainV (g:Nat):FlatV:=⟨(some ⟨g+1,0,none⟩,1,1),(some ⟨g+2,0,none⟩,3,3),(some ⟨g+3,0,none⟩,1,1),(some ⟨g+6,0,none⟩,3,3),(none,0,0),(none,0,0),(none,0,0),(none,0,0)⟩
def chainQ (g:Nat):Array Value:=#[.int .i64 0,.string ⟨#[105,110]⟩,.slice none 0 0,.int .i64 0,.int .i64 0,.bool false,.slice none 0 0,.slice none 0 0,.string ⟨#[]⟩,.int .i64 (-1),.int .i64 1,.string ⟨#[110,101,103]⟩,.slice (some ⟨g+4,0,none⟩) 1 1,.int .i64 0,.int .i64 0,.bool false,.slice none 0 0,.slice none 0 0,.string ⟨#[]⟩,.int .i64 (-1),.int .i64 2,.string ⟨#[110,101,103]⟩,.slice (some ⟨g+5,0,none⟩) 1 1,.int .i64 0,.int .i64 0,.bool false,.slice none 0 0,.slice none 0 0,.string ⟨#[]⟩,.int .i64 (-1)]
def chainW (w:World):World:=((((((w.alloc (.cells (fvs (chainV w.heap.size)) 83)).alloc (.cells #[.string ⟨#[118]⟩] 9)).alloc (.cells #[.string ⟨#[]⟩,.string ⟨#[]⟩,.string ⟨#[]⟩] 9)).alloc (.cells #[.int .i64 2] 3)).alloc (.cells #[.int .i64 0] 3)).alloc (.cells #[.int .i64 1] 3)).alloc (.cells (chainQ w.heap.size) 127)
theorem chain_blk (w:World):Blk (chainW w) w.heap.size 83 (fvs (chainV w.heap.size))∧Blk (chainW w) (w.heap.size+1) 9 #[.string ⟨#[118]⟩]∧Blk (chainW w) (w.heap.size+2) 9 #[.string ⟨#[]⟩,.string ⟨#[]⟩,.string ⟨#[]⟩]∧Blk (chainW w) (w.heap.size+3) 3 #[.int .i64 2] ∧
    Blk (chainW w) (w.heap.size+4) 3 #[.int .i64 0]∧Blk (chainW w) (w.heap.size+5) 3 #[.int .i64 1]∧Blk (chainW w) (w.heap.size+6) 127 (chainQ w.heap.size)∧(chainW w).heap.size=w.heap.size+7∧Below w.heap.size w (chainW w):=by
  unfold chainW
  refine⟨?_, ?_, ?_, ?_, ?_, ?_, ?_, ?_, ?_⟩
  · exact(((((((Blk.new w 83 (fvs (chainV w.heap.size))).alloc _).alloc _).alloc _).alloc _).alloc _).alloc _)
  · have:=Blk.new (w.alloc (.cells (fvs (chainV w.heap.size)) 83)) 9 #[.string ⟨#[118]⟩]
    simp only [size_alloc] at this
    exact(((((this.alloc _).alloc _).alloc _).alloc _).alloc _)
  · have:=Blk.new ((w.alloc (.cells (fvs (chainV w.heap.size)) 83)).alloc (.cells #[.string ⟨#[118]⟩] 9)) 9 #[.string ⟨#[]⟩,.string ⟨#[]⟩,.string ⟨#[]⟩]
    simp only [size_alloc] at this
    exact((((this.alloc _).alloc _).alloc _).alloc _)
  · have:=Blk.new (((w.alloc (.cells (fvs (chainV w.heap.size)) 83)).alloc (.cells #[.string ⟨#[118]⟩] 9)).alloc (.cells #[.string ⟨#[]⟩,.string ⟨#[]⟩,.string ⟨#[]⟩] 9)) 3 #[.int .i64 2]
    simp only [size_alloc] at this
    exact(((this.alloc _).alloc _).alloc _)
  · have:=Blk.new ((((w.alloc (.cells (fvs (chainV w.heap.size)) 83)).alloc (.cells #[.string ⟨#[118]⟩] 9)).alloc (.cells #[.string ⟨#[]⟩,.string ⟨#[]⟩,.string ⟨#[]⟩] 9)).alloc (.cells #[.int .i64 2] 3)) 3 #[.int .i64 0]
    simp only [size_alloc] at this
    exact((this.alloc _).alloc _)
  · have:=Blk.new (((((w.alloc (.cells (fvs (chainV w.heap.size)) 83)).alloc (.cells #[.string ⟨#[118]⟩] 9)).alloc (.cells #[.string ⟨#[]⟩,.string ⟨#[]⟩,.string ⟨#[]⟩] 9)).alloc (.cells #[.int .i64 2] 3)).alloc (.cells #[.int .i64 0] 3)) 3 #[.int .i64 1]
    simp only [size_alloc] at this
    exact(this.alloc _)
  · have:=Blk.new ((((((w.alloc (.cells (fvs (chainV w.heap.size)) 83)).alloc (.cells #[.string ⟨#[118]⟩] 9)).alloc (.cells #[.string ⟨#[]⟩,.string ⟨#[]⟩,.string ⟨#[]⟩] 9)).alloc (.cells #[.int .i64 2] 3)).alloc (.cells #[.int .i64 0] 3)).alloc (.cells #[.int .i64 1] 3)) 127 (chainQ w.heap.size)
    simp only [size_alloc] at this
    exact this
  · simp only [size_alloc]
  · exact(((((((Below.refl _ _).alloc (Nat.le_refl _) _).alloc (by simp only [size_alloc];omega) _).alloc (by simp only [size_alloc];omega) _).alloc (by simp only [size_alloc];omega) _).alloc (by simp only [size_alloc];omega) _).alloc (by simp only [size_alloc];omega) _).alloc (by simp only [size_alloc];omega) _
theorem irow_blk {w:World}{g B:Nat}{x:Int}(h:Blk w g 3 #[.int .i64 x])(hg:g<B):IRow w B (some ⟨g,0,none⟩) 1 1 [x]:=
  ⟨rfl,Nat.le_refl _,by unfold maxLen;omega,(fun h=>by cases h),g,0,.inl rfl,fun i hi=>⟨hg,by
    obtain rfl:i=0:=by omega
    exact h.cell 0 rfl⟩⟩
theorem noVal_at {W:World}{B b o:Nat}{vs:Array Value}{T:Nat}(h:Blk W b T vs)(h0:vs[o]?=some (.int .i64 0))(h1:vs[o+1]?=some (.bool false))(h2:vs[o+2]?=some (.slice none 0 0))(h3:vs[o+3]?=some (.slice none 0 0))(h4:vs[o+4]?=some (.string ⟨#[]⟩)):ValAt W B b o noVal where
  kind:=⟨h.cell o h0,by decide,by decide⟩
  neg:=h.cell (o+1) h1
  mag:=⟨none,0,0,h.cell (o+2) h2,rfl,Nat.le_refl _,Nat.zero_le _,(fun _=>rfl),(by intro x hx;cases hx),Nat.zero_le _,0,0,Or.inr (Nat.le_refl _),fun i hi=>by omega⟩
  den:=⟨none,0,0,h.cell (o+3) h3,rfl,Nat.le_refl _,Nat.zero_le _,(fun _=>rfl),(by intro x hx;cases hx),Nat.zero_le _,0,0,Or.inr (Nat.le_refl _),fun i hi=>by omega⟩
  name:=⟨h.cell (o+4) h4,by decide⟩
theorem chain_is (w:World):FlatIs (chainW w) (w.heap.size+7) (chainV w.heap.size) chainM:=by
  obtain⟨b0,b1,b2,b3,b4,b5,b6,hsz,hb⟩:=chain_blk w
  refine⟨⟨rfl,Nat.le_refl _,by unfold maxLen chainV;simp,w.heap.size+1,0,.inl rfl,fun i x hx=>⟨by omega, ?_⟩⟩,⟨rfl,Nat.le_refl _,by unfold maxLen chainV;simp,w.heap.size+2,0,.inl rfl,fun i x hx=>⟨by omega, ?_⟩⟩,
    irow_blk b3 (by omega),⟨rfl,Nat.le_refl _,by unfold maxLen chainV;simp,w.heap.size+6,0,.inl rfl,fun i x hx=>⟨by omega, ?_⟩⟩,SRow.nil _ _ _ _,SRow.nil _ _ _ _,SRow.nil _ _ _ _,IRow.nil _ _⟩
  · match i,hx with
    | 0,hx=>injection hx with hx;subst hx;exact⟨b1.cell 0 rfl,by decide⟩
  · match i,hx with
    | 0,hx=>injection hx with hx;subst hx;exact⟨b2.cell 0 rfl,by decide⟩
    | 1,hx=>injection hx with hx;subst hx;exact⟨b2.cell 1 rfl,by decide⟩
    | 2,hx=>injection hx with hx;subst hx;exact⟨b2.cell 2 rfl,by decide⟩
  · match i,hx with
    | 0,hx=>
      injection hx with hx;subst hx
      exact⟨⟨b6.cell 0 rfl,by decide,by decide⟩,⟨b6.cell 1 rfl,by decide⟩,⟨none,0,0,b6.cell 2 rfl,IRow.nil _ _⟩,⟨b6.cell 3 rfl,by decide,by decide⟩,noVal_at b6 rfl rfl rfl rfl rfl,⟨b6.cell 9 rfl,by decide,by decide⟩⟩
    | 1,hx=>
      injection hx with hx;subst hx
      exact⟨⟨b6.cell 10 rfl,by decide,by decide⟩,⟨b6.cell 11 rfl,by decide⟩,⟨_,1,1,b6.cell 12 rfl,irow_blk b4 (by omega)⟩,⟨b6.cell 13 rfl,by decide,by decide⟩,noVal_at b6 rfl rfl rfl rfl rfl,⟨b6.cell 19 rfl,by decide,by decide⟩⟩
    | 2,hx=>
      injection hx with hx;subst hx
      exact⟨⟨b6.cell 20 rfl,by decide,by decide⟩,⟨b6.cell 21 rfl,by decide⟩,⟨_,1,1,b6.cell 22 rfl,irow_blk b5 (by omega)⟩,⟨b6.cell 23 rfl,by decide,by decide⟩,noVal_at b6 rfl rfl rfl rfl rfl,⟨b6.cell 29 rfl,by decide,by decide⟩⟩
theorem Tryz.info83:(Tryz.prog.info? 83).map (·.size)=some 8:=by kernel_rfl
def ChainPost (w:World)(e:Ending)(w':World):Prop:=∃ v,e=.returned (flatV v)∧v.names.2.1=3∧FlatIs w' w'.heap.size v chainM∧Below w.heap.size w w'
end Go.Proofs.YtpnlbjnbgemocaaGreat
namespace Go.Proofs.YtpnlbjnbgemocaaGreat
set_option linter.unusedVariables false
set_option linter.unusedSimpArgs false
set_option maxRecDepth 100000
open Go.RowKit
def insA (x:InsM):Array Value:=#[.string x.op,.int .i64 x.dst,.slice x.args.1 x.args.2.1 x.args.2.2,.int .i64 x.k,.int .i64 x.kind,.bool x.neg,.slice x.mag.1 x.mag.2.1 x.mag.2.2,.slice x.den.1 x.den.2.1 x.den.2.2,.string x.name,.int .i64 x.guard,.slice x.resets.1 x.resets.2.1 x.resets.2.2]
theorem insV_A (x:InsM):insV x=.agg (insA x):=rfl
theorem Blk.elevQ {w:World}{g T:Nat}{x0 x1 x2 x3 x4 x5 x6 x7 x8 x9 x10:Value}(h:Blk w g T #[x0,x1,x2,x3,x4,x5,x6,x7,x8,x9,x10]):w.cell? ⟨g,0,none⟩=some x0∧w.cell? ⟨g,1,none⟩=some x1∧w.cell? ⟨g,2,none⟩=some x2∧w.cell? ⟨g,3,none⟩=some x3∧w.cell? ⟨g,4,none⟩=some x4∧w.cell? ⟨g,5,none⟩=some x5∧w.cell? ⟨g,6,none⟩=some x6∧w.cell? ⟨g,7,none⟩=some x7∧w.cell? ⟨g,8,none⟩=some x8∧w.cell? ⟨g,9,none⟩=some x9∧w.cell? ⟨g,10,none⟩=some x10:=
  ⟨h.cell 0 rfl,h.cell 1 rfl,h.cell 2 rfl,h.cell 3 rfl,h.cell 4 rfl,h.cell 5 rfl,h.cell 6 rfl,h.cell 7 rfl,h.cell 8 rfl,h.cell 9 rfl,h.cell 10 rfl⟩
theorem Blk.elevQF {w:World}{g T:Nat}{vs:Array Value}(h:Blk w g T vs):w.frozen? ⟨g,0,none⟩=false∧w.frozen? ⟨g,1,none⟩=false∧w.frozen? ⟨g,2,none⟩=false∧w.frozen? ⟨g,3,none⟩=false∧w.frozen? ⟨g,4,none⟩=false∧w.frozen? ⟨g,5,none⟩=false∧w.frozen? ⟨g,6,none⟩=false∧w.frozen? ⟨g,7,none⟩=false∧w.frozen? ⟨g,8,none⟩=false∧w.frozen? ⟨g,9,none⟩=false∧w.frozen? ⟨g,10,none⟩=false:=
  ⟨h.free 0,h.free 1,h.free 2,h.free 3,h.free 4,h.free 5,h.free 6,h.free 7,h.free 8,h.free 9,h.free 10⟩
theorem Blk.put11 {w:World}{g T:Nat}{x0 x1 x2 x3 x4 x5 x6 x7 x8 x9 x10:Value}(h:Blk w g T #[x0,x1,x2,x3,x4,x5,x6,x7,x8,x9,x10])(y0 y1 y2 y3 y4 y5 y6 y7 y8 y9 y10:Value):Blk (((((((((((w.setCell ⟨g,0,none⟩ y0).setCell ⟨g,1,none⟩ y1).setCell ⟨g,2,none⟩ y2).setCell ⟨g,3,none⟩ y3).setCell ⟨g,4,none⟩ y4).setCell ⟨g,5,none⟩ y5).setCell ⟨g,6,none⟩ y6).setCell ⟨g,7,none⟩ y7).setCell ⟨g,8,none⟩ y8).setCell ⟨g,9,none⟩ y9).setCell ⟨g,10,none⟩ y10) g T #[y0,y1,y2,y3,y4,y5,y6,y7,y8,y9,y10]:=by
  have h1:Blk w g T [x0,x1,x2,x3,x4,x5,x6,x7,x8,x9,x10].toArray:=h
  exact((((((((((h1.put 0 y0).put 1 y1).put 2 y2).put 3 y3).put 4 y4).put 5 y5).put 6 y6).put 7 y7).put 8 y8).put 9 y9).put 10 y10
theorem Blk.putA {w:World}{g T:Nat}{vs:Array Value}(h:Blk w g T vs)(j:Nat)(u:Value):Blk (w.setCell ⟨g,j,none⟩ u) g T (vs.setIfInBounds j u):=by
  have:=heap_setCell_same w g j _ T u h
  unfold Blk
  rw [this]
theorem bs_toList (l:List UInt8):(bs l).toList=l:=by rw [Lib.toList_data];rfl
theorem belowP11 {B:Nat}{a w:World}(h:Below B a w){g:Nat}(hg:B≤g)(y0 y1 y2 y3 y4 y5 y6 y7 y8 y9 y10:Value):Below B a (((((((((((w.setCell ⟨g,0,none⟩ y0).setCell ⟨g,1,none⟩ y1).setCell ⟨g,2,none⟩ y2).setCell ⟨g,3,none⟩ y3).setCell ⟨g,4,none⟩ y4).setCell ⟨g,5,none⟩ y5).setCell ⟨g,6,none⟩ y6).setCell ⟨g,7,none⟩ y7).setCell ⟨g,8,none⟩ y8).setCell ⟨g,9,none⟩ y9).setCell ⟨g,10,none⟩ y10):=
  ((((((((((h.setCell (p:=⟨g,0,none⟩) hg y0).setCell (p:=⟨g,1,none⟩) hg y1).setCell (p:=⟨g,2,none⟩) hg y2).setCell (p:=⟨g,3,none⟩) hg y3).setCell (p:=⟨g,4,none⟩) hg y4).setCell (p:=⟨g,5,none⟩) hg y5).setCell (p:=⟨g,6,none⟩) hg y6).setCell (p:=⟨g,7,none⟩) hg y7).setCell (p:=⟨g,8,none⟩) hg y8).setCell (p:=⟨g,9,none⟩) hg y9).setCell (p:=⟨g,10,none⟩) hg y10
theorem Tryz.infoInsS:(Tryz.prog.info? 96).map (·.size)=some 11:=by kernel_rfl
theorem keepS4 {W w':World}{C:Nat}{p0 p1 p2 p3:Addr}{x0 x1 x2 x3:Value}(h:W.cell? p0=some x0∧W.cell? p1=some x1∧W.cell? p2=some x2∧W.cell? p3=some x3)(hb:Below C W w')(h0:p0.block<C)(h1:p1.block<C)(h2:p2.block<C)(h3:p3.block<C) :
    w'.cell? p0=some x0∧w'.cell? p1=some x1∧w'.cell? p2=some x2∧w'.cell? p3=some x3:=
  ⟨(hb.cell h0).trans h.1,(hb.cell h1).trans h.2.1,(hb.cell h2).trans h.2.2.1,(hb.cell h3).trans h.2.2.2⟩
end Go.Proofs.YtpnlbjnbgemocaaGreat
namespace Go.Proofs.YtpnlbjnbgemocaaGreat
set_option linter.unusedVariables false
set_option linter.unusedSimpArgs false
set_option maxRecDepth 100000
open Go.RowKit
end Go.Proofs.YtpnlbjnbgemocaaGreat
namespace Go.Proofs.YtpnlbjnbgemocaaGreat
set_option linter.unusedVariables false
set_option linter.unusedSimpArgs false
set_option maxRecDepth 100000
open Go.ChangeShapes Go.WideShapes Go.ChangeAt Go.RowKit Go.Joins
structure RatM where
  neg:Bool
  mag:List Nat
  den:List Nat
structure DeedM where
  kind:Int
  ins:List RatM
  flags:List Bool
  dt:RatM
  bits:Int
structure RatAt (w:World) (B b o:Nat) (r:RatM):Prop where
  neg:w.cell? ⟨b,o,none⟩=some (.bool r.neg)
  mag:UsAt w B b (o+1) r.mag
  den:UsAt w B b (o+2) r.den
def BoolAt (w:World)(_ b o:Nat)(x:Bool):Prop:=w.cell? ⟨b,o,none⟩=some (.bool x)
structure DeedAt (w:World) (B b o:Nat) (d:DeedM):Prop where
  kind:IntAt w B b o d.kind
  ins:SsAt 3 RatAt w B b (o+1) d.ins
  flags:SsAt 1 BoolAt w B b (o+2) d.flags
  dt:RatAt w B b (o+3) d.dt
  bits:IntAt w B b (o+6) d.bits
section
variable {w w':World} {B b o:Nat}
theorem RatAt.keep {x:RatM}(h:RatAt w B b o x)(hb:b<B)(hk:∀ p:Addr,p.block<B→w'.cell? p=w.cell? p):RatAt w' B b o x:=⟨(hk _ hb).trans h.neg,h.mag.keep hb hk,h.den.keep hb hk⟩
theorem BoolAt.keep {x:Bool}(h:BoolAt w B b o x)(hb:b<B)(hk:∀ p:Addr,p.block<B→w'.cell? p=w.cell? p):BoolAt w' B b o x:=(hk _ hb).trans h
theorem DeedAt.keep {x:DeedM}(h:DeedAt w B b o x)(hb:b<B)(hk:∀ p:Addr,p.block<B→w'.cell? p=w.cell? p):DeedAt w' B b o x:=
  ⟨h.kind.keep hb hk,h.ins.keep hb hk fun _ _ _ q r=>r.keep q hk,h.flags.keep hb hk fun _ _ _ q r=>r.keep q hk,h.dt.keep hb hk,h.bits.keep hb hk⟩
end
theorem deeds_below {w w':World}{B:Nat}{a:Option Addr}{n c:Nat}{ds:List DeedM}(h:SRow 7 DeedAt w B a n c ds)(hb:Below B w w'):SRow 7 DeedAt w' B a n c ds:=SRow.keep h fun _ _ _ q r=>r.keep q fun _ hp=>hb.cell hp
theorem rats_below {w w':World}{B:Nat}{a:Option Addr}{n c:Nat}{ds:List RatM}(h:SRow 3 RatAt w B a n c ds)(hb:Below B w w'):SRow 3 RatAt w' B a n c ds:=SRow.keep h fun _ _ _ q r=>r.keep q fun _ hp=>hb.cell hp
section
variable {w:World} {b o:Nat} {ds:List Value}
theorem rat_came (hb:b<w.heap.size)(hc:∀ j,j<3→w.cell? ⟨b,o+j,none⟩=ds[j]?)(hl:ds.length=3)(ht:Tr w 46 ds):∃ x,RatAt w w.heap.size b o x:=by
  obtain⟨x,y,z,h1,h2,h3⟩:=arat_came hb hc hl ht
  exact⟨⟨x,y,z⟩,h1,h2,h3⟩
end
def ShortR (r:RatM):Prop:=r.mag.length+r.den.length≤4
theorem long_t (s:Bool)(a b:Option Addr)(n c m d:Nat)(w:World)(hn:n≤4611686018427387903)(hm:m≤4611686018427387903):Calls Tryz.prog 29 #[.agg #[.bool s,.slice a n c,.slice b m d]] w fun e w'=>e=.returned (.bool (decide ((4:Int)<(n:Int)+(m:Int))))∧Below w.heap.size w w':=by
  obtain⟨W1,hW1⟩:∃ W1,W1=w.alloc (.cells #[.bool s,.slice a n c,.slice b m d] 46):=⟨_,rfl⟩
  have hb1:Below w.heap.size w W1:=by rw [hW1];exact(Below.refl _ _).alloc (Nat.le_refl _) _
  have HK:=Lib.hid (show Blk W1 w.heap.size 46 #[.bool s,.slice a n c,.slice b m d] from by rw [hW1];exact Blk.new _ _ _)
  have p0:=HK.out.cell 0 rfl
  have p1:=HK.out.cell 1 rfl
  have p2:=HK.out.cell 2 rfl
  have hq:w.heap.size<W1.heap.size:=HK.out.lt
  go_enter Tryz.func29,Tryz.ntmps29
  go_upto_region 1 with fail
  rw [←hW1]
  clear hW1
  go_wp2
  go_ret
  exact⟨by first | rfl | (congr 1;simp),hb1⟩
end Go.Proofs.YtpnlbjnbgemocaaGreat
