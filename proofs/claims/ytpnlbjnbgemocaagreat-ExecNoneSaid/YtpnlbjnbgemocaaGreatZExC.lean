import Derived.Test.YtpnlbjnbgemocaaGreatZPlEToExBN12
import Derived.Test.YtpnlbjnbgemocaaGreatZFlAToHpKN11
import Derived.Deep.DeepCutAuto
namespace Go.Proofs.YtpnlbjnbgemocaaGreat
set_option linter.unusedVariables false
set_option linter.unusedSimpArgs false
set_option maxRecDepth 100000
open Go.RowKit
structure FewD (d:DeedM):Prop where
  ins:d.ins.length≤10
  flags:d.flags.length≤30
  bits:d.bits≤600
  dt:ShortR d.dt
  each:∀ x∈d.ins,ShortR x
theorem UsAt.row {w:World}{B b o:Nat}{xs:List Nat}(h:UsAt w B b o xs):∃ A L C,w.cell? ⟨b,o,none⟩=some (.slice A L C)∧L=xs.length∧L≤35184372088832:=by
  obtain⟨A,L,C,h1,h2⟩:=h
  exact⟨A,L,C,h1,h2.1.symm,h2.2.2.2.2.2.1⟩
set_option maxHeartbeats 4000000 in
theorem few17_t (B:Nat)(a:Option Addr)(n c:Nat)(ds:List DeedM)(w:World)(h:SRow 7 DeedAt w B a n c ds)(hB:B≤w.heap.size) :
    Calls Tryz.prog 8 #[.slice a n c] w (SomeB (n≤12∧∀ d∈ds,FewD d) w):=by
  have hm:=h.len_le
  have HL:=Lib.hid h.1
  have HH:=Lib.hid (fun(W:World) (hb:Below w.heap.size w W)=>deeds_below h (hb.mono hB))
  clear h
  unfold maxLen at hm
  by_cases t0:n≤12
  rotate_left
  · have t1:(12:Int)<(n:Int):=by omega
    go_enter Tryz.func8,Tryz.ntmps8
    go_wp2
    go_ret
    exact⟨⟨false,rfl,fun h=>by cases h⟩,Below.refl _ _⟩
  have t1:(n:Int)≤12:=by omega
  go_enter Tryz.func8,Tryz.ntmps8
  go_wp2_with fail
  go_loopw [3] (fun t wr=>∃ k:Nat,k≤n∧t=.int .i64 k∧Hid (∀(i:Nat) (d:DeedM),i<k→ds[i]?=some d→FewD d)∧Hid (Below w.heap.size w wr)) (fun t _=>n-(intOf t).toNat)
  case atStart=>exact⟨0,Nat.zero_le _,rfl,Lib.hid (fun i d hi=>by omega),Lib.hid (Below.refl _ _)⟩
  case round =>
    obtain⟨k,hk,rfl,HO,HB⟩:=hrel
    by_cases hlt:k<n
    · obtain ⟨d, hd⟩ : ∃ d, ds[k]? = some d := ⟨_, List.getElem?_eq_getElem (by rw [HL.out]; exact hlt)⟩
      obtain⟨b,off,ha,hbB,hat⟩:=(HH.out _ HB.out).at_ hd
      have HD:=Lib.hid hd
      obtain⟨⟨dk,-,-⟩,⟨ia,ni,ic,di,hri⟩,⟨fa,nf,fc,df,hrf⟩,⟨dn,hmg,hdn⟩,⟨db,hb1,hb2⟩⟩:=hat
      obtain⟨ma,nm,mc,dm,hnm,hml⟩:=hmg.row
      obtain⟨ea,ne,ec,de,hne,hel⟩:=hdn.row
      have HRI:=Lib.hid (show SRow 3 RatAt _ B ia ni ic d.ins from hri)
      have hni:ni=d.ins.length:=hri.1.symm
      have hnf:nf=d.flags.length:=hrf.1.symm
      have hmi:ni≤9223372036854775807:=by have:=hri.len_le;unfold maxLen at this;exact this
      have hmf:nf≤9223372036854775807:=by have:=hrf.len_le;unfold maxLen at this;exact this
      rw [show off+k*7+3+1=off+k*7+4 from rfl] at dm
      rw [show off+k*7+3+2=off+k*7+5 from rfl] at de
      have HNM:=Lib.hid hnm
      have HNE:=Lib.hid hne
      have HNI:=Lib.hid hni
      have HNF:=Lib.hid hnf
      clear hnm hne hni hnf hmg hdn hri hrf hd
      subst ha
      by_cases q1:ni≤10
      rotate_left
      · have q1':(10:Int)<(ni:Int):=by omega
        go_wp2
        go_ret
        exact⟨⟨false,rfl,fun h=>by cases h⟩,HB.out⟩
      have q1':(ni:Int)≤10:=by omega
      by_cases q2:nf≤30
      rotate_left
      · have q2':(30:Int)<(nf:Int):=by omega
        go_wp2
        go_ret
        exact⟨⟨false,rfl,fun h=>by cases h⟩,HB.out⟩
      have q2':(nf:Int)≤30:=by omega
      by_cases q3:d.bits≤600
      rotate_left
      · have q3':600<d.bits:=by omega
        go_wp2
        go_ret
        exact⟨⟨false,rfl,fun h=>by cases h⟩,HB.out⟩
      have HLG:=Lib.hid (fun W=>long_t d.dt.neg ma ea nm mc ne ec W (by omega) (by omega))
      by_cases q4:nm+ne≤4
      rotate_left
      · have q4':decide ((4:Int)<(nm:Int)+(ne:Int))=true:=by rw [decide_eq_true_eq];omega
        rw [q4'] at HLG
        clear q4'
        go_wp2_with (go_at_call 29;(with_reducible refine(HLG.out _).mono ?_);rintro e w1 ⟨rfl,hb1⟩)
        go_ret
        exact⟨⟨false,rfl,fun h=>by cases h⟩,HB.out.trans (hb1.mono HB.out.size)⟩
      have q4':decide ((4:Int)<(nm:Int)+(ne:Int))=false:=by rw [decide_eq_false_iff_not];omega
      rw [q4'] at HLG
      have HFD:=Lib.hid (show d.ins.length≤10∧d.flags.length≤30∧d.bits≤600∧ShortR d.dt from⟨by rw [←HNI.out];exact q1,by rw [←HNF.out];exact q2,q3,by unfold ShortR;rw [←HNM.out,←HNE.out];exact q4⟩)
      clear q4'
      go_wp2_with (go_at_call 29;(with_reducible refine(HLG.out _).mono ?_);rintro e w1 ⟨rfl,hb1⟩;have HB1:=Lib.hid hb1;clear hb1)
      have HDI:=Lib.hid di
      have hbw:b<wr.heap.size:=by have:=HB.out.size;omega
      have hBw:B≤wr.heap.size:=by have:=HB.out.size;omega
      clear dk di df dn dm de db q1' q2' hml hel q3 hb1 hb2 HLG
      go_loopw [4] (fun t wx=>∃ j:Nat,j≤ni∧t=.int .i64 j∧Hid (∀(i:Nat) (x:RatM),i<j→d.ins[i]?=some x→ShortR x)∧Hid (Below wr.heap.size wr wx)) (fun t _=>ni-(intOf t).toNat)
      case atStart=>exact⟨0,Nat.zero_le _,rfl,Lib.hid (fun i x hi=>by omega),HB1⟩
      case round=>
        obtain⟨j,hj,rfl,HOj,HBx⟩:=hrel
        have di':=(HBx.out.cell (p:=⟨b,off+k*7+1,none⟩) hbw).trans HDI.out
        by_cases hlj:j<ni
        · obtain⟨x,hx⟩:∃ x,d.ins[j]?=some x:=⟨_,List.getElem?_eq_getElem (by rw [←HNI.out];exact hlj)⟩
          obtain⟨b2,off2,ha2,hb2B,hat2⟩:=(rats_below HRI.out (HBx.out.mono hBw)).at_ hx
          have HX:=Lib.hid hx
          obtain⟨xn,hxm,hxd⟩:=hat2
          obtain⟨xa,nx,xc,xm,hnx,hxl⟩:=hxm.row
          obtain⟨ya,ny,yc,ym,hny,hyl⟩:=hxd.row
          have HNX:=Lib.hid hnx
          have HNY:=Lib.hid hny
          have HLX:=Lib.hid (fun W=>long_t x.neg xa ya nx xc ny yc W (by omega) (by omega))
          clear hxm hxd hnx hny hx
          subst ha2
          by_cases q4:nx+ny≤4
          · have q4':decide ((4:Int)<(nx:Int)+(ny:Int))=false:=by rw [decide_eq_false_iff_not];omega
            rw [q4'] at HLX
            clear q4'
            go_wp2_with (go_at_call 29;(with_reducible refine(HLX.out _).mono ?_);rintro e w2 ⟨rfl,hb2⟩;have HB2:=Lib.hid hb2;clear hb2)
            go_roundw
            case rel=>
              refine⟨j+1,by omega,by go_num,Lib.hid (fun i y hi hy=>?_),Lib.hid (HBx.out.trans (HB2.out.mono HBx.out.size))⟩
              rcases Nat.lt_or_ge i j with q | q
              · exact HOj.out i y q hy
              · obtain rfl:j=i:=by omega
                rw [HX.out] at hy
                injection hy with hy
                subst hy
                unfold ShortR
                rw [←HNX.out,←HNY.out]
                exact q4
            case measure=>simp [intOf];omega
          · have q4':decide ((4:Int)<(nx:Int)+(ny:Int))=true:=by rw [decide_eq_true_eq];omega
            rw [q4'] at HLX
            clear q4'
            go_wp2_with (go_at_call 29;(with_reducible refine(HLX.out _).mono ?_);rintro e w2 ⟨rfl,hb2⟩;have HB2:=Lib.hid hb2;clear hb2)
            go_ret
            exact⟨⟨false,rfl,fun h=>by cases h⟩,HB.out.trans ((HBx.out.trans (HB2.out.mono HBx.out.size)).mono HB.out.size)⟩
        · obtain rfl:j=ni:=by omega
          go_wp2_with fail
          go_roundw
          case rel=>
            refine⟨k+1,by omega,by go_num,Lib.hid (fun i y hi hy=>?_),Lib.hid (HB.out.trans (HBx.out.mono HB.out.size))⟩
            rcases Nat.lt_or_ge i k with q | q
            · exact HO.out i y q hy
            · obtain rfl:k=i:=by omega
              rw [HD.out] at hy
              injection hy with hy
              subst hy
              exact⟨HFD.out.1,HFD.out.2.1,HFD.out.2.2.1,HFD.out.2.2.2,fun x hx=>by obtain⟨i,hi,e⟩:=List.getElem_of_mem hx;exact HOj.out i x (by rw [HNI.out];exact hi) (by rw [List.getElem?_eq_getElem hi,e])⟩
          case measure=>simp [intOf];omega
    · obtain rfl:k=n:=by omega
      go_wp2
      go_ret
      exact⟨⟨true,rfl,fun _=>⟨t0,fun d hd=>by obtain⟨i,hi,e⟩:=List.getElem_of_mem hd;exact HO.out i d (by rw [←HL.out];exact hi) (by rw [List.getElem?_eq_getElem hi,e])⟩⟩,HB.out⟩
end Go.Proofs.YtpnlbjnbgemocaaGreat
