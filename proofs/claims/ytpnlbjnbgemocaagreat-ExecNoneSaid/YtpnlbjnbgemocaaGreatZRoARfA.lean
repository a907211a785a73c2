import Derived.Test.YtpnlbjnbgemocaaGreatZSfAToFlPN13
import Derived.Test.YtpnlbjnbgemocaaGreatZNdAToPlanMN6
import Derived.Test.YtpnlbjnbgemocaaGreatZPlEToExBN12
import Derived.Deep.DeepCutAuto
import Derived.Test.YtpnlbjnbgemocaaGreatZFlX
namespace Go.Proofs.YtpnlbjnbgemocaaGreat
set_option linter.unusedVariables false
set_option linter.unusedSimpArgs false
set_option maxRecDepth 100000
open Go.RowKit Gr
theorem nd_E {G:List (List Int)}{i k:Nat}:ndB G (i:Int) (k:Int)=true↔E G i k:=by
  unfold ndB E
  simp only [Bool.and_eq_true,decide_eq_true_eq,Int.toNat_natCast]
  constructor
  · rintro⟨⟨⟨⟨_,h1⟩,_⟩,h2⟩,h3⟩;exact⟨by omega,by omega,h3⟩
  · rintro⟨h1,h2,h3⟩;exact⟨⟨⟨⟨by omega,by omega⟩,by omega⟩,by omega⟩,h3⟩
structure Mks (bs:List Bool) (out:List Nat) (n:Nat):Prop where
  len:bs.length=n
  get:∀ j,j<n→(bs.getD j false=true↔j∈out)
theorem Mks.start (n:Nat):Mks (List.replicate n false) [] n:=⟨by simp,fun j hj=>by simp [hj]⟩
theorem Mks.set {bs:List Bool}{out:List Nat}{n x:Nat}(h:Mks bs out n)(hx:x<n):Mks (bs.set x true) (out++[x]) n:=by
  refine⟨by simp [h.len],fun j hj=>?_⟩
  have hl:=h.len
  by_cases e:x=j
  · subst e;simp [show x<bs.length by omega]
  · have e1:(bs.set x true).getD j false=bs.getD j false:=by simp [List.getElem?_set,e]
    rw [e1,h.get j hj]
    simp [show ¬ j=x from fun q=>e q.symm]
def vlen:Value→Nat
  | .slice _ n _=>n
  | _=>0
def RoR2 (G:List (List Int))(out:List Nat)(n:Nat)(s t:Value):Prop:=∃ i:Nat,i≤n∧t=.int .i64 (i:Int)∧((s=.int .i64 (-1)∧∀ y,y<i→¬ Rdy G out y)∨∃ x:Nat,s=.int .i64 (x:Int)∧x<n∧Rdy G out x∧∀ y,y<x→¬ Rdy G out y)
def RoR3 (G:List (List Int))(out:List Nat)(n i:Nat)(s t:Value):Prop:=∃ k:Nat,k≤n∧t=.int .i64 (k:Int)∧∃ b:Bool,s=.bool b∧(b=true→i ∉ out∧∀ k',k'<k→E G i k'→k'∈out)∧(b=false→¬ Rdy G out i)
def ROrd (G:List (List Int))(w:World)(e:Ending)(w':World):Prop:=
  ((∃ A c out,e=.returned (.tuple #[.slice A G.length c,.bool true])∧Own w' w.heap.size (.slice A G.length c) (ints out)∧IsLst G out∧out.length=G.length) ∨
    (e=.returned (.tuple #[.slice none 0 0,.bool false])∧∃ out,IsLst G out∧out.length<G.length∧∀ y,¬ Rdy G out y))∧Below w.heap.size w w'
structure RoSt (G:List (List Int)) (n:Nat) (w wr:World) (A:Option Addr) (c:Nat) (out:List Nat):Prop where
  own:Own wr (w.heap.size+1) (.slice A out.length c) (ints out)
  mks:∃ bs,BMem wr w.heap.size bs∧Mks bs out n
  lst:IsLst G out
  old:Below w.heap.size w wr
set_option maxHeartbeats 4000000 in
theorem rorder_t (a : Option Addr) (n c B : Nat) (G : List (List Int)) (w : World) (hg : GRow w B a n c G) (hB : B ≤ w.heap.size) (hn : n ≤ 1000000) :
    Calls Tryz.prog 65 #[.slice a n c] w (ROrd G w):=by
  have HN:Hid (G.length=n):=Lib.hid hg.1
  have HG:Hid (∀ W,Below w.heap.size w W→GRow W B a n c G):=Lib.hid fun W hb=>hg.below (hb.mono hB)
  clear hg
  go_enter Tryz.func65,Tryz.ntmps65
  go_wp2_with (at_make;refine makeB rfl _ rfl _ n rfl rfl (by omega) ?_)
  intro w2 hbm hb2
  have HS0:Hid (RoSt G n w w2 none 0 []):=Lib.hid ⟨Own.nil _ _,⟨_,hbm,Mks.start n⟩,IsLst.nil G,hb2⟩
  clear hbm hb2
  go_wp2_with fail
  go_loopw [5] (fun s wr=>∃(A:Option Addr) (cc:Nat) (out:List Nat),s=.slice A out.length cc∧Hid (RoSt G n w wr A cc out)) (fun s _=>n-vlen s)
  case atStart=>exact⟨none,0,[],rfl,HS0⟩
  case round =>
    obtain⟨A,cc,out,rfl,hst⟩:=hrel
    have HLE:Hid (out.length≤n):=Lib.hid (by rw [←HN.out];exact hst.out.lst.len)
    have hle:=HLE.out
    by_cases hlt:out.length<n
    · have HGW := Lib.hid (HG.out _ hst.out.old)
      obtain⟨bs,hbm,hmk⟩:=hst.out.mks
      have HBM:=Lib.hid hbm
      have HMK:=Lib.hid hmk
      clear hbm hmk
      have hltI:(out.length:Int)<(n:Int):=by omega
      go_wp2_with fail
      go_loop [6,7] (fun s t=>RoR2 G out n s t) (fun _ t=>n-(intOf t).toNat)
      case atStart=>exact⟨0,Nat.zero_le _,rfl,Or.inl ⟨rfl,fun y hy=>by omega⟩⟩
      case round =>
        obtain⟨i,hi,rfl,hs⟩:=hrel
        rcases hs with ⟨rfl,hno⟩ | ⟨x,rfl,hx,hr,hr2⟩
        · have HNO := Lib.hid hno
          clear hno
          by_cases hil:i<n
          · have hbc := HBM.out.cell i (by rw [HMK.out.len]; exact hil)
            obtain⟨bi,hbi⟩:∃ bi,bi=bs.getD i false:=⟨_,rfl⟩
            rw [←hbi] at hbc
            have HBI:=Lib.hid hbi
            clear hbi
            go_wp2_with fail
            clear hbc
            go_loop [8,9] (fun s t=>RoR3 G out n i s t) (fun _ t=>n-(intOf t).toNat)
            case atStart=>
              refine⟨0,Nat.zero_le _,rfl,!bi,rfl,fun hb=>⟨fun hm=>?_,fun k' hk'=>by omega⟩,fun hb hr=>?_⟩
              · have:=(HMK.out.get i hil).2 hm
                rw [←HBI.out] at this;rw [this] at hb;simp at hb
              · have hbt:bs.getD i false=true:=by rw [←HBI.out];simpa using hb
                exact hr.2.1 ((HMK.out.get i hil).1 hbt)
            case round =>
              obtain⟨k,hk,rfl,b,rfl,h1,h2⟩:=hrel
              have H1:=Lib.hid h1
              have H2:=Lib.hid h2
              clear h1 h2
              cases b with
              | false=>
                by_cases hkl:k<n
                · have hkI:(k:Int)<(n:Int):=by omega
                  go_wp2_with fail
                  go_round
                  case rel=>exact⟨i+1,by omega,by go_num,Or.inl ⟨rfl,fun y hy=>by
                    by_cases e:y=i
                    · subst e;exact H2.out rfl
                    · exact HNO.out y (by omega)⟩⟩
                  case measure=>simp [intOf];omega
                · obtain rfl:k=n:=by omega
                  go_wp2_with fail
                  go_round
                  case rel=>exact⟨i+1,by omega,by go_num,Or.inl ⟨rfl,fun y hy=>by
                    by_cases e:y=i
                    · subst e;exact H2.out rfl
                    · exact HNO.out y (by omega)⟩⟩
                  case measure=>simp [intOf];omega
              | true =>
                obtain⟨g1,g2⟩:=H1.out rfl
                have G1:=Lib.hid g1
                have G2:=Lib.hid g2
                clear g1 g2
                by_cases hkl:k<n
                · have hbc:=HBM.out.cell k (by rw [HMK.out.len];exact hkl)
                  cases hbk:bs.getD k false with
                  | true=>
                    rw [hbk] at hbc
                    have HIN:=Lib.hid ((HMK.out.get k hkl).1 hbk)
                    clear hbk
                    go_wp2_with fail
                    go_round
                    case rel=>exact⟨k+1,by omega,by go_num,true,rfl,fun _=>⟨G1.out,fun k' hk' he=>by
                      by_cases e:k'=k
                      · subst e;exact HIN.out
                      · exact G2.out k' (by omega) he⟩,fun h=>by cases h⟩
                    case measure=>simp [intOf];omega
                  | false=>
                    rw [hbk] at hbc
                    have HOUT:Hid (k ∉ out):=Lib.hid fun hm=>by have:=(HMK.out.get k hkl).2 hm;rw [hbk] at this;cases this
                    clear hbk
                    cases hnd:ndB G (i:Int) (k:Int) with
                    | true=>
                      have HND:=Lib.hid hnd
                      clear hnd
                      go_wp2_with (go_at_call 117;(with_reducible refine(needs_any a n c B G (i:Int) (k:Int) _ HGW.out).mono ?_);rintro e w' ⟨rfl,rfl⟩;rw [HND.out])
                      go_round
                      case rel=>exact⟨k+1,by omega,by go_num,false,rfl,(fun h=>by cases h),fun _ hr=>HOUT.out (hr.2.2 k (nd_E.1 HND.out))⟩
                      case measure=>simp [intOf];omega
                    | false=>
                      have HND:=Lib.hid hnd
                      clear hnd
                      go_wp2_with (go_at_call 117;(with_reducible refine(needs_any a n c B G (i:Int) (k:Int) _ HGW.out).mono ?_);rintro e w' ⟨rfl,rfl⟩;rw [HND.out])
                      go_round
                      case rel=>exact⟨k+1,by omega,by go_num,true,rfl,fun _=>⟨G1.out,fun k' hk' he=>by
                        by_cases e:k'=k
                        · subst e;have:=nd_E.2 he;rw [HND.out] at this;cases this
                        · exact G2.out k' (by omega) he⟩,fun h=>by cases h⟩
                      case measure=>simp [intOf];omega
                · obtain rfl:k=n:=by omega
                  go_wp2_with fail
                  go_round
                  case rel=>exact⟨i+1,by omega,by go_num,Or.inr ⟨i,rfl,hil,⟨by rw [HN.out];exact hil,G1.out,fun k' he=>G2.out k' (by have:=he.2.1;rw [HN.out] at this;exact this) he⟩,HNO.out⟩⟩
                  case measure=>simp [intOf];omega
          · obtain rfl:i=n:=by omega
            have HD:Hid (ROrd G w (.returned (.tuple #[.slice none 0 0,.bool false])) wr):=Lib.hid ⟨Or.inr ⟨rfl,out,hst.out.lst,by rw [HN.out];exact hlt,fun y hy=>HNO.out y (by have:=hy.1;rw [HN.out] at this;exact this) hy⟩,hst.out.old⟩
            go_wp2_with fail
            go_ret2
            exact HD.out
        · have HR:=Lib.hid (And.intro hr hr2)
          clear hr hr2
          have hxI:(x:Int)<(n:Int):=by omega
          have hx0:¬(x:Int)<0:=by omega
          have hbc:=HBM.out.cell x (by rw [HMK.out.len];exact hx)
          have hbf:=HBM.out.free x
          have HSZ:Hid (w.heap.size<wr.heap.size):=Lib.hid HBM.out.lt
          have HBS:=Lib.hid (HBM.out.set x true)
          have HOW:Hid (Own (wr.setCell ⟨w.heap.size,x,none⟩ (.bool true)) (w.heap.size+1) (.slice A out.length cc) (ints out)):=Lib.hid (hst.out.own.keep fun q hq=>Below.heap_setCell wr _ _ q (by have:=hst.out.own.lt hq;simp;omega))
          have HOL:Hid (Below w.heap.size w (wr.setCell ⟨w.heap.size,x,none⟩ (.bool true))):=Lib.hid (hst.out.old.setCell (Nat.le_refl _) _)
          have HLS:=Lib.hid (hst.out.lst.snoc HR.out.1 fun y hy=>Nat.le_of_not_lt fun hc=>HR.out.2 y hc hy)
          by_cases hil:i<n
          · have hilI:(i:Int)<(n:Int):=by omega
            go_wp2_with (at_builtin;refine appendH rfl _ _ 77 Tryz.underlying77 rfl (w.heap.size+1) (.slice A out.length cc) (ints out) (x:Int) _ wr.heap.size rfl rfl (by simp) HOW.out (by have:=HSZ.out;omega) (by rw [ints_len];omega) ?_;intro v1 w1 hown honly hat;obtain⟨A2,c2,hv2⟩:=hown.len;rw [List.length_append,ints_len,List.length_singleton] at hv2;subst hv2;have HO1:=Lib.hid hown;have HON:=Lib.hid honly;clear hown honly hat)
            go_roundw
            case rel=>
              refine⟨A2,c2,out++[x],by simp,Lib.hid ⟨?_,⟨_,HBS.out.only HON.out ?_,HMK.out.set hx⟩,HLS.out,HOL.out.trans ((HON.out.own HOW.out (by simp;have:=HSZ.out;omega)).mono (Nat.le_succ _))⟩⟩
              · have:=HO1.out
                rw [List.length_append,List.length_singleton,ints_append]
                exact this
              · intro hm
                have hm':(Value.slice A out.length cc).ownBlock=some w.heap.size:=by simpa [eq_comm] using hm
                have:=HOW.out.lt hm'
                omega
            case measure=>simp [vlen];omega
          · obtain rfl:i=n:=by omega
            go_wp2_with (at_builtin;refine appendH rfl _ _ 77 Tryz.underlying77 rfl (w.heap.size+1) (.slice A out.length cc) (ints out) (x:Int) _ wr.heap.size rfl rfl (by simp) HOW.out (by have:=HSZ.out;omega) (by rw [ints_len];omega) ?_;intro v1 w1 hown honly hat;obtain⟨A2,c2,hv2⟩:=hown.len;rw [List.length_append,ints_len,List.length_singleton] at hv2;subst hv2;have HO1:=Lib.hid hown;have HON:=Lib.hid honly;clear hown honly hat)
            go_roundw
            case rel=>
              refine⟨A2,c2,out++[x],by simp,Lib.hid ⟨?_,⟨_,HBS.out.only HON.out ?_,HMK.out.set hx⟩,HLS.out,HOL.out.trans ((HON.out.own HOW.out (by simp;have:=HSZ.out;omega)).mono (Nat.le_succ _))⟩⟩
              · have:=HO1.out
                rw [List.length_append,List.length_singleton,ints_append]
                exact this
              · intro hm
                have hm':(Value.slice A out.length cc).ownBlock=some w.heap.size:=by simpa [eq_comm] using hm
                have:=HOW.out.lt hm'
                omega
            case measure=>simp [vlen];omega
    · obtain hln:out.length=n:=by omega
      have HD:Hid (ROrd G w (.returned (.tuple #[.slice A n cc,.bool true])) wr):=Lib.hid (by
        refine⟨Or.inl ⟨A,cc,out,by rw [HN.out], ?_,hst.out.lst,by rw [HN.out];exact hln⟩,hst.out.old⟩
        have:=hst.out.own.more (Nat.le_succ _)
        rw [hln] at this
        rw [HN.out]
        exact this)
      have hltJ:¬(out.length:Int)<(n:Int):=by omega
      go_wp2_with fail
      go_ret2
      exact HD.out
end Go.Proofs.YtpnlbjnbgemocaaGreat
namespace Go.Proofs.YtpnlbjnbgemocaaGreat
set_option linter.unusedVariables false
set_option linter.unusedSimpArgs false
set_option maxRecDepth 100000
open Go.RowKit Gr
theorem nodup_subI:∀(l m:List Int),l.Nodup→(∀ x∈l,x∈m)→l.length≤m.length:=by
  intro l
  induction l with
  | nil=>intro m _ _;exact Nat.zero_le _
  | cons a l ih=>
    intro m hn hs
    have ha:a∈m:=hs a List.mem_cons_self
    have h2:=List.nodup_cons.1 hn
    have:=ih (m.erase a) h2.2 (fun x hx=>by
      have hne:x≠a:=fun e=>h2.1 (e▸hx)
      exact(List.mem_erase_of_ne hne).2 (hs x (List.mem_cons_of_mem _ hx)))
    rw [List.length_erase_of_mem ha] at this
    have hp:0<m.length:=List.length_pos_of_mem ha
    simp only [List.length_cons]
    omega
theorem nd_of_erase:∀(o:List Int),(∀ y∈o,y ∉ o.erase y)→o.Nodup
  | [],_=>List.nodup_nil
  | a::t,h=>by
    have ha:a ∉ t:=by have:=h a (by simp);simpa using this
    refine List.nodup_cons.2 ⟨ha,nd_of_erase t fun y hy q=>?_⟩
    have hya:a≠y:=fun e=>ha (e▸hy)
    have:=h y (by simp [hy])
    rw [List.erase_cons_tail (by simpa using hya)] at this
    exact this (by simp [q])
theorem mem_of_plc {o:List Int}{x:Int}(h:0≤plc o x):x∈o:=by
  unfold plc at h
  cases hf:o.findIdx? (fun y=>y==x) with
  | none=>rw [hf] at h;simp at h
  | some i=>
    obtain⟨hi,he,_⟩:=List.findIdx?_eq_some_iff_getElem.1 hf
    have:o[i]=x:=by simpa using he
    exact this▸List.getElem_mem hi
theorem once_of_plc {o:List Int}{n:Nat}(hl:o.length=n)(h:∀ v:Nat,v<n→0≤plc o (v:Int)):Once o n:=by
  have hin:∀ v:Nat,v<n→(v:Int)∈o:=fun v hv=>mem_of_plc (h v hv)
  have key:∀ y∈o,¬(y∈o.erase y∨¬(0≤y∧y<(n:Int))):=by
    intro y hy q
    have h1:=nodup_subI ((List.range n).map fun(i:Nat)=>(i:Int)) (o.erase y) (by
      rw [List.nodup_iff_pairwise_ne,List.pairwise_map]
      exact(List.nodup_iff_pairwise_ne.1 List.nodup_range).imp fun hne e=>hne (by omega)) (by
      intro x hx
      obtain⟨i,hi,rfl⟩:=List.mem_map.1 hx
      have hi':i<n:=List.mem_range.1 hi
      by_cases e:(i:Int)=y
      · rcases q with q | q
        · rw [e];exact q
        · exact(q (by omega)).elim
      · exact(List.mem_erase_of_ne e).2 (hin i hi'))
    rw [List.length_erase_of_mem hy] at h1
    simp at h1
    have:0<o.length:=List.length_pos_of_mem hy
    omega
  exact⟨hl,fun x hx=>Classical.byContradiction fun q=>key x hx (.inr q),nd_of_erase o fun y hy q=>key y hy (.inl q)⟩
def Ph1 (f:FlatM)(o sl:List Int)(S:Int)(n x:Nat):Prop:=∀ v:Nat,v<x→0≤plc o (v:Int)∧0≤sl.getD v 0∧sl.getD v 0<S∧∀ u:Nat,u<n→ndB (gOf f) (v:Int) (u:Int)=true→plc o (u:Int)<plc o (v:Int)
theorem Ph1.right {f:FlatM}{o sl:List Int}{S:Int}{n:Nat}(h:Ph1 f o sl S n n)(hg:goodB f=true)(hl:o.length=n)(hs:sl.length=n)(ha:ApartTo (laF f o) o sl n):RightP f n o sl S:=by
  refine⟨hg,once_of_plc hl fun v hv=>(h v hv).1,⟨hs,fun x hx=>?_⟩,fun v hv u hu=>(h v hv).2.2.2 u hu,ha⟩
  obtain⟨i,hi,rfl⟩:=List.mem_iff_getElem.1 hx
  have:=h i (by omega)
  rw [show sl.getD i 0=sl[i] from by simp [hi]] at this
  exact⟨this.2.1,this.2.2.1⟩
theorem Ph1.step {f:FlatM}{o sl:List Int}{S:Int}{n x:Nat}(h:Ph1 f o sl S n x)(h1:0≤plc o (x:Int))(h2:0≤sl.getD x 0)(h3:sl.getD x 0<S)(h4:∀ u:Nat,u<n→ndB (gOf f) (x:Int) (u:Int)=true→plc o (u:Int)<plc o (x:Int)):Ph1 f o sl S n (x+1):=by
  intro v hv
  by_cases e:v=x
  · subst e;exact⟨h1,h2,h3,h4⟩
  · exact h v (by omega)
set_option maxHeartbeats 4000000 in
theorem rfr_no1 (v:FlatV)(f:FlatM)(B:Nat)(A A2:Option Addr)(m c m2 c2:Nat)(S:Int)(o sl:List Int)(w:World)(h:FlatIs w B v f)(hB:B≤w.heap.size)(h1:IRow w B A m c o)(h2:IRow w B A2 m2 c2 sl)(hn:v.names.2.1≤1000000)(hg:goodB f=false) :
    Calls Tryz.prog 68 #[flatV v,planV A m c A2 m2 c2 S] w  fun e w'=>e=.returned (.bool false)∧Below w.heap.size w w':=by
  have hm1:=h1.len_le
  have hm2:=h2.len_le
  unfold maxLen at hm1 hm2
  obtain⟨W1,hW1⟩:∃ W1,W1=(w.alloc (.cells (fvs v) 83)).alloc (.cells #[.slice A m c,.slice A2 m2 c2,.int .i64 S] 86):=⟨_,rfl⟩
  have hb1:Below w.heap.size w W1:=by rw [hW1];exact((Below.refl _ _).alloc (Nat.le_refl _) _).alloc (by simp) _
  have hs1:W1.heap.size=w.heap.size+2:=by rw [hW1];simp
  have HP:=Lib.hid (show Blk W1 (w.heap.size+1) 86 #[.slice A m c,.slice A2 m2 c2,.int .i64 S] from by rw [hW1];have:=Blk.new (w.alloc (.cells (fvs v) 83)) 86 #[.slice A m c,.slice A2 m2 c2,.int .i64 S];rw [size_alloc] at this;exact this)
  have HK:=Lib.hid (show Blk W1 w.heap.size 83 (fvs v) from by rw [hW1];exact(Blk.new _ _ _).alloc _)
  have HB:=Lib.hid (Below.refl W1.heap.size W1)
  have HW1:=Lib.hid hb1
  have HS1:Hid (B≤W1.heap.size):=Lib.hid (by omega)
  have HS:Hid (W1.heap.size≤W1.heap.size):=Lib.hid (Nat.le_refl _)
  have HGC:=Lib.hid (by have:=refGood_t v f B W1 (h.below (hb1.mono hB)) HS1.out (by omega);rw [hg] at this;exact this:Calls Tryz.prog 64 #[flatV v] W1 fun e w'=>e=.returned (.bool false)∧Below W1.heap.size W1 w')
  unfold flatV sl3 at HGC
  clear h hB h1 h2 hg
  obtain⟨f0,f1,f2,f3,f4,f5,f6,f7⟩:=HK.out.flat
  have r0:=HP.out.cell 0 rfl
  have r1:=HP.out.cell 1 rfl
  have r2:=HP.out.cell 2 rfl
  unfold flatV sl3 planV
  unfold fvs at hW1
  go_enter Tryz.func68,Tryz.ntmps68
  go_upto_region 1 with fail
  rw [←hW1]
  clear hW1
  go_wp2_with (first | (go_at_call 64;(with_reducible refine HGC.out.mono ?_);rintro e w1 ⟨rfl,hb1⟩;replace HB:=Lib.hid (HB.out.trans (hb1.mono HB.out.size));replace HS:=Lib.hid (Nat.le_trans HS.out hb1.size);clear hb1;clear f0 f1 f2 f3 f4 f5 f6 f7 r0 r1 r2;obtain⟨f0,f1,f2,f3,f4,f5,f6,f7⟩:=(HK.out.later HB.out).flat;have r0:=(HP.out.later HB.out).cell 0 rfl;have r1:=(HP.out.later HB.out).cell 1 rfl;have r2:=(HP.out.later HB.out).cell 2 rfl))
  go_ret
  exact⟨rfl,HW1.out.trans (HB.out.mono HW1.out.size)⟩
set_option maxHeartbeats 4000000 in
theorem rfr_no2 (v:FlatV)(f:FlatM)(B:Nat)(A A2:Option Addr)(m c m2 c2:Nat)(S:Int)(o sl:List Int)(w:World)(h:FlatIs w B v f)(hB:B≤w.heap.size)(h1:IRow w B A m c o)(h2:IRow w B A2 m2 c2 sl)(hn:v.names.2.1≤1000000)(hg:goodB f=true)(ho:m≠v.names.2.1) :
    Calls Tryz.prog 68 #[flatV v,planV A m c A2 m2 c2 S] w  fun e w'=>e=.returned (.bool false)∧Below w.heap.size w w':=by
  have hm1:=h1.len_le
  have hm2:=h2.len_le
  unfold maxLen at hm1 hm2
  obtain⟨W1,hW1⟩:∃ W1,W1=(w.alloc (.cells (fvs v) 83)).alloc (.cells #[.slice A m c,.slice A2 m2 c2,.int .i64 S] 86):=⟨_,rfl⟩
  have hb1:Below w.heap.size w W1:=by rw [hW1];exact((Below.refl _ _).alloc (Nat.le_refl _) _).alloc (by simp) _
  have hs1:W1.heap.size=w.heap.size+2:=by rw [hW1];simp
  have HP:=Lib.hid (show Blk W1 (w.heap.size+1) 86 #[.slice A m c,.slice A2 m2 c2,.int .i64 S] from by rw [hW1];have:=Blk.new (w.alloc (.cells (fvs v) 83)) 86 #[.slice A m c,.slice A2 m2 c2,.int .i64 S];rw [size_alloc] at this;exact this)
  have HK:=Lib.hid (show Blk W1 w.heap.size 83 (fvs v) from by rw [hW1];exact(Blk.new _ _ _).alloc _)
  have HB:=Lib.hid (Below.refl W1.heap.size W1)
  have HW1:=Lib.hid hb1
  have HS1:Hid (B≤W1.heap.size):=Lib.hid (by omega)
  have HS:Hid (W1.heap.size≤W1.heap.size):=Lib.hid (Nat.le_refl _)
  have HGC:=Lib.hid (by have:=refGood_t v f B W1 (h.below (hb1.mono hB)) HS1.out (by omega);rw [hg] at this;exact this:Calls Tryz.prog 64 #[flatV v] W1 fun e w'=>e=.returned (.bool true)∧Below W1.heap.size W1 w')
  unfold flatV sl3 at HGC
  have hoI:¬(m:Int)=(v.names.2.1:Int):=by omega
  clear h hB h1 h2 hg ho
  obtain⟨f0,f1,f2,f3,f4,f5,f6,f7⟩:=HK.out.flat
  have r0:=HP.out.cell 0 rfl
  have r1:=HP.out.cell 1 rfl
  have r2:=HP.out.cell 2 rfl
  unfold flatV sl3 planV
  unfold fvs at hW1
  go_enter Tryz.func68,Tryz.ntmps68
  go_upto_region 1 with fail
  rw [←hW1]
  clear hW1
  go_wp2_with (first | (go_at_call 64;(with_reducible refine HGC.out.mono ?_);rintro e w1 ⟨rfl,hb1⟩;replace HB:=Lib.hid (HB.out.trans (hb1.mono HB.out.size));replace HS:=Lib.hid (Nat.le_trans HS.out hb1.size);clear hb1;clear f0 f1 f2 f3 f4 f5 f6 f7 r0 r1 r2;obtain⟨f0,f1,f2,f3,f4,f5,f6,f7⟩:=(HK.out.later HB.out).flat;have r0:=(HP.out.later HB.out).cell 0 rfl;have r1:=(HP.out.later HB.out).cell 1 rfl;have r2:=(HP.out.later HB.out).cell 2 rfl))
  go_ret
  exact⟨rfl,HW1.out.trans (HB.out.mono HW1.out.size)⟩
set_option maxHeartbeats 4000000 in
theorem rfr_no3 (v:FlatV)(f:FlatM)(B:Nat)(A A2:Option Addr)(m c m2 c2:Nat)(S:Int)(o sl:List Int)(w:World)(h:FlatIs w B v f)(hB:B≤w.heap.size)(h1:IRow w B A m c o)(h2:IRow w B A2 m2 c2 sl)(hn:v.names.2.1≤1000000)(hg:goodB f=true)(ho:m=v.names.2.1)(ho2:m2≠v.names.2.1) :
    Calls Tryz.prog 68 #[flatV v,planV A m c A2 m2 c2 S] w  fun e w'=>e=.returned (.bool false)∧Below w.heap.size w w':=by
  have hm1:=h1.len_le
  have hm2:=h2.len_le
  unfold maxLen at hm1 hm2
  obtain⟨W1,hW1⟩:∃ W1,W1=(w.alloc (.cells (fvs v) 83)).alloc (.cells #[.slice A m c,.slice A2 m2 c2,.int .i64 S] 86):=⟨_,rfl⟩
  have hb1:Below w.heap.size w W1:=by rw [hW1];exact((Below.refl _ _).alloc (Nat.le_refl _) _).alloc (by simp) _
  have hs1:W1.heap.size=w.heap.size+2:=by rw [hW1];simp
  have HP:=Lib.hid (show Blk W1 (w.heap.size+1) 86 #[.slice A m c,.slice A2 m2 c2,.int .i64 S] from by rw [hW1];have:=Blk.new (w.alloc (.cells (fvs v) 83)) 86 #[.slice A m c,.slice A2 m2 c2,.int .i64 S];rw [size_alloc] at this;exact this)
  have HK:=Lib.hid (show Blk W1 w.heap.size 83 (fvs v) from by rw [hW1];exact(Blk.new _ _ _).alloc _)
  have HB:=Lib.hid (Below.refl W1.heap.size W1)
  have HW1:=Lib.hid hb1
  have HS1:Hid (B≤W1.heap.size):=Lib.hid (by omega)
  have HS:Hid (W1.heap.size≤W1.heap.size):=Lib.hid (Nat.le_refl _)
  have HGC:=Lib.hid (by have:=refGood_t v f B W1 (h.below (hb1.mono hB)) HS1.out (by omega);rw [hg] at this;exact this:Calls Tryz.prog 64 #[flatV v] W1 fun e w'=>e=.returned (.bool true)∧Below W1.heap.size W1 w')
  unfold flatV sl3 at HGC
  subst ho
  have hoI:¬(m2:Int)=(v.names.2.1:Int):=by omega
  clear h hB h1 h2 hg ho2
  obtain⟨f0,f1,f2,f3,f4,f5,f6,f7⟩:=HK.out.flat
  have r0:=HP.out.cell 0 rfl
  have r1:=HP.out.cell 1 rfl
  have r2:=HP.out.cell 2 rfl
  unfold flatV sl3 planV
  unfold fvs at hW1
  go_enter Tryz.func68,Tryz.ntmps68
  go_upto_region 1 with fail
  rw [←hW1]
  clear hW1
  go_wp2_with (first | (go_at_call 64;(with_reducible refine HGC.out.mono ?_);rintro e w1 ⟨rfl,hb1⟩;replace HB:=Lib.hid (HB.out.trans (hb1.mono HB.out.size));replace HS:=Lib.hid (Nat.le_trans HS.out hb1.size);clear hb1;clear f0 f1 f2 f3 f4 f5 f6 f7 r0 r1 r2;obtain⟨f0,f1,f2,f3,f4,f5,f6,f7⟩:=(HK.out.later HB.out).flat;have r0:=(HP.out.later HB.out).cell 0 rfl;have r1:=(HP.out.later HB.out).cell 1 rfl;have r2:=(HP.out.later HB.out).cell 2 rfl))
  go_ret
  exact⟨rfl,HW1.out.trans (HB.out.mono HW1.out.size)⟩
end Go.Proofs.YtpnlbjnbgemocaaGreat
