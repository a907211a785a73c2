import Derived.Test.YtpnlbjnbgemocaaGreatZIFToEyBN4
import Derived.Deep.DeepCutAuto
import Derived.Deep.RegionHeld3
namespace Go.Proofs.YtpnlbjnbgemocaaGreat
set_option linter.unusedVariables false
set_option linter.unusedSimpArgs false
set_option maxRecDepth 100000
open Go.RowKit Nums
theorem norm_facts {N:Int}{D:Nat}{q:Rat}(hD:0<D)(hq:mkRat N D=q) :
    N.fdiv ((Nat.gcd N.natAbs D:Nat):Int)=q.num∧N.fmod ((Nat.gcd N.natAbs D:Nat):Int)=0∧D / Nat.gcd N.natAbs D=q.den∧D % Nat.gcd N.natAbs D=0∧0<Nat.gcd N.natAbs D∧q.num.natAbs≤N.natAbs∧q.den≤D:=by
  have hg:0<Nat.gcd N.natAbs D:=Nat.gcd_pos_of_pos_right _ hD
  have hdvd:((Nat.gcd N.natAbs D:Nat):Int) ∣ N:=Int.dvd_natAbs.1 (Int.natCast_dvd_natCast.2 (Nat.gcd_dvd_left _ _))
  have hn:q.num=N / ((Nat.gcd N.natAbs D:Nat):Int):=by
    rw [←hq,Rat.num_mkRat,if_neg (by omega),Nat.gcd_comm]
  have hd:q.den=D / Nat.gcd N.natAbs D:=by
    rw [←hq,Rat.den_mkRat,if_neg (by omega),Nat.gcd_comm]
  refine⟨?_, ?_,hd.symm,Nat.mod_eq_zero_of_dvd (Nat.gcd_dvd_right _ _),hg, ?_, ?_⟩
  · rw [hn,Int.fdiv_eq_ediv_of_nonneg _ (by omega)]
  · rw [Int.fmod_eq_emod_of_nonneg _ (by omega)];exact Int.emod_eq_zero_of_dvd hdvd
  · rw [hn];exact Int.natAbs_ediv_le_natAbs _ _
  · rw [hd];exact Nat.div_le_self _ _
theorem box_next (w:World)(o:Obj)(u v:Value):Box ((w.alloc o).alloc (.cells #[u,v] 44)) (w.heap.size+1) u v:=by
  have h:=box_new (w.alloc o) u v
  rw [show(w.alloc o).heap.size=w.heap.size+1 from by simp] at h
  exact h
theorem Row.putB {W:World}{a:Option Addr}{n c g m d:Nat}{xs:List Nat}{s:Bool}{b:Option Addr}(h:Row W a n c xs)(x:Box W g (.bool s) (.slice b m d))(p q:Value) :
    Row ((W.setCell ⟨g,0,none⟩ p).setCell ⟨g,1,none⟩ q) a n c xs:=h.put x.1 x.2.1 p q
theorem tri_cells {W:World}{g:Nat}{u v x:Value}(h:Tri W g u v x):W.cell? ⟨g,0,none⟩=some u∧W.cell? ⟨g,1,none⟩=some v∧W.cell? ⟨g,2,none⟩=some x:=⟨h.1,h.2.1,h.2.2.1⟩
set_option maxHeartbeats 8000000 in
theorem normR (K J:Nat)(q:Rat){s:Bool}{a b:Option Addr}{n c m d:Nat}{xs ys:List Nat}{w:World}(h0:Row w a n c xs)(h1:Row w b m d ys)(hq:mkRat (sv s (val xs)) (val ys)=q)(hn:n≤K)(hm:m≤J)(hK:K≤95)(hJ1:1≤J)(hJ:J≤95) :
    Calls Tryz.prog 85 #[.agg #[.bool s,.slice a n c,.slice b m d]] w (RatK K J q w):=by
  have HB:=Lib.hid (below_two w (.cells #[.bool s,.slice a n c,.slice b m d] 46) (.cells #[.bool false,.slice none 0 0,.slice none 0 0] 46))
  have X0:Hid (Tri ((w.alloc (.cells #[.bool s,.slice a n c,.slice b m d] 46)).alloc (.cells #[.bool false,.slice none 0 0,.slice none 0 0] 46)) (w.heap.size) (.bool s) (.slice a n c) (.slice b m d)):=((tri_new _ (.bool s) (.slice a n c) (.slice b m d)).alloc _)
  have X1:Hid (Tri ((w.alloc (.cells #[.bool s,.slice a n c,.slice b m d] 46)).alloc (.cells #[.bool false,.slice none 0 0,.slice none 0 0] 46)) (w.heap.size+1) (.bool false) (.slice none 0 0) (.slice none 0 0)):=(tri_newE (by simp))
  have R0:=Lib.hid (h0.later HB.out);clear h0
  have R1:=Lib.hid (h1.later HB.out);clear h1
  have HQ:=Lib.hid hq;clear hq
  go_enter Tryz.func85,Tryz.ntmps85
  go_wp2_with fail
  refine(saidR K J q R0.out R1.out HQ.out hn hm hJ1 (by omega)).mono ?_
  rintro e w1 ⟨s1,a1,n1,c1,b1,m1,d1,us,vs,rfl,hn1,hm1,hr0,hr1,hq1,hv,hb⟩
  replace X0:=Lib.hid (X0.out.later hb)
  replace X1:=Lib.hid (X1.out.later hb)
  replace HB:=Lib.hid (bthen HB.out hb)
  clear hb
  clear R0 R1 HQ
  obtain⟨kX00,kX01,kX02,-,-,-,-⟩:=X0.out
  obtain⟨kX10,kX11,kX12,-,-,-,-⟩:=X1.out
  have R0:=Lib.hid hr0;clear hr0
  have R1:=Lib.hid hr1;clear hr1
  clear hn hm
  obtain⟨V,hV⟩:∃ V,sv s1 (val us)=V:=⟨_,rfl⟩
  obtain⟨E,hE⟩:∃ E,val vs=E:=⟨_,rfl⟩
  rw [hV,hE] at hq1
  rw [hE] at hv
  obtain⟨f1,f2,f3,f4,f5,f6,f7⟩:=norm_facts hv hq1
  obtain⟨C,hC⟩:∃ C,Nat.gcd V.natAbs E=C:=⟨_,rfl⟩
  rw [hC] at f1 f2 f3 f4 f5
  have hUV:val us=V.natAbs:=by rw [←hV,natAbs_sv]
  have LV:=Lib.hid (lenZ_raw R0.out hn1 hV)
  have LE:=Lib.hid (show(limbs E).length≤J by have:=row_len' R1.out hm1;rw [hE] at this;exact this)
  have LC:=Lib.hid (show(limbs C).length≤J from Nat.le_trans (limbs_len_mono (by rw [←hC];exact Nat.gcd_le_right _ hv)) LE.out)
  have LQ:=Lib.hid (show(limbs q.num.natAbs).length≤K from Nat.le_trans (limbs_len_mono f6) LV.out)
  have LD:=Lib.hid (show(limbs q.den).length≤J from Nat.le_trans (limbs_len_mono f7) LE.out)
  have L0:=Lib.hid (show(limbs (0:Int).natAbs).length≤0 by show(limbs 0).length≤0;rw [limbs_zero];exact Nat.le_refl _)
  have L00:=Lib.hid (show(limbs (E % C)).length≤0 by rw [f4,limbs_zero];exact Nat.le_refl _)
  have LD':=Lib.hid (show(limbs (E / C)).length≤J by rw [f3];exact LD.out)
  have HC:=Lib.hid hC;clear hC
  have HV:=Lib.hid hV;clear hV
  have HE:=Lib.hid hE;clear hE
  have HU:=Lib.hid hUV;clear hUV
  have F1:=Lib.hid f1;clear f1
  have F2:=Lib.hid f2;clear f2
  have F3:=Lib.hid f3;clear f3
  have F5:=Lib.hid f5;clear f5
  have C0:=Lib.hid (show(C:Int)≠0 by have:=F5.out;omega)
  have SC:=Lib.hid (show sv false (val (limbs C))=(C:Int) by rw [val_limbs];rfl)
  clear hq1 hv f4 f6 f7
  clear kX00 kX01 kX02 kX10 kX11 kX12
  obtain⟨kX00,kX01,kX02,kX03,kX04,kX05,kX06⟩:=X0.out
  have X0':=Lib.hid X0.out
  replace R0:=Lib.hid (R0.out.put3 X0'.out (.bool s1) (.slice a1 n1 c1) (.slice b1 m1 d1))
  replace R1:=Lib.hid (R1.out.put3 X0'.out (.bool s1) (.slice a1 n1 c1) (.slice b1 m1 d1))
  replace X0:=Lib.hid (X0.out.put (.bool s1) (.slice a1 n1 c1) (.slice b1 m1 d1))
  replace X1:=Lib.hid (X1.out.far (g':=w.heap.size) (by omega) (.bool s1) (.slice a1 n1 c1) (.slice b1 m1 d1))
  replace HB:=Lib.hid (below_put3 (g:=w.heap.size) HB.out (by omega) (.bool s1) (.slice a1 n1 c1) (.slice b1 m1 d1))
  clear X0'
  go_wp2_with fail
  refine(gcdN J R0.out R1.out HU.out HE.out (by omega) (by omega) HC.out LC.out).mono ?_
  rintro e w2 ⟨ag,mg,rfl,hmg,hrg,hb⟩
  replace R0:=Lib.hid (R0.out.later hb)
  replace R1:=Lib.hid (R1.out.later hb)
  replace X0:=Lib.hid (X0.out.later hb)
  replace X1:=Lib.hid (X1.out.later hb)
  replace HB:=Lib.hid (bthen HB.out hb)
  clear hb
  clear kX00 kX01 kX02 kX03 kX04 kX05 kX06
  obtain⟨kX00,kX01,kX02,-,-,-,-⟩:=X0.out
  obtain⟨kX10,kX11,kX12,-,-,-,-⟩:=X1.out
  have RG:=Lib.hid hrg;clear hrg
  have lw:w.heap.size+1<w2.heap.size:=X1.out.2.2.2.2.2.2
  go_upto_region 3 with fail
  go_cut [4] (fun s4 wx=>∃(g:Nat) (aq:Option Addr) (mq cq:Nat),s4=.pointer (some ⟨g,0,none⟩)∧Hid (Box wx g (.bool (decide (q.num<0))) (.slice aq mq cq)∧mq≤K∧Row wx aq mq cq (limbs q.num.natAbs)∧Tri wx w.heap.size (.bool s1) (.slice a1 n1 c1) (.slice b1 m1 d1)∧Tri wx (w.heap.size+1) (.bool false) (.slice none 0 0) (.slice none 0 0)∧Row wx b1 m1 d1 vs∧Row wx ag mg mg (limbs C)∧Below w.heap.size w wx))
  case first =>
    go_region_held3 (fun w'=>w'.cell? ⟨w.heap.size,0,none⟩=some (.bool s1)∧w'.cell? ⟨w.heap.size,1,none⟩=some (.slice a1 n1 c1)∧w'.cell? ⟨w.heap.size,2,none⟩=some (.slice b1 m1 d1))
      (first | (refine⟨?_, ?_, ?_⟩ <;> with_reducible assumption) | ((refine tri_cells ?_ <;> repeat' (first | with_reducible exact X0.out | with_reducible refine Tri.far2 ?_ ?_ _ _ | with_reducible refine Tri.alloc ?_ _ | with_reducible refine Tri.drew ?_ | omega));done) | (go_keep;done))
      (first
          | (go_at_call 133
             refine(divI K 0 q.num 0 (R0.out.later (by first | exact Below.refl _ _ | exact(Below.refl _ _).drew | exact below_one _ _ | exact(below_one _ _).drew | exact below_two _ _ _ | exact(below_two _ _ _).drew)) (RG.out.later (by first | exact Below.refl _ _ | exact(Below.refl _ _).drew | exact below_one _ _ | exact(below_one _ _).drew | exact below_two _ _ _ | exact(below_two _ _ _).drew)) HV.out SC.out (by omega) (by omega) C0.out F1.out F2.out LQ.out L0.out (by omega)).mono ?_
             rintro e v2 ⟨aq,mq,cq,ar,mr,cr,rfl,bq,br,hq,hr,hb⟩
             have hbb:Below v1.heap.size v1 v2:=bthen (by first | exact Below.refl _ _ | exact(Below.refl _ _).drew | exact below_one _ _ | exact(below_one _ _).drew | exact below_two _ _ _ | exact(below_two _ _ _).drew) hb
             replace R0:=Lib.hid (R0.out.later hbb)
             replace R1:=Lib.hid (R1.out.later hbb)
             replace RG:=Lib.hid (RG.out.later hbb)
             replace X0:=Lib.hid (X0.out.later hbb)
             replace X1:=Lib.hid (X1.out.later hbb)
             replace HB:=Lib.hid (bthen HB.out hbb)
             (first | (replace Y0:=Lib.hid (Y0.out.later hbb);replace Y1:=Lib.hid (Y1.out.later hbb);clear kY00 kY01 kY02 kY03 kY04 kY10 kY11 kY12 kY13 kY14;obtain⟨kY00,kY01,kY02,kY03,kY04⟩:=Y0.out;obtain⟨kY10,kY11,kY12,kY13,kY14⟩:=Y1.out) | (replace Y0:=Lib.hid (Y0.out.later hbb);clear kY00 kY01 kY02 kY03 kY04;obtain⟨kY00,kY01,kY02,kY03,kY04⟩:=Y0.out) | skip)
             (first | (have U0:Hid (Box v2 v1.heap.size (.bool false) (.slice none 0 0)):=((box_new v1 (.bool false) (.slice none 0 0)).alloc (.cells #[.bool false,.slice none 0 0] 44)).later hb;have U1:Hid (Box v2 (v1.heap.size+1) (.bool false) (.slice none 0 0)):=(box_next v1 (.cells #[.bool false,.slice none 0 0] 44) (.bool false) (.slice none 0 0)).later hb;obtain⟨kU00,kU01,kU02,kU03,kU04⟩:=U0.out;obtain⟨kU10,kU11,kU12,kU13,kU14⟩:=U1.out) | (have U0:Hid (Box v2 v1.heap.size (.bool false) (.slice none 0 0)):=(box_new v1 (.bool false) (.slice none 0 0)).later hb;obtain⟨kU00,kU01,kU02,kU03,kU04⟩:=U0.out) | skip)
             have RQ:=Lib.hid hq;clear hq hr
             have l2:v1.heap.size≤v2.heap.size:=hbb.size
             clear hb hbb
             clear kX00 kX01 kX02
             obtain⟨kX00,kX01,kX02,-,-,-,-⟩:=X0.out)
          | (go_at_call 134
             refine(asInt_any _ _ _ _).mono ?_
             rintro e v1 ⟨rfl,hb⟩
             have hbb:Below w2.heap.size w2 v1:=bthen (by first | exact Below.refl _ _ | exact(Below.refl _ _).drew | exact below_one _ _ | exact(below_one _ _).drew | exact below_two _ _ _ | exact(below_two _ _ _).drew) hb
             replace R0:=Lib.hid (R0.out.later hbb)
             replace R1:=Lib.hid (R1.out.later hbb)
             replace RG:=Lib.hid (RG.out.later hbb)
             replace X0:=Lib.hid (X0.out.later hbb)
             replace X1:=Lib.hid (X1.out.later hbb)
             replace HB:=Lib.hid (bthen HB.out hbb)
             (first | (have Y0:Hid (Box v1 w2.heap.size (.bool false) (.slice none 0 0)):=((box_new w2 (.bool false) (.slice none 0 0)).alloc (.cells #[.bool false,.slice none 0 0] 44)).drew.later hb;have Y1:Hid (Box v1 (w2.heap.size+1) (.bool false) (.slice none 0 0)):=(box_next w2 (.cells #[.bool false,.slice none 0 0] 44) (.bool false) (.slice none 0 0)).drew.later hb;obtain⟨kY00,kY01,kY02,kY03,kY04⟩:=Y0.out;obtain⟨kY10,kY11,kY12,kY13,kY14⟩:=Y1.out) | (have Y0:Hid (Box v1 w2.heap.size (.bool false) (.slice none 0 0)):=(box_new w2 (.bool false) (.slice none 0 0)).drew.later hb;obtain⟨kY00,kY01,kY02,kY03,kY04⟩:=Y0.out) | skip)
             (try have ly0:w2.heap.size<v1.heap.size:=Y0.out.2.2.2.2)
             (try have ly1:w2.heap.size+1<v1.heap.size:=Y1.out.2.2.2.2)
             have l1:w2.heap.size≤v1.heap.size:=hbb.size
             clear hb hbb
             clear kX00 kX01 kX02
             obtain⟨kX00,kX01,kX02,-,-,-,-⟩:=X0.out))
    all_goals
      go_wp2_with fail
      go_meet
      refine⟨_,aq,mq,cq,rfl, ?_,bq, ?_, ?_, ?_, ?_, ?_, ?_⟩
      · repeat' (first | with_reducible exact Y0.out | with_reducible exact Y1.out | with_reducible exact U0.out | with_reducible exact U1.out | with_reducible refine box_newE ?_ | with_reducible refine Box.put (u:=.bool false) (v:=.slice none 0 0) ?_ _ _ | with_reducible refine Box.far ?_ ?_ _ _ | with_reducible refine Box.alloc ?_ _ | omega | (simp;done))
      · repeat' (first | with_reducible exact RQ.out | with_reducible refine Row.later ?_ (below_one _ _) | with_reducible refine Row.putB (s:=false) (b:=none) (m:=0) (d:=0) ?_ ?_ _ _ | with_reducible exact Y0.out | with_reducible exact Y1.out | with_reducible exact U0.out | with_reducible exact U1.out | with_reducible refine box_newE ?_ | with_reducible refine Box.put (u:=.bool false) (v:=.slice none 0 0) ?_ _ _ | with_reducible refine Box.far ?_ ?_ _ _ | with_reducible refine Box.alloc ?_ _ | omega | (simp;done))
      · repeat' (first | with_reducible exact X0.out | with_reducible refine Tri.far2 ?_ ?_ _ _ | with_reducible refine Tri.alloc ?_ _ | omega | (simp;done))
      · repeat' (first | with_reducible exact X1.out | with_reducible refine Tri.far2 ?_ ?_ _ _ | with_reducible refine Tri.alloc ?_ _ | omega | (simp;done))
      · repeat' (first | with_reducible exact R1.out | with_reducible refine Row.later ?_ (below_one _ _) | with_reducible refine Row.putB (s:=false) (b:=none) (m:=0) (d:=0) ?_ ?_ _ _ | with_reducible exact Y0.out | with_reducible exact Y1.out | with_reducible exact U0.out | with_reducible exact U1.out | with_reducible refine box_newE ?_ | with_reducible refine Box.put (u:=.bool false) (v:=.slice none 0 0) ?_ _ _ | with_reducible refine Box.far ?_ ?_ _ _ | with_reducible refine Box.alloc ?_ _ | omega | (simp;done))
      · repeat' (first | with_reducible exact RG.out | with_reducible refine Row.later ?_ (below_one _ _) | with_reducible refine Row.putB (s:=false) (b:=none) (m:=0) (d:=0) ?_ ?_ _ _ | with_reducible exact Y0.out | with_reducible exact Y1.out | with_reducible exact U0.out | with_reducible exact U1.out | with_reducible refine box_newE ?_ | with_reducible refine Box.put (u:=.bool false) (v:=.slice none 0 0) ?_ _ _ | with_reducible refine Box.far ?_ ?_ _ _ | with_reducible refine Box.alloc ?_ _ | omega | (simp;done))
      · repeat' (first | with_reducible exact HB.out | with_reducible refine Below.alloc ?_ ?_ _ | with_reducible refine below_put ?_ ?_ _ _ | omega | (simp;omega))
  case rest=>
    obtain⟨g,aq,mq,cq,rfl,hm⟩:=hcut
    clear R0 R1 RG X0 X1 HB kX00 kX01 kX02
    have Y0:=Lib.hid hm.out.1
    have hmq:=hm.out.2.1
    have R0:=Lib.hid hm.out.2.2.1
    have X0:=Lib.hid hm.out.2.2.2.1
    have X1:=Lib.hid hm.out.2.2.2.2.1
    have R1:=Lib.hid hm.out.2.2.2.2.2.1
    have RG:=Lib.hid hm.out.2.2.2.2.2.2.1
    have HB:=Lib.hid hm.out.2.2.2.2.2.2.2
    clear hm
    obtain⟨kY00,kY01,-,-,-⟩:=Y0.out
    obtain⟨kX00,kX01,kX02,-,-,-,-⟩:=X0.out
    go_wp2_with fail
    refine(divN J 0 R1.out RG.out HE.out (val_limbs _) (by omega) (by omega) F5.out LD'.out L00.out).mono ?_
    rintro e w11 ⟨qq,mqq,rr,mrr,rfl,hqq,hrr,hrq,hrd,hb⟩
    replace R0:=Lib.hid (R0.out.later hb)
    replace R1:=Lib.hid (R1.out.later hb)
    replace RG:=Lib.hid (RG.out.later hb)
    replace Y0:=Lib.hid (Y0.out.later hb)
    replace X0:=Lib.hid (X0.out.later hb)
    replace X1:=Lib.hid (X1.out.later hb)
    replace HB:=Lib.hid (bthen HB.out hb)
    clear hb
    clear kY00 kY01 kX00 kX01 kX02
    clear hrd hrr
    rw [F3.out] at hrq
    obtain⟨kY00,kY01,-,-,-⟩:=Y0.out
    have RD:=Lib.hid hrq;clear hrq
    clear R1
    clear RG
    go_wp2_with fail
    refine(over_any _ _ _ _ _ _ _ _).mono ?_
    rintro e w12 ⟨rfl,hb⟩
    replace R0:=Lib.hid (R0.out.later hb)
    replace RD:=Lib.hid (RD.out.later hb)
    replace Y0:=Lib.hid (Y0.out.later hb)
    replace X0:=Lib.hid (X0.out.later hb)
    replace X1:=Lib.hid (X1.out.later hb)
    replace HB:=Lib.hid (bthen HB.out hb)
    clear hb
    clear kY00 kY01
    obtain⟨kX10,kX11,kX12,kX13,kX14,kX15,kX16⟩:=X1.out
    go_wp2
    exact bodyPost_ret (v:=.agg #[.bool (decide (q.num<0)),.slice aq mq cq,.slice qq mqq mqq]) (by simp [results,Tryz.results85,go_sem, *]) rfl
      ⟨aq,mq,cq,qq,mqq,mqq,rfl,hmq,hqq,R0.out.put3 X1.out _ _ _,RD.out.put3 X1.out _ _ _,below_put3 HB.out (by omega) _ _ _⟩
end Go.Proofs.YtpnlbjnbgemocaaGreat
