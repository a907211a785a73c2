import Derived.Test.YtpnlbjnbgemocaaGreatZIA
import Derived.Test.YtpnlbjnbgemocaaGreatZND
namespace Go.Proofs.YtpnlbjnbgemocaaGreat
set_option linter.unusedVariables false
set_option linter.unusedSimpArgs false
set_option maxRecDepth 100000
open Go.RowKit Nums
def DivK (k l:Nat)(Q R:Int)(w:World)(e:Ending)(w':World):Prop:=
  ∃ a m c b n d,e=.returned (.tuple #[.agg #[.bool (decide (Q<0)),.slice a m c],.agg #[.bool (decide (R<0)),.slice b n d],.int .i64 0])∧m≤k∧n≤l∧Row w' a m c (limbs Q.natAbs)∧Row w' b n d (limbs R.natAbs)∧Below w.heap.size w w'
theorem box_four (w:World)(u v x y p q i j:Value):Box ((((w.alloc (.cells #[u,v] 44)).alloc (.cells #[x,y] 44)).alloc (.cells #[p,q] 44)).alloc (.cells #[i,j] 44)) w.heap.size u v∧Box ((((w.alloc (.cells #[u,v] 44)).alloc (.cells #[x,y] 44)).alloc (.cells #[p,q] 44)).alloc (.cells #[i,j] 44)) (w.heap.size+1) x y∧Box ((((w.alloc (.cells #[u,v] 44)).alloc (.cells #[x,y] 44)).alloc (.cells #[p,q] 44)).alloc (.cells #[i,j] 44)) (w.heap.size+2) p q∧Box ((((w.alloc (.cells #[u,v] 44)).alloc (.cells #[x,y] 44)).alloc (.cells #[p,q] 44)).alloc (.cells #[i,j] 44)) (w.heap.size+3) i j:=by
  obtain⟨h0,h1,h2⟩:=box_three w u v x y p q
  refine⟨h0.alloc _,h1.alloc _,h2.alloc _, ?_⟩
  have h:=box_new (((w.alloc (.cells #[u,v] 44)).alloc (.cells #[x,y] 44)).alloc (.cells #[p,q] 44)) i j
  rw [show(((w.alloc (.cells #[u,v] 44)).alloc (.cells #[x,y] 44)).alloc (.cells #[p,q] 44)).heap.size=w.heap.size+3 from by simp] at h
  exact h
theorem divK_end {k l:Nat}{Q R:Int}{w w3:World}{aq ar:Option Addr}{nq cq nr cr:Nat}{u v:Bool}{ua va:Option Addr}{un uc vn vc:Nat}(hk:nq≤k)(hl:nr≤l)(hq:Row w3 aq nq cq (limbs Q.natAbs))(hr:Row w3 ar nr cr (limbs R.natAbs))
    (x2:Box w3 (w.heap.size+2) (.bool u) (.slice ua un uc)) (x3:Box w3 (w.heap.size+3) (.bool v) (.slice va vn vc)) (hb:Below w.heap.size w w3) :
    DivK k l Q R w (.returned (.tuple #[.agg #[.bool (decide (Q<0)),.slice aq nq cq],.agg #[.bool (decide (R<0)),.slice ar nr cr],.int .i64 0]))
      ((((w3.setCell ⟨w.heap.size+2,0,none⟩ (.bool (decide (Q<0)))).setCell ⟨w.heap.size+2,1,none⟩ (.slice aq nq cq)).setCell ⟨w.heap.size+3,0,none⟩ (.bool (decide (R<0)))).setCell ⟨w.heap.size+3,1,none⟩ (.slice ar nr cr)):=by
  have x3':=x3.far (g':=w.heap.size+2) (by omega) (.bool (decide (Q<0))) (.slice aq nq cq)
  exact⟨aq,nq,cq,ar,nr,cr,rfl,hk,hl,(hq.put x2.1 x2.2.1 _ _).put x3'.1 x3'.2.1 _ _,(hr.put x2.1 x2.2.1 _ _).put x3'.1 x3'.2.1 _ _,below_put (below_put hb (by omega) _ _) (by omega) _ _⟩
theorem Row.drew {w:World}{a:Option Addr}{n c:Nat}{xs:List Nat}(h:Row w a n c xs):Row w.drew a n c xs:=h.later (Below.refl _ _).drew
theorem row_one_here (w:World):Row (w.alloc (.cells #[.int .u32 1] 120)) (some ⟨w.heap.size,0,none⟩) 1 1 [1]:=
  (mem_alloc w [1] _ rfl).row0 (by intro y hy;simp at hy;omega) 1 (by simp) (by unfold maxLen;omega)
set_option maxRecDepth 100000 in
set_option maxHeartbeats 2000000 in
theorem divI_same (k l:Nat)(Q R:Int)(s:Bool)(a b:Option Addr)(n c m d:Nat)(xs ys:List Nat)(w:World)(h0:Row w a n c xs)(h1:Row w b m d ys)(hn:n≤100)(hm:m≤100)(hy:0<val ys)(hQ:sv false (val xs / val ys)=Q)(hR:sv s (val xs % val ys)=R)(hk:(limbs Q.natAbs).length≤k)(hl:(limbs R.natAbs).length≤l) :
    Calls Tryz.prog 133 #[.agg #[.bool s,.slice a n c],.agg #[.bool s,.slice b m d]] w (DivK k l Q R w):=by
  have HX:=Lib.hid (box_four w (.bool s) (.slice a n c) (.bool s) (.slice b m d) (.bool false) (.slice none 0 0) (.bool false) (.slice none 0 0))
  have HW:=Lib.hid (below_four w (.cells #[.bool s,.slice a n c] 44) (.cells #[.bool s,.slice b m d] 44) (.cells #[.bool false,.slice none 0 0] 44) (.cells #[.bool false,.slice none 0 0] 44))
  have H0:=Lib.hid (h0.later HW.out);clear h0
  have H1:=Lib.hid (h1.later HW.out)
  have HYL:=Lib.hid (row_len' h1 hm);clear h1
  have HK:Hid ((limbs (val xs / val ys)).length≤k):=by subst hQ;rw [natAbs_sv] at hk;exact hk
  have HL:Hid ((limbs (val xs % val ys)).length≤l):=by subst hR;rw [natAbs_sv] at hl;exact hl
  clear hk hl
  have HQ:=Lib.hid hQ;clear hQ
  have HR:=Lib.hid hR;clear hR
  have HY:=Lib.hid hy;clear hy
  cases s
  · go_enter Tryz.func133,Tryz.ntmps133
    go_wp2_with fail
    refine(divN k l H0.out H1.out rfl rfl hn hm HY.out HK.out HL.out).mono ?_
    rintro e w1 ⟨q,mq,r,mr,rfl,hmq,hmr,hrq,hrr,hb⟩
    have RQ:=Lib.hid hrq;clear hrq
    have RR:=Lib.hid hrr;clear hrr
    obtain⟨c0,c1,f0,f1,l0⟩:=HX.out.1.later hb
    obtain⟨c2,c3,f2,f3,l1⟩:=HX.out.2.1.later hb
    have X2:=Lib.hid (HX.out.2.2.1.later hb)
    have X3:=Lib.hid (HX.out.2.2.2.later hb)
    have HB:=Lib.hid (bthen HW.out hb);clear hb
    go_wp2_with fail
    go_region_held3 (fun w'=>w'.cell? ⟨w.heap.size+1,0,none⟩=some (.bool false)) (first | (go_keep;done)) (fail)
    all_goals
      go_wp2_with fail
      refine(put_told k false _ _ _ (val xs / val ys) Q _ RQ.out.drew HQ.out HK.out).mono ?_
      rintro e w2 ⟨aq,nq,cq,rfl,hnq,hrow,hb⟩
      have RQ2:=Lib.hid hrow;clear hrow
      have RR2:=Lib.hid (RR.out.drew.later hb)
      have X2':=Lib.hid (X2.out.drew.later hb)
      have X3':=Lib.hid (X3.out.drew.later hb)
      have HB2:=Lib.hid (bthen HB.out.drew hb);clear hb
      go_wp2_with fail
      refine(put_told l false _ _ _ (val xs % val ys) R _ RR2.out HR.out HL.out).mono ?_
      rintro e w3 ⟨ar,nr,cr,rfl,hnr,hrow,hb⟩
      have RR3:=Lib.hid hrow;clear hrow
      have RQ3:=Lib.hid (RQ2.out.later hb)
      have X2'':=Lib.hid (X2'.out.later hb)
      have X3'':=Lib.hid (X3'.out.later hb)
      have HB3:=Lib.hid (bthen HB2.out hb);clear hb
      obtain⟨d4,d5,g4,g5,k2⟩:=X2''.out
      obtain⟨d6,d7,g6,g7,k3⟩:=X3''.out
      go_wp2
      exact bodyPost_ret (v:=.tuple #[.agg #[.bool (decide (Q<0)),.slice aq nq cq],.agg #[.bool (decide (R<0)),.slice ar nr cr],.int .i64 0]) (by simp [results,Tryz.results133,go_sem, *]) rfl
        (divK_end hnq hnr RQ3.out RR3.out X2''.out X3''.out HB3.out)
  · go_enter Tryz.func133,Tryz.ntmps133
    go_wp2_with fail
    refine(divN k l H0.out H1.out rfl rfl hn hm HY.out HK.out HL.out).mono ?_
    rintro e w1 ⟨q,mq,r,mr,rfl,hmq,hmr,hrq,hrr,hb⟩
    have RQ:=Lib.hid hrq;clear hrq
    have RR:=Lib.hid hrr;clear hrr
    obtain⟨c0,c1,f0,f1,l0⟩:=HX.out.1.later hb
    obtain⟨c2,c3,f2,f3,l1⟩:=HX.out.2.1.later hb
    have X2:=Lib.hid (HX.out.2.2.1.later hb)
    have X3:=Lib.hid (HX.out.2.2.2.later hb)
    have HB:=Lib.hid (bthen HW.out hb);clear hb
    go_wp2_with fail
    go_region_held3 (fun w'=>w'.cell? ⟨w.heap.size+1,0,none⟩=some (.bool true)) (first | (go_keep;done)) (fail)
    all_goals
      go_wp2_with fail
      refine(put_told k false _ _ _ (val xs / val ys) Q _ RQ.out.drew HQ.out HK.out).mono ?_
      rintro e w2 ⟨aq,nq,cq,rfl,hnq,hrow,hb⟩
      have RQ2:=Lib.hid hrow;clear hrow
      have RR2:=Lib.hid (RR.out.drew.later hb)
      have X2':=Lib.hid (X2.out.drew.later hb)
      have X3':=Lib.hid (X3.out.drew.later hb)
      have HB2:=Lib.hid (bthen HB.out.drew hb);clear hb
      go_wp2_with fail
      refine(put_told l true _ _ _ (val xs % val ys) R _ RR2.out HR.out HL.out).mono ?_
      rintro e w3 ⟨ar,nr,cr,rfl,hnr,hrow,hb⟩
      have RR3:=Lib.hid hrow;clear hrow
      have RQ3:=Lib.hid (RQ2.out.later hb)
      have X2'':=Lib.hid (X2'.out.later hb)
      have X3'':=Lib.hid (X3'.out.later hb)
      have HB3:=Lib.hid (bthen HB2.out hb);clear hb
      obtain⟨d4,d5,g4,g5,k2⟩:=X2''.out
      obtain⟨d6,d7,g6,g7,k3⟩:=X3''.out
      go_wp2
      exact bodyPost_ret (v:=.tuple #[.agg #[.bool (decide (Q<0)),.slice aq nq cq],.agg #[.bool (decide (R<0)),.slice ar nr cr],.int .i64 0]) (by simp [results,Tryz.results133,go_sem, *]) rfl
        (divK_end hnq hnr RQ3.out RR3.out X2''.out X3''.out HB3.out)
set_option maxRecDepth 100000 in
set_option maxHeartbeats 2000000 in
theorem divI_even (k l:Nat)(Q R:Int)(s:Bool)(a b:Option Addr)(n c m d:Nat)(xs ys:List Nat)(w:World)(h0:Row w a n c xs)(h1:Row w b m d ys)(hn:n≤100)(hm:m≤100)(hy:0<val ys)(h0r:val xs % val ys=0)(hQ:sv true (val xs / val ys)=Q)(hR:sv (!s) (val xs % val ys)=R)(hk:(limbs Q.natAbs).length≤k)(hl:(limbs R.natAbs).length≤l) :
    Calls Tryz.prog 133 #[.agg #[.bool s,.slice a n c],.agg #[.bool (!s),.slice b m d]] w (DivK k l Q R w):=by
  have HX:=Lib.hid (box_four w (.bool s) (.slice a n c) (.bool (!s)) (.slice b m d) (.bool false) (.slice none 0 0) (.bool false) (.slice none 0 0))
  have HW:=Lib.hid (below_four w (.cells #[.bool s,.slice a n c] 44) (.cells #[.bool (!s),.slice b m d] 44) (.cells #[.bool false,.slice none 0 0] 44) (.cells #[.bool false,.slice none 0 0] 44))
  have H0:=Lib.hid (h0.later HW.out);clear h0
  have H1:=Lib.hid (h1.later HW.out)
  have HYL:=Lib.hid (row_len' h1 hm);clear h1
  have HK:Hid ((limbs (val xs / val ys)).length≤k):=by subst hQ;rw [natAbs_sv] at hk;exact hk
  have HL:Hid ((limbs (val xs % val ys)).length≤l):=by subst hR;rw [natAbs_sv] at hl;exact hl
  clear hk hl
  have HQ:=Lib.hid hQ;clear hQ
  have HR:=Lib.hid hR;clear hR
  have HY:=Lib.hid hy;clear hy
  have H0R:=Lib.hid h0r;clear h0r
  cases s
  · go_enter Tryz.func133,Tryz.ntmps133
    go_wp2_with fail
    refine(divN k l H0.out H1.out rfl rfl hn hm HY.out HK.out HL.out).mono ?_
    rintro e w1 ⟨q,mq,r,mr,rfl,hmq,hmr,hrq,hrr,hb⟩
    obtain rfl:mr=0:=by rw [←hrr.1,H0R.out,limbs_zero];rfl
    have RQ:=Lib.hid hrq;clear hrq
    have RR:=Lib.hid hrr;clear hrr
    obtain⟨c0,c1,f0,f1,l0⟩:=HX.out.1.later hb
    obtain⟨c2,c3,f2,f3,l1⟩:=HX.out.2.1.later hb
    have X2:=Lib.hid (HX.out.2.2.1.later hb)
    have X3:=Lib.hid (HX.out.2.2.2.later hb)
    have HB:=Lib.hid (bthen HW.out hb);clear hb
    go_wp2_with fail
    go_region_held3 (fun w'=>w'.cell? ⟨w.heap.size+1,0,none⟩=some (.bool true)) (first | (go_keep;done)) (fail)
    all_goals
      go_wp2_with fail
      refine(put_told k true _ _ _ (val xs / val ys) Q _ RQ.out.drew HQ.out HK.out).mono ?_
      rintro e w2 ⟨aq,nq,cq,rfl,hnq,hrow,hb⟩
      have RQ2:=Lib.hid hrow;clear hrow
      have RR2:=Lib.hid (RR.out.drew.later hb)
      have X2':=Lib.hid (X2.out.drew.later hb)
      have X3':=Lib.hid (X3.out.drew.later hb)
      have HB2:=Lib.hid (bthen HB.out.drew hb);clear hb
      go_wp2_with fail
      refine(put_told l true _ _ _ (val xs % val ys) R _ RR2.out HR.out HL.out).mono ?_
      rintro e w3 ⟨ar,nr,cr,rfl,hnr,hrow,hb⟩
      have RR3:=Lib.hid hrow;clear hrow
      have RQ3:=Lib.hid (RQ2.out.later hb)
      have X2'':=Lib.hid (X2'.out.later hb)
      have X3'':=Lib.hid (X3'.out.later hb)
      have HB3:=Lib.hid (bthen HB2.out hb);clear hb
      obtain⟨d4,d5,g4,g5,k2⟩:=X2''.out
      obtain⟨d6,d7,g6,g7,k3⟩:=X3''.out
      go_wp2
      exact bodyPost_ret (v:=.tuple #[.agg #[.bool (decide (Q<0)),.slice aq nq cq],.agg #[.bool (decide (R<0)),.slice ar nr cr],.int .i64 0]) (by simp [results,Tryz.results133,go_sem, *]) rfl
        (divK_end hnq hnr RQ3.out RR3.out X2''.out X3''.out HB3.out)
  · go_enter Tryz.func133,Tryz.ntmps133
    go_wp2_with fail
    refine(divN k l H0.out H1.out rfl rfl hn hm HY.out HK.out HL.out).mono ?_
    rintro e w1 ⟨q,mq,r,mr,rfl,hmq,hmr,hrq,hrr,hb⟩
    obtain rfl:mr=0:=by rw [←hrr.1,H0R.out,limbs_zero];rfl
    have RQ:=Lib.hid hrq;clear hrq
    have RR:=Lib.hid hrr;clear hrr
    obtain⟨c0,c1,f0,f1,l0⟩:=HX.out.1.later hb
    obtain⟨c2,c3,f2,f3,l1⟩:=HX.out.2.1.later hb
    have X2:=Lib.hid (HX.out.2.2.1.later hb)
    have X3:=Lib.hid (HX.out.2.2.2.later hb)
    have HB:=Lib.hid (bthen HW.out hb);clear hb
    go_wp2_with fail
    go_region_held3 (fun w'=>w'.cell? ⟨w.heap.size+1,0,none⟩=some (.bool false)) (first | (go_keep;done)) (fail)
    all_goals
      go_wp2_with fail
      refine(put_told k true _ _ _ (val xs / val ys) Q _ RQ.out.drew HQ.out HK.out).mono ?_
      rintro e w2 ⟨aq,nq,cq,rfl,hnq,hrow,hb⟩
      have RQ2:=Lib.hid hrow;clear hrow
      have RR2:=Lib.hid (RR.out.drew.later hb)
      have X2':=Lib.hid (X2.out.drew.later hb)
      have X3':=Lib.hid (X3.out.drew.later hb)
      have HB2:=Lib.hid (bthen HB.out.drew hb);clear hb
      go_wp2_with fail
      refine(put_told l false _ _ _ (val xs % val ys) R _ RR2.out HR.out HL.out).mono ?_
      rintro e w3 ⟨ar,nr,cr,rfl,hnr,hrow,hb⟩
      have RR3:=Lib.hid hrow;clear hrow
      have RQ3:=Lib.hid (RQ2.out.later hb)
      have X2'':=Lib.hid (X2'.out.later hb)
      have X3'':=Lib.hid (X3'.out.later hb)
      have HB3:=Lib.hid (bthen HB2.out hb);clear hb
      obtain⟨d4,d5,g4,g5,k2⟩:=X2''.out
      obtain⟨d6,d7,g6,g7,k3⟩:=X3''.out
      go_wp2
      exact bodyPost_ret (v:=.tuple #[.agg #[.bool (decide (Q<0)),.slice aq nq cq],.agg #[.bool (decide (R<0)),.slice ar nr cr],.int .i64 0]) (by simp [results,Tryz.results133,go_sem, *]) rfl
        (divK_end hnq hnr RQ3.out RR3.out X2''.out X3''.out HB3.out)
set_option maxRecDepth 100000 in
set_option maxHeartbeats 2000000 in
theorem divI_odd (k l:Nat)(Q R:Int)(s:Bool)(a b:Option Addr)(n c m d:Nat)(xs ys:List Nat)(w:World)(h0:Row w a n c xs)(h1:Row w b m d ys)(hn:n≤100)(hm:m≤100)(hy:0<val ys)(hkb:k≤100)(h0r:0<val xs % val ys)(hQ:sv true (val xs / val ys+1)=Q)(hR:sv (!s) (val ys-val xs % val ys)=R)(hk:(limbs Q.natAbs).length≤k)(hl:(limbs R.natAbs).length≤l) :
    Calls Tryz.prog 133 #[.agg #[.bool s,.slice a n c],.agg #[.bool (!s),.slice b m d]] w (DivK k l Q R w):=by
  have HX:=Lib.hid (box_four w (.bool s) (.slice a n c) (.bool (!s)) (.slice b m d) (.bool false) (.slice none 0 0) (.bool false) (.slice none 0 0))
  have HW:=Lib.hid (below_four w (.cells #[.bool s,.slice a n c] 44) (.cells #[.bool (!s),.slice b m d] 44) (.cells #[.bool false,.slice none 0 0] 44) (.cells #[.bool false,.slice none 0 0] 44))
  have H0:=Lib.hid (h0.later HW.out);clear h0
  have H1:=Lib.hid (h1.later HW.out)
  have HYL:=Lib.hid (row_len' h1 hm);clear h1
  have HK:Hid ((limbs (val xs / val ys+1)).length≤k):=by subst hQ;rw [natAbs_sv] at hk;exact hk
  have HL:Hid ((limbs (val ys-val xs % val ys)).length≤l):=by subst hR;rw [natAbs_sv] at hl;exact hl
  clear hk hl
  have HQ:=Lib.hid hQ;clear hQ
  have HR:=Lib.hid hR;clear hR
  have HY:=Lib.hid hy;clear hy
  have HRY:=Lib.hid (Nat.le_of_lt (Nat.mod_lt (val xs) HY.out))
  have HK0:=Lib.hid (len_le (Nat.le_succ _) HK.out)
  have HL0:=Lib.hid (len_le HRY.out HYL.out)
  have H0R:=Lib.hid h0r;clear h0r
  cases s
  · go_enter Tryz.func133,Tryz.ntmps133
    go_wp2_with fail
    refine(divN k 100 H0.out H1.out rfl rfl hn hm HY.out HK0.out HL0.out).mono ?_
    rintro e w1 ⟨q,mq,r,mr,rfl,hmq,hmr,hrq,hrr,hb⟩
    have hmr0:0<mr:=by
      rcases Nat.eq_zero_or_pos mr with e | e
      · have h:=hrr.1;rw [e] at h;have:=length_limbs_zero.1 h;have:=H0R.out;omega
      · exact e
    have RQ:=Lib.hid hrq;clear hrq
    have RR:=Lib.hid hrr;clear hrr
    obtain⟨c0,c1,f0,f1,l0⟩:=HX.out.1.later hb
    obtain⟨c2,c3,f2,f3,l1⟩:=HX.out.2.1.later hb
    have X2:=Lib.hid (HX.out.2.2.1.later hb)
    have X3:=Lib.hid (HX.out.2.2.2.later hb)
    have H1b:=Lib.hid (H1.out.later hb).drew
    have HB:=Lib.hid (bthen HW.out hb);clear hb
    go_wp2_with fail
    go_region_held3 (fun w'=>w'.cell? ⟨w.heap.size+1,0,none⟩=some (.bool true)) (first | (go_keep;done)) (fail)
    all_goals
      go_wp2_with fail
      refine(addN k (val xs / val ys+1) (ys:=[1]) (RQ.out.drew.later (below_one _ _)) (by exact row_one_here _) (val_limbs _) rfl (by omega) (by omega) rfl HK.out).mono ?_
      rintro e w2 ⟨q2,mq2,rfl,hmq2,hrq2,hb⟩
      have RQ1:=Lib.hid hrq2;clear hrq2
      have B1:=Lib.hid (bthen (below_one _ _) hb)
      obtain⟨d0,d1,g0,g1,j0⟩:=Box.later (Box.drew ⟨c0,c1,f0,f1,l0⟩) B1.out
      obtain⟨d2,d3,g2,g3,j1⟩:=Box.later (Box.drew ⟨c2,c3,f2,f3,l1⟩) B1.out
      have X2a:=Lib.hid (X2.out.drew.later B1.out)
      have X3a:=Lib.hid (X3.out.drew.later B1.out)
      have RRa:=Lib.hid (RR.out.drew.later B1.out)
      have H1a:=Lib.hid (H1b.out.later B1.out)
      have HBa:=Lib.hid (bthen HB.out.drew B1.out);clear hb
      clear c0 c1 c2 c3 f0 f1 f2 f3
      go_wp2_with fail
      refine(subN l (val ys-val xs % val ys) H1a.out RRa.out rfl (val_limbs _) (by omega) (by omega) HRY.out rfl HL.out).mono ?_
      rintro e w3 ⟨r2,mr2,rfl,hmr2,hrr2,hb⟩
      have RR1:=Lib.hid hrr2;clear hrr2
      have RQ2':=Lib.hid (RQ1.out.later hb)
      have X2b:=Lib.hid (X2a.out.later hb)
      have X3b:=Lib.hid (X3a.out.later hb)
      have HBb:=Lib.hid (bthen HBa.out hb);clear hb
      clear d0 d1 d2 d3 g0 g1 g2 g3
      go_wp2_with fail
      refine(put_told k true _ _ _ (val xs / val ys+1) Q _ RQ2'.out HQ.out HK.out).mono ?_
      rintro e w4 ⟨aq,nq,cq,rfl,hnq,hrow,hb⟩
      have RQ2:=Lib.hid hrow;clear hrow
      have RR2:=Lib.hid (RR1.out.later hb)
      have X2':=Lib.hid (X2b.out.later hb)
      have X3':=Lib.hid (X3b.out.later hb)
      have HB2:=Lib.hid (bthen HBb.out hb);clear hb
      go_wp2_with fail
      refine(put_told l true _ _ _ (val ys-val xs % val ys) R _ RR2.out HR.out HL.out).mono ?_
      rintro e w5 ⟨ar,nr,cr,rfl,hnr,hrow,hb⟩
      have RR3:=Lib.hid hrow;clear hrow
      have RQ3:=Lib.hid (RQ2.out.later hb)
      have X2'':=Lib.hid (X2'.out.later hb)
      have X3'':=Lib.hid (X3'.out.later hb)
      have HB3:=Lib.hid (bthen HB2.out hb);clear hb
      obtain⟨d4,d5,g4,g5,k2⟩:=X2''.out
      obtain⟨d6,d7,g6,g7,k3⟩:=X3''.out
      go_wp2
      exact bodyPost_ret (v:=.tuple #[.agg #[.bool (decide (Q<0)),.slice aq nq cq],.agg #[.bool (decide (R<0)),.slice ar nr cr],.int .i64 0]) (by simp [results,Tryz.results133,go_sem, *]) rfl
        (divK_end hnq hnr RQ3.out RR3.out X2''.out X3''.out HB3.out)
  · go_enter Tryz.func133,Tryz.ntmps133
    go_wp2_with fail
    refine(divN k 100 H0.out H1.out rfl rfl hn hm HY.out HK0.out HL0.out).mono ?_
    rintro e w1 ⟨q,mq,r,mr,rfl,hmq,hmr,hrq,hrr,hb⟩
    have hmr0:0<mr:=by
      rcases Nat.eq_zero_or_pos mr with e | e
      · have h:=hrr.1;rw [e] at h;have:=length_limbs_zero.1 h;have:=H0R.out;omega
      · exact e
    have RQ:=Lib.hid hrq;clear hrq
    have RR:=Lib.hid hrr;clear hrr
    obtain⟨c0,c1,f0,f1,l0⟩:=HX.out.1.later hb
    obtain⟨c2,c3,f2,f3,l1⟩:=HX.out.2.1.later hb
    have X2:=Lib.hid (HX.out.2.2.1.later hb)
    have X3:=Lib.hid (HX.out.2.2.2.later hb)
    have H1b:=Lib.hid (H1.out.later hb).drew
    have HB:=Lib.hid (bthen HW.out hb);clear hb
    go_wp2_with fail
    go_region_held3 (fun w'=>w'.cell? ⟨w.heap.size+1,0,none⟩=some (.bool false)) (first | (go_keep;done)) (fail)
    all_goals
      go_wp2_with fail
      refine(addN k (val xs / val ys+1) (ys:=[1]) (RQ.out.drew.later (below_one _ _)) (by exact row_one_here _) (val_limbs _) rfl (by omega) (by omega) rfl HK.out).mono ?_
      rintro e w2 ⟨q2,mq2,rfl,hmq2,hrq2,hb⟩
      have RQ1:=Lib.hid hrq2;clear hrq2
      have B1:=Lib.hid (bthen (below_one _ _) hb)
      obtain⟨d0,d1,g0,g1,j0⟩:=Box.later (Box.drew ⟨c0,c1,f0,f1,l0⟩) B1.out
      obtain⟨d2,d3,g2,g3,j1⟩:=Box.later (Box.drew ⟨c2,c3,f2,f3,l1⟩) B1.out
      have X2a:=Lib.hid (X2.out.drew.later B1.out)
      have X3a:=Lib.hid (X3.out.drew.later B1.out)
      have RRa:=Lib.hid (RR.out.drew.later B1.out)
      have H1a:=Lib.hid (H1b.out.later B1.out)
      have HBa:=Lib.hid (bthen HB.out.drew B1.out);clear hb
      clear c0 c1 c2 c3 f0 f1 f2 f3
      go_wp2_with fail
      refine(subN l (val ys-val xs % val ys) H1a.out RRa.out rfl (val_limbs _) (by omega) (by omega) HRY.out rfl HL.out).mono ?_
      rintro e w3 ⟨r2,mr2,rfl,hmr2,hrr2,hb⟩
      have RR1:=Lib.hid hrr2;clear hrr2
      have RQ2':=Lib.hid (RQ1.out.later hb)
      have X2b:=Lib.hid (X2a.out.later hb)
      have X3b:=Lib.hid (X3a.out.later hb)
      have HBb:=Lib.hid (bthen HBa.out hb);clear hb
      clear d0 d1 d2 d3 g0 g1 g2 g3
      go_wp2_with fail
      refine(put_told k true _ _ _ (val xs / val ys+1) Q _ RQ2'.out HQ.out HK.out).mono ?_
      rintro e w4 ⟨aq,nq,cq,rfl,hnq,hrow,hb⟩
      have RQ2:=Lib.hid hrow;clear hrow
      have RR2:=Lib.hid (RR1.out.later hb)
      have X2':=Lib.hid (X2b.out.later hb)
      have X3':=Lib.hid (X3b.out.later hb)
      have HB2:=Lib.hid (bthen HBb.out hb);clear hb
      go_wp2_with fail
      refine(put_told l false _ _ _ (val ys-val xs % val ys) R _ RR2.out HR.out HL.out).mono ?_
      rintro e w5 ⟨ar,nr,cr,rfl,hnr,hrow,hb⟩
      have RR3:=Lib.hid hrow;clear hrow
      have RQ3:=Lib.hid (RQ2.out.later hb)
      have X2'':=Lib.hid (X2'.out.later hb)
      have X3'':=Lib.hid (X3'.out.later hb)
      have HB3:=Lib.hid (bthen HB2.out hb);clear hb
      obtain⟨d4,d5,g4,g5,k2⟩:=X2''.out
      obtain⟨d6,d7,g6,g7,k3⟩:=X3''.out
      go_wp2
      exact bodyPost_ret (v:=.tuple #[.agg #[.bool (decide (Q<0)),.slice aq nq cq],.agg #[.bool (decide (R<0)),.slice ar nr cr],.int .i64 0]) (by simp [results,Tryz.results133,go_sem, *]) rfl
        (divK_end hnq hnr RQ3.out RR3.out X2''.out X3''.out HB3.out)
end Go.Proofs.YtpnlbjnbgemocaaGreat
