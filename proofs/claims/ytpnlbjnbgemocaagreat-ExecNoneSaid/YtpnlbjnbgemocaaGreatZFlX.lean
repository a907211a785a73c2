import Derived.Test.YtpnlbjnbgemocaaGreatZFlW
import Derived.Test.YtpnlbjnbgemocaaGreatZFlAToHpKN11
namespace Go.Proofs.YtpnlbjnbgemocaaGreat
set_option linter.unusedVariables false
set_option linter.unusedSimpArgs false
set_option maxRecDepth 100000
open Go.RowKit
theorem guB_no {g:Int}{n:Nat}(h:guB g n=false):(n:Int)≤g:=by simpa [guB] using h
theorem guB_yes {g:Int}{n:Nat}(h:guB g n=true):g<(n:Int):=by simpa [guB] using h
theorem eq_bad {f:FlatM}{k:Nat}{q:FEqM}(hq:f.eqs[k]?=some q)(h:eqB f q=false):goodB f=false:=goodB_1 (all_no hq h)
theorem eq_guard {f:FlatM}{k:Nat}{q:FEqM}(hq:f.eqs[k]?=some q)(h:guB q.guard f.names.length=false):goodB f=false:=eq_bad hq (by unfold eqB;rw [h];rfl)
theorem eq_args {f:FlatM}{k:Nat}{q:FEqM}(hq:f.eqs[k]?=some q)(h:wiB q.args f.names.length=false):goodB f=false:=eq_bad hq (by unfold eqB;rw [h];simp)
theorem kL_mem {f:FlatM}{k:Int}(h:kL opMem k f.ins.length f.mems.length f.conts.length f.cross.length=true):plB k f.mems.length=true:=h
theorem kL_cont {f:FlatM}{k:Int}(h:kL opCont k f.ins.length f.mems.length f.conts.length f.cross.length=true):plB k f.conts.length=true:=h
theorem eq_right {f:FlatM}{k:Nat}{q:FEqM}(hq:f.eqs[k]?=some q)(h:rgL f q.op q.args.length q.k=false):goodB f=false:=by
  cases h1:enB q.op q.args.length with
  | false=>exact eq_bad hq (by unfold eqB;rw [h1];simp)
  | true =>
    cases h2:kL q.op q.k f.ins.length f.mems.length f.conts.length f.cross.length with
    | false=>exact eq_bad hq (by unfold eqB kB;rw [h2];simp)
    | true=>
      have h3:resL f q.op q.k=false:=by unfold rgL at h;rw [h1,h2] at h;simpa using h
      unfold resL at h3
      by_cases hm:q.op=opMem
      · rw [if_pos hm] at h3
        rw [hm] at h2
        obtain⟨p0,p1⟩:=plB_yes (kL_mem h2)
        obtain⟨x,hx⟩:∃ x,f.mems[q.k.toNat]?=some x:=⟨_,List.getElem?_eq_getElem (by omega)⟩
        rw [hx] at h3
        exact goodB_2 (keptB_mems (all_no hx (by unfold memB;rw [show wiB x.resets f.names.length=false from h3];simp)))
      · rw [if_neg hm] at h3
        by_cases hc:q.op=opCont
        · rw [if_pos hc] at h3
          rw [hc] at h2
          obtain⟨p0,p1⟩:=plB_yes (kL_cont h2)
          obtain⟨x,hx⟩:∃ x,f.conts[q.k.toNat]?=some x:=⟨_,List.getElem?_eq_getElem (by omega)⟩
          rw [hx] at h3
          exact goodB_2 (keptB_conts (all_no hx (by unfold contB;rw [show wiB x.resets f.names.length=false from h3];simp)))
        · rw [if_neg hc] at h3;cases h3
theorem eq_fine {f:FlatM}{q:FEqM}(h0:guB q.guard f.names.length=true)(h1:wiB q.args f.names.length=true)(h2:rgL f q.op q.args.length q.k=true):eqB f q=true:=by
  unfold rgL at h2
  rw [Bool.and_eq_true,Bool.and_eq_true] at h2
  unfold eqB kB;rw [h0,h1,h2.1.1,h2.1.2];rfl
theorem len_bad {f:FlatM}(h:¬ f.eqs.length=f.names.length):goodB f=false:=goodB_0 (by unfold onceB;rw [beq_eq_false_iff_ne.2 h];simp)
theorem keep10 {W w3:World}{b o g:Nat}{u0 u1 x0 x1 x2 x3 x4 x5 x6 x7:Value}
    (h:W.drew.cell? ⟨b,o,none⟩=some u0∧W.drew.cell? ⟨b,o+1,none⟩=some u1∧W.drew.cell? ⟨g,0,none⟩=some x0∧W.drew.cell? ⟨g,1,none⟩=some x1∧W.drew.cell? ⟨g,2,none⟩=some x2∧W.drew.cell? ⟨g,3,none⟩=some x3∧W.drew.cell? ⟨g,4,none⟩=some x4∧W.drew.cell? ⟨g,5,none⟩=some x5∧W.drew.cell? ⟨g,6,none⟩=some x6∧W.drew.cell? ⟨g,7,none⟩=some x7)
    (hb:Below W.drew.heap.size W.drew w3) (h1:b<W.heap.size) (h2:g<W.heap.size) :
    w3.cell? ⟨b,o,none⟩=some u0∧w3.cell? ⟨b,o+1,none⟩=some u1∧w3.cell? ⟨g,0,none⟩=some x0∧w3.cell? ⟨g,1,none⟩=some x1∧w3.cell? ⟨g,2,none⟩=some x2∧w3.cell? ⟨g,3,none⟩=some x3∧w3.cell? ⟨g,4,none⟩=some x4∧w3.cell? ⟨g,5,none⟩=some x5∧w3.cell? ⟨g,6,none⟩=some x6∧w3.cell? ⟨g,7,none⟩=some x7:=by
  have c1:∀ i,w3.cell? ⟨b,i,none⟩=W.drew.cell? ⟨b,i,none⟩:=fun i=>hb.cell (p:=⟨b,i,none⟩) h1
  have c2:∀ i,w3.cell? ⟨g,i,none⟩=W.drew.cell? ⟨g,i,none⟩:=fun i=>hb.cell (p:=⟨g,i,none⟩) h2
  obtain⟨k0,k1,l0,l1,l2,l3,l4,l5,l6,l7⟩:=h
  exact⟨(c1 _).trans k0,(c1 _).trans k1,(c2 _).trans l0,(c2 _).trans l1,(c2 _).trans l2,(c2 _).trans l3,(c2 _).trans l4,(c2 _).trans l5,(c2 _).trans l6,(c2 _).trans l7⟩
set_option maxHeartbeats 16000000 in
theorem refGood_t (v : FlatV) (f : FlatM) (B : Nat) (w : World) (h : FlatIs w B v f) (hB : B ≤ w.heap.size) (hn : v.names.2.1 ≤ 1000000) :
    Calls Tryz.prog 64 #[flatV v] w fun e w'=>e=.returned (.bool (goodB f))∧Below w.heap.size w w':=by
  have hmE:=h.eqs.len_le
  have hmM:=h.mems.len_le
  have hmC:=h.conts.len_le
  have hmX:=h.cross.len_le
  have HN:=Lib.hid h.names.1
  have HE:=Lib.hid h.eqs.1
  have HLM:=Lib.hid h.mems.1
  have HLC:=Lib.hid h.conts.1
  have HLX:=Lib.hid h.cross.1
  have HC:=Lib.hid (Ctx.mk' h hB);clear h hB
  unfold maxLen at hmE hmM hmC hmX
  unfold flatV sl3
  go_enter Tryz.func64,Tryz.ntmps64
  by_cases hlen:v.eqs.2.1=v.names.2.1
  rotate_left
  · have g1:((v.eqs.2.1:Int)==(v.names.2.1:Int))=false:=by rw [beq_eq_false_iff_ne];omega
    have g2:((v.eqs.2.1:Int) != (v.names.2.1:Int))=true:=by rw [bne_iff_ne];omega
    have HBAD:Hid (goodB f=false):=Lib.hid (len_bad (by rw [HE.out,HN.out];exact hlen))
    clear hlen
    go_wp2_with (at_make;refine makeB rfl _ rfl _ v.names.2.1 rfl rfl (by omega) ?_)
    intro w2 hmem hb2
    have HB2:Hid (Below (w.heap.size+1) (w.alloc (.cells (fvs v) 83)) w2):=Lib.hid hb2
    clear hmem hb2
    obtain⟨f0,f1,f2,f3,f4,f5,f6,f7⟩:=(HC.out.blk.below HB2.out (Nat.lt_succ_self _)).flat
    go_wp2
    go_ret
    exact⟨ret_bool' HBAD.out.symm,HC.out.old.trans (HB2.out.mono (Nat.le_succ _))⟩
  · have g1 : ((v.eqs.2.1 : Int) == (v.names.2.1 : Int)) = true := by rw [beq_iff_eq]; omega
    have g2:((v.eqs.2.1:Int) != (v.names.2.1:Int))=false:=by rw [bne_eq_false_iff_eq];omega
    have HLEN:=Lib.hid hlen;clear hlen
    go_wp2_with (at_make;refine makeB rfl _ rfl _ v.names.2.1 rfl rfl (by omega) ?_)
    intro w2 hmem hb2
    have HM2:Hid (BMem w2 (w.heap.size+1) (List.replicate v.names.2.1 false)):=Lib.hid hmem
    have HB2:Hid (Below (w.heap.size+1) (w.alloc (.cells (fvs v) 83)) w2):=Lib.hid hb2
    clear hmem hb2
    obtain⟨f0,f1,f2,f3,f4,f5,f6,f7⟩:=(HC.out.blk.below HB2.out (Nat.lt_succ_self _)).flat
    go_wp2
    clear f0 f1 f2 f3 f4 f5 f6 f7
    obtain⟨W2,hW2⟩:∃ W2,w2=W2:=⟨_,rfl⟩
    subst hW2
    have HKB:=Lib.hid (HC.out.blk.below HB2.out (Nat.lt_succ_self _))
    have HIS:=Lib.hid (HC.out.is.below (HB2.out.mono (Nat.le_succ_of_le HC.out.le)))
    go_loopw [5] (fun t wr=>∃ k:Nat,k≤v.names.2.1∧t=.int .i64 k∧Hid (OnceTo f k)∧Hid ((f.eqs.take k).all (eqB f)=true)∧Hid (∃ bs,BMem wr (w.heap.size+1) bs∧Marks f k bs)∧Hid (Below (w.heap.size+1) w2 wr)) (fun t _=>v.names.2.1-(intOf t).toNat)
    case atStart=>exact⟨0,Nat.zero_le _,rfl,Lib.hid (OnceTo.start f),Lib.hid rfl,Lib.hid ⟨_,HM2.out,by rw [←HN.out];exact Marks.start f⟩,Lib.hid (Below.refl _ _)⟩
    case round =>
      obtain⟨k,hk,rfl,hz,hze,hms,hbr⟩:=hrel
      have hfb:=HKB.out.below hbr.out (Nat.lt_succ_self _)
      obtain⟨f0,f1,f2,f3,f4,f5,f6,f7⟩:=hfb.flat
      have hgl:w.heap.size<wr.heap.size:=hfb.lt
      by_cases hlt:k<v.names.2.1
      · have hlt2 : k < v.eqs.2.1 := by rw [HLEN.out]; exact hlt
        have his:=HIS.out.below (hbr.out.mono (Nat.le_succ_of_le HC.out.le))
        obtain⟨⟨var,op,args,kk,lit,guard⟩,hq⟩:=his.eqs.ex hlt2
        obtain⟨b,off,ha,hbB,hat⟩:=his.eqs.at_ hq
        obtain⟨a,m,d,hrow,hrm,hrd,e0,e1,e2,e3,e4,e5,e6,e7,e8,e9⟩:=hat.cells
        obtain⟨bs,hbs,hmk⟩:=hms.out
        have hgs:w.heap.size+1<wr.heap.size:=hbs.lt
        have hbl:b<wr.heap.size:=Nat.lt_of_lt_of_le hbB (Nat.le_trans HC.out.le (Nat.le_of_lt hfb.lt))
        have HX:=Lib.hid hq
        have HM:=Lib.hid hbs;have HMK:=Lib.hid hmk
        have ha1:=hrow.len_le
        have HRL:=Lib.hid hrow.1
        have HOLD:=Lib.hid (show Below w.heap.size w (wr.alloc (.cells (qvs ⟨var,op,args,kk,lit,guard⟩ a m d) 127)) from HC.out.old.trans ((HB2.out.trans (hbr.out.trans (((Below.refl _ _).alloc (Nat.le_refl _) _).mono (Nat.le_of_lt hgs)))).mono (Nat.le_succ _)))
        have HS:=Lib.hid (St.new (W0:=w2) (g:=w.heap.size) (T:=127) (P:=fun W=>IRow W B a.1 a.2.1 a.2.2 args) (qvs ⟨var,op,args,kk,lit,guard⟩ a m d) hfb his hbr.out HC.out.le (fun _ _ q h=>h.below q) hrow)
        have HROW:=Lib.hid HS.out.row
        unfold qvs at HROW
        dsimp only at HROW
        have HISQ:=Lib.hid HS.out.is
        have HBQ:=Lib.hid HS.out.hB
        unfold qvs at HISQ HBQ
        dsimp only at HISQ HBQ
        have CR:Hid (∀(b':Bool) (W':World),FlatIs W' B v f→B≤W'.heap.size→rgL f op a.2.1 kk=b'→Calls Tryz.prog 115 #[flatV v,feqV ⟨var,op,args,kk,lit,guard⟩ a m d] W' fun e w'=>e=.returned (.bool b')∧Below W'.heap.size W' w'):=Lib.hid fun b' W' h1 h2 h3=>right_b ⟨var,op,args,kk,lit,guard⟩ a m d v f B b' W' ha1 h1 h2 h3
        unfold flatV feqV sl3 at CR
        dsimp only at CR
        rw [ha] at f3 CR ⊢
        simp only at e0 e1 e2 e3 e4 e5 e6 e7 e8 e9
        clear hfb his hat hrow hrm hrd hq ha hbs hmk hms
        cases hp:plB var f.names.length with
        | false=>
          have h':=plB_no hp
          rw [HN.out] at h'
          have HP:=Lib.hid hp;clear hp
          by_cases h0:var<0
          · clear h'
            go_wp2_with fail
            go_ret
            exact⟨ret_bool' (goodB_0 (once_place HX.out HP.out)).symm,HOLD.out⟩
          · have h1:(v.names.2.1:Int)≤var:=by omega
            have g0:decide (var<0)=false:=by rw [decide_eq_false_iff_not];omega
            clear h'
            go_wp2_with fail
            go_ret
            exact⟨ret_bool' (goodB_0 (once_place HX.out HP.out)).symm,HOLD.out⟩
        | true =>
          have H1:=Lib.hid (by rw [←HN.out];exact hp:plB var v.names.2.1=true)
          obtain⟨p0,p1⟩:=plB_yes H1.out
          have HP:=Lib.hid hp;clear hp
          obtain⟨j,rfl⟩:∃ j:Nat,var=(j:Int):=⟨var.toNat,by omega⟩
          have hj:j<v.names.2.1:=by omega
          have hjn:j<f.names.length:=by rw [HN.out];exact hj
          have kc:=HM.out.cell j (by rw [HMK.out.1];exact hjn)
          have kf:=HM.out.free j
          rw [HMK.out.2 j hjn] at kc
          have HJ:=Lib.hid hjn;clear hjn
          cases hin:decide ((j:Int)∈(vars f).take k) with
          | true=>
            rw [hin] at kc
            have HI:=Lib.hid (of_decide_eq_true hin);clear hin
            go_wp2_with fail
            go_ret
            exact⟨ret_bool' (goodB_0 (once_twice HX.out HI.out)).symm,HOLD.out⟩
          | false =>
            rw [hin] at kc
            have HI:=Lib.hid (of_decide_eq_false hin);clear hin
            cases h2:guB guard f.names.length with
            | false=>
              have hg:=guB_no h2
              rw [HN.out] at hg
              have H2:=Lib.hid h2;clear h2
              go_wp2_with fail
              go_ret
              exact⟨ret_bool' (eq_guard HX.out H2.out).symm,HOLD.out⟩
            | true=>
              have hg:=guB_yes h2
              rw [HN.out] at hg
              have H2:=Lib.hid h2;clear h2
              cases h3:wiB args v.names.2.1 with
              | false=>
                have H3:=Lib.hid h3;clear h3
                go_wp2_with (go_at_call 114;(with_reducible refine(within_at a.1 a.2.1 a.2.2 B args v.names.2.1 false _ HROW.out H3.out).mono ?_);rintro e w' ⟨rfl,rfl⟩)
                go_ret
                exact⟨ret_bool' (eq_args HX.out (by rw [HN.out];exact H3.out)).symm,HOLD.out⟩
              | true=>
                have H3:=Lib.hid h3;clear h3
                cases h4:rgL f op a.2.1 kk with
                | false=>
                  have H4:=Lib.hid h4;clear h4
                  go_wp2_with (first | (go_at_call 114;(with_reducible refine(within_at a.1 a.2.1 a.2.2 B args v.names.2.1 true _ HROW.out H3.out).mono ?_);rintro e w' ⟨rfl,rfl⟩) | (go_at_call 115;(with_reducible refine(CR.out false _ HISQ.out HBQ.out H4.out).mono ?_);rintro e w3 ⟨rfl,hb⟩;replace HOLD:=Lib.hid (HOLD.out.trans (hb.mono HOLD.out.size));clear hb))
                  go_ret
                  exact⟨ret_bool' (eq_right HX.out (by rw [HRL.out];exact H4.out)).symm,HOLD.out⟩
                | true=>
                  have H4:=Lib.hid h4;clear h4
                  go_wp2_with (first | (go_at_call 114;(with_reducible refine(within_at a.1 a.2.1 a.2.2 B args v.names.2.1 true _ HROW.out H3.out).mono ?_);rintro e w' ⟨rfl,rfl⟩) | (go_at_call 115;(with_reducible refine(CR.out true _ HISQ.out HBQ.out H4.out).mono ?_);rintro e w3 ⟨rfl,hb⟩;obtain⟨e0,e1,e2,e3,e4,e5,e6,e7,e8,e9⟩:=(HS.out.later hb).qb.eq;obtain⟨hcb,hfz⟩:=bcell hb;have HBW:=Lib.hid hb;clear hb))
                  go_roundw
                  case rel=>exact⟨k+1,by omega,by go_num,Lib.hid (hz.out.step HX.out HP.out HI.out),Lib.hid (by rw [all_succ HX.out,hze.out,eq_fine H2.out (by rw [HN.out];exact H3.out) (by rw [HRL.out];exact H4.out)];rfl),Lib.hid ⟨_,((HM.out.alloc _).below HBW.out (by simp;omega)).set j true,HMK.out.step HX.out j HJ.out rfl⟩,Lib.hid (((hbr.out.alloc (Nat.le_of_lt hgs) _).trans (HBW.out.mono (by simp;omega))).setCell (Nat.le_refl _) _)⟩
                  case measure=>simp [intOf];omega
      · have HON : Hid (onceB f = true) := Lib.hid (by rw [once_end (n := k) (by rw [HE.out, HLEN.out]; omega) hz.out, HE.out, HN.out, HLEN.out]; simp)
        have HEQ:Hid (eqsB f=true):=Lib.hid (all_end (p:=eqB f) (l:=f.eqs) (n:=k) (by rw [HE.out,HLEN.out];omega) hze.out)
        go_wp2_with fail
        clear f0 f1 f2 f3 f4 f5 f6 f7 hgl hfb
        have HBR1:=hbr;clear hbr hz hze hms
        obtain⟨wo,rfl⟩:∃ wo:World,wo=wr:=⟨_,rfl⟩
        go_loopw [7] (fun t wr=>∃ k:Nat,k≤v.mems.2.1∧t=.int .i64 k∧Hid ((f.mems.take k).all (memB f)=true)∧Hid (Below (w.heap.size+1) w2 wr)) (fun t _=>v.mems.2.1-(intOf t).toNat)
        case atStart=>exact⟨0,Nat.zero_le _,rfl,Lib.hid rfl,HBR1⟩
        case round =>
          obtain⟨k,hk,rfl,hz,hbr⟩:=hrel
          have hfb:=HKB.out.below hbr.out (Nat.lt_succ_self _)
          obtain⟨f0,f1,f2,f3,f4,f5,f6,f7⟩:=hfb.flat
          have hgl:w.heap.size<wr.heap.size:=hfb.lt
          by_cases hlt:k<v.mems.2.1
          · have his:=HIS.out.below (hbr.out.mono (Nat.le_succ_of_le HC.out.le))
            obtain⟨x,hx⟩:=his.mems.ex hlt
            obtain⟨b,off,ha,hlb,hat⟩:=his.mems.at_ hx
            obtain⟨m,d,r,_,_,hrow,e0,e1,e2,e3,e4,e5,e6,e7⟩:=hat.cells
            have hbl:b<wr.heap.size:=Nat.lt_of_lt_of_le hlb (Nat.le_trans HC.out.le (Nat.le_of_lt hfb.lt))
            have HOLD:=Lib.hid (show Below w.heap.size w (wr.alloc (.cells (memvs x m d r) 137)) from HC.out.old.trans ((HB2.out.trans (hbr.out.alloc hfb.lt _)).mono (Nat.le_succ _)))
            have HNB:=Lib.hid (show Below (w.heap.size+1) w2 (wr.alloc (.cells (memvs x m d r) 137)) from hbr.out.alloc hfb.lt _)
            have HROW:=Lib.hid (show IRow (wr.alloc (.cells (memvs x m d r) 137)) B r.1 r.2.1 r.2.2 x.resets from hrow.below ((Below.refl _ _).alloc (Nat.le_trans HC.out.le (Nat.le_of_lt hfb.lt)) _))
            unfold memvs at HROW
            have HX:=Lib.hid hx
            have HMB:Hid (memB f x=(plB x.next v.names.2.1&&guB x.guard v.names.2.1&&wiB x.resets v.names.2.1)):=Lib.hid (by unfold memB;rw [HN.out])
            rw [ha] at f4 ⊢
            clear hfb his hat hrow hx ha
            cases hp:plB x.next v.names.2.1 with
            | false=>
              have h':=plB_no hp
              have HP:=Lib.hid hp;clear hp
              have HBAD:Hid (goodB f=false):=Lib.hid (goodB_2 (keptB_mems (all_no HX.out (by rw [HMB.out,HP.out];rfl))))
              by_cases h0:x.next<0
              · clear h'
                go_wp2_with fail
                go_ret
                exact⟨ret_bool' HBAD.out.symm,HOLD.out⟩
              · have h1:(v.names.2.1:Int)≤x.next:=by omega
                have g0:decide (x.next<0)=false:=by rw [decide_eq_false_iff_not];omega
                clear h'
                go_wp2_with fail
                go_ret
                exact⟨ret_bool' HBAD.out.symm,HOLD.out⟩
            | true=>
              obtain⟨p0,p1⟩:=plB_yes hp
              have HP:=Lib.hid hp;clear hp
              cases h2:guB x.guard v.names.2.1 with
              | false=>
                have hg:=guB_no h2
                have H2:=Lib.hid h2;clear h2
                have HBAD:Hid (goodB f=false):=Lib.hid (goodB_2 (keptB_mems (all_no HX.out (by rw [HMB.out,H2.out];simp))))
                go_wp2_with fail
                go_ret
                exact⟨ret_bool' HBAD.out.symm,HOLD.out⟩
              | true=>
                have hg:=guB_yes h2
                have H2:=Lib.hid h2;clear h2
                cases h3:wiB x.resets v.names.2.1 with
                | false=>
                  have H3:=Lib.hid h3;clear h3
                  have HBAD:Hid (goodB f=false):=Lib.hid (goodB_2 (keptB_mems (all_no HX.out (by rw [HMB.out,H3.out];simp))))
                  go_wp2_with (go_at_call 114;(with_reducible refine(within_at r.1 r.2.1 r.2.2 B x.resets v.names.2.1 false _ HROW.out H3.out).mono ?_);rintro e w' ⟨rfl,rfl⟩)
                  go_ret
                  exact⟨ret_bool' HBAD.out.symm,HOLD.out⟩
                | true=>
                  have H3:=Lib.hid h3;clear h3
                  go_wp2_with (go_at_call 114;(with_reducible refine(within_at r.1 r.2.1 r.2.2 B x.resets v.names.2.1 true _ HROW.out H3.out).mono ?_);rintro e w' ⟨rfl,rfl⟩)
                  go_roundw
                  case rel=>exact⟨k+1,by omega,by go_num,Lib.hid (by rw [all_succ HX.out,hz.out,HMB.out,HP.out,H2.out,H3.out];rfl),HNB⟩
                  case measure=>simp [intOf];omega
          · have HMM : Hid (f.mems.all (memB f) = true) := Lib.hid (all_end HLM.out (by rw [show v.mems.2.1 = k by omega]; exact hz.out))
            go_wp2_with fail
            clear f0 f1 f2 f3 f4 f5 f6 f7 hgl hfb
            have HBR2:=hbr;clear hbr hz HBR1
            obtain⟨wp,rfl⟩:∃ wp:World,wp=wr:=⟨_,rfl⟩
            go_loopw [9] (fun t wr=>∃ k:Nat,k≤v.conts.2.1∧t=.int .i64 k∧Hid ((f.conts.take k).all (contB f)=true)∧Hid (Below (w.heap.size+1) w2 wr)) (fun t _=>v.conts.2.1-(intOf t).toNat)
            case atStart=>exact⟨0,Nat.zero_le _,rfl,Lib.hid rfl,HBR2⟩
            case round =>
              obtain⟨k,hk,rfl,hz,hbr⟩:=hrel
              have hfb:=HKB.out.below hbr.out (Nat.lt_succ_self _)
              obtain⟨f0,f1,f2,f3,f4,f5,f6,f7⟩:=hfb.flat
              have hgl:w.heap.size<wr.heap.size:=hfb.lt
              by_cases hlt:k<v.conts.2.1
              · have his := HIS.out.below (hbr.out.mono (Nat.le_succ_of_le HC.out.le))
                obtain⟨x,hx⟩:=his.conts.ex hlt
                obtain⟨b,off,ha,hlb,hat⟩:=his.conts.at_ hx
                obtain⟨m,d,r,s,_,_,hrow,hrs,e0,e1,e2,e3,e4,e5,e6,e7,e8⟩:=hat.cells
                have hbl:b<wr.heap.size:=Nat.lt_of_lt_of_le hlb (Nat.le_trans HC.out.le (Nat.le_of_lt hfb.lt))
                have HOLD:=Lib.hid (show Below w.heap.size w (wr.alloc (.cells (contvs x m d r s) 140)) from HC.out.old.trans ((HB2.out.trans (hbr.out.alloc hfb.lt _)).mono (Nat.le_succ _)))
                have HNB:=Lib.hid (show Below (w.heap.size+1) w2 (wr.alloc (.cells (contvs x m d r s) 140)) from hbr.out.alloc hfb.lt _)
                have hkeep:Below B wr (wr.alloc (.cells (contvs x m d r s) 140)):=(Below.refl _ _).alloc (Nat.le_trans HC.out.le (Nat.le_of_lt hfb.lt)) _
                have HROW:=Lib.hid (show IRow (wr.alloc (.cells (contvs x m d r s) 140)) B r.1 r.2.1 r.2.2 x.resets from hrow.below hkeep)
                have HRS:=Lib.hid (show SRow 2 SlopeAt (wr.alloc (.cells (contvs x m d r s) 140)) B s.1 s.2.1 s.2.2 x.slopes from hrs.keep fun _ _ _ q1 q2=>q2.keep q1 fun _ hp=>hkeep.cell hp)
                have HBOX:=Lib.hid (Blk.new wr 140 (contvs x m d r s))
                have hsm:=hrs.len_le
                unfold maxLen at hsm
                have HSL:=Lib.hid hrs.1
                have HRS0:=Lib.hid hrs
                unfold contvs at HROW
                have HX:=Lib.hid hx
                have HCB:Hid (contB f x=(plB x.var v.names.2.1&&guB x.guard v.names.2.1&&wiB x.resets v.names.2.1&&x.slopes.all (slopeB f))):=Lib.hid (by unfold contB;rw [HN.out])
                rw [ha] at f5 ⊢
                clear hfb his hat hrow hx ha hrs hkeep
                cases hp:plB x.var v.names.2.1 with
                | false=>
                  have h':=plB_no hp
                  have HP:=Lib.hid hp;clear hp
                  have HBAD:Hid (goodB f=false):=Lib.hid (goodB_2 (keptB_conts (all_no HX.out (by rw [HCB.out,HP.out];rfl))))
                  by_cases h0:x.var<0
                  · clear h'
                    go_wp2_with fail
                    go_ret
                    exact⟨ret_bool' HBAD.out.symm,HOLD.out⟩
                  · have h1:(v.names.2.1:Int)≤x.var:=by omega
                    have g0:decide (x.var<0)=false:=by rw [decide_eq_false_iff_not];omega
                    clear h'
                    go_wp2_with fail
                    go_ret
                    exact⟨ret_bool' HBAD.out.symm,HOLD.out⟩
                | true =>
                  obtain⟨p0,p1⟩:=plB_yes hp
                  have HP:=Lib.hid hp;clear hp
                  cases h2:guB x.guard v.names.2.1 with
                  | false=>
                    have hg:=guB_no h2
                    have H2:=Lib.hid h2;clear h2
                    have HBAD:Hid (goodB f=false):=Lib.hid (goodB_2 (keptB_conts (all_no HX.out (by rw [HCB.out,H2.out];simp))))
                    go_wp2_with fail
                    go_ret
                    exact⟨ret_bool' HBAD.out.symm,HOLD.out⟩
                  | true =>
                    have hg:=guB_yes h2
                    have H2:=Lib.hid h2;clear h2
                    cases h3:wiB x.resets v.names.2.1 with
                    | false=>
                      have H3:=Lib.hid h3;clear h3
                      have HBAD:Hid (goodB f=false):=Lib.hid (goodB_2 (keptB_conts (all_no HX.out (by rw [HCB.out,H3.out];simp))))
                      go_wp2_with (go_at_call 114;(with_reducible refine(within_at r.1 r.2.1 r.2.2 B x.resets v.names.2.1 false _ HROW.out H3.out).mono ?_);rintro e w' ⟨rfl,rfl⟩)
                      go_ret
                      exact⟨ret_bool' HBAD.out.symm,HOLD.out⟩
                    | true =>
                      have H3:=Lib.hid h3;clear h3
                      go_wp2_with (go_at_call 114;(with_reducible refine(within_at r.1 r.2.1 r.2.2 B x.resets v.names.2.1 true _ HROW.out H3.out).mono ?_);rintro e w' ⟨rfl,rfl⟩)
                      obtain⟨d0,d1,d2,d3,d4,d5,d6,d7,d8⟩:=HBOX.out.cont
                      unfold contvs at d8 HOLD HNB HRS
                      clear f0 f1 f2 f3 f4 f5 f6 f7 e0 e1 e2 e3 e4 e5 e6 e7 e8 d0 d1 d2 d3 d4 d5 d6 d7
                      go_loop [11] (fun t=>∃ j:Nat,j≤s.2.1∧t=.int .i64 j∧Hid ((x.slopes.take j).all (slopeB f)=true)) (fun t=>s.2.1-(intOf t).toNat)
                      case atStart=>exact⟨0,Nat.zero_le _,rfl,Lib.hid rfl⟩
                      case round=>
                        obtain⟨j,hj,rfl,hy⟩:=hrel
                        by_cases hjl:j<s.2.1
                        · obtain⟨y,hy1⟩:=HRS0.out.ex hjl
                          obtain⟨b2,off2,ha2,hlb2,hat2⟩:=HRS0.out.at_ hy1
                          obtain⟨q0,q1⟩:=hat2.cells
                          have hbl2:b2<wr.heap.size:=Nat.lt_of_lt_of_le hlb2 (Nat.le_trans HC.out.le (Nat.le_of_lt hgl))
                          have HY:=Lib.hid hy1
                          have HSB:Hid (slopeB f y=(guB y.guard v.names.2.1&&plB y.var v.names.2.1)):=Lib.hid (by unfold slopeB;rw [HN.out])
                          rw [ha2] at d8 HOLD ⊢
                          clear hy1 hat2 ha2 d8
                          have HBADF:Hid (slopeB f y=false→goodB f=false):=Lib.hid fun h=>goodB_2 (keptB_conts (all_no HX.out (by rw [HCB.out,all_no HY.out h];simp)))
                          cases h4:guB y.guard v.names.2.1 with
                          | false=>
                            have hg4:=guB_no h4
                            have H4:=Lib.hid h4;clear h4
                            have HBAD:=Lib.hid (HBADF.out (by rw [HSB.out,H4.out];rfl))
                            go_wp2_with fail
                            go_ret
                            exact⟨ret_bool' HBAD.out.symm,HOLD.out⟩
                          | true=>
                            have hg4:=guB_yes h4
                            have H4:=Lib.hid h4;clear h4
                            cases h5:plB y.var v.names.2.1 with
                            | false=>
                              have h':=plB_no h5
                              have H5:=Lib.hid h5;clear h5
                              have HBAD:=Lib.hid (HBADF.out (by rw [HSB.out,H5.out];simp))
                              by_cases h0:y.var<0
                              · clear h'
                                go_wp2_with fail
                                go_ret
                                exact⟨ret_bool' HBAD.out.symm,HOLD.out⟩
                              · have h1:(v.names.2.1:Int)≤y.var:=by omega
                                have g0:decide (y.var<0)=false:=by rw [decide_eq_false_iff_not];omega
                                clear h'
                                go_wp2_with fail
                                go_ret
                                exact⟨ret_bool' HBAD.out.symm,HOLD.out⟩
                            | true=>
                              obtain⟨r0,r1⟩:=plB_yes h5
                              have H5:=Lib.hid h5;clear h5
                              go_wp2_with fail
                              go_round
                              case rel=>exact⟨j+1,by omega,by go_num,Lib.hid (by rw [all_succ HY.out,hy.out,HSB.out,H4.out,H5.out];rfl)⟩
                              case measure=>simp [intOf];omega
                        · have HSA:Hid (x.slopes.all (slopeB f)=true):=Lib.hid (all_end HSL.out (by rw [show s.2.1=j by omega];exact hy.out))
                          go_wp2_with fail
                          go_roundw
                          case rel=>exact⟨k+1,by omega,by go_num,Lib.hid (by rw [all_succ HX.out,hz.out,HCB.out,HP.out,H2.out,H3.out,HSA.out];rfl),HNB⟩
                          case measure=>simp [intOf];omega
              · have HCA : Hid (f.conts.all (contB f) = true) := Lib.hid (all_end HLC.out (by rw [show v.conts.2.1 = k by omega]; exact hz.out))
                go_wp2_with fail
                clear f0 f1 f2 f3 f4 f5 f6 f7 hgl hfb
                have HBR3:=hbr;clear hbr hz HBR2
                obtain⟨wx,rfl⟩:∃ wx:World,wx=wr:=⟨_,rfl⟩
                go_loopw [12] (fun t wr=>∃ k:Nat,k≤v.cross.2.1∧t=.int .i64 k∧Hid ((f.cross.take k).all (crossB f)=true)∧Hid (Below (w.heap.size+1) w2 wr)) (fun t _=>v.cross.2.1-(intOf t).toNat)
                case atStart=>exact⟨0,Nat.zero_le _,rfl,Lib.hid rfl,HBR3⟩
                case round=>
                  obtain⟨k,hk,rfl,hz,hbr⟩:=hrel
                  have hfb:=HKB.out.below hbr.out (Nat.lt_succ_self _)
                  obtain⟨f0,f1,f2,f3,f4,f5,f6,f7⟩:=hfb.flat
                  have hgl:w.heap.size<wr.heap.size:=hfb.lt
                  have his:=HIS.out.below (hbr.out.mono (Nat.le_succ_of_le HC.out.le))
                  have HOLD:=Lib.hid (show Below w.heap.size w wr from HC.out.old.trans ((HB2.out.trans hbr.out).mono (Nat.le_succ _)))
                  by_cases hlt:k<v.cross.2.1
                  · obtain⟨x,hx⟩:=his.cross.ex hlt
                    obtain⟨b,off,ha,hlb,hat⟩:=his.cross.at_ hx
                    obtain⟨r,hrow,e0,e1⟩:=hat.cells
                    have hbl:b<wr.heap.size:=Nat.lt_of_lt_of_le hlb (Nat.le_trans HC.out.le (Nat.le_of_lt hfb.lt))
                    have HX:=Lib.hid hx
                    have HBL:=Lib.hid (Nat.le_trans HC.out.le (Nat.le_of_lt hfb.lt):B≤wr.heap.size)
                    have HAS:Hid (asB f x.ops=true→guB x.guard f.names.length=true→crossB f x=true):=Lib.hid fun h1 h2=>by
                      unfold asB at h1
                      rw [Bool.and_eq_true] at h1
                      unfold crossB;rw [h2,h1.1,h1.2];rfl
                    have HASN:Hid (asB f x.ops=false→goodB f=false):=Lib.hid fun h=>goodB_3 (all_no HX.out (by
                      unfold asB at h
                      unfold crossB
                      rw [Bool.and_eq_false_iff] at h
                      rcases h with h | h <;> rw [h] <;> simp))
                    cases h2:guB x.guard v.names.2.1 with
                    | false=>
                      have hg:=guB_no h2
                      have H2:=Lib.hid h2;clear h2
                      have HBAD:Hid (goodB f=false):=Lib.hid (goodB_3 (all_no HX.out (crossB_guard (by rw [HN.out];exact H2.out))))
                      have g0:decide ((v.names.2.1:Int)≤x.guard)=true:=decide_eq_true hg
                      rw [ha] at f6 ⊢
                      clear his hat hrow hx ha hfb
                      go_wp2_with fail
                      go_quiet (fail)
                      go_wp2_with fail
                      go_ret
                      exact⟨ret_bool' HBAD.out.symm,below_drewN HOLD.out⟩
                    | true=>
                      have hg:=guB_yes h2
                      have H2:=Lib.hid h2;clear h2
                      have g0:decide ((v.names.2.1:Int)≤x.guard)=false:=by rw [decide_eq_false_iff_not];omega
                      have CA:Hid (∀(b':Bool) (W':World),Below wr.heap.size wr W'→asB f x.ops=b'→Calls Tryz.prog 116 #[flatV v,.slice r.1 r.2.1 r.2.2,.int .i64 (v.names.2.1:Int)] W' fun e w'=>e=.returned (.bool b')∧Below W'.heap.size W' w'):=Lib.hid (by
                        have hi:=his;have hro:=hrow;have hB:=HBL.out
                        intro b' W' hb h3
                        exact asks_b x.ops r.1 r.2.1 r.2.2 v f B b' W' (hi.below (hb.mono hB)) (hro.keep fun _ _ _ q1 q2=>q2.keep q1 fun _ hp=>(hb.mono hB).cell hp) (Nat.le_trans hB hb.size) h3)
                      unfold flatV sl3 at CA
                      rw [ha] at f6 CA ⊢
                      have HFB:=Lib.hid (show wr.drew.cell? ⟨b,off+k*2,none⟩=some (.int .i64 x.guard)∧wr.drew.cell? ⟨b,off+k*2+1,none⟩=some (.slice r.1 r.2.1 r.2.2)∧wr.drew.cell? ⟨w.heap.size,0,none⟩=some (.slice v.ins.1 v.ins.2.1 v.ins.2.2)∧wr.drew.cell? ⟨w.heap.size,1,none⟩=some (.slice v.names.1 v.names.2.1 v.names.2.2)∧wr.drew.cell? ⟨w.heap.size,2,none⟩=some (.slice v.outs.1 v.outs.2.1 v.outs.2.2)∧wr.drew.cell? ⟨w.heap.size,3,none⟩=some (.slice v.eqs.1 v.eqs.2.1 v.eqs.2.2)∧wr.drew.cell? ⟨w.heap.size,4,none⟩=some (.slice v.mems.1 v.mems.2.1 v.mems.2.2)∧wr.drew.cell? ⟨w.heap.size,5,none⟩=some (.slice v.conts.1 v.conts.2.1 v.conts.2.2)∧wr.drew.cell? ⟨w.heap.size,6,none⟩=some (.slice (some ⟨b,off,none⟩) v.cross.2.1 v.cross.2.2)∧wr.drew.cell? ⟨w.heap.size,7,none⟩=some (.slice v.again.1 v.again.2.1 v.again.2.2) from⟨e0,e1,f0,f1,f2,f3,f4,f5,f6,f7⟩)
                      clear his hat hrow hx ha hfb
                      cases h3:asB f x.ops with
                      | false=>
                        have H3:=Lib.hid h3;clear h3
                        go_wp2_with fail
                        first | (go_region_held3 (fun w'=>w'.cell? ⟨b,off+k*2,none⟩=some (.int .i64 x.guard)∧w'.cell? ⟨b,off+k*2+1,none⟩=some (.slice r.1 r.2.1 r.2.2)∧w'.cell? ⟨w.heap.size,0,none⟩=some (.slice v.ins.1 v.ins.2.1 v.ins.2.2)∧w'.cell? ⟨w.heap.size,1,none⟩=some (.slice v.names.1 v.names.2.1 v.names.2.2)∧w'.cell? ⟨w.heap.size,2,none⟩=some (.slice v.outs.1 v.outs.2.1 v.outs.2.2)∧w'.cell? ⟨w.heap.size,3,none⟩=some (.slice v.eqs.1 v.eqs.2.1 v.eqs.2.2)∧w'.cell? ⟨w.heap.size,4,none⟩=some (.slice v.mems.1 v.mems.2.1 v.mems.2.2)∧w'.cell? ⟨w.heap.size,5,none⟩=some (.slice v.conts.1 v.conts.2.1 v.conts.2.2)∧w'.cell? ⟨w.heap.size,6,none⟩=some (.slice (some ⟨b,off,none⟩) v.cross.2.1 v.cross.2.2)∧w'.cell? ⟨w.heap.size,7,none⟩=some (.slice v.again.1 v.again.2.1 v.again.2.2)) (exact HFB.out) ((go_at_call 116;(with_reducible refine(CA.out false _ ((Below.refl _ _).drew) H3.out).mono ?_);rintro e w3 ⟨rfl,hb⟩;replace HFB:=Lib.hid (keep10 HFB.out hb hbl hgl);have HB3:=Lib.hid hb;clear hb))) | fail
                        all_goals
                          go_wp2_with fail
                          go_ret
                          exact⟨ret_bool' (HASN.out H3.out).symm,(HOLD.out.drew).trans (HB3.out.mono HOLD.out.size)⟩
                      | true=>
                        have H3:=Lib.hid h3;clear h3
                        go_wp2_with fail
                        first | (go_region_held3 (fun w'=>w'.cell? ⟨b,off+k*2,none⟩=some (.int .i64 x.guard)∧w'.cell? ⟨b,off+k*2+1,none⟩=some (.slice r.1 r.2.1 r.2.2)∧w'.cell? ⟨w.heap.size,0,none⟩=some (.slice v.ins.1 v.ins.2.1 v.ins.2.2)∧w'.cell? ⟨w.heap.size,1,none⟩=some (.slice v.names.1 v.names.2.1 v.names.2.2)∧w'.cell? ⟨w.heap.size,2,none⟩=some (.slice v.outs.1 v.outs.2.1 v.outs.2.2)∧w'.cell? ⟨w.heap.size,3,none⟩=some (.slice v.eqs.1 v.eqs.2.1 v.eqs.2.2)∧w'.cell? ⟨w.heap.size,4,none⟩=some (.slice v.mems.1 v.mems.2.1 v.mems.2.2)∧w'.cell? ⟨w.heap.size,5,none⟩=some (.slice v.conts.1 v.conts.2.1 v.conts.2.2)∧w'.cell? ⟨w.heap.size,6,none⟩=some (.slice (some ⟨b,off,none⟩) v.cross.2.1 v.cross.2.2)∧w'.cell? ⟨w.heap.size,7,none⟩=some (.slice v.again.1 v.again.2.1 v.again.2.2)) (exact HFB.out) ((go_at_call 116;(with_reducible refine(CA.out true _ ((Below.refl _ _).drew) H3.out).mono ?_);rintro e w3 ⟨rfl,hb⟩;replace HFB:=Lib.hid (keep10 HFB.out hb hbl hgl);have HB3:=Lib.hid hb;clear hb))) | fail
                        all_goals
                          go_wp2_with fail
                          go_roundw
                          case rel=>exact⟨k+1,by omega,by go_num,Lib.hid (by rw [all_succ HX.out,hz.out,HAS.out H3.out (by rw [HN.out];exact H2.out)];rfl),Lib.hid ((hbr.out.drew).trans (HB3.out.mono hgl))⟩
                          case measure=>simp [intOf];omega
                  · have HXA:Hid (crsB f=true):=Lib.hid (all_end HLX.out (by rw [show v.cross.2.1=k by omega];exact hz.out))
                    have HFIN:Hid (goodB f=(wiB f.outs v.names.2.1&&wiB f.again v.names.2.1)):=Lib.hid (by
                      unfold goodB keptB
                      rw [HON.out,HEQ.out,HMM.out,HCA.out,HXA.out,HN.out];simp)
                    have HO:=Lib.hid his.outs
                    have HA:=Lib.hid his.again
                    clear his hfb
                    cases h1:wiB f.outs v.names.2.1 with
                    | false=>
                      have H1:=Lib.hid h1;clear h1
                      go_wp2_with (go_at_call 114;(with_reducible refine(within_at v.outs.1 v.outs.2.1 v.outs.2.2 B f.outs v.names.2.1 false _ HO.out H1.out).mono ?_);rintro e w' ⟨rfl,rfl⟩)
                      go_ret
                      exact⟨ret_bool' (by rw [HFIN.out,H1.out];rfl),HOLD.out⟩
                    | true=>
                      have H1:=Lib.hid h1;clear h1
                      cases h2:wiB f.again v.names.2.1 with
                      | false=>
                        have H2:=Lib.hid h2;clear h2
                        go_wp2_with (first | (go_at_call 114;(with_reducible refine(within_at v.outs.1 v.outs.2.1 v.outs.2.2 B f.outs v.names.2.1 true _ HO.out H1.out).mono ?_);rintro e w' ⟨rfl,rfl⟩) | (go_at_call 114;(with_reducible refine(within_at v.again.1 v.again.2.1 v.again.2.2 B f.again v.names.2.1 false _ HA.out H2.out).mono ?_);rintro e w' ⟨rfl,rfl⟩))
                        go_ret
                        exact⟨ret_bool' (by rw [HFIN.out,H1.out,H2.out];rfl),HOLD.out⟩
                      | true=>
                        have H2:=Lib.hid h2;clear h2
                        go_wp2_with (first | (go_at_call 114;(with_reducible refine(within_at v.outs.1 v.outs.2.1 v.outs.2.2 B f.outs v.names.2.1 true _ HO.out H1.out).mono ?_);rintro e w' ⟨rfl,rfl⟩) | (go_at_call 114;(with_reducible refine(within_at v.again.1 v.again.2.1 v.again.2.2 B f.again v.names.2.1 true _ HA.out H2.out).mono ?_);rintro e w' ⟨rfl,rfl⟩))
                        go_ret
                        exact⟨ret_bool' (by rw [HFIN.out,H1.out,H2.out];rfl),HOLD.out⟩
end Go.Proofs.YtpnlbjnbgemocaaGreat
