import Derived.Test.YtpnlbjnbgemocaaGreatZRoARfA
import Derived.Deep.DeepCutAuto
namespace Go.Proofs.YtpnlbjnbgemocaaGreat
set_option linter.unusedVariables false
set_option linter.unusedSimpArgs false
set_option maxRecDepth 100000
open Go.RowKit Gr
set_option maxHeartbeats 4000000 in
theorem rfr_yes (v : FlatV) (f : FlatM) (B : Nat) (A A2 : Option Addr) (m c m2 c2 : Nat) (S : Int) (o sl : List Int) (w : World) (h : FlatIs w B v f) (hB : B ≤ w.heap.size) (h1 : IRow w B A m c o) (h2 : IRow w B A2 m2 c2 sl) (hn : v.names.2.1 ≤ 1000000) (hg : goodB f = true) (hs : SmallF f) (ho : m = v.names.2.1) (ho2 : m2 = v.names.2.1) (hS : -9223372036854775808 ≤ S ∧ S ≤ 9223372036854775807) :
    Calls Tryz.prog 68 #[flatV v,planV A m c A2 m2 c2 S] w (TellsIf (RightP f v.names.2.1 o sl S) w):=by
  have hm1:=h1.len_le
  have hm2:=h2.len_le
  unfold maxLen at hm1 hm2
  obtain⟨W1,hW1⟩:∃ W1,W1=(w.alloc (.cells (fvs v) 83)).alloc (.cells #[.slice A m c,.slice A2 m2 c2,.int .i64 S] 86):=⟨_,rfl⟩
  have hb1:Below w.heap.size w W1:=by rw [hW1];exact((Below.refl _ _).alloc (Nat.le_refl _) _).alloc (by simp) _
  have hs1:W1.heap.size=w.heap.size+2:=by rw [hW1];simp
  have HP:=Lib.hid (show Blk W1 (w.heap.size+1) 86 #[.slice A m c,.slice A2 m2 c2,.int .i64 S] from by rw [hW1];have:=Blk.new (w.alloc (.cells (fvs v) 83)) 86 #[.slice A m c,.slice A2 m2 c2,.int .i64 S];rw [size_alloc] at this;exact this)
  have HK:=Lib.hid (show Blk W1 w.heap.size 83 (fvs v) from by rw [hW1];exact(Blk.new _ _ _).alloc _)
  have HB:=Lib.hid (Below.refl W1.heap.size W1)
  have HW1:=Lib.hid hb1
  have HS1:Hid (B≤W1.heap.size):=Lib.hid (by omega)
  have HS:Hid (W1.heap.size≤W1.heap.size):=Lib.hid (Nat.le_refl _)
  have HGC:=Lib.hid (by have:=refGood_t v f B W1 (h.below (hb1.mono hB)) HS1.out (by omega);rw [hg] at this;exact this:Calls Tryz.prog 64 #[flatV v] W1 fun e w'=>e=.returned (.bool true)∧Below W1.heap.size W1 w')
  unfold flatV sl3 at HGC
  subst ho
  subst ho2
  have hsm:v.names.2.1≤200:=by rw [←h.names.1];exact hs.names
  have HN:=Lib.hid h.names.1
  have HGL:Hid ((gOf f).length=v.names.2.1):=Lib.hid (by unfold gOf;rw [gTo_len];exact h.names.1)
  have HLO:=Lib.hid h1.1
  have HLS:=Lib.hid h2.1
  have HIS:=Lib.hid (fun W (hb:Below W1.heap.size W1 W)=>h.below (hb1.trans (hb.mono (by omega)) |>.mono hB))
  have HR1:=Lib.hid (fun W (hb:Below W1.heap.size W1 W)=>h1.below (hb1.trans (hb.mono (by omega)) |>.mono hB))
  have HR2:=Lib.hid (fun W (hb:Below W1.heap.size W1 W)=>h2.below (hb1.trans (hb.mono (by omega)) |>.mono hB))
  have HNC:=Lib.hid (fun W (hb:Below W1.heap.size W1 W)=>needs14_t v f B W (HIS.out W hb) (Nat.le_trans HS1.out hb.size) hg hs)
  have HLC:=Lib.hid (fun W (hb:Below W1.heap.size W1 W)=>lasts_t v f B A v.names.2.1 c B o W (HIS.out W hb) (Nat.le_trans HS1.out hb.size) hg hs (HR1.out W hb) (Nat.le_trans HS1.out hb.size) hn)
  have HGS:=Lib.hid hg
  have HSS:=Lib.hid hS
  unfold flatV sl3 at HNC HLC
  clear h hB h1 h2 hg hs hb1 hS
  obtain⟨f0,f1,f2,f3,f4,f5,f6,f7⟩:=HK.out.flat
  have r0:=HP.out.cell 0 rfl
  have r1:=HP.out.cell 1 rfl
  have r2:=HP.out.cell 2 rfl
  unfold flatV sl3 planV
  unfold fvs at hW1
  go_enter Tryz.func68,Tryz.ntmps68
  go_upto_region 1 with fail
  rw [←hW1]
  clear hW1
  go_upto_region 5 with (first | (go_at_call 64;(with_reducible refine HGC.out.mono ?_);rintro e w1 ⟨rfl,hb1⟩;replace HB:=Lib.hid (HB.out.trans (hb1.mono HB.out.size));replace HS:=Lib.hid (Nat.le_trans HS.out hb1.size);clear hb1;clear f0 f1 f2 f3 f4 f5 f6 f7 r0 r1 r2;obtain⟨f0,f1,f2,f3,f4,f5,f6,f7⟩:=(HK.out.later HB.out).flat;have r0:=(HP.out.later HB.out).cell 0 rfl;have r1:=(HP.out.later HB.out).cell 1 rfl;have r2:=(HP.out.later HB.out).cell 2 rfl) | (go_at_call 66;(with_reducible refine(HNC.out _ HB.out).mono ?_);rintro e w4 ⟨g4,rfl,hgr,hb4⟩;replace HB:=Lib.hid (HB.out.trans (hb4.mono HS.out));replace HS:=Lib.hid (Nat.le_trans HS.out hb4.size);have HGR:=Lib.hid hgr;clear hgr hb4;clear f0 f1 f2 f3 f4 f5 f6 f7 r0 r1 r2;obtain⟨f0,f1,f2,f3,f4,f5,f6,f7⟩:=(HK.out.later HB.out).flat;have r0:=(HP.out.later HB.out).cell 0 rfl;have r1:=(HP.out.later HB.out).cell 1 rfl;have r2:=(HP.out.later HB.out).cell 2 rfl))
  rw [HN.out] at HGR
  rw [HN.out]
  have HKW:Hid (∀ W,Below w4.heap.size w4 W→Blk W w.heap.size 83 (fvs v)∧Blk W (w.heap.size+1) 86 #[.slice A v.names.2.1 c,.slice A2 v.names.2.1 c2,.int .i64 S]∧GRow W w4.heap.size (some ⟨g4,0,none⟩) v.names.2.1 v.names.2.1 (gOf f)∧IRow W B A v.names.2.1 c o∧IRow W B A2 v.names.2.1 c2 sl∧Below W1.heap.size W1 W):=Lib.hid fun W hb=>
    have hbb:Below W1.heap.size W1 W:=HB.out.trans (hb.mono HS.out)
    ⟨HK.out.later hbb,HP.out.later hbb,HGR.out.below hb,HR1.out W hbb,HR2.out W hbb,hbb⟩
  clear HGR
  go_wp2_with fail
  clear f0 f1 f2 f3 f4 f5 f6 f7 r0 r1 r2
  go_loopw [7] (fun t wr=>∃ x:Nat,x≤v.names.2.1∧t=.int .i64 x∧Hid (Ph1 f o sl S v.names.2.1 x)∧Hid (Below w4.heap.size w4 wr)) (fun t _=>v.names.2.1-(intOf t).toNat)
  case atStart=>exact⟨0,Nat.zero_le _,rfl,Lib.hid (fun v hv=>by omega),Lib.hid (Below.refl _ _)⟩
  case round =>
    obtain⟨x,hx,rfl,hph,hbr⟩:=hrel
    obtain⟨hfb,hpb,hgr,hro,hrs,hbb⟩:=HKW.out _ hbr.out
    have HBW:Hid (Below w.heap.size w wr):=Lib.hid (HW1.out.trans (hbb.mono HW1.out.size))
    have HBB:=Lib.hid hbb
    have HGR:=Lib.hid hgr
    have HRO:=Lib.hid hro
    have HFB:=Lib.hid hfb
    have r0:=hpb.cell 0 rfl
    have r1:=hpb.cell 1 rfl
    have r2:=hpb.cell 2 rfl
    clear hfb hpb hgr hro hbb
    by_cases hlt:x<v.names.2.1
    · obtain ⟨b2, off2, rfl, hlb2, sc⟩ := hrs.at_ hlt
      obtain⟨s,hs⟩:∃ s,s=sl.getD x 0:=⟨_,rfl⟩
      rw [←hs] at sc
      obtain⟨a,ha⟩:∃ a,a=plc o (x:Int):=⟨_,rfl⟩
      have har:-1≤a∧a≤(v.names.2.1:Int):=by rw [ha,←HLO.out];exact plc_rng o x
      have HA:=Lib.hid ha
      have HSX:=Lib.hid hs
      have HSM:Hid (sl.getD x 0∈sl):=Lib.hid (getD_mem (by rw [HLS.out];exact hlt))
      clear hrs ha hs
      by_cases ha0:a<0
      · have HNO:Hid (¬ RightP f v.names.2.1 o sl S):=Lib.hid fun r=>by
          obtain⟨i,_,e,_⟩:=r.once.plc hlt
          rw [HA.out] at ha0;omega
        go_wp2_with (go_at_call 120;(with_reducible refine(place_t A v.names.2.1 c B o (x:Int) _ HRO.out).mono ?_);rintro e w' ⟨rfl,rfl⟩;rw [←HA.out])
        go_quiet (fail)
        go_wp2
        go_ret
        exact TellsIf.no HNO.out (below_drewN HBW.out)
      · have ha1 : 0 ≤ a := by omega
        have ha2:(decide (a<0))=false:=decide_eq_false ha0
        by_cases hs0:s<0
        · have HNO:Hid (¬ RightP f v.names.2.1 o sl S):=Lib.hid fun r=>by
            have:=r.slots.2 _ HSM.out
            rw [←HSX.out] at this;omega
          go_wp2_with (go_at_call 120;(with_reducible refine(place_t A v.names.2.1 c B o (x:Int) _ HRO.out).mono ?_);rintro e w' ⟨rfl,rfl⟩;rw [←HA.out])
          go_quiet (fail)
          go_wp2
          go_ret
          exact TellsIf.no HNO.out (below_drewN HBW.out)
        · have hs1 : 0 ≤ s := by omega
          have hs3:(decide (s<0))=false:=decide_eq_false hs0
          by_cases hsS:S≤s
          · have HNO:Hid (¬ RightP f v.names.2.1 o sl S):=Lib.hid fun r=>by
              have:=r.slots.2 _ HSM.out
              rw [←HSX.out] at this;omega
            go_wp2_with (go_at_call 120;(with_reducible refine(place_t A v.names.2.1 c B o (x:Int) _ HRO.out).mono ?_);rintro e w' ⟨rfl,rfl⟩;rw [←HA.out])
            go_quiet (fail)
            go_wp2
            go_ret
            exact TellsIf.no HNO.out (below_drewN HBW.out)
          · have hs2 : s < S := by omega
            have hs4:(decide (S≤s))=false:=decide_eq_false hsS
            go_wp2_with (go_at_call 120;(with_reducible refine(place_t A v.names.2.1 c B o (x:Int) _ HRO.out).mono ?_);rintro e w' ⟨rfl,rfl⟩;rw [←HA.out])
            go_quiet (fail)
            go_wp2
            clear r0 r1 r2 sc HGR HRO HFB HBW HBB
            go_loopw [9] (fun t wr=>∃ k:Nat,k≤v.names.2.1∧t=.int .i64 k∧Hid (∀ u:Nat,u<k→ndB (gOf f) (x:Int) (u:Int)=true→plc o (u:Int)<a)∧Hid (Below w4.heap.size w4 wr)) (fun t _=>v.names.2.1-(intOf t).toNat)
            case atStart=>exact⟨0,Nat.zero_le _,rfl,Lib.hid (fun u hu=>by omega),Lib.hid (below_drewN hbr.out)⟩
            case round=>
              obtain⟨k,hk,rfl,hpk,hbr⟩:=hrel
              obtain⟨hfb,hpb,hgr,hro,hrs,hbb⟩:=HKW.out _ hbr.out
              have HBW:Hid (Below w.heap.size w wr):=Lib.hid (HW1.out.trans (hbb.mono HW1.out.size))
              have HGR:=Lib.hid hgr
              have HRO:=Lib.hid hro
              have r0:=hpb.cell 0 rfl
              have r1:=hpb.cell 1 rfl
              have r2:=hpb.cell 2 rfl
              clear hfb hpb hgr hro hrs hbb
              by_cases hlk:k<v.names.2.1
              · cases hnd:ndB (gOf f) (x:Int) (k:Int) with
                | false=>
                  have HND:=Lib.hid hnd;clear hnd
                  go_wp2_with (go_at_call 117;(with_reducible refine(needs_any (some ⟨g4,0,none⟩) v.names.2.1 v.names.2.1 w4.heap.size (gOf f) (x:Int) (k:Int) _ HGR.out).mono ?_);rintro e w' ⟨rfl,rfl⟩;rw [HND.out])
                  go_roundw
                  case rel=>exact⟨k+1,by omega,by go_num,Lib.hid (fun u hu h=>by
                    by_cases e:u=k
                    · subst e;rw [HND.out] at h;cases h
                    · exact hpk.out u (by omega) h),hbr⟩
                  case measure=>simp [intOf];omega
                | true=>
                  have HND:=Lib.hid hnd;clear hnd
                  obtain⟨y,hy⟩:∃ y,y=plc o (k:Int):=⟨_,rfl⟩
                  have hyr:-1≤y∧y≤(v.names.2.1:Int):=by rw [hy,←HLO.out];exact plc_rng o k
                  have HY:=Lib.hid hy;clear hy
                  by_cases hya:y<a
                  · go_wp2_with (first | (go_at_call 117;(with_reducible refine(needs_any (some ⟨g4,0,none⟩) v.names.2.1 v.names.2.1 w4.heap.size (gOf f) (x:Int) (k:Int) _ HGR.out).mono ?_);rintro e w' ⟨rfl,rfl⟩;rw [HND.out]) | (go_at_call 120;(with_reducible refine(place_t A v.names.2.1 c B o (k:Int) _ HRO.out).mono ?_);rintro e w' ⟨rfl,rfl⟩;rw [←HY.out]))
                    go_roundw
                    case rel=>exact⟨k+1,by omega,by go_num,Lib.hid (fun u hu h=>by
                      by_cases e:u=k
                      · subst e;rw [←HY.out];exact hya
                      · exact hpk.out u (by omega) h),hbr⟩
                    case measure=>simp [intOf];omega
                  · have hya2:a≤y:=by omega
                    clear hya
                    have HNO:Hid (¬ RightP f v.names.2.1 o sl S):=Lib.hid fun r=>by
                      have:=r.behind x hlt k hlk HND.out
                      rw [←HY.out,←HA.out] at this;omega
                    go_wp2_with (first | (go_at_call 117;(with_reducible refine(needs_any (some ⟨g4,0,none⟩) v.names.2.1 v.names.2.1 w4.heap.size (gOf f) (x:Int) (k:Int) _ HGR.out).mono ?_);rintro e w' ⟨rfl,rfl⟩;rw [HND.out]) | (go_at_call 120;(with_reducible refine(place_t A v.names.2.1 c B o (k:Int) _ HRO.out).mono ?_);rintro e w' ⟨rfl,rfl⟩;rw [←HY.out]))
                    go_ret
                    exact TellsIf.no HNO.out HBW.out
              · obtain rfl:k=v.names.2.1:=by omega
                go_wp2_with fail
                go_roundw
                case rel=>exact⟨x+1,by omega,by go_num,Lib.hid (hph.out.step (by rw [←HA.out];exact ha1) (by rw [←HSX.out];exact hs1) (by rw [←HSX.out];exact hs2) (fun u hu h=>by rw [←HA.out];exact hpk.out u hu h)),hbr⟩
                case measure=>simp [intOf];omega
    · obtain rfl : x = v.names.2.1 := by omega
      have HPH:=hph
      have HON:Hid (Once o v.names.2.1):=Lib.hid (once_of_plc HLO.out fun u hu=>(hph.out u hu).1)
      have HLA:=Lib.hid (HLC.out wr HBB.out)
      obtain⟨f0,f1,f2,f3,f4,f5,f6,f7⟩:=HFB.out.flat
      clear HGR HRO HFB hrs HNC HLC
      go_wp2_with (go_at_call 67;(with_reducible refine HLA.out.mono ?_);rintro e w5 ⟨g5,rfl,hm5,hg5,hb5⟩)
      rw [HN.out] at hm5
      rw [HN.out]
      have HM5:=Lib.hid hm5
      have HB5:Hid (Below w4.heap.size w4 w5):=Lib.hid (hbr.out.trans (hb5.mono hbr.out.size))
      have HG5:Hid (w4.heap.size≤g5):=Lib.hid (Nat.le_trans hbr.out.size hg5)
      clear HLA hm5 hg5 hb5 f0 f1 f2 f3 f4 f5 f6 f7 r0 r1 r2
      go_loopw [11] (fun t wr=>∃ i:Nat,i≤v.names.2.1∧t=.int .i64 i∧Hid (ApartTo (laF f o) o sl i)∧Hid (Below w5.heap.size w5 wr)) (fun t _=>v.names.2.1-(intOf t).toNat)
      case atStart=>exact⟨0,Nat.zero_le _,rfl,Lib.hid (fun a ha=>by omega),Lib.hid (Below.refl _ _)⟩
      case round =>
        obtain⟨i,hi,rfl,hap,hbr5⟩:=hrel
        by_cases hli:i<v.names.2.1
        · go_wp2_with fail
          go_loopw [12] (fun t wr=>∃ k:Nat,k≤i∧t=.int .i64 k∧Hid (∀ k':Nat,k'<k→sl.getD (o.getD k' 0).toNat 0=sl.getD (o.getD i 0).toNat 0→Lpl (laF f o) o k'<i)∧Hid (Below w5.heap.size w5 wr)) (fun t _=>i-(intOf t).toNat)
          case atStart=>exact⟨0,Nat.zero_le _,rfl,Lib.hid (fun k' hk'=>by omega),hbr5⟩
          case round=>
            obtain⟨k,hk,rfl,hpk,hbr6⟩:=hrel
            have HB6:Hid (Below w4.heap.size w4 wr):=Lib.hid (HB5.out.trans (hbr6.out.mono HB5.out.size))
            obtain⟨hfb,hpb,hgr,hro,hrs,hbb⟩:=HKW.out _ HB6.out
            have HBW:Hid (Below w.heap.size w wr):=Lib.hid (HW1.out.trans (hbb.mono HW1.out.size))
            have hm6:=HM5.out.below hbr6.out HM5.out.lt
            have r0:=hpb.cell 0 rfl
            have r1:=hpb.cell 1 rfl
            have r2:=hpb.cell 2 rfl
            clear hfb hpb hgr hbb
            by_cases hlk:k<i
            · obtain⟨b,off,rfl,hlb,oc⟩:=hro.at_ hli
              obtain⟨b',off',hbe,hlb',oc'⟩:=hro.at_ (show k<v.names.2.1 by omega)
              injection hbe with hbe
              injection hbe with hb1 hb2 _
              subst hb1;subst hb2
              obtain⟨u,hu,hou⟩:=HON.out.get hli
              obtain⟨y,hy,hoy⟩:=HON.out.get (show k<v.names.2.1 by omega)
              rw [hou] at oc
              rw [hoy] at oc'
              obtain⟨b2,off2,rfl,hlb2,sc⟩:=hrs.at_ hu
              obtain⟨b2',off2',hbe,hlb2',sc'⟩:=hrs.at_ hy
              injection hbe with hbe
              injection hbe with hb1 hb2 _
              subst hb1;subst hb2
              have lc:=hm6.cell y (by rw [lasts_len];exact hy)
              rw [lasts_get _ _ _ hy] at lc
              have hge:=lastV_ge (f:=f) HON.out hy
              obtain⟨j,hj,ej,_⟩:=HON.out.plc hy
              obtain⟨M,hM⟩:∃ M:Nat,lastV (gOf f) (endB f) o y=(M:Int):=⟨(lastV (gOf f) (endB f) o y).toNat,by omega⟩
              rw [hM] at lc
              have HLP:Hid (Lpl (laF f o) o k=M):=Lib.hid (by unfold Lpl laF;rw [hoy,Int.toNat_natCast,hM];simp)
              obtain⟨s2,hs2⟩:∃ s2,s2=sl.getD u 0:=⟨_,rfl⟩
              obtain⟨s1,hs1⟩:∃ s1,s1=sl.getD y 0:=⟨_,rfl⟩
              rw [←hs2] at sc
              rw [←hs1] at sc'
              have HS2:Hid (sl.getD (o.getD i 0).toNat 0=s2):=Lib.hid (by rw [hou,Int.toNat_natCast,hs2])
              have HS1':Hid (sl.getD (o.getD k 0).toNat 0=s1):=Lib.hid (by rw [hoy,Int.toNat_natCast,hs1])
              have huI:(u:Int)<(v.names.2.1:Int):=by omega
              have hyI:(y:Int)<(v.names.2.1:Int):=by omega
              have hkI:(k:Int)<(v.names.2.1:Int):=by omega
              have hiI:(i:Int)<(v.names.2.1:Int):=by omega
              clear hro hrs hge ej hM hs1 hs2 hou hoy hm6 hj
              by_cases hse:s1=s2
              · by_cases hMi:i≤M
                · have hMI:(i:Int)≤(M:Int):=by omega
                  have HNO:Hid (¬ RightP f v.names.2.1 o sl S):=Lib.hid fun r=>by
                    have:=r.apart i hli k hlk (by rw [HS1'.out,HS2.out,hse])
                    rw [HLP.out] at this;omega
                  have hd1:(decide ((i:Int)≤(M:Int)))=true:=decide_eq_true hMI
                  subst hse
                  go_wp2_with fail
                  go_quiet (fail)
                  go_wp2
                  go_quiet (fail)
                  go_wp2
                  go_ret
                  first | exact TellsIf.no HNO.out (below_drewN HBW.out) | exact TellsIf.no HNO.out (below_drewN (below_drewN HBW.out))
                · have hMI:(M:Int)<(i:Int):=by omega
                  have hMJ:¬(i:Int)≤(M:Int):=by omega
                  have hd1:(decide ((i:Int)≤(M:Int)))=false:=decide_eq_false hMJ
                  subst hse
                  go_wp2_with fail
                  go_quiet (fail)
                  go_wp2
                  go_quiet (fail)
                  go_wp2
                  go_roundw
                  case rel=>exact⟨k+1,by omega,by go_num,Lib.hid (fun k' hk' e=>by
                    by_cases ek:k'=k
                    · subst ek;rw [HLP.out];omega
                    · exact hpk.out k' (by omega) e),Lib.hid (below_drewN hbr6.out)⟩
                  case measure=>simp [intOf];omega
              · have hd1:(s1==s2)=false:=by rw [beq_eq_false_iff_ne];exact hse
                go_wp2_with fail
                go_quiet (fail)
                go_wp2
                go_quiet (fail)
                go_wp2
                go_roundw
                case rel=>exact⟨k+1,by omega,by go_num,Lib.hid (fun k' hk' e=>by
                  by_cases ek:k'=k
                  · subst ek;rw [HS1'.out,HS2.out] at e;exact(hse e).elim
                  · exact hpk.out k' (by omega) e),Lib.hid (below_drewN hbr6.out)⟩
                case measure=>simp [intOf];omega
            · obtain rfl:k=i:=by omega
              clear r0 r1 r2 hro hrs hm6
              go_wp2_with fail
              go_roundw
              case rel=>exact⟨k+1,by omega,by go_num,Lib.hid (fun a ha k' hk' e=>by
                by_cases ea:a=k
                · subst ea;exact hpk.out k' hk' e
                · exact hap.out a (by omega) k' hk' e),hbr6⟩
              case measure=>simp [intOf];omega
        · obtain rfl:i=v.names.2.1:=by omega
          have HRT:Hid (RightP f v.names.2.1 o sl S):=Lib.hid (HPH.out.right HGS.out HLO.out HLS.out hap.out)
          have HBW:Hid (Below w.heap.size w wr):=Lib.hid (HW1.out.trans (((HKW.out _ (HB5.out.trans (hbr5.out.mono HB5.out.size))).2.2.2.2.2).mono HW1.out.size))
          go_wp2_with fail
          go_ret
          exact TellsIf.yes HRT.out HBW.out
theorem refRight_t (v:FlatV)(f:FlatM)(B:Nat)(A A2:Option Addr)(m c m2 c2:Nat)(S:Int)(o sl:List Int)(w:World)(h:FlatIs w B v f)(hB:B≤w.heap.size)(h1:IRow w B A m c o)(h2:IRow w B A2 m2 c2 sl)(hs:SmallF f)(hS:-9223372036854775808≤S∧S≤9223372036854775807) :
    Calls Tryz.prog 68 #[flatV v,planV A m c A2 m2 c2 S] w (TellsIf (RightP f v.names.2.1 o sl S) w):=by
  have hn:v.names.2.1≤1000000:=by rw [←h.names.1];have:=hs.names;omega
  have no:∀ {e:Ending} {w':World},¬ RightP f v.names.2.1 o sl S→(e=.returned (.bool false)∧Below w.heap.size w w')→TellsIf (RightP f v.names.2.1 o sl S) w e w':=fun hno q=>by
    obtain⟨rfl,hb⟩:=q
    exact TellsIf.no hno hb
  cases hg:goodB f with
  | false=>exact(rfr_no1 v f B A A2 m c m2 c2 S o sl w h hB h1 h2 hn hg).mono fun e w' q=>no (fun r=>by rw [r.good] at hg;cases hg) q
  | true=>
    by_cases ho:m=v.names.2.1
    · by_cases hsl:m2=v.names.2.1
      · exact rfr_yes v f B A A2 m c m2 c2 S o sl w h hB h1 h2 hn hg hs ho hsl hS
      · exact(rfr_no3 v f B A A2 m c m2 c2 S o sl w h hB h1 h2 hn hg ho hsl).mono fun e w' q=>no (fun r=>hsl (h2.1.symm.trans r.slots.1)) q
    · exact(rfr_no2 v f B A A2 m c m2 c2 S o sl w h hB h1 h2 hn hg ho).mono fun e w' q=>no (fun r=>ho (h1.1.symm.trans r.once.len)) q
end Go.Proofs.YtpnlbjnbgemocaaGreat
