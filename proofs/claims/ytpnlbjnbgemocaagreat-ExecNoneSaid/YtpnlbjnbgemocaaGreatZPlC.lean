import Derived.Test.YtpnlbjnbgemocaaGreatZSfAToFlPN13
import Derived.Test.YtpnlbjnbgemocaaGreatZFlAToHpKN11
import Derived.Deep.RegionHeld3
import Derived.Deep.DeepCutAuto
namespace Go.Proofs.YtpnlbjnbgemocaaGreat
set_option linter.unusedVariables false
set_option linter.unusedSimpArgs false
set_option maxRecDepth 100000
open Go.RowKit
theorem keepc2 {W w3:World}{C:Nat}{p0 p1:Addr}{x0 x1:Value}(h:W.cell? p0=some x0∧W.cell? p1=some x1)(hb:Below C W w3)(h0:p0.block<C)(h1:p1.block<C):w3.cell? p0=some x0∧w3.cell? p1=some x1:=⟨(hb.cell h0).trans h.1,(hb.cell h1).trans h.2⟩
theorem keepc4 {W w3:World}{C:Nat}{p0 p1 p2 p3:Addr}{x0 x1 x2 x3:Value}(h:W.cell? p0=some x0∧W.cell? p1=some x1∧W.cell? p2=some x2∧W.cell? p3=some x3)(hb:Below C W w3)(h0:p0.block<C)(h1:p1.block<C)(h2:p2.block<C)(h3:p3.block<C):w3.cell? p0=some x0∧w3.cell? p1=some x1∧w3.cell? p2=some x2∧w3.cell? p3=some x3:=⟨(hb.cell h0).trans h.1,(hb.cell h1).trans h.2.1,(hb.cell h2).trans h.2.2.1,(hb.cell h3).trans h.2.2.2⟩
structure EndSt (w2:World) (C:Nat) (W:World) (u:Value) (l:List Int):Prop where
  own:Own W C u l
  old:Below C w2 W
  size:C≤W.heap.size
theorem EndSt.drew {w2 W:World}{C:Nat}{u:Value}{l:List Int}(h:EndSt w2 C W u l):EndSt w2 C W.drew u l:=⟨h.own.drew,h.old.drew,h.size⟩
theorem EndSt.alloc {w2 W:World}{C:Nat}{u:Value}{l:List Int}(h:EndSt w2 C W u l)(o:Obj):EndSt w2 C (W.alloc o) u l:=⟨h.own.grow1 o,h.old.alloc h.size o,by rw [size_alloc];have:=h.size;omega⟩
theorem EndSt.app {w2 W W':World}{C:Nat}{u u':Value}{l l':List Int}(h:EndSt w2 C W u l)(h1:Own W' C u' l')(h2:Only [u.ownBlock] W W'):EndSt w2 C W' u' l':=
  ⟨h1,h.old.trans (h2.own h.own h.size),Nat.le_trans h.size h2.size⟩
structure EndBx (w2:World) (C e T:Nat) (vs:Array Value) (W:World) (u:Value) (l:List Int):Prop where
  st:EndSt w2 C W u l
  bx:Blk W e T vs
  far:u.ownBlock≠some e
theorem EndSt.box {w2 W:World}{C:Nat}{u:Value}{l:List Int}(h:EndSt w2 C W u l)(T:Nat)(vs:Array Value):EndBx w2 C W.heap.size T vs (W.alloc (.cells vs T)) u l:=
  ⟨h.alloc _,Blk.new _ _ _,fun e=>by have:=(h.own.lt e).2;omega⟩
theorem EndBx.drew {w2 W:World}{C e T:Nat}{vs:Array Value}{u:Value}{l:List Int}(h:EndBx w2 C e T vs W u l):EndBx w2 C e T vs W.drew u l:=⟨h.st.drew,h.bx,h.far⟩
theorem EndBx.alloc {w2 W:World}{C e T:Nat}{vs:Array Value}{u:Value}{l:List Int}(h:EndBx w2 C e T vs W u l)(o:Obj):EndBx w2 C e T vs (W.alloc o) u l:=⟨h.st.alloc o,h.bx.alloc o,h.far⟩
theorem EndBx.app {w2 W W':World}{C e T:Nat}{vs:Array Value}{u u':Value}{l l':List Int}(h:EndBx w2 C e T vs W u l)(h1:Own W' C u' l')(h2:Only [u.ownBlock] W W')(h3:u'.ownBlock=u.ownBlock∨∃ k,u'.ownBlock=some k∧W.heap.size≤k):EndBx w2 C e T vs W' u' l':=by
  refine⟨h.st.app h1 h2,(h2.block e h.bx.lt (fun hm=>h.far (by simpa [eq_comm] using hm))).trans h.bx, ?_⟩
  rcases h3 with h3 | ⟨k,h3,hk⟩
  · rw [h3];exact h.far
  · rw [h3];intro q;injection q with q;have:=h.bx.lt;omega
theorem len_ok {f:FlatM}(hs:SmallF f)(k j i:Nat):(outsE f).length≤100∧(memsE f k).length≤2200∧(contsE f j).length≤2000∧(crosE f i).length≤1000:=by
  refine⟨?_, ?_, ?_, ?_⟩
  · unfold outsE;simp;have:=hs.outs;have:=hs.again;omega
  · refine Nat.le_trans (flat_len_take 22 k f.mems fun i x hx=>?_) (by have:=hs.mems;omega)
    unfold memE;simp;have:=hs.resets i x hx;omega
  · refine Nat.le_trans (flat_len_take 62 j f.conts fun i x hx=>?_) (by have:=hs.conts;omega)
    have h:=hs.creset i x hx
    have h2:(slopesE x.slopes).length≤x.slopes.length*2:=flat_len 2 _ fun i y hy=>by simp
    unfold contE;simp;omega
  · refine Nat.le_trans (flat_len_take 31 i f.cross fun i x hx=>?_) (by have:=hs.cross;omega)
    have h:=hs.ops i x hx
    have h2:(copsE x.ops).length≤x.ops.length*1:=flat_len 1 _ fun i y hy=>by unfold copE;split <;> simp
    unfold crossE;simp;omega
theorem val_slice {w:World}{B:Nat}{u:Value}{xs:List Int}(h:Own w B u xs):∃ a n c,u=.slice a n c:=by
  obtain⟨a,c,e⟩:=h.len;exact⟨a,_,c,e⟩
set_option maxHeartbeats 4000000 in
theorem end14_t (v : FlatV) (f : FlatM) (B : Nat) (w : World) (h : FlatIs w B v f) (hB : B ≤ w.heap.size) (hg : goodB f = true) (hs : SmallF f) :
    Calls Tryz.prog 119 #[flatV v] w (EndPost f w):=by
  have hmM:=h.mems.len_le
  have hmC:=h.conts.len_le
  have hmX:=h.cross.len_le
  have HN:=Lib.hid h.names.1
  have hsm:v.names.2.1≤200:=by rw [←h.names.1];exact hs.names
  have HLO:=Lib.hid h.outs.1
  have HLA:=Lib.hid h.again.1
  have HS:=Lib.hid hs
  have hno:v.outs.2.1≤50:=by rw [←h.outs.1];exact hs.outs
  have hna:v.again.2.1≤50:=by rw [←h.again.1];exact hs.again
  have HG:=Lib.hid hg
  clear hs hg
  have HLM:=Lib.hid h.mems.1
  have HLC:=Lib.hid h.conts.1
  have HLX:=Lib.hid h.cross.1
  have HC:=Lib.hid (Ctx.mk' h hB);clear h hB
  unfold maxLen at hmM hmC hmX
  unfold flatV sl3
  go_enter Tryz.func119,Tryz.ntmps119
  go_wp2_with (at_make;refine makeB rfl _ rfl _ v.names.2.1 rfl rfl (by omega) ?_)
  intro w2 hmem hb2
  have HM2:Hid (BMem w2 (w.heap.size+1) (List.replicate v.names.2.1 false)):=Lib.hid hmem
  have HB2:Hid (Below (w.heap.size+1) (w.alloc (.cells (fvs v) 83)) w2):=Lib.hid hb2
  clear hmem hb2
  have HKB:=Lib.hid (HC.out.blk.below HB2.out (Nat.lt_succ_self _))
  have HIS:=Lib.hid (HC.out.is.below (HB2.out.mono (Nat.le_succ_of_le HC.out.le)))
  have hbC:B≤w.heap.size+2:=Nat.le_trans HC.out.le (by omega)
  obtain⟨f0,f1,f2,f3,f4,f5,f6,f7⟩:=HKB.out.flat
  obtain⟨W2,hW2⟩:∃ W2,w2=W2:=⟨_,rfl⟩
  subst hW2
  have HE:=Lib.hid (show EndSt w2 (w.heap.size+2) w2.drew (.slice none 0 0) [] from⟨Own.nil _ _,(Below.refl _ _).drew,HM2.out.lt⟩)
  have HF:=Lib.hid (show w2.drew.cell? ⟨w.heap.size,2,none⟩=some (.slice v.outs.1 v.outs.2.1 v.outs.2.2)∧w2.drew.cell? ⟨w.heap.size,7,none⟩=some (.slice v.again.1 v.again.2.1 v.again.2.2) from⟨f2,f7⟩)
  go_upto_region 3 with fail
  go_region_held3 (fun w'=>w'.cell? ⟨w.heap.size,2,none⟩=some (.slice v.outs.1 v.outs.2.1 v.outs.2.2)∧w'.cell? ⟨w.heap.size,7,none⟩=some (.slice v.again.1 v.again.2.1 v.again.2.2)) (exact HF.out) (first
    | (refine stepR rfl _ _ 77 Tryz.underlying77 rfl (w.heap.size+2) B (.slice none 0 0) [] v.outs.1 v.outs.2.1 v.outs.2.2 f.outs rfl rfl HE.out.own (HIS.out.outs.below (HE.out.old.mono hbC)) HE.out.size (by simp) (by omega) ?_;intro v1 w1 hown honly hat;replace HF:=Lib.hid (keepc2 HF.out (honly.own HE.out.own HE.out.size) (by simp) (by simp));replace HE:=Lib.hid (HE.out.app hown honly);clear hown honly hat)
    | (refine stepR rfl _ _ 77 Tryz.underlying77 rfl (w.heap.size+2) B v1 ([]++f.outs) v.again.1 v.again.2.1 v.again.2.2 f.again rfl rfl HE.out.own (HIS.out.again.below (HE.out.old.mono hbC)) HE.out.size (by simp;have:=HLO.out;omega) (by omega) ?_;intro v2 w3 hown honly hat;replace HF:=Lib.hid (keepc2 HF.out (honly.own HE.out.own HE.out.size) (by simp) (by simp));replace HE:=Lib.hid (HE.out.app hown honly);clear hown honly hat))
  obtain⟨A0,n0,c0,hv2⟩:=val_slice HE.out.own
  subst hv2
  have HLEN:=Lib.hid (fun k j i=>len_ok HS.out k j i)
  have HE0:Hid (EndSt w2 (w.heap.size+2) w3 (.slice A0 n0 c0) (outsE f++memsE f 0)):=Lib.hid (by
    have:outsE f++memsE f 0=[]++f.outs++f.again:=by simp [outsE,memsE]
    rw [this];exact HE.out)
  clear HE HF f0 f1 f2 f3 f4 f5 f6 f7
  obtain⟨f0,f1,f2,f3,f4,f5,f6,f7⟩:=(HKB.out.below HE0.out.old (by omega)).flat
  go_wp2_with fail
  clear f0 f1 f2 f3 f4 f5 f6 f7
  go_loopw [4,5] (fun s4 s5 wr=>∃(k:Nat) (A:Option Addr) (n c:Nat),k≤v.mems.2.1∧s4=.slice A n c∧s5=.int .i64 k∧Hid (EndSt w2 (w.heap.size+2) wr (.slice A n c) (outsE f++memsE f k))) (fun _ t _=>v.mems.2.1-(intOf t).toNat)
  case atStart=>exact⟨0,A0,n0,c0,Nat.zero_le _,rfl,rfl,HE0⟩
  case round =>
    obtain⟨k,A,n,c,hk,rfl,rfl,hE⟩:=hrel
    obtain⟨f0,f1,f2,f3,f4,f5,f6,f7⟩:=(HKB.out.below hE.out.old (by omega)).flat
    by_cases hlt:k<v.mems.2.1
    · obtain⟨x,hx⟩:=HIS.out.mems.ex hlt
      obtain⟨b,off,ha,hlb,hat⟩:=HIS.out.mems.at_ hx
      obtain⟨m,d,r,_,_,hrow,e0,e1,e2,e3,e4,e5,e6,e7⟩:=hat.cells
      have hbC2:b<(w.heap.size+2):=Nat.lt_of_lt_of_le hlb hbC
      have HX:=Lib.hid hx
      have HROW:=Lib.hid hrow
      have hr20:r.2.1≤20:=by rw [←hrow.1];exact HS.out.resets k x hx
      have hg4:=HKB.out.flat.2.2.2.2.1
      rw [ha] at f4 hg4
      have HF:=Lib.hid (show w2.cell? ⟨w.heap.size,4,none⟩=some (.slice (some ⟨b,off,none⟩) v.mems.2.1 v.mems.2.2)∧w2.cell? ⟨b,off+k*8+5,none⟩=some (.int .i64 x.next)∧w2.cell? ⟨b,off+k*8+6,none⟩=some (.int .i64 x.guard)∧w2.cell? ⟨b,off+k*8+7,none⟩=some (.slice r.1 r.2.1 r.2.2) from⟨hg4,e5,e6,e7⟩)
      clear e0 e1 e2 e3 e4 e5 e6 e7 hat hx hrow ha hg4
      go_upto_region 7 with fail
      go_region_held3 (fun w'=>w'.cell? ⟨w.heap.size,4,none⟩=some (.slice (some ⟨b,off,none⟩) v.mems.2.1 v.mems.2.2)∧w'.cell? ⟨b,off+k*8+5,none⟩=some (.int .i64 x.next)∧w'.cell? ⟨b,off+k*8+6,none⟩=some (.int .i64 x.guard)∧w'.cell? ⟨b,off+k*8+7,none⟩=some (.slice r.1 r.2.1 r.2.2)) (first
        | exact keepc4 HF.out HEB.out.old (by simp) hbC2 hbC2 hbC2
        | exact keepc4 HF.out HEA.out.old (by simp) hbC2 hbC2 hbC2
        | exact keepc4 HF.out hE.out.old.drew (by simp) hbC2 hbC2 hbC2
        | exact keepc4 HF.out (hE.out.alloc _).drew.old (by simp) hbC2 hbC2 hbC2) (first
        | (refine stepR rfl _ _ 77 Tryz.underlying77 rfl (w.heap.size+2) (wr.heap.size+1) (.slice A n c) (outsE f++memsE f k) (some ⟨wr.heap.size,0,none⟩) 2 2 [x.next,x.guard] rfl rfl (hE.out.alloc _).drew.own ((irow2 wr _ _ _).below (Below.refl _ _).drew) (hE.out.alloc _).drew.size (by have:=HLEN.out k 0 0;simp;omega) (by omega) ?_;intro v1 w1 hown honly hat;have HEA:=Lib.hid ((hE.out.alloc _).drew.app hown honly);clear hown honly hat)
        | (refine stepR rfl _ _ 77 Tryz.underlying77 rfl (w.heap.size+2) B v1 (outsE f++memsE f k++[x.next,x.guard]) r.1 r.2.1 r.2.2 x.resets rfl rfl HEA.out.own (HROW.out.below (HEA.out.old.mono hbC)) HEA.out.size (by have:=HLEN.out k 0 0;simp;omega) (by omega) ?_;intro v2 w3 hown honly hat;obtain⟨A2,n2,c2,hv2⟩:=val_slice hown;subst hv2;have HEB:=Lib.hid (HEA.out.app hown honly);clear hown honly hat))
      go_wp2
      go_roundw
      case rel=>exact⟨k+1,A2,n2,c2,by omega,rfl,by go_num,Lib.hid (by
        have:outsE f++memsE f (k+1)=outsE f++memsE f k++[x.next,x.guard]++x.resets:=by unfold memsE;rw [flat_succ HX.out];simp [memE]
        rw [this];exact HEB.out)⟩
      case measure=>simp [intOf];omega
    · obtain rfl : k = v.mems.2.1 := by omega
      have HE1:Hid (EndSt w2 (w.heap.size+2) wr (.slice A n c) (outsE f++memsE f f.mems.length++contsE f 0)):=Lib.hid (by
        have:outsE f++memsE f f.mems.length++contsE f 0=outsE f++memsE f v.mems.2.1:=by rw [HLM.out];simp [contsE]
        rw [this];exact hE.out)
      go_wp2_with fail
      clear f0 f1 f2 f3 f4 f5 f6 f7 hE HE0
      obtain⟨wo,rfl⟩:∃ wo:World,wo=wr:=⟨_,rfl⟩
      obtain⟨LM,hLM⟩:∃ LM,LM=outsE f++memsE f f.mems.length:=⟨_,rfl⟩
      rw [←hLM] at HE1
      have HLM2:Hid (LM.length≤2300):=Lib.hid (by rw [hLM];have:=HLEN.out f.mems.length 0 0;simp;omega)
      have HLME:=Lib.hid hLM;clear hLM
      go_loopw [4,6] (fun s4 s6 wr=>∃(k:Nat) (A:Option Addr) (n c:Nat),k≤v.conts.2.1∧s4=.slice A n c∧s6=.int .i64 k∧Hid (EndSt w2 (w.heap.size+2) wr (.slice A n c) (LM++contsE f k))) (fun _ t _=>v.conts.2.1-(intOf t).toNat)
      case atStart=>exact⟨0,A,n,c,Nat.zero_le _,rfl,rfl,HE1⟩
      case round =>
        obtain⟨k,A,n,c,hk,rfl,rfl,hE⟩:=hrel
        obtain⟨f0,f1,f2,f3,f4,f5,f6,f7⟩:=(HKB.out.below hE.out.old (by omega)).flat
        by_cases hlt:k<v.conts.2.1
        · obtain ⟨wq, rfl⟩ : ∃ wq : World, wq = wr := ⟨_, rfl⟩
          obtain⟨x,hx⟩:=HIS.out.conts.ex hlt
          obtain⟨b,off,ha,hlb,hat⟩:=HIS.out.conts.at_ hx
          obtain⟨m,d,r,s,_,_,hrow,hrs,e0,e1,e2,e3,e4,e5,e6,e7,e8⟩:=hat.cells
          have hbC2:b<(w.heap.size+2):=Nat.lt_of_lt_of_le hlb hbC
          have ec:∀(i:Nat) (u:Value),w2.cell? ⟨b,i,none⟩=some u→wq.cell? ⟨b,i,none⟩=some u:=fun i u h=>(hE.out.old.cell (p:=⟨b,i,none⟩) hbC2).trans h
          replace e0:=ec _ _ e0;replace e1:=ec _ _ e1;replace e2:=ec _ _ e2;replace e3:=ec _ _ e3;replace e4:=ec _ _ e4;replace e5:=ec _ _ e5;replace e6:=ec _ _ e6;replace e7:=ec _ _ e7;replace e8:=ec _ _ e8
          have HX:=Lib.hid hx
          have HROW:=Lib.hid hrow
          have HRS:=Lib.hid hrs
          have hsm:=hrs.len_le
          unfold maxLen at hsm
          have hr20:r.2.1≤20:=by rw [←hrow.1];exact(HS.out.creset k x hx).1
          have hs20:s.2.1≤20:=by rw [←hrs.1];exact(HS.out.creset k x hx).2
          have HSL:=Lib.hid hrs.1
          have hqs:(w.heap.size+2)≤wq.heap.size:=hE.out.size
          have HBX:=Lib.hid (hE.out.box 140 (contvs x m d r s))
          have HLK:Hid ((LM++contsE f k).length≤5000):=Lib.hid (by have:=HLEN.out 0 k 0;have:=HLM2.out;simp;omega)
          obtain⟨LC,hLC⟩:∃ LC,LC=LM++contsE f k:=⟨_,rfl⟩
          have HKEEP:Hid (∀(W:World) (u:Value) (l:List Int),EndBx w2 (w.heap.size+2) wq.heap.size 140 (contvs x m d r s) W u l→(W.cell? ⟨wq.heap.size,5,none⟩=some (.int .i64 x.var)∧W.cell? ⟨wq.heap.size,6,none⟩=some (.int .i64 x.guard)∧W.cell? ⟨wq.heap.size,7,none⟩=some (.slice r.1 r.2.1 r.2.2))):=Lib.hid fun W u l h=>⟨h.bx.cell 5 rfl,h.bx.cell 6 rfl,h.bx.cell 7 rfl⟩
          rw [←hLC] at HBX HLK
          have HLCE:=Lib.hid hLC
          rw [ha] at f5
          clear hat hx hrow hrs ha ec hLC
          go_upto_region 12 with fail
          go_region_held3 (fun w'=>w'.cell? ⟨wq.heap.size,5,none⟩=some (.int .i64 x.var)∧w'.cell? ⟨wq.heap.size,6,none⟩=some (.int .i64 x.guard)∧w'.cell? ⟨wq.heap.size,7,none⟩=some (.slice r.1 r.2.1 r.2.2)) (first
            | exact HKEEP.out _ _ _ HEB.out
            | exact HKEEP.out _ _ _ HEA.out
            | exact HKEEP.out _ _ _ HBX.out.drew
            | exact HKEEP.out _ _ _ (HBX.out.alloc _).drew) (first
            | (refine stepR rfl _ _ 77 Tryz.underlying77 rfl (w.heap.size+2) (wq.heap.size+2) (.slice A n c) LC (some ⟨wq.heap.size+1,0,none⟩) 2 2 [x.var,x.guard] rfl rfl (HBX.out.alloc _).drew.st.own ((irow2h _ (size_alloc _ _) _ _ _).below (Below.refl _ _).drew) (HBX.out.alloc _).drew.st.size (by have:=HLK.out;omega) (by omega) ?_;intro v1 w1 hown honly hat;have HEA:=Lib.hid ((HBX.out.alloc _).drew.app hown honly hat);clear hown honly hat)
            | (refine stepR rfl _ _ 77 Tryz.underlying77 rfl (w.heap.size+2) B v1 (LC++[x.var,x.guard]) r.1 r.2.1 r.2.2 x.resets rfl rfl HEA.out.st.own (HROW.out.below (HEA.out.st.old.mono hbC)) HEA.out.st.size (by have:=HLK.out;simp;omega) (by omega) ?_;intro v2 w3 hown honly hat;obtain⟨A2,n2,c2,hv2⟩:=val_slice hown;subst hv2;have HEB:=Lib.hid (HEA.out.app hown honly hat);clear hown honly hat))
          have HE3:Hid (EndBx w2 (w.heap.size+2) wq.heap.size 140 (contvs x m d r s) w3 (.slice A2 n2 c2) (LC++[x.var,x.guard]++x.resets++slopesE (x.slopes.take 0))):=Lib.hid (by
            have:LC++[x.var,x.guard]++x.resets++slopesE (x.slopes.take 0)=LC++[x.var,x.guard]++x.resets:=by simp [slopesE]
            rw [this];exact HEB.out)
          have k8:w3.cell? ⟨wq.heap.size,8,none⟩=some (.slice s.1 s.2.1 s.2.2):=HEB.out.bx.cell 8 rfl
          go_wp2_with fail
          clear HEA HEB k8 e0 e1 e2 e3 e4 e5 e6 e7 e8
          go_loopw [4,8] (fun s4 s8 wr=>∃(j:Nat) (A:Option Addr) (n c:Nat),j≤s.2.1∧s4=.slice A n c∧s8=.int .i64 j∧Hid (EndBx w2 (w.heap.size+2) wq.heap.size 140 (contvs x m d r s) wr (.slice A n c) (LC++[x.var,x.guard]++x.resets++slopesE (x.slopes.take j)))) (fun _ t _=>s.2.1-(intOf t).toNat)
          case atStart=>exact⟨0,A2,n2,c2,Nat.zero_le _,rfl,rfl,HE3⟩
          case round=>
            obtain⟨j,A,n,c,hj,rfl,rfl,hE2⟩:=hrel
            have k8:wr.cell? ⟨wq.heap.size,8,none⟩=some (.slice s.1 s.2.1 s.2.2):=hE2.out.bx.cell 8 rfl
            by_cases hlt2:j<s.2.1
            · obtain⟨y,hy⟩:=HRS.out.ex hlt2
              obtain⟨b3,off3,ha3,hlb3,hat3⟩:=HRS.out.at_ hy
              obtain⟨g0,g1⟩:=hat3.cells
              have hbC3:b3<(w.heap.size+2):=Nat.lt_of_lt_of_le hlb3 hbC
              have HY:=Lib.hid hy
              have HLL:Hid ((LC++[x.var,x.guard]++x.resets++slopesE (x.slopes.take j)).length≤10000):=Lib.hid (by
                have h1:=HLK.out;have h2:=HROW.out.1;have h3:=HSL.out
                have h4:=flat_len_take (g:=fun s:SlopeM=>[s.guard,s.var]) 2 j x.slopes (fun i y _=>by simp)
                unfold slopesE;simp only [List.length_append,List.length_cons,List.length_nil];omega)
              obtain⟨LX,hLX⟩:∃ LX,LX=LC++[x.var,x.guard]++x.resets++slopesE (x.slopes.take j):=⟨_,rfl⟩
              have HKP:Hid (∀(W:World) (u:Value) (l:List Int),EndBx w2 (w.heap.size+2) wq.heap.size 140 (contvs x m d r s) W u l→(W.cell? ⟨wq.heap.size,8,none⟩=some (.slice (some ⟨b3,off3,none⟩) s.2.1 s.2.2)∧W.cell? ⟨b3,off3+j*2,none⟩=some (.int .i64 y.guard)∧W.cell? ⟨b3,off3+j*2+1,none⟩=some (.int .i64 y.var))):=Lib.hid fun W u l h=>⟨by rw [←ha3];exact h.bx.cell 8 rfl,(h.st.old.cell (p:=⟨b3,off3+j*2,none⟩) hbC3).trans g0,(h.st.old.cell (p:=⟨b3,off3+j*2+1,none⟩) hbC3).trans g1⟩
              rw [ha3] at k8
              rw [←hLX] at hE2 HLL
              have HLXE:=Lib.hid hLX
              have hqw:wq.heap.size<wr.heap.size:=hE2.out.bx.lt
              clear hat3 hy ha3 g0 g1 hLX
              go_upto_region 16 with fail
              go_region_held3 (fun w'=>w'.cell? ⟨wq.heap.size,8,none⟩=some (.slice (some ⟨b3,off3,none⟩) s.2.1 s.2.2)∧w'.cell? ⟨b3,off3+j*2,none⟩=some (.int .i64 y.guard)∧w'.cell? ⟨b3,off3+j*2+1,none⟩=some (.int .i64 y.var)) (first
                | exact HKP.out _ _ _ HEA.out
                | exact HKP.out _ _ _ hE2.out.drew
                | exact HKP.out _ _ _ (hE2.out.alloc _).drew) (first
                | (refine stepR rfl _ _ 77 Tryz.underlying77 rfl (w.heap.size+2) (wr.heap.size+1) (.slice A n c) LX (some ⟨wr.heap.size,0,none⟩) 2 2 [y.guard,y.var] rfl rfl (hE2.out.alloc _).drew.st.own ((irow2 wr _ _ _).below (Below.refl _ _).drew) (hE2.out.alloc _).drew.st.size (by have:=HLL.out;omega) (by omega) ?_;intro v1 w1 hown honly hat;obtain⟨A2,n2,c2,hv2⟩:=val_slice hown;subst hv2;have HEA:=Lib.hid ((hE2.out.alloc _).drew.app hown honly hat);clear hown honly hat))
              go_wp2
              go_roundw
              case rel=>exact⟨j+1,A2,n2,c2,by omega,rfl,by go_num,Lib.hid (by
                have:LC++[x.var,x.guard]++x.resets++slopesE (x.slopes.take (j+1))=LX++[y.guard,y.var]:=by rw [HLXE.out];unfold slopesE;rw [flat_succ HY.out];simp
                rw [this];exact HEA.out)⟩
              case measure=>simp [intOf];omega
            · obtain rfl:j=s.2.1:=by omega
              have HE4:Hid (EndSt w2 (w.heap.size+2) wr (.slice A n c) (LM++contsE f (k+1))):=Lib.hid (by
                have:LM++contsE f (k+1)=LC++[x.var,x.guard]++x.resets++slopesE (x.slopes.take s.2.1):=by
                  rw [HLCE.out];unfold contsE;rw [flat_succ HX.out,List.take_of_length_le (l:=x.slopes) (i:=s.2.1) (by rw [HSL.out];exact Nat.le_refl _)];simp [contE]
                rw [this];exact hE2.out.st)
              go_wp2_with fail
              go_roundw
              case rel=>exact⟨k+1,A,n,c,by omega,rfl,by go_num,HE4⟩
              case measure=>simp [intOf];omega
        · obtain rfl : k = v.conts.2.1 := by omega
          have HE4:Hid (EndSt w2 (w.heap.size+2) wr (.slice A n c) (LM++contsE f f.conts.length++crosE f 0)):=Lib.hid (by
            have:LM++contsE f f.conts.length++crosE f 0=LM++contsE f v.conts.2.1:=by rw [HLC.out];simp [crosE]
            rw [this];exact hE.out)
          go_wp2_with fail
          clear f0 f1 f2 f3 f4 f5 f6 f7 hE HE1
          obtain⟨wp,rfl⟩:∃ wp:World,wp=wr:=⟨_,rfl⟩
          obtain⟨LC,hLC⟩:∃ LC,LC=LM++contsE f f.conts.length:=⟨_,rfl⟩
          rw [←hLC] at HE4
          have HLC2:Hid (LC.length≤4300):=Lib.hid (by rw [hLC];have:=HLEN.out 0 f.conts.length 0;have:=HLM2.out;simp;omega)
          have HLCE:Hid (LC=outsE f++memsE f f.mems.length++contsE f f.conts.length):=Lib.hid (by rw [hLC,HLME.out]);clear hLC
          go_loopw [4,9] (fun s4 s9 wr=>∃(k:Nat) (A:Option Addr) (n c:Nat),k≤v.cross.2.1∧s4=.slice A n c∧s9=.int .i64 k∧Hid (EndSt w2 (w.heap.size+2) wr (.slice A n c) (LC++crosE f k))) (fun _ t _=>v.cross.2.1-(intOf t).toNat)
          case atStart=>exact⟨0,A,n,c,Nat.zero_le _,rfl,rfl,HE4⟩
          case round =>
            obtain⟨k,A,n,c,hk,rfl,rfl,hE⟩:=hrel
            obtain⟨f0,f1,f2,f3,f4,f5,f6,f7⟩:=(HKB.out.below hE.out.old (by omega)).flat
            by_cases hlt:k<v.cross.2.1
            · obtain ⟨wq, rfl⟩ : ∃ wq : World, wq = wr := ⟨_, rfl⟩
              obtain⟨x,hx⟩:=HIS.out.cross.ex hlt
              obtain⟨b,off,ha,hlb,hat⟩:=HIS.out.cross.at_ hx
              obtain⟨s,hrs,e0,e1⟩:=hat.cells
              have hbC2:b<(w.heap.size+2):=Nat.lt_of_lt_of_le hlb hbC
              have ec:∀(W:World) (u:Value) (l:List Int),EndSt w2 (w.heap.size+2) W u l→(W.cell? ⟨w.heap.size,6,none⟩=some (.slice (some ⟨b,off,none⟩) v.cross.2.1 v.cross.2.2)∧W.cell? ⟨b,off+k*2,none⟩=some (.int .i64 x.guard)∧W.cell? ⟨b,off+k*2+1,none⟩=some (.slice s.1 s.2.1 s.2.2)):=fun W u l h=>⟨by rw [←ha];exact(HKB.out.below h.old (by omega)).flat.2.2.2.2.2.2.1,(h.old.cell (p:=⟨b,off+k*2,none⟩) hbC2).trans e0,(h.old.cell (p:=⟨b,off+k*2+1,none⟩) hbC2).trans e1⟩
              clear e0 e1
              obtain⟨k6,e0,e1⟩:=ec _ _ _ hE.out
              have HEC:=Lib.hid ec
              have HX:=Lib.hid hx
              have HRS:=Lib.hid hrs
              have hsm:=hrs.len_le
              unfold maxLen at hsm
              have HSL:=Lib.hid hrs.1
              have hs30:s.2.1≤30:=by rw [←hrs.1];exact HS.out.ops k x hx
              have HLK:Hid ((LC++crosE f k).length≤6000):=Lib.hid (by have:=HLEN.out 0 0 k;have:=HLC2.out;simp;omega)
              obtain⟨LK,hLK⟩:∃ LK,LK=LC++crosE f k:=⟨_,rfl⟩
              rw [←hLK] at hE HLK
              have HLKE:=Lib.hid hLK
              rw [ha] at f6
              clear hat hx hrs ha ec hLK k6
              go_wp2_with (at_builtin;refine appendI rfl _ _ 77 Tryz.underlying77 rfl (w.heap.size+2) (.slice A n c) LK x.guard _ rfl rfl hE.out.own hE.out.size (by have:=HLK.out;omega) ?_;intro v1 w1 hown honly hat;obtain⟨A2,n2,c2,hv2⟩:=val_slice hown;subst hv2;have HEA:=Lib.hid (hE.out.app hown honly);obtain⟨k6,k0,k1⟩:=HEC.out _ _ _ HEA.out;clear hown honly hat)
              have HE5:Hid (EndSt w2 (w.heap.size+2) w1 (.slice A2 n2 c2) (LK++[x.guard]++copsE (x.ops.take 0))):=Lib.hid (by
                have:LK++[x.guard]++copsE (x.ops.take 0)=LK++[x.guard]:=by simp [copsE]
                rw [this];exact HEA.out)
              clear HEA k6 k0 k1 e0 e1 f0 f1 f2 f3 f4 f5 f6 f7 hE
              go_loopw [4,10] (fun s4 s8 wr=>∃(j:Nat) (A:Option Addr) (n c:Nat),j≤s.2.1∧s4=.slice A n c∧s8=.int .i64 j∧Hid (EndSt w2 (w.heap.size+2) wr (.slice A n c) (LK++[x.guard]++copsE (x.ops.take j)))) (fun _ t _=>s.2.1-(intOf t).toNat)
              case atStart=>exact⟨0,A2,n2,c2,Nat.zero_le _,rfl,rfl,HE5⟩
              case round=>
                obtain⟨j,A,n,c,hj,rfl,rfl,hE2⟩:=hrel
                obtain⟨k6,k0,k1⟩:=HEC.out _ _ _ hE2.out
                by_cases hlt2:j<s.2.1
                · obtain⟨⟨op,args⟩,hy⟩:=HRS.out.ex hlt2
                  obtain⟨b3,off3,ha3,hlb3,hat3⟩:=HRS.out.at_ hy
                  obtain⟨q,hrq,g0,g1⟩:=hat3.cells
                  have hbC3:b3<(w.heap.size+2):=Nat.lt_of_lt_of_le hlb3 hbC
                  replace g0:=(hE2.out.old.cell (p:=⟨b3,off3+j*2,none⟩) hbC3).trans g0
                  replace g1:=(hE2.out.old.cell (p:=⟨b3,off3+j*2+1,none⟩) hbC3).trans g1
                  have HY:=Lib.hid hy
                  have HLL:Hid ((LK++[x.guard]++copsE (x.ops.take j)).length≤10000):=Lib.hid (by
                    have h1:=HLK.out;have h3:=HSL.out
                    have h4:=flat_len_take (g:=copE) 1 j x.ops (fun i y _=>by unfold copE;split <;> simp)
                    unfold copsE;simp only [List.length_append,List.length_cons,List.length_nil];omega)
                  obtain⟨LX,hLX⟩:∃ LX,LX=LK++[x.guard]++copsE (x.ops.take j):=⟨_,rfl⟩
                  rw [←hLX] at hE2 HLL
                  have HLXE:=Lib.hid hLX
                  have HBX:=Lib.hid (hE2.out.box 147 (copvs ⟨op,args⟩ q))
                  have HRQ:=Lib.hid hrq
                  have hq1:=hrq.len_le
                  unfold maxLen at hq1
                  have hsz:(w.heap.size+2)≤wr.heap.size:=hE2.out.size
                  rw [ha3] at k1
                  clear hat3 hy ha3 hLX hrq
                  by_cases hc:op=bs [118,97,114]∨op=bs [115,101,108]
                  · have hgc:=good_cop HG.out HX.out HY.out hc
                    have hlq:0<q.2.1:=by rw [←HRQ.out.1];exact hgc.1
                    obtain⟨b4,off4,ha4,hb4,hcell4⟩:=HRQ.out.at_ hlq
                    have hcell5:=(HBX.out.st.old.cell (p:=⟨b4,off4+0,none⟩) (Nat.lt_of_lt_of_le hb4 hbC)).trans hcell4
                    have hb4w:b4<wr.heap.size:=by omega
                    have hcell6:=(hE2.out.old.cell (p:=⟨b4,off4+0,none⟩) (Nat.lt_of_lt_of_le hb4 hbC)).trans hcell4
                    simp only [Nat.add_zero] at hcell5 hcell6
                    rw [ha4] at g1
                    have HHC:Hid (copE ⟨op,args⟩=[args.getD 0 0]):=Lib.hid (show(if op=copVar∨op=copSel then [args.getD 0 0] else [])=_ from if_pos hc)
                    obtain⟨X,hXX⟩:∃ X,X=args.getD 0 0:=⟨_,rfl⟩
                    rw [←hXX] at hcell5 hcell6
                    have HXX:=Lib.hid hXX
                    unfold copvs at HBX
                    dsimp only at HBX
                    rw [ha4] at HBX
                    clear hgc hcell4 hXX ha4 hcell5
                    rcases hc with rfl | rfl
                    · unfold bs at g0 HBX
                      go_wp2_with (at_builtin;refine appendH rfl _ _ 77 Tryz.underlying77 rfl (w.heap.size+2) (.slice A n c) LX X _ (wr.heap.size+1) rfl rfl (size_alloc _ _) HBX.out.st.own (by omega) (by have:=HLL.out;omega) ?_;intro v1 w1 hown honly hat;obtain⟨A2,n2,c2,hv2⟩:=val_slice hown;subst hv2;have HEA:=Lib.hid (HBX.out.st.app hown honly);clear hown honly hat)
                      go_roundw
                      case rel=>exact⟨j+1,A2,n2,c2,by omega,rfl,by go_num,Lib.hid (by
                        have:LK++[x.guard]++copsE (x.ops.take (j+1))=LX++[X]:=by rw [HLXE.out];unfold copsE;rw [flat_succ HY.out,HHC.out,HXX.out];simp
                        rw [this];exact HEA.out)⟩
                      case measure=>simp [intOf];omega
                    · unfold bs at g0 HBX
                      go_wp2_with (at_builtin;refine appendH rfl _ _ 77 Tryz.underlying77 rfl (w.heap.size+2) (.slice A n c) LX X _ (wr.heap.size+1) rfl rfl (size_alloc _ _) HBX.out.st.own (by omega) (by have:=HLL.out;omega) ?_;intro v1 w1 hown honly hat;obtain⟨A2,n2,c2,hv2⟩:=val_slice hown;subst hv2;have HEA:=Lib.hid (HBX.out.st.app hown honly);clear hown honly hat)
                      go_roundw
                      case rel=>exact⟨j+1,A2,n2,c2,by omega,rfl,by go_num,Lib.hid (by
                        have:LK++[x.guard]++copsE (x.ops.take (j+1))=LX++[X]:=by rw [HLXE.out];unfold copsE;rw [flat_succ HY.out,HHC.out,HXX.out];simp
                        rw [this];exact HEA.out)⟩
                      case measure=>simp [intOf];omega
                  · have hc1:=str_no (fun e=>hc (.inl e))
                    have hc2:=str_no (fun e=>hc (.inr e))
                    have HHC:Hid (copE ⟨op,args⟩=[]):=Lib.hid (show(if op=copVar∨op=copSel then [args.getD 0 0] else [])=_ from if_neg hc)
                    unfold copvs at HBX
                    dsimp only at HBX
                    clear hc
                    go_wp2_with fail
                    go_roundw
                    case rel=>exact⟨j+1,A,n,c,by omega,rfl,by go_num,Lib.hid (by
                      have:LK++[x.guard]++copsE (x.ops.take (j+1))=LX:=by rw [HLXE.out];unfold copsE;rw [flat_succ HY.out,HHC.out];simp
                      rw [this];exact HBX.out.st)⟩
                    case measure=>simp [intOf];omega
                · obtain rfl:j=s.2.1:=by omega
                  have HE6:Hid (EndSt w2 (w.heap.size+2) wr (.slice A n c) (LC++crosE f (k+1))):=Lib.hid (by
                    have:LC++crosE f (k+1)=LK++[x.guard]++copsE (x.ops.take s.2.1):=by
                      rw [HLKE.out];unfold crosE;rw [flat_succ HX.out,List.take_of_length_le (l:=x.ops) (i:=s.2.1) (by rw [HSL.out];exact Nat.le_refl _)];simp [crossE]
                    rw [this];exact hE2.out)
                  go_wp2_with fail
                  go_roundw
                  case rel=>exact⟨k+1,A,n,c,by omega,rfl,by go_num,HE6⟩
                  case measure=>simp [intOf];omega
            · obtain rfl:k=v.cross.2.1:=by omega
              have HE7:Hid (EndSt w2 (w.heap.size+2) wr (.slice A n c) (endL f)):=Lib.hid (by
                have:endL f=LC++crosE f v.cross.2.1:=by rw [HLCE.out];unfold endL;rw [HLX.out]
                rw [this];exact hE.out)
              have HLE:Hid ((endL f).length≤10000):=Lib.hid (by
                have:endL f=LC++crosE f v.cross.2.1:=by rw [HLCE.out];unfold endL;rw [HLX.out]
                rw [this];have:=HLEN.out 0 0 v.cross.2.1;have:=HLC2.out;simp;omega)
              go_wp2_with fail
              clear f0 f1 f2 f3 f4 f5 f6 f7 hE HE4
              obtain⟨wz,rfl⟩:∃ wz:World,wz=wr:=⟨_,rfl⟩
              obtain⟨a5,c5,e5⟩:=HE7.out.own.len
              injection e5 with e51 e52 e53
              have HNL:Hid ((endL f).length=n):=Lib.hid e52.symm
              clear e51 e52 e53
              have hnl:n≤10000:=by rw [←HNL.out];exact HLE.out
              have HOLD:Hid (Below w.heap.size w wz):=Lib.hid (HC.out.old.trans ((HB2.out.trans (HE7.out.old.mono (by omega))).mono (Nat.le_succ _)))
              have HMZ:Hid (BMem wz (w.heap.size+1) (List.replicate v.names.2.1 false)):=Lib.hid (HM2.out.below HE7.out.old (by omega))
              go_loopw [12] (fun t wr=>∃ k:Nat,k≤n∧t=.int .i64 k∧Hid (∃ bs,BMem wr (w.heap.size+1) bs∧EMarks v.names.2.1 (endL f) k bs)∧Hid (Own wr (w.heap.size+2) (.slice A n c) (endL f))∧Hid (Below (w.heap.size+1) wz wr)) (fun t _=>n-(intOf t).toNat)
              case atStart=>exact⟨0,Nat.zero_le _,rfl,Lib.hid ⟨_,HMZ.out,EMarks.start _ _⟩,Lib.hid HE7.out.own,Lib.hid (Below.refl _ _)⟩
              case round=>
                obtain⟨k,hk,rfl,hms,ho,hbr⟩:=hrel
                by_cases hlt:k<n
                · obtain⟨bs,hbs,hmk⟩:=hms.out
                  obtain⟨a6,c6,e6,hr6⟩:=ho.out.irow
                  injection e6 with e61 e62 e63
                  subst e61 e63
                  obtain⟨b,off,ha,hlb,hcell⟩:=hr6.at_ (i:=k) (by rw [HNL.out];exact hlt)
                  have hget:(endL f)[k]?=some ((endL f).getD k 0):=by
                    rw [List.getElem?_eq_getElem (by rw [HNL.out];exact hlt)];simp [List.getD,HNL.out,hlt]
                  obtain⟨X,hX⟩:∃ X,X=(endL f).getD k 0:=⟨_,rfl⟩
                  rw [←hX] at hcell hget
                  have hlX:X<(v.names.2.1:Int):=by rw [←HN.out];exact endL_lt HG.out X (List.mem_of_getElem? hget)
                  have HGET:=Lib.hid hget
                  have HM:=Lib.hid hbs;have HMK:=Lib.hid hmk
                  have hgs:w.heap.size+1<wr.heap.size:=hbs.lt
                  subst ha
                  clear hX hget hbs hmk hms hr6
                  by_cases hx0:0≤X
                  · obtain⟨j,rfl⟩:∃ j:Nat,X=(j:Int):=⟨X.toNat,by omega⟩
                    have hj:j<v.names.2.1:=by omega
                    have kc:=HM.out.cell j (by rw [HMK.out.1];exact hj)
                    have kf:=HM.out.free j
                    go_wp2
                    go_roundw
                    case rel=>exact⟨k+1,by omega,by go_num,Lib.hid ⟨_,HM.out.set j true,HMK.out.step HGET.out j rfl⟩,Lib.hid (ho.out.keep fun k' hk'=>Below.heap_setCell wr _ _ k' (by have:=ho.out.lt hk';simp;omega)),Lib.hid (hbr.out.setCell (Nat.le_refl _) _)⟩
                    case measure=>simp [intOf];omega
                  · have hx1:X<0:=by omega
                    clear hx0
                    go_wp2
                    go_roundw
                    case rel=>exact⟨k+1,by omega,by go_num,Lib.hid ⟨_,HM.out,HMK.out.skip HGET.out hx1⟩,ho,hbr⟩
                    case measure=>simp [intOf];omega
                · obtain rfl:k=n:=by omega
                  have HD:Hid (EndPost f w (.returned (.slice (some ⟨w.heap.size+1,0,none⟩) v.names.2.1 v.names.2.1)) wr):=Lib.hid (by
                    obtain⟨bs,hbs,hmk⟩:=hms.out
                    have hd:=EMarks.done (f:=f) (n:=k) (bs:=bs) (by rw [HN.out];exact hmk) HNL.out
                    refine⟨w.heap.size+1,by rw [HN.out], ?_,Nat.le_succ _,HOLD.out.trans (hbr.out.mono (Nat.le_succ _))⟩
                    rw [←hd];exact hbs)
                  go_wp2
                  go_ret
                  exact HD.out
end Go.Proofs.YtpnlbjnbgemocaaGreat
