import Derived.Test.YtpnlbjnbgemocaaGreatZMdAMdBSfQ
import Derived.Deep.RegionHeld3
import Derived.Deep.DeepCutAuto
namespace Go.Proofs.YtpnlbjnbgemocaaGreat
set_option linter.unusedVariables false
set_option linter.unusedSimpArgs false
set_option maxRecDepth 100000
open Go.RowKit
theorem onlyP11 {S:List (Option Nat)}{a w:World}(h:Only S a w){g:Nat}(hg:some g∈S)(y0 y1 y2 y3 y4 y5 y6 y7 y8 y9 y10:Value):Only S a (((((((((((w.setCell ⟨g,0,none⟩ y0).setCell ⟨g,1,none⟩ y1).setCell ⟨g,2,none⟩ y2).setCell ⟨g,3,none⟩ y3).setCell ⟨g,4,none⟩ y4).setCell ⟨g,5,none⟩ y5).setCell ⟨g,6,none⟩ y6).setCell ⟨g,7,none⟩ y7).setCell ⟨g,8,none⟩ y8).setCell ⟨g,9,none⟩ y9).setCell ⟨g,10,none⟩ y10):=
  (((((((((((h.trans (Only.set hg 0 _ y0)).trans (Only.set hg 1 _ y1)).trans (Only.set hg 2 _ y2)).trans (Only.set hg 3 _ y3)).trans (Only.set hg 4 _ y4)).trans (Only.set hg 5 _ y5)).trans (Only.set hg 6 _ y6)).trans (Only.set hg 7 _ y7)).trans (Only.set hg 8 _ y8)).trans (Only.set hg 9 _ y9)).trans (Only.set hg 10 _ y10))
theorem keepOnly {S:List (Option Nat)}{w w':World}{P Q:Nat→Prop}(hb:Only S w w')(h:∀ b,P b→b<w.heap.size∧some b ∉ S∧Q b):KeepP P Q w w':=fun b hP=>
  ⟨(h b hP).2.2,fun o=>hb.cell (p:=⟨b,o,none⟩) (h b hP).1 (h b hP).2.1⟩
def InsPost (B:Nat)(q:InsP)(w:World)(e:Ending)(w':World):Prop:=∃ x:InsM,e=.returned (insV x)∧InsR (NewP B w.heap.size w') w' x q∧Below w.heap.size w w'
theorem four_new {w W1:World}{o1 o2 o3 o4:Obj}(h:W1=(((w.alloc o1).alloc o2).alloc o3).alloc o4):W1.heap[w.heap.size]?=some o1∧W1.heap[w.heap.size+1]?=some o2∧W1.heap[w.heap.size+2]?=some o3∧W1.heap[w.heap.size+3]?=some o4∧W1.heap.size=w.heap.size+4∧Below w.heap.size w W1:=by
  subst h
  have n2:=heap_alloc_new (w.alloc o1) o2
  have n3:=heap_alloc_new ((w.alloc o1).alloc o2) o3
  have n4:=heap_alloc_new (((w.alloc o1).alloc o2).alloc o3) o4
  simp only [size_alloc] at n2 n3 n4
  refine⟨?_, ?_, ?_,n4,by simp only [size_alloc],((((Below.refl _ _).alloc (Nat.le_refl _) _).alloc (by simp only [size_alloc];omega) _).alloc (by simp only [size_alloc];omega) _).alloc (by simp only [size_alloc];omega) _⟩
  · rw [Below.heap_alloc _ _ _ (by simp only [size_alloc];omega),Below.heap_alloc _ _ _ (by simp only [size_alloc];omega),Below.heap_alloc _ _ _ (by simp only [size_alloc];omega)]
    exact heap_alloc_new w o1
  · rw [Below.heap_alloc _ _ _ (by simp only [size_alloc];omega),Below.heap_alloc _ _ _ (by simp only [size_alloc];omega)]
    exact n2
  · rw [Below.heap_alloc _ _ _ (by simp only [size_alloc];omega)]
    exact n3
theorem keepNe {w w':World}{C G:Nat}(hb:Below w.heap.size w w'):KeepP (fun b=>C≤b∧b<w.heap.size∧b≠G) (fun b=>C≤b∧b<w'.heap.size∧b≠G) w w':=keepB hb fun b q=>⟨q.2.1,q.1,Nat.lt_of_lt_of_le q.2.1 hb.size,q.2.2⟩
theorem keepLt {w w':World}{C:Nat}(hb:Below w.heap.size w w'):KeepP (fun b=>C≤b∧b<w.heap.size) (fun b=>C≤b∧b<w'.heap.size) w w':=keepB hb fun b q=>⟨q.2,q.1,Nat.lt_of_lt_of_le q.2 hb.size⟩
theorem keepNew {w w':World}{C:Nat}{o:Obj}(hb:Below (w.alloc o).heap.size (w.alloc o) w'):KeepP (fun b=>C≤b∧b<w.heap.size) (fun b=>C≤b∧b<w'.heap.size∧b≠w.heap.size) w w':=by
  have h1:Below w.heap.size w w':=((Below.refl w.heap.size w).alloc (Nat.le_refl _) o).trans (hb.mono (by simp))
  exact keepB h1 fun b q=>⟨q.2,q.1,Nat.lt_of_lt_of_le q.2 h1.size,Nat.ne_of_lt q.2⟩
theorem str_yes {s:ByteArray}{l:List UInt8}(h:s=bs l):(s.toList==l)=true:=by rw [h,bs_toList];exact beq_self_eq_true l
theorem ins_end {B:Nat}{w W1 w7:World}{x:InsM}{q:InsP}(hB1:Below w.heap.size w W1)(hs:W1.heap.size=w.heap.size+4)(hB:B≤w.heap.size)(h7:Below W1.heap.size W1 w7)(hr:InsR (fun b=>b<w7.heap.size∧(b<B∨W1.heap.size≤b)) w7 x q)(y0 y1 y2 y3 y4 y5 y6 y7 y8 y9 y10:Value) :
    InsR (NewP B w.heap.size (((((((((((w7.setCell ⟨w.heap.size+3,0,none⟩ y0).setCell ⟨w.heap.size+3,1,none⟩ y1).setCell ⟨w.heap.size+3,2,none⟩ y2).setCell ⟨w.heap.size+3,3,none⟩ y3).setCell ⟨w.heap.size+3,4,none⟩ y4).setCell ⟨w.heap.size+3,5,none⟩ y5).setCell ⟨w.heap.size+3,6,none⟩ y6).setCell ⟨w.heap.size+3,7,none⟩ y7).setCell ⟨w.heap.size+3,8,none⟩ y8).setCell ⟨w.heap.size+3,9,none⟩ y9).setCell ⟨w.heap.size+3,10,none⟩ y10)) (((((((((((w7.setCell ⟨w.heap.size+3,0,none⟩ y0).setCell ⟨w.heap.size+3,1,none⟩ y1).setCell ⟨w.heap.size+3,2,none⟩ y2).setCell ⟨w.heap.size+3,3,none⟩ y3).setCell ⟨w.heap.size+3,4,none⟩ y4).setCell ⟨w.heap.size+3,5,none⟩ y5).setCell ⟨w.heap.size+3,6,none⟩ y6).setCell ⟨w.heap.size+3,7,none⟩ y7).setCell ⟨w.heap.size+3,8,none⟩ y8).setCell ⟨w.heap.size+3,9,none⟩ y9).setCell ⟨w.heap.size+3,10,none⟩ y10) x q∧Below w.heap.size w (((((((((((w7.setCell ⟨w.heap.size+3,0,none⟩ y0).setCell ⟨w.heap.size+3,1,none⟩ y1).setCell ⟨w.heap.size+3,2,none⟩ y2).setCell ⟨w.heap.size+3,3,none⟩ y3).setCell ⟨w.heap.size+3,4,none⟩ y4).setCell ⟨w.heap.size+3,5,none⟩ y5).setCell ⟨w.heap.size+3,6,none⟩ y6).setCell ⟨w.heap.size+3,7,none⟩ y7).setCell ⟨w.heap.size+3,8,none⟩ y8).setCell ⟨w.heap.size+3,9,none⟩ y9).setCell ⟨w.heap.size+3,10,none⟩ y10):=by
  have ho:=onlyP11 (S:=[some (w.heap.size+3)]) (Only.refl _ w7) (List.mem_cons_self) y0 y1 y2 y3 y4 y5 y6 y7 y8 y9 y10
  refine⟨hr.keep (keepOnly ho fun b q=>⟨q.1, ?_,Nat.lt_of_lt_of_le q.1 ho.size, ?_⟩),belowP11 (hB1.trans (h7.mono hB1.size)) (Nat.le_add_right _ _) y0 y1 y2 y3 y4 y5 y6 y7 y8 y9 y10⟩
  · simp
    rcases q.2 with h | h <;> omega
  · rcases q.2 with h | h
    · exact .inl h
    · exact .inr (by omega)
set_option maxHeartbeats 8000000 in
theorem eq15_t (B:Nat)(v:FlatV)(f:FlatM)(A A2:Option Addr)(m c n c2:Nat)(S:Int)(ss:List Int)(q:FEqM)(a d1 d2:Option Addr×Nat×Nat)(w:World)(hf:FlatIs w B v f)(hr:IRow w B A2 n c2 ss)(hB:B≤w.heap.size)(hrow:IRow w B a.1 a.2.1 a.2.2 q.args)(hm:URow w B d1.1 d1.2.1 d1.2.2 q.lit.mag)(hd:URow w B d2.1 d2.2.1 d2.2.2 q.lit.den)
    (hn:a.2.1≤1000000) (hv:q.var<(n:Int)) (hg:q.guard<(n:Int)) (hx:∀ x∈q.args,x<(n:Int)) (hkm:q.op=bs [109,101,109]→plB q.k v.mems.2.1=true) (hkc:q.op=bs [99,111,110,116]→plB q.k v.conts.2.1=true)
    (hrm:∀(i:Nat) (x:MemM),f.mems[i]?=some x→x.resets.length≤1000∧∀ y∈x.resets,y<(n:Int)) (hrc:∀(i:Nat) (x:ContM),f.conts[i]?=some x→x.resets.length≤1000∧∀ y∈x.resets,y<(n:Int)) :
    Calls Tryz.prog 121 #[flatV v,.agg #[.slice A m c,.slice A2 n c2,.int .i64 S],feqV q a d1 d2] w (InsPost B (eqI f ss q) w):=by
  obtain⟨var,op,args,k,lit,guard⟩:=q
  simp only at hrow hm hd hn hv hg hx hkm hkc
  obtain⟨W1,hW1⟩:∃ W1,W1=(((w.alloc (.cells #[.slice v.ins.1 v.ins.2.1 v.ins.2.2,.slice v.names.1 v.names.2.1 v.names.2.2,.slice v.outs.1 v.outs.2.1 v.outs.2.2,.slice v.eqs.1 v.eqs.2.1 v.eqs.2.2,.slice v.mems.1 v.mems.2.1 v.mems.2.2,.slice v.conts.1 v.conts.2.1 v.conts.2.2,.slice v.cross.1 v.cross.2.1 v.cross.2.2,.slice v.again.1 v.again.2.1 v.again.2.2] 83)).alloc (.cells #[.slice A m c,.slice A2 n c2,.int .i64 S] 86)).alloc (.cells #[.int .i64 var,.string op,.slice a.1 a.2.1 a.2.2,.int .i64 k,.int .i64 lit.kind,.bool lit.neg,.slice d1.1 d1.2.1 d1.2.2,.slice d2.1 d2.2.1 d2.2.2,.string lit.name,.int .i64 guard] 127)).alloc (.cells #[.string ⟨#[]⟩,.int .i64 0,.slice none 0 0,.int .i64 0,.int .i64 0,.bool false,.slice none 0 0,.slice none 0 0,.string ⟨#[]⟩,.int .i64 0,.slice none 0 0] 96):=⟨_,rfl⟩
  obtain⟨hk1,hk2,hk3,hk4,hs1,hb1⟩:=four_new hW1
  have HKF:=Lib.hid (show Blk W1 w.heap.size 83 (fvs v) from hk1)
  have HKP:=Lib.hid (show Blk W1 (w.heap.size+1) 86 #[.slice A m c,.slice A2 n c2,.int .i64 S] from hk2)
  have HKQ:=Lib.hid (show Blk W1 (w.heap.size+2) 127 #[.int .i64 var,.string op,.slice a.1 a.2.1 a.2.2,.int .i64 k,.int .i64 lit.kind,.bool lit.neg,.slice d1.1 d1.2.1 d1.2.2,.slice d2.1 d2.2.1 d2.2.2,.string lit.name,.int .i64 guard] from hk3)
  have HZ:=Lib.hid (show Blk W1 (w.heap.size+3) 96 #[.string ⟨#[]⟩,.int .i64 0,.slice none 0 0,.int .i64 0,.int .i64 0,.bool false,.slice none 0 0,.slice none 0 0,.string ⟨#[]⟩,.int .i64 0,.slice none 0 0] from hk4)
  have HB1:=Lib.hid hb1
  have HS1:=Lib.hid hs1
  have HBB:=Lib.hid hB
  have HF:=Lib.hid (fun W (hb:Below W1.heap.size W1 W)=>hf.below ((hb1.trans (hb.mono hb1.size)).mono hB))
  have HR:=Lib.hid (fun W (hb:Below W1.heap.size W1 W)=>hr.below ((hb1.trans (hb.mono hb1.size)).mono hB))
  have HRW:=Lib.hid (fun W (hb:Below W1.heap.size W1 W)=>hrow.below ((hb1.trans (hb.mono hb1.size)).mono hB))
  have HBW:=Lib.hid (fun W (hb:Below W1.heap.size W1 W)=>Nat.le_trans hB (hb1.trans (hb.mono hb1.size)).size)
  have HUM:Hid (∀ W,Below W1.heap.size W1 W→URow W B d1.1 d1.2.1 d1.2.2 lit.mag):=Lib.hid fun W hb=>hm.keep fun p hp=>(hb1.trans (hb.mono hb1.size)).cell (Nat.lt_of_lt_of_le hp hB)
  have HUD:Hid (∀ W,Below W1.heap.size W1 W→URow W B d2.1 d2.2.1 d2.2.2 lit.den):=Lib.hid fun W hb=>hd.keep fun p hp=>(hb1.trans (hb.mono hb1.size)).cell (Nat.lt_of_lt_of_le hp hB)
  have HX:=Lib.hid hx
  have HKM:=Lib.hid hkm
  have HKC:=Lib.hid hkc
  have HRM:=Lib.hid hrm
  have HRC:=Lib.hid hrc
  have HV:=Lib.hid hv
  have HG:=Lib.hid hg
  have HN:=Lib.hid hn
  clear hf hr hB hrow hm hd hn hv hg hx hkm hkc hrm hrc hk1 hk2 hk3 hk4 hs1 hb1
  unfold flatV feqV sl3
  go_enter Tryz.func121,Tryz.ntmps121
  go_upto_region 1 with fail
  rw [←hW1]
  clear hW1
  have HPW:Hid (∀ W,Below W1.heap.size W1 W→W.cell? ⟨w.heap.size+2,0,none⟩=some (.int .i64 var)∧W.cell? ⟨w.heap.size+2,1,none⟩=some (.string op)∧W.cell? ⟨w.heap.size+2,2,none⟩=some (.slice a.1 a.2.1 a.2.2)∧W.cell? ⟨w.heap.size+2,9,none⟩=some (.int .i64 guard)∧W.cell? ⟨w.heap.size+1,0,none⟩=some (.slice A m c)∧W.cell? ⟨w.heap.size+1,1,none⟩=some (.slice A2 n c2)∧W.cell? ⟨w.heap.size+1,2,none⟩=some (.int .i64 S)):=Lib.hid fun W hb=>by
    have h1:=HKQ.out.later hb
    have h2:=HKP.out.later hb
    exact⟨h1.cell 0 rfl,h1.cell 1 rfl,h1.cell 2 rfl,h1.cell 9 rfl,h2.cell 0 rfl,h2.cell 1 rfl,h2.cell 2 rfl⟩
  have HB1a:=Lib.hid (Below.refl W1.heap.size W1).drew
  have HB1b:=Lib.hid ((Below.refl W1.heap.size W1).alloc (Nat.le_refl _) (.cells #[.string ⟨#[]⟩,.int .i64 0,.slice none 0 0,.int .i64 0,.int .i64 0,.bool false,.slice none 0 0,.slice none 0 0,.string ⟨#[]⟩,.int .i64 0,.slice none 0 0] 96)).drew
  have HZb:=Lib.hid (show Blk (W1.alloc (.cells #[.string ⟨#[]⟩,.int .i64 0,.slice none 0 0,.int .i64 0,.int .i64 0,.bool false,.slice none 0 0,.slice none 0 0,.string ⟨#[]⟩,.int .i64 0,.slice none 0 0] 96)).drew W1.heap.size 96 #[.string ⟨#[]⟩,.int .i64 0,.slice none 0 0,.int .i64 0,.int .i64 0,.bool false,.slice none 0 0,.slice none 0 0,.string ⟨#[]⟩,.int .i64 0,.slice none 0 0] from Blk.new W1 96 #[.string ⟨#[]⟩,.int .i64 0,.slice none 0 0,.int .i64 0,.int .i64 0,.bool false,.slice none 0 0,.slice none 0 0,.string ⟨#[]⟩,.int .i64 0,.slice none 0 0])
  have HSV:=Lib.hid (fun W (hb:Below W1.heap.size W1 W)=>slot15_t A A2 m c n c2 B S var ss W (HR.out W hb) (HBW.out W hb) HV.out)
  have HSG:=Lib.hid (fun W (hb:Below W1.heap.size W1 W)=>slot15_t A A2 m c n c2 B S guard ss W (HR.out W hb) (HBW.out W hb) HG.out)
  have HTU:=Lib.hid (fun W (hb:Below W1.heap.size W1 W)=>slots15_t A A2 m c n c2 B S ss a.1 a.2.1 a.2.2 args W (HR.out W hb) (HBW.out W hb) (HRW.out W hb) (HBW.out W hb) HN.out HX.out)
  go_cut [7] (fun s7 wx=>∃(g5:Nat) (a4:Option Addr) (n4 c4:Nat),s7=.pointer (some ⟨g5,0,none⟩)∧Hid (W1.heap.size≤g5)∧Hid (Blk wx g5 96 #[.string op,.int .i64 (slotS ss var),.slice a4 n4 c4,.int .i64 0,.int .i64 0,.bool false,.slice none 0 0,.slice none 0 0,.string ⟨#[]⟩,.int .i64 (slotS ss guard),.slice none 0 0])∧Hid (IRowP (fun b=>W1.heap.size≤b∧b<wx.heap.size∧b≠g5) wx a4 n4 c4 (args.map (slotS ss)))∧Hid (Below W1.heap.size W1 wx))
  case first=>
    go_region_held3 (fun w'=>w'.cell? ⟨w.heap.size+2,0,none⟩=some (.int .i64 var)∧w'.cell? ⟨w.heap.size+2,1,none⟩=some (.string op)∧w'.cell? ⟨w.heap.size+2,2,none⟩=some (.slice a.1 a.2.1 a.2.2)∧w'.cell? ⟨w.heap.size+2,9,none⟩=some (.int .i64 guard)∧w'.cell? ⟨w.heap.size+1,0,none⟩=some (.slice A m c)∧w'.cell? ⟨w.heap.size+1,1,none⟩=some (.slice A2 n c2)∧w'.cell? ⟨w.heap.size+1,2,none⟩=some (.int .i64 S)) (first | with_reducible exact HPW.out _ HB1a.out | with_reducible exact HPW.out _ HB1b.out | with_reducible exact HPW.out _ HB2.out | with_reducible exact HPW.out _ (HB2.out.alloc HB2.out.size _) | with_reducible exact HPW.out _ HB3.out | with_reducible exact HPW.out _ (HB3.out.alloc HB3.out.size _) | with_reducible exact HPW.out _ HB4.out | with_reducible exact HPW.out _ (HB4.out.alloc HB4.out.size _) | with_reducible exact HPW.out _ (belowP11 HB4.out HGL.out _ _ _ _ _ _ _ _ _ _ _) | go_keep) (first
    | (go_at_call 71;first
        | ((with_reducible refine(HSV.out _ HB1a.out).mono ?_);rintro e w2 ⟨rfl,hb⟩;have HB2:=Lib.hid (HB1a.out.trans (hb.mono HB1a.out.size));clear hb)
        | ((with_reducible refine(HSV.out _ HB1b.out).mono ?_);rintro e w2 ⟨rfl,hb⟩;have HB2:=Lib.hid (HB1b.out.trans (hb.mono HB1b.out.size));have HT2:=Lib.hid ((HZb.out).later hb);clear hb)
        | ((with_reducible refine(HSG.out _ HB3.out).mono ?_);rintro e w4 ⟨rfl,hb⟩;have HB4:=Lib.hid (HB3.out.trans (hb.mono HB3.out.size));first
            | (have HA4:=Lib.hid (HA3.out.keep (keepNe hb));have HT4:=Lib.hid (HT3.out.later hb);have HGL:=HG3;obtain⟨nc0,nc1,nc2,nc3,nc4,nc5,nc6,nc7,nc8,nc9,nc10⟩:=HT4.out.elevQ;obtain⟨nf0,nf1,nf2,nf3,nf4,nf5,nf6,nf7,nf8,nf9,nf10⟩:=HT4.out.elevQF;clear hb)
            | (have HA4:=Lib.hid (HA3.out.keep (keepLt hb));clear hb))
        | ((with_reducible refine(HSG.out _ (HB3.out.alloc HB3.out.size _)).mono ?_);rintro e w4 ⟨rfl,hb⟩;have HB4:=Lib.hid ((HB3.out.alloc HB3.out.size _).trans (hb.mono (HB3.out.alloc HB3.out.size _).size));have HT4:=Lib.hid ((Blk.new w3 96 #[.string ⟨#[]⟩,.int .i64 0,.slice none 0 0,.int .i64 0,.int .i64 0,.bool false,.slice none 0 0,.slice none 0 0,.string ⟨#[]⟩,.int .i64 0,.slice none 0 0]).later hb);have HGL:Hid (W1.heap.size≤w3.heap.size):=Lib.hid HB3.out.size;have HA4:=Lib.hid (HA3.out.keep (keepNew hb));obtain⟨nc0,nc1,nc2,nc3,nc4,nc5,nc6,nc7,nc8,nc9,nc10⟩:=HT4.out.elevQ;obtain⟨nf0,nf1,nf2,nf3,nf4,nf5,nf6,nf7,nf8,nf9,nf10⟩:=HT4.out.elevQF;clear hb))
    | (go_at_call 122;first
        | ((with_reducible refine(HTU.out _ HB2.out).mono ?_);rintro e w3 ⟨v3,rfl,hown,hb⟩;obtain⟨a4,c4,hv4,ha⟩:=hown.irowP;obtain⟨n4,hn4⟩:∃ n4,n4=(args.map (slotS ss)).length:=⟨_,rfl⟩;rw [←hn4] at hv4 ha;clear hn4;subst hv4;have HB3:=Lib.hid (HB2.out.trans (hb.mono HB2.out.size));first
            | (have HT3:=Lib.hid (HT2.out.later hb);obtain⟨G3,hG3⟩:∃ G3,G3=W1.heap.size:=⟨_,rfl⟩;have HLG:=HT2.out.lt;rw [←hG3] at HT3;have HG3:Hid (W1.heap.size≤G3):=Lib.hid (Nat.le_of_eq hG3.symm);have HA3:=Lib.hid (ha.weak (Q:=fun b=>W1.heap.size≤b∧b<w3.heap.size∧b≠G3) fun b q=>⟨Nat.le_trans HB2.out.size q.1,q.2,fun e=>by rw [hG3] at e;omega⟩);subst hG3;clear HLG ha hown hb)
            | (have HA3:=Lib.hid (ha.weak (Q:=fun b=>W1.heap.size≤b∧b<w3.heap.size) fun b q=>⟨Nat.le_trans HB2.out.size q.1,q.2⟩);clear ha hown hb))
        | ((with_reducible refine(HTU.out _ (HB2.out.alloc HB2.out.size _)).mono ?_);rintro e w3 ⟨v3,rfl,hown,hb⟩;obtain⟨a4,c4,hv4,ha⟩:=hown.irowP;obtain⟨n4,hn4⟩:∃ n4,n4=(args.map (slotS ss)).length:=⟨_,rfl⟩;rw [←hn4] at hv4 ha;clear hn4;subst hv4;have HB3:=Lib.hid ((HB2.out.alloc HB2.out.size _).trans (hb.mono (HB2.out.alloc HB2.out.size _).size));have HT3:=Lib.hid ((Blk.new w2 96 #[.string ⟨#[]⟩,.int .i64 0,.slice none 0 0,.int .i64 0,.int .i64 0,.bool false,.slice none 0 0,.slice none 0 0,.string ⟨#[]⟩,.int .i64 0,.slice none 0 0]).later hb);obtain⟨G3,hG3⟩:∃ G3,G3=w2.heap.size:=⟨_,rfl⟩;have HG3:Hid (W1.heap.size≤G3):=Lib.hid (by rw [hG3];exact HB2.out.size);have HA3:=Lib.hid (ha.weak (Q:=fun b=>W1.heap.size≤b∧b<w3.heap.size∧b≠G3) fun b q=>⟨by have:=q.1;have:=HB2.out.size;simp at this q;omega,q.2,fun e=>by have:=q.1;rw [e,hG3] at this;simp at this;omega⟩);subst hG3;clear ha hown hb)))
    all_goals
      go_wp2_with fail
      go_meet
      case rel=>
        first
        | exact⟨_,a4,n4,c4,rfl,HGL,Lib.hid (HT4.out.put11 (.string op) (.int .i64 (slotS ss var)) (.slice a4 n4 c4) (.int .i64 0) (.int .i64 0) (.bool false) (.slice none 0 0) (.slice none 0 0) (.string ⟨#[]⟩) (.int .i64 (slotS ss guard)) (.slice none 0 0)),Lib.hid (HA4.out.keep (keepOnly (S:=[some _]) (onlyP11 (Only.refl _ _) (List.mem_cons_self) (.string op) (.int .i64 (slotS ss var)) (.slice a4 n4 c4) (.int .i64 0) (.int .i64 0) (.bool false) (.slice none 0 0) (.slice none 0 0) (.string ⟨#[]⟩) (.int .i64 (slotS ss guard)) (.slice none 0 0)) fun b q=>⟨q.2.1,by simp;exact q.2.2,q.1,Nat.lt_of_lt_of_le q.2.1 (onlyP11 (S:=[some _]) (Only.refl _ _) (List.mem_cons_self) (.string op) (.int .i64 (slotS ss var)) (.slice a4 n4 c4) (.int .i64 0) (.int .i64 0) (.bool false) (.slice none 0 0) (.slice none 0 0) (.string ⟨#[]⟩) (.int .i64 (slotS ss guard)) (.slice none 0 0)).size,q.2.2⟩)),Lib.hid (belowP11 HB4.out HGL.out (.string op) (.int .i64 (slotS ss var)) (.slice a4 n4 c4) (.int .i64 0) (.int .i64 0) (.bool false) (.slice none 0 0) (.slice none 0 0) (.string ⟨#[]⟩) (.int .i64 (slotS ss guard)) (.slice none 0 0))⟩
        | exact⟨_,a4,n4,c4,rfl,Lib.hid HB4.out.size,Lib.hid (Blk.new _ _ _),Lib.hid (HA4.out.keep (keepB (((Below.refl w4.heap.size w4).alloc (Nat.le_refl _) _)) fun b q=>⟨q.2,q.1,Nat.lt_of_lt_of_le q.2 (by simp),Nat.ne_of_lt q.2⟩)),Lib.hid (HB4.out.alloc HB4.out.size _)⟩
  case rest=>
    obtain⟨g5,a4,n4,c4,rfl,HG5,HN5,HA5,HB5⟩:=hcut
    obtain⟨w5,rfl⟩:∃ w5:World,w5=wc:=⟨_,rfl⟩
    clear HSV HSG HTU HB1a HB1b HZb
    by_cases h0:op=bs [108,105,116]
    · have g0:=str_yes (l:=[108,105,116]) h0
      have g1:(op.toList==[105,110])=false:=by rw [h0,bs_toList];rfl
      have g2:(op.toList==[102,108,97,103])=false:=by rw [h0,bs_toList];rfl
      have g3:(op.toList==[109,101,109])=false:=by rw [h0,bs_toList];rfl
      have g4:(op.toList==[99,111,110,116])=false:=by rw [h0,bs_toList];rfl
      have HI:Hid (eqI f ss ⟨var,op,args,k,lit,guard⟩=⟨op,slotS ss var,args.map (slotS ss),0,lit,slotS ss guard,[]⟩):=Lib.hid (by unfold eqI;rw [h0];simp [bs])
      clear h0
      have HQ5:=(HKQ.out.later HB5.out)
      have q0:=HQ5.cell 0 rfl;have q1:=HQ5.cell 1 rfl;have q2:=HQ5.cell 2 rfl;have q3:=HQ5.cell 3 rfl;have q4:=HQ5.cell 4 rfl;have q5:=HQ5.cell 5 rfl;have q6:=HQ5.cell 6 rfl;have q7:=HQ5.cell 7 rfl;have q8:=HQ5.cell 8 rfl;have q9:=HQ5.cell 9 rfl
      clear HQ5
      obtain⟨nc0,nc1,nc2,nc3,nc4,nc5,nc6,nc7,nc8,nc9,nc10⟩:=HN5.out.elevQ
      obtain⟨nf0,nf1,nf2,nf3,nf4,nf5,nf6,nf7,nf8,nf9,nf10⟩:=HN5.out.elevQF
      obtain⟨w7,hw7⟩:∃ w7,w7=((((w5.setCell ⟨g5,4,none⟩ (.int .i64 lit.kind)).setCell ⟨g5,5,none⟩ (.bool lit.neg)).setCell ⟨g5,6,none⟩ (.slice d1.1 d1.2.1 d1.2.2)).setCell ⟨g5,7,none⟩ (.slice d2.1 d2.2.1 d2.2.2)).setCell ⟨g5,8,none⟩ (.string lit.name):=⟨_,rfl⟩
      have HN7:Hid (Blk w7 g5 96 #[.string op,.int .i64 (slotS ss var),.slice a4 n4 c4,.int .i64 0,.int .i64 lit.kind,.bool lit.neg,.slice d1.1 d1.2.1 d1.2.2,.slice d2.1 d2.2.1 d2.2.2,.string lit.name,.int .i64 (slotS ss guard),.slice none 0 0]):=Lib.hid (by rw [hw7];exact((((HN5.out.putA 4 _).putA 5 _).putA 6 _).putA 7 _).putA 8 _)
      have HB7:Hid (Below W1.heap.size W1 w7):=Lib.hid (by rw [hw7];exact((((HB5.out.setCell (p:=⟨g5,4,none⟩) HG5.out _).setCell (p:=⟨g5,5,none⟩) HG5.out _).setCell (p:=⟨g5,6,none⟩) HG5.out _).setCell (p:=⟨g5,7,none⟩) HG5.out _).setCell (p:=⟨g5,8,none⟩) HG5.out _)
      have HO7:Hid (Only [some g5] w5 w7):=Lib.hid (by rw [hw7];exact(((((Only.refl [some g5] w5).trans (Only.set (List.mem_cons_self) 4 _ _)).trans (Only.set (List.mem_cons_self) 5 _ _)).trans (Only.set (List.mem_cons_self) 6 _ _)).trans (Only.set (List.mem_cons_self) 7 _ _)).trans (Only.set (List.mem_cons_self) 8 _ _))
      go_upto_region 14 with fail
      rw [←hw7]
      clear hw7 nc0 nc1 nc2 nc3 nc4 nc5 nc6 nc7 nc8 nc9 nc10 nf0 nf1 nf2 nf3 nf4 nf5 nf6 nf7 nf8 nf9 nf10
      obtain⟨nc0,nc1,nc2,nc3,nc4,nc5,nc6,nc7,nc8,nc9,nc10⟩:=HN7.out.elevQ
      obtain⟨zc0,zc1,zc2,zc3,zc4,zc5,zc6,zc7,zc8,zc9,zc10⟩:=(HZ.out.later HB7.out).elevQ
      obtain⟨zf0,zf1,zf2,zf3,zf4,zf5,zf6,zf7,zf8,zf9,zf10⟩:=(HZ.out.later HB7.out).elevQF
      have HRZ:=Lib.hid ((HZ.out.later HB7.out).put11 (.string op) (.int .i64 (slotS ss var)) (.slice a4 n4 c4) (.int .i64 0) (.int .i64 lit.kind) (.bool lit.neg) (.slice d1.1 d1.2.1 d1.2.2) (.slice d2.1 d2.2.1 d2.2.2) (.string lit.name) (.int .i64 (slotS ss guard)) (.slice none 0 0))
      have HEND:=Lib.hid (ins_end (x:=⟨op,slotS ss var,(a4,n4,c4),0,lit.kind,lit.neg,d1,d2,lit.name,slotS ss guard,(none,0,0)⟩) HB1.out HS1.out HBB.out HB7.out (show InsR (fun b=>b<w7.heap.size∧(b<B∨W1.heap.size≤b)) w7 ⟨op,slotS ss var,(a4,n4,c4),0,lit.kind,lit.neg,d1,d2,lit.name,slotS ss guard,(none,0,0)⟩ (eqI f ss ⟨var,op,args,k,lit,guard⟩) from by rw [HI.out];exact⟨rfl,rfl,HA5.out.keep (keepOnly HO7.out fun b q=>⟨q.2.1,by simp;exact q.2.2,Nat.lt_of_lt_of_le q.2.1 HO7.out.size,.inr q.1⟩),rfl,rfl,rfl,(HUM.out _ HB7.out).p.weak fun b q=>⟨Nat.lt_of_lt_of_le q (HBW.out _ HB7.out),.inl q⟩,(HUD.out _ HB7.out).p.weak fun b q=>⟨Nat.lt_of_lt_of_le q (HBW.out _ HB7.out),.inl q⟩,rfl,rfl,IRowP.nil _ _⟩) (.string op) (.int .i64 (slotS ss var)) (.slice a4 n4 c4) (.int .i64 0) (.int .i64 lit.kind) (.bool lit.neg) (.slice d1.1 d1.2.1 d1.2.2) (.slice d2.1 d2.2.1 d2.2.2) (.string lit.name) (.int .i64 (slotS ss guard)) (.slice none 0 0))
      go_wp2
      refine ret_row rfl (w.heap.size+3) _ HRZ.out rfl rfl Tryz.underlying96 Tryz.infoInsS ?_
      exact⟨⟨op,slotS ss var,(a4,n4,c4),0,lit.kind,lit.neg,d1,d2,lit.name,slotS ss guard,(none,0,0)⟩,rfl,HEND.out.1,HEND.out.2⟩
    by_cases h1:op=bs [105,110]
    · clear h0
      have g0:(op.toList==[108,105,116])=false:=by rw [h1,bs_toList];rfl
      have g1:=str_yes (l:=[105,110]) h1
      have g2:(op.toList==[102,108,97,103])=false:=by rw [h1,bs_toList];rfl
      have g3:(op.toList==[109,101,109])=false:=by rw [h1,bs_toList];rfl
      have g4:(op.toList==[99,111,110,116])=false:=by rw [h1,bs_toList];rfl
      have HI:Hid (eqI f ss ⟨var,op,args,k,lit,guard⟩=⟨op,slotS ss var,args.map (slotS ss),k,noVal,slotS ss guard,[]⟩):=Lib.hid (by unfold eqI;rw [h1];simp [bs])
      clear h1
      have HQ5:=(HKQ.out.later HB5.out)
      have q0:=HQ5.cell 0 rfl;have q1:=HQ5.cell 1 rfl;have q2:=HQ5.cell 2 rfl;have q3:=HQ5.cell 3 rfl;have q4:=HQ5.cell 4 rfl;have q5:=HQ5.cell 5 rfl;have q6:=HQ5.cell 6 rfl;have q7:=HQ5.cell 7 rfl;have q8:=HQ5.cell 8 rfl;have q9:=HQ5.cell 9 rfl
      clear HQ5
      obtain⟨nc0,nc1,nc2,nc3,nc4,nc5,nc6,nc7,nc8,nc9,nc10⟩:=HN5.out.elevQ
      obtain⟨nf0,nf1,nf2,nf3,nf4,nf5,nf6,nf7,nf8,nf9,nf10⟩:=HN5.out.elevQF
      have HN7:Hid (Blk (w5.setCell ⟨g5,3,none⟩ (.int .i64 k)) g5 96 #[.string op,.int .i64 (slotS ss var),.slice a4 n4 c4,.int .i64 k,.int .i64 0,.bool false,.slice none 0 0,.slice none 0 0,.string ⟨#[]⟩,.int .i64 (slotS ss guard),.slice none 0 0]):=Lib.hid (HN5.out.putA 3 _)
      have HB7:Hid (Below W1.heap.size W1 (w5.setCell ⟨g5,3,none⟩ (.int .i64 k))):=Lib.hid (HB5.out.setCell (p:=⟨g5,3,none⟩) HG5.out _)
      have HO7:=Lib.hid (Only.set (S:=[some g5]) (List.mem_cons_self) 3 w5 (.int .i64 k))
      obtain⟨w7,hw7⟩:∃ w7,w7=w5.setCell ⟨g5,3,none⟩ (.int .i64 k):=⟨_,rfl⟩
      go_upto_region 14 with fail
      rw [←hw7] at HN7 HB7 HO7 ⊢
      clear hw7 nc0 nc1 nc2 nc3 nc4 nc5 nc6 nc7 nc8 nc9 nc10 nf0 nf1 nf2 nf3 nf4 nf5 nf6 nf7 nf8 nf9 nf10
      obtain⟨nc0,nc1,nc2,nc3,nc4,nc5,nc6,nc7,nc8,nc9,nc10⟩:=HN7.out.elevQ
      obtain⟨zc0,zc1,zc2,zc3,zc4,zc5,zc6,zc7,zc8,zc9,zc10⟩:=(HZ.out.later HB7.out).elevQ
      obtain⟨zf0,zf1,zf2,zf3,zf4,zf5,zf6,zf7,zf8,zf9,zf10⟩:=(HZ.out.later HB7.out).elevQF
      have HRZ:=Lib.hid ((HZ.out.later HB7.out).put11 (.string op) (.int .i64 (slotS ss var)) (.slice a4 n4 c4) (.int .i64 k) (.int .i64 0) (.bool false) (.slice none 0 0) (.slice none 0 0) (.string ⟨#[]⟩) (.int .i64 (slotS ss guard)) (.slice none 0 0))
      have HEND:=Lib.hid (ins_end (x:=⟨op,slotS ss var,(a4,n4,c4),k,0,false,(none,0,0),(none,0,0),⟨#[]⟩,slotS ss guard,(none,0,0)⟩) HB1.out HS1.out HBB.out HB7.out (show InsR (fun b=>b<w7.heap.size∧(b<B∨W1.heap.size≤b)) w7 ⟨op,slotS ss var,(a4,n4,c4),k,0,false,(none,0,0),(none,0,0),⟨#[]⟩,slotS ss guard,(none,0,0)⟩ (eqI f ss ⟨var,op,args,k,lit,guard⟩) from by rw [HI.out];exact⟨rfl,rfl,HA5.out.keep (keepOnly HO7.out fun b q=>⟨q.2.1,by simp;exact q.2.2,Nat.lt_of_lt_of_le q.2.1 HO7.out.size,.inr q.1⟩),rfl,rfl,rfl,URowP.nil _ _,URowP.nil _ _,rfl,rfl,IRowP.nil _ _⟩) (.string op) (.int .i64 (slotS ss var)) (.slice a4 n4 c4) (.int .i64 k) (.int .i64 0) (.bool false) (.slice none 0 0) (.slice none 0 0) (.string ⟨#[]⟩) (.int .i64 (slotS ss guard)) (.slice none 0 0))
      go_wp2
      refine ret_row rfl (w.heap.size+3) _ HRZ.out rfl rfl Tryz.underlying96 Tryz.infoInsS ?_
      exact⟨⟨op,slotS ss var,(a4,n4,c4),k,0,false,(none,0,0),(none,0,0),⟨#[]⟩,slotS ss guard,(none,0,0)⟩,rfl,HEND.out.1,HEND.out.2⟩
    by_cases h2:op=bs [102,108,97,103]
    · clear h0 h1
      have g0:(op.toList==[108,105,116])=false:=by rw [h2,bs_toList];rfl
      have g1:(op.toList==[105,110])=false:=by rw [h2,bs_toList];rfl
      have g2:=str_yes (l:=[102,108,97,103]) h2
      have g3:(op.toList==[109,101,109])=false:=by rw [h2,bs_toList];rfl
      have g4:(op.toList==[99,111,110,116])=false:=by rw [h2,bs_toList];rfl
      have HI:Hid (eqI f ss ⟨var,op,args,k,lit,guard⟩=⟨op,slotS ss var,args.map (slotS ss),k,noVal,slotS ss guard,[]⟩):=Lib.hid (by unfold eqI;rw [h2];simp [bs])
      clear h2
      have HQ5:=(HKQ.out.later HB5.out)
      have q0:=HQ5.cell 0 rfl;have q1:=HQ5.cell 1 rfl;have q2:=HQ5.cell 2 rfl;have q3:=HQ5.cell 3 rfl;have q4:=HQ5.cell 4 rfl;have q5:=HQ5.cell 5 rfl;have q6:=HQ5.cell 6 rfl;have q7:=HQ5.cell 7 rfl;have q8:=HQ5.cell 8 rfl;have q9:=HQ5.cell 9 rfl
      clear HQ5
      obtain⟨nc0,nc1,nc2,nc3,nc4,nc5,nc6,nc7,nc8,nc9,nc10⟩:=HN5.out.elevQ
      obtain⟨nf0,nf1,nf2,nf3,nf4,nf5,nf6,nf7,nf8,nf9,nf10⟩:=HN5.out.elevQF
      have HN7:Hid (Blk (w5.setCell ⟨g5,3,none⟩ (.int .i64 k)) g5 96 #[.string op,.int .i64 (slotS ss var),.slice a4 n4 c4,.int .i64 k,.int .i64 0,.bool false,.slice none 0 0,.slice none 0 0,.string ⟨#[]⟩,.int .i64 (slotS ss guard),.slice none 0 0]):=Lib.hid (HN5.out.putA 3 _)
      have HB7:Hid (Below W1.heap.size W1 (w5.setCell ⟨g5,3,none⟩ (.int .i64 k))):=Lib.hid (HB5.out.setCell (p:=⟨g5,3,none⟩) HG5.out _)
      have HO7:=Lib.hid (Only.set (S:=[some g5]) (List.mem_cons_self) 3 w5 (.int .i64 k))
      obtain⟨w7,hw7⟩:∃ w7,w7=w5.setCell ⟨g5,3,none⟩ (.int .i64 k):=⟨_,rfl⟩
      go_upto_region 14 with fail
      rw [←hw7] at HN7 HB7 HO7 ⊢
      clear hw7 nc0 nc1 nc2 nc3 nc4 nc5 nc6 nc7 nc8 nc9 nc10 nf0 nf1 nf2 nf3 nf4 nf5 nf6 nf7 nf8 nf9 nf10
      obtain⟨nc0,nc1,nc2,nc3,nc4,nc5,nc6,nc7,nc8,nc9,nc10⟩:=HN7.out.elevQ
      obtain⟨zc0,zc1,zc2,zc3,zc4,zc5,zc6,zc7,zc8,zc9,zc10⟩:=(HZ.out.later HB7.out).elevQ
      obtain⟨zf0,zf1,zf2,zf3,zf4,zf5,zf6,zf7,zf8,zf9,zf10⟩:=(HZ.out.later HB7.out).elevQF
      have HRZ:=Lib.hid ((HZ.out.later HB7.out).put11 (.string op) (.int .i64 (slotS ss var)) (.slice a4 n4 c4) (.int .i64 k) (.int .i64 0) (.bool false) (.slice none 0 0) (.slice none 0 0) (.string ⟨#[]⟩) (.int .i64 (slotS ss guard)) (.slice none 0 0))
      have HEND:=Lib.hid (ins_end (x:=⟨op,slotS ss var,(a4,n4,c4),k,0,false,(none,0,0),(none,0,0),⟨#[]⟩,slotS ss guard,(none,0,0)⟩) HB1.out HS1.out HBB.out HB7.out (show InsR (fun b=>b<w7.heap.size∧(b<B∨W1.heap.size≤b)) w7 ⟨op,slotS ss var,(a4,n4,c4),k,0,false,(none,0,0),(none,0,0),⟨#[]⟩,slotS ss guard,(none,0,0)⟩ (eqI f ss ⟨var,op,args,k,lit,guard⟩) from by rw [HI.out];exact⟨rfl,rfl,HA5.out.keep (keepOnly HO7.out fun b q=>⟨q.2.1,by simp;exact q.2.2,Nat.lt_of_lt_of_le q.2.1 HO7.out.size,.inr q.1⟩),rfl,rfl,rfl,URowP.nil _ _,URowP.nil _ _,rfl,rfl,IRowP.nil _ _⟩) (.string op) (.int .i64 (slotS ss var)) (.slice a4 n4 c4) (.int .i64 k) (.int .i64 0) (.bool false) (.slice none 0 0) (.slice none 0 0) (.string ⟨#[]⟩) (.int .i64 (slotS ss guard)) (.slice none 0 0))
      go_wp2
      refine ret_row rfl (w.heap.size+3) _ HRZ.out rfl rfl Tryz.underlying96 Tryz.infoInsS ?_
      exact⟨⟨op,slotS ss var,(a4,n4,c4),k,0,false,(none,0,0),(none,0,0),⟨#[]⟩,slotS ss guard,(none,0,0)⟩,rfl,HEND.out.1,HEND.out.2⟩
    by_cases h3:op=bs [109,101,109]
    · clear h0 h1 h2
      have g0:(op.toList==[108,105,116])=false:=by rw [h3,bs_toList];rfl
      have g1:(op.toList==[105,110])=false:=by rw [h3,bs_toList];rfl
      have g2:(op.toList==[102,108,97,103])=false:=by rw [h3,bs_toList];rfl
      have g3:=str_yes (l:=[109,101,109]) h3
      have g4:(op.toList==[99,111,110,116])=false:=by rw [h3,bs_toList];rfl
      obtain⟨p0,p1⟩:=plB_yes (HKM.out h3)
      obtain⟨j,rfl⟩:∃ j:Nat,k=(j:Int):=⟨k.toNat,by omega⟩
      have hj:j<v.mems.2.1:=by omega
      obtain⟨x,hx0⟩:=(HF.out _ HB5.out).mems.ex hj
      have hx1:(f.mems[(j:Int).toNat]?.map MemM.resets).getD []=x.resets:=by rw [Int.toNat_natCast,hx0];rfl
      have HI:Hid (eqI f ss ⟨var,op,args,(j:Int),lit,guard⟩=⟨op,slotS ss var,args.map (slotS ss),(j:Int),noVal,slotS ss guard,x.resets.map (slotS ss)⟩):=Lib.hid (by unfold eqI;rw [h3];simp only [hx1];simp [bs])
      have hmx:=(HF.out _ HB5.out).mems.len_le
      unfold maxLen at hmx
      have HLR:=Lib.hid (HRM.out j x hx0)
      have HXW:Hid (∀ W,Below W1.heap.size W1 W→∃(b off:Nat) (A3:Option Addr) (L3 C3:Nat),v.mems.1=some ⟨b,off,none⟩∧b<B∧W.cell? ⟨b,off+j*8+7,none⟩=some (.slice A3 L3 C3)∧IRow W B A3 L3 C3 x.resets):=Lib.hid fun W hb=>by
        obtain⟨b,off,hab,hlb,hat⟩:=(HF.out W hb).mems.at_ hx0
        obtain⟨A3,L3,C3,h3,h4⟩:=hat.resets
        exact⟨b,off,A3,L3,C3,hab,hlb,h3,h4⟩
      clear h3 hx1
      have HQ5:=(HKQ.out.later HB5.out)
      have q0:=HQ5.cell 0 rfl;have q1:=HQ5.cell 1 rfl;have q2:=HQ5.cell 2 rfl;have q3:=HQ5.cell 3 rfl;have q4:=HQ5.cell 4 rfl;have q5:=HQ5.cell 5 rfl;have q6:=HQ5.cell 6 rfl;have q7:=HQ5.cell 7 rfl;have q8:=HQ5.cell 8 rfl;have q9:=HQ5.cell 9 rfl
      clear HQ5
      obtain⟨nc0,nc1,nc2,nc3,nc4,nc5,nc6,nc7,nc8,nc9,nc10⟩:=HN5.out.elevQ
      obtain⟨nf0,nf1,nf2,nf3,nf4,nf5,nf6,nf7,nf8,nf9,nf10⟩:=HN5.out.elevQF
      obtain⟨w6,hw6⟩:∃ w6,w6=w5.setCell ⟨g5,3,none⟩ (.int .i64 (j:Int)):=⟨_,rfl⟩
      have HN6:Hid (Blk w6 g5 96 #[.string op,.int .i64 (slotS ss var),.slice a4 n4 c4,.int .i64 (j:Int),.int .i64 0,.bool false,.slice none 0 0,.slice none 0 0,.string ⟨#[]⟩,.int .i64 (slotS ss guard),.slice none 0 0]):=Lib.hid (by rw [hw6];exact HN5.out.putA 3 _)
      have HB6:Hid (Below W1.heap.size W1 w6):=Lib.hid (by rw [hw6];exact HB5.out.setCell (p:=⟨g5,3,none⟩) HG5.out _)
      have HO6:Hid (Only [some g5] w5 w6):=Lib.hid (by rw [hw6];exact Only.set (List.mem_cons_self) 3 _ _)
      go_upto_region 10 with fail
      rw [←hw6]
      clear hw6 nc0 nc1 nc2 nc3 nc4 nc5 nc6 nc7 nc8 nc9 nc10 nf0 nf1 nf2 nf3 nf4 nf5 nf6 nf7 nf8 nf9 nf10 q0 q1 q2 q3 q4 q5 q6 q7 q8 q9
      obtain⟨b,off,A3,L3,C3,hab,hlb,h3,h4⟩:=HXW.out w6 HB6.out
      have hbW:b<W1.heap.size:=by have:=HBB.out;have:=HS1.out;omega
      have hl3:L3≤1000000:=by rw [←h4.1];exact Nat.le_trans HLR.out.1 (by decide)
      have HPW:Hid (∀ W,Below W1.heap.size w6 W→W.cell? ⟨w.heap.size+1,0,none⟩=some (.slice A m c)∧W.cell? ⟨w.heap.size+1,1,none⟩=some (.slice A2 n c2)∧W.cell? ⟨w.heap.size+1,2,none⟩=some (.int .i64 S)∧W.cell? ⟨w.heap.size+2,3,none⟩=some (.int .i64 (j:Int))∧W.cell? ⟨w.heap.size,4,none⟩=some (.slice (some ⟨b,off,none⟩) v.mems.2.1 v.mems.2.2)∧W.cell? ⟨b,off+j*8+7,none⟩=some (.slice A3 L3 C3)):=Lib.hid fun W hb=>by
        have k1:=HKP.out.later (HB6.out.trans hb)
        have k2:=HKQ.out.later (HB6.out.trans hb)
        have k3:=HKF.out.later (HB6.out.trans hb)
        exact⟨k1.cell 0 rfl,k1.cell 1 rfl,k1.cell 2 rfl,k2.cell 3 rfl,(by rw [←hab];exact k3.cell 4 rfl),(hb.cell (p:=⟨b,off+j*8+7,none⟩) hbW).trans h3⟩
      have HB6d:=Lib.hid (Below.refl W1.heap.size w6).drew
      have HTU:=Lib.hid (slots15_t A A2 m c n c2 B S ss A3 L3 C3 x.resets w6.drew (HR.out _ HB6.out.drew) (HBW.out _ HB6.out.drew) (h4.below (Below.refl B w6).drew) (HBW.out _ HB6.out.drew) hl3 HLR.out.2)
      clear hab hlb h3 h4 hl3 hx0
      have hjI:(j:Int)<(v.mems.2.1:Int):=by omega
      go_region_held3 (fun w'=>w'.cell? ⟨w.heap.size+1,0,none⟩=some (.slice A m c)∧w'.cell? ⟨w.heap.size+1,1,none⟩=some (.slice A2 n c2)∧w'.cell? ⟨w.heap.size+1,2,none⟩=some (.int .i64 S)∧w'.cell? ⟨w.heap.size+2,3,none⟩=some (.int .i64 (j:Int))∧w'.cell? ⟨w.heap.size,4,none⟩=some (.slice (some ⟨b,off,none⟩) v.mems.2.1 v.mems.2.2)∧w'.cell? ⟨b,off+j*8+7,none⟩=some (.slice A3 L3 C3)) (first | with_reducible exact HPW.out _ HB6d.out | with_reducible exact HPW.out _ HB7.out | with_reducible exact HPW.out _ (HB7.out.setCell (p:=⟨g5,10,none⟩) HG5.out _) | go_keep) (first
        | (go_at_call 122;(with_reducible refine HTU.out.mono ?_);rintro e w7 ⟨v7,rfl,hown,hb⟩;obtain⟨a6,c6,hv6,ha⟩:=hown.irowP;obtain⟨n6,hn6⟩:∃ n6,n6=(x.resets.map (slotS ss)).length:=⟨_,rfl⟩;rw [←hn6] at hv6 ha;clear hn6;subst hv6;have HB7:=Lib.hid (HB6d.out.trans (hb.mono (show W1.heap.size≤w6.drew.heap.size from HB6.out.size)));have HBB7:=Lib.hid ((show Below w6.heap.size w6 w6.drew from(Below.refl _ _).drew).trans hb);have HN7:=Lib.hid (HN6.out.later HBB7.out);have HA7:=Lib.hid ha;obtain⟨nc0,nc1,nc2,nc3,nc4,nc5,nc6,nc7,nc8,nc9,nc10⟩:=HN7.out.elevQ;obtain⟨nf0,nf1,nf2,nf3,nf4,nf5,nf6,nf7,nf8,nf9,nf10⟩:=HN7.out.elevQF;clear hown hb ha))
      obtain⟨w8,hw8⟩:∃ w8,w8=w7.setCell ⟨g5,10,none⟩ (.slice a6 n6 c6):=⟨_,rfl⟩
      have HN8:Hid (Blk w8 g5 96 #[.string op,.int .i64 (slotS ss var),.slice a4 n4 c4,.int .i64 (j:Int),.int .i64 0,.bool false,.slice none 0 0,.slice none 0 0,.string ⟨#[]⟩,.int .i64 (slotS ss guard),.slice a6 n6 c6]):=Lib.hid (by rw [hw8];exact HN7.out.putA 10 _)
      have HB8:Hid (Below W1.heap.size W1 w8):=Lib.hid (by rw [hw8];exact(HB6.out.trans HB7.out).setCell (p:=⟨g5,10,none⟩) HG5.out _)
      have HO8:Hid (Only [some g5] w7 w8):=Lib.hid (by rw [hw8];exact Only.set (List.mem_cons_self) 10 _ _)
      have hg6:g5<w6.heap.size:=HN6.out.lt
      have HA8:=Lib.hid (HA7.out.keep (Q:=fun b=>b<w8.heap.size∧(b<B∨W1.heap.size≤b)) (keepOnly HO8.out fun b q=>⟨q.2,by simp;exact fun e=>by have:=q.1;have e2:w6.drew.heap.size=w6.heap.size:=rfl;omega,Nat.lt_of_lt_of_le q.2 HO8.out.size,.inr (Nat.le_trans HB6.out.size q.1)⟩))
      have HA9:=Lib.hid (((HA5.out.keep (Q:=fun b=>W1.heap.size≤b∧b<w6.heap.size∧b≠g5) (keepOnly HO6.out fun b q=>⟨q.2.1,by simp;exact q.2.2,q.1,Nat.lt_of_lt_of_le q.2.1 HO6.out.size,q.2.2⟩)).keep (keepNe HBB7.out)).keep (Q:=fun b=>b<w8.heap.size∧(b<B∨W1.heap.size≤b)) (keepOnly HO8.out fun b q=>⟨q.2.1,by simp;exact q.2.2,Nat.lt_of_lt_of_le q.2.1 HO8.out.size,.inr q.1⟩))
      rw [←hw8]
      clear hw8 nc0 nc1 nc2 nc3 nc4 nc5 nc6 nc7 nc8 nc9 nc10 nf0 nf1 nf2 nf3 nf4 nf5 nf6 nf7 nf8 nf9 nf10 hg6 HPW
      obtain⟨nc0,nc1,nc2,nc3,nc4,nc5,nc6,nc7,nc8,nc9,nc10⟩:=HN8.out.elevQ
      obtain⟨zc0,zc1,zc2,zc3,zc4,zc5,zc6,zc7,zc8,zc9,zc10⟩:=(HZ.out.later HB8.out).elevQ
      obtain⟨zf0,zf1,zf2,zf3,zf4,zf5,zf6,zf7,zf8,zf9,zf10⟩:=(HZ.out.later HB8.out).elevQF
      have HRZ:=Lib.hid ((HZ.out.later HB8.out).put11 (.string op) (.int .i64 (slotS ss var)) (.slice a4 n4 c4) (.int .i64 (j:Int)) (.int .i64 0) (.bool false) (.slice none 0 0) (.slice none 0 0) (.string ⟨#[]⟩) (.int .i64 (slotS ss guard)) (.slice a6 n6 c6))
      have HEND:=Lib.hid (ins_end (x:=⟨op,slotS ss var,(a4,n4,c4),(j:Int),0,false,(none,0,0),(none,0,0),⟨#[]⟩,slotS ss guard,(a6,n6,c6)⟩) HB1.out HS1.out HBB.out HB8.out (show InsR (fun b=>b<w8.heap.size∧(b<B∨W1.heap.size≤b)) w8 ⟨op,slotS ss var,(a4,n4,c4),(j:Int),0,false,(none,0,0),(none,0,0),⟨#[]⟩,slotS ss guard,(a6,n6,c6)⟩ (eqI f ss ⟨var,op,args,(j:Int),lit,guard⟩) from by rw [HI.out];exact⟨rfl,rfl,HA9.out,rfl,rfl,rfl,URowP.nil _ _,URowP.nil _ _,rfl,rfl,HA8.out⟩) (.string op) (.int .i64 (slotS ss var)) (.slice a4 n4 c4) (.int .i64 (j:Int)) (.int .i64 0) (.bool false) (.slice none 0 0) (.slice none 0 0) (.string ⟨#[]⟩) (.int .i64 (slotS ss guard)) (.slice a6 n6 c6))
      go_wp2
      refine ret_row rfl (w.heap.size+3) _ HRZ.out rfl rfl Tryz.underlying96 Tryz.infoInsS ?_
      exact⟨⟨op,slotS ss var,(a4,n4,c4),(j:Int),0,false,(none,0,0),(none,0,0),⟨#[]⟩,slotS ss guard,(a6,n6,c6)⟩,rfl,HEND.out.1,HEND.out.2⟩
    by_cases h4:op=bs [99,111,110,116]
    · clear h0 h1 h2 h3
      have g0:(op.toList==[108,105,116])=false:=by rw [h4,bs_toList];rfl
      have g1:(op.toList==[105,110])=false:=by rw [h4,bs_toList];rfl
      have g2:(op.toList==[102,108,97,103])=false:=by rw [h4,bs_toList];rfl
      have g3:(op.toList==[109,101,109])=false:=by rw [h4,bs_toList];rfl
      have g4:=str_yes (l:=[99,111,110,116]) h4
      obtain⟨p0,p1⟩:=plB_yes (HKC.out h4)
      obtain⟨j,rfl⟩:∃ j:Nat,k=(j:Int):=⟨k.toNat,by omega⟩
      have hj:j<v.conts.2.1:=by omega
      obtain⟨x,hx0⟩:=(HF.out _ HB5.out).conts.ex hj
      have hx1:(f.conts[(j:Int).toNat]?.map ContM.resets).getD []=x.resets:=by rw [Int.toNat_natCast,hx0];rfl
      have HI:Hid (eqI f ss ⟨var,op,args,(j:Int),lit,guard⟩=⟨op,slotS ss var,args.map (slotS ss),(j:Int),noVal,slotS ss guard,x.resets.map (slotS ss)⟩):=Lib.hid (by unfold eqI;rw [h4];simp only [hx1];simp [bs])
      have hmx:=(HF.out _ HB5.out).conts.len_le
      unfold maxLen at hmx
      have HLR:=Lib.hid (HRC.out j x hx0)
      have HXW:Hid (∀ W,Below W1.heap.size W1 W→∃(b off:Nat) (A3:Option Addr) (L3 C3:Nat),v.conts.1=some ⟨b,off,none⟩∧b<B∧W.cell? ⟨b,off+j*9+7,none⟩=some (.slice A3 L3 C3)∧IRow W B A3 L3 C3 x.resets):=Lib.hid fun W hb=>by
        obtain⟨b,off,hab,hlb,hat⟩:=(HF.out W hb).conts.at_ hx0
        obtain⟨A3,L3,C3,h3,h4⟩:=hat.resets
        exact⟨b,off,A3,L3,C3,hab,hlb,h3,h4⟩
      clear h4 hx1
      have HQ5:=(HKQ.out.later HB5.out)
      have q0:=HQ5.cell 0 rfl;have q1:=HQ5.cell 1 rfl;have q2:=HQ5.cell 2 rfl;have q3:=HQ5.cell 3 rfl;have q4:=HQ5.cell 4 rfl;have q5:=HQ5.cell 5 rfl;have q6:=HQ5.cell 6 rfl;have q7:=HQ5.cell 7 rfl;have q8:=HQ5.cell 8 rfl;have q9:=HQ5.cell 9 rfl
      clear HQ5
      obtain⟨nc0,nc1,nc2,nc3,nc4,nc5,nc6,nc7,nc8,nc9,nc10⟩:=HN5.out.elevQ
      obtain⟨nf0,nf1,nf2,nf3,nf4,nf5,nf6,nf7,nf8,nf9,nf10⟩:=HN5.out.elevQF
      obtain⟨w6,hw6⟩:∃ w6,w6=w5.setCell ⟨g5,3,none⟩ (.int .i64 (j:Int)):=⟨_,rfl⟩
      have HN6:Hid (Blk w6 g5 96 #[.string op,.int .i64 (slotS ss var),.slice a4 n4 c4,.int .i64 (j:Int),.int .i64 0,.bool false,.slice none 0 0,.slice none 0 0,.string ⟨#[]⟩,.int .i64 (slotS ss guard),.slice none 0 0]):=Lib.hid (by rw [hw6];exact HN5.out.putA 3 _)
      have HB6:Hid (Below W1.heap.size W1 w6):=Lib.hid (by rw [hw6];exact HB5.out.setCell (p:=⟨g5,3,none⟩) HG5.out _)
      have HO6:Hid (Only [some g5] w5 w6):=Lib.hid (by rw [hw6];exact Only.set (List.mem_cons_self) 3 _ _)
      go_upto_region 13 with fail
      rw [←hw6]
      clear hw6 nc0 nc1 nc2 nc3 nc4 nc5 nc6 nc7 nc8 nc9 nc10 nf0 nf1 nf2 nf3 nf4 nf5 nf6 nf7 nf8 nf9 nf10 q0 q1 q2 q3 q4 q5 q6 q7 q8 q9
      obtain⟨b,off,A3,L3,C3,hab,hlb,h3,h4⟩:=HXW.out w6 HB6.out
      have hbW:b<W1.heap.size:=by have:=HBB.out;have:=HS1.out;omega
      have hl3:L3≤1000000:=by rw [←h4.1];exact Nat.le_trans HLR.out.1 (by decide)
      have HPW:Hid (∀ W,Below W1.heap.size w6 W→W.cell? ⟨w.heap.size+1,0,none⟩=some (.slice A m c)∧W.cell? ⟨w.heap.size+1,1,none⟩=some (.slice A2 n c2)∧W.cell? ⟨w.heap.size+1,2,none⟩=some (.int .i64 S)∧W.cell? ⟨w.heap.size+2,3,none⟩=some (.int .i64 (j:Int))∧W.cell? ⟨w.heap.size,5,none⟩=some (.slice (some ⟨b,off,none⟩) v.conts.2.1 v.conts.2.2)∧W.cell? ⟨b,off+j*9+7,none⟩=some (.slice A3 L3 C3)):=Lib.hid fun W hb=>by
        have k1:=HKP.out.later (HB6.out.trans hb)
        have k2:=HKQ.out.later (HB6.out.trans hb)
        have k3:=HKF.out.later (HB6.out.trans hb)
        exact⟨k1.cell 0 rfl,k1.cell 1 rfl,k1.cell 2 rfl,k2.cell 3 rfl,(by rw [←hab];exact k3.cell 5 rfl),(hb.cell (p:=⟨b,off+j*9+7,none⟩) hbW).trans h3⟩
      have HB6d:=Lib.hid (Below.refl W1.heap.size w6).drew
      have HTU:=Lib.hid (slots15_t A A2 m c n c2 B S ss A3 L3 C3 x.resets w6.drew (HR.out _ HB6.out.drew) (HBW.out _ HB6.out.drew) (h4.below (Below.refl B w6).drew) (HBW.out _ HB6.out.drew) hl3 HLR.out.2)
      clear hab hlb h3 h4 hl3 hx0
      have hjI:(j:Int)<(v.conts.2.1:Int):=by omega
      go_region_held3 (fun w'=>w'.cell? ⟨w.heap.size+1,0,none⟩=some (.slice A m c)∧w'.cell? ⟨w.heap.size+1,1,none⟩=some (.slice A2 n c2)∧w'.cell? ⟨w.heap.size+1,2,none⟩=some (.int .i64 S)∧w'.cell? ⟨w.heap.size+2,3,none⟩=some (.int .i64 (j:Int))∧w'.cell? ⟨w.heap.size,5,none⟩=some (.slice (some ⟨b,off,none⟩) v.conts.2.1 v.conts.2.2)∧w'.cell? ⟨b,off+j*9+7,none⟩=some (.slice A3 L3 C3)) (first | with_reducible exact HPW.out _ HB6d.out | with_reducible exact HPW.out _ HB7.out | with_reducible exact HPW.out _ (HB7.out.setCell (p:=⟨g5,10,none⟩) HG5.out _) | go_keep) (first
        | (go_at_call 122;(with_reducible refine HTU.out.mono ?_);rintro e w7 ⟨v7,rfl,hown,hb⟩;obtain⟨a6,c6,hv6,ha⟩:=hown.irowP;obtain⟨n6,hn6⟩:∃ n6,n6=(x.resets.map (slotS ss)).length:=⟨_,rfl⟩;rw [←hn6] at hv6 ha;clear hn6;subst hv6;have HB7:=Lib.hid (HB6d.out.trans (hb.mono (show W1.heap.size≤w6.drew.heap.size from HB6.out.size)));have HBB7:=Lib.hid ((show Below w6.heap.size w6 w6.drew from(Below.refl _ _).drew).trans hb);have HN7:=Lib.hid (HN6.out.later HBB7.out);have HA7:=Lib.hid ha;obtain⟨nc0,nc1,nc2,nc3,nc4,nc5,nc6,nc7,nc8,nc9,nc10⟩:=HN7.out.elevQ;obtain⟨nf0,nf1,nf2,nf3,nf4,nf5,nf6,nf7,nf8,nf9,nf10⟩:=HN7.out.elevQF;clear hown hb ha))
      obtain⟨w8,hw8⟩:∃ w8,w8=w7.setCell ⟨g5,10,none⟩ (.slice a6 n6 c6):=⟨_,rfl⟩
      have HN8:Hid (Blk w8 g5 96 #[.string op,.int .i64 (slotS ss var),.slice a4 n4 c4,.int .i64 (j:Int),.int .i64 0,.bool false,.slice none 0 0,.slice none 0 0,.string ⟨#[]⟩,.int .i64 (slotS ss guard),.slice a6 n6 c6]):=Lib.hid (by rw [hw8];exact HN7.out.putA 10 _)
      have HB8:Hid (Below W1.heap.size W1 w8):=Lib.hid (by rw [hw8];exact(HB6.out.trans HB7.out).setCell (p:=⟨g5,10,none⟩) HG5.out _)
      have HO8:Hid (Only [some g5] w7 w8):=Lib.hid (by rw [hw8];exact Only.set (List.mem_cons_self) 10 _ _)
      have hg6:g5<w6.heap.size:=HN6.out.lt
      have HA8:=Lib.hid (HA7.out.keep (Q:=fun b=>b<w8.heap.size∧(b<B∨W1.heap.size≤b)) (keepOnly HO8.out fun b q=>⟨q.2,by simp;exact fun e=>by have:=q.1;have e2:w6.drew.heap.size=w6.heap.size:=rfl;omega,Nat.lt_of_lt_of_le q.2 HO8.out.size,.inr (Nat.le_trans HB6.out.size q.1)⟩))
      have HA9:=Lib.hid (((HA5.out.keep (Q:=fun b=>W1.heap.size≤b∧b<w6.heap.size∧b≠g5) (keepOnly HO6.out fun b q=>⟨q.2.1,by simp;exact q.2.2,q.1,Nat.lt_of_lt_of_le q.2.1 HO6.out.size,q.2.2⟩)).keep (keepNe HBB7.out)).keep (Q:=fun b=>b<w8.heap.size∧(b<B∨W1.heap.size≤b)) (keepOnly HO8.out fun b q=>⟨q.2.1,by simp;exact q.2.2,Nat.lt_of_lt_of_le q.2.1 HO8.out.size,.inr q.1⟩))
      rw [←hw8]
      clear hw8 nc0 nc1 nc2 nc3 nc4 nc5 nc6 nc7 nc8 nc9 nc10 nf0 nf1 nf2 nf3 nf4 nf5 nf6 nf7 nf8 nf9 nf10 hg6 HPW
      obtain⟨nc0,nc1,nc2,nc3,nc4,nc5,nc6,nc7,nc8,nc9,nc10⟩:=HN8.out.elevQ
      obtain⟨zc0,zc1,zc2,zc3,zc4,zc5,zc6,zc7,zc8,zc9,zc10⟩:=(HZ.out.later HB8.out).elevQ
      obtain⟨zf0,zf1,zf2,zf3,zf4,zf5,zf6,zf7,zf8,zf9,zf10⟩:=(HZ.out.later HB8.out).elevQF
      have HRZ:=Lib.hid ((HZ.out.later HB8.out).put11 (.string op) (.int .i64 (slotS ss var)) (.slice a4 n4 c4) (.int .i64 (j:Int)) (.int .i64 0) (.bool false) (.slice none 0 0) (.slice none 0 0) (.string ⟨#[]⟩) (.int .i64 (slotS ss guard)) (.slice a6 n6 c6))
      have HEND:=Lib.hid (ins_end (x:=⟨op,slotS ss var,(a4,n4,c4),(j:Int),0,false,(none,0,0),(none,0,0),⟨#[]⟩,slotS ss guard,(a6,n6,c6)⟩) HB1.out HS1.out HBB.out HB8.out (show InsR (fun b=>b<w8.heap.size∧(b<B∨W1.heap.size≤b)) w8 ⟨op,slotS ss var,(a4,n4,c4),(j:Int),0,false,(none,0,0),(none,0,0),⟨#[]⟩,slotS ss guard,(a6,n6,c6)⟩ (eqI f ss ⟨var,op,args,(j:Int),lit,guard⟩) from by rw [HI.out];exact⟨rfl,rfl,HA9.out,rfl,rfl,rfl,URowP.nil _ _,URowP.nil _ _,rfl,rfl,HA8.out⟩) (.string op) (.int .i64 (slotS ss var)) (.slice a4 n4 c4) (.int .i64 (j:Int)) (.int .i64 0) (.bool false) (.slice none 0 0) (.slice none 0 0) (.string ⟨#[]⟩) (.int .i64 (slotS ss guard)) (.slice a6 n6 c6))
      go_wp2
      refine ret_row rfl (w.heap.size+3) _ HRZ.out rfl rfl Tryz.underlying96 Tryz.infoInsS ?_
      exact⟨⟨op,slotS ss var,(a4,n4,c4),(j:Int),0,false,(none,0,0),(none,0,0),⟨#[]⟩,slotS ss guard,(a6,n6,c6)⟩,rfl,HEND.out.1,HEND.out.2⟩
    have g0:=str_no (l:=[108,105,116]) h0
    have g1:=str_no (l:=[105,110]) h1
    have g2:=str_no (l:=[102,108,97,103]) h2
    have g3:=str_no (l:=[109,101,109]) h3
    have g4:=str_no (l:=[99,111,110,116]) h4
    have HI:Hid (eqI f ss ⟨var,op,args,k,lit,guard⟩=⟨op,slotS ss var,args.map (slotS ss),0,noVal,slotS ss guard,[]⟩):=Lib.hid (by unfold eqI;simp [h0,h1,h2,h3,h4])
    clear h0 h1 h2 h3 h4
    have HQ5:=(HKQ.out.later HB5.out)
    have q0:=HQ5.cell 0 rfl;have q1:=HQ5.cell 1 rfl;have q2:=HQ5.cell 2 rfl;have q3:=HQ5.cell 3 rfl;have q4:=HQ5.cell 4 rfl;have q5:=HQ5.cell 5 rfl;have q6:=HQ5.cell 6 rfl;have q7:=HQ5.cell 7 rfl;have q8:=HQ5.cell 8 rfl;have q9:=HQ5.cell 9 rfl
    clear HQ5
    obtain⟨nc0,nc1,nc2,nc3,nc4,nc5,nc6,nc7,nc8,nc9,nc10⟩:=HN5.out.elevQ
    obtain⟨zc0,zc1,zc2,zc3,zc4,zc5,zc6,zc7,zc8,zc9,zc10⟩:=(HZ.out.later HB5.out).elevQ
    obtain⟨zf0,zf1,zf2,zf3,zf4,zf5,zf6,zf7,zf8,zf9,zf10⟩:=(HZ.out.later HB5.out).elevQF
    have HRZ:=Lib.hid ((HZ.out.later HB5.out).put11 (.string op) (.int .i64 (slotS ss var)) (.slice a4 n4 c4) (.int .i64 0) (.int .i64 0) (.bool false) (.slice none 0 0) (.slice none 0 0) (.string ⟨#[]⟩) (.int .i64 (slotS ss guard)) (.slice none 0 0))
    have HEND:=Lib.hid (ins_end (x:=⟨op,slotS ss var,(a4,n4,c4),0,0,false,(none,0,0),(none,0,0),⟨#[]⟩,slotS ss guard,(none,0,0)⟩) HB1.out HS1.out HBB.out HB5.out (show InsR (fun b=>b<w5.heap.size∧(b<B∨W1.heap.size≤b)) w5 ⟨op,slotS ss var,(a4,n4,c4),0,0,false,(none,0,0),(none,0,0),⟨#[]⟩,slotS ss guard,(none,0,0)⟩ (eqI f ss ⟨var,op,args,k,lit,guard⟩) from by rw [HI.out];exact⟨rfl,rfl,HA5.out.weak fun b q=>⟨q.2.1,.inr q.1⟩,rfl,rfl,rfl,URowP.nil _ _,URowP.nil _ _,rfl,rfl,IRowP.nil _ _⟩) (.string op) (.int .i64 (slotS ss var)) (.slice a4 n4 c4) (.int .i64 0) (.int .i64 0) (.bool false) (.slice none 0 0) (.slice none 0 0) (.string ⟨#[]⟩) (.int .i64 (slotS ss guard)) (.slice none 0 0))
    go_wp2
    refine ret_row rfl (w.heap.size+3) _ HRZ.out rfl rfl Tryz.underlying96 Tryz.infoInsS ?_
    exact⟨⟨op,slotS ss var,(a4,n4,c4),0,0,false,(none,0,0),(none,0,0),⟨#[]⟩,slotS ss guard,(none,0,0)⟩,rfl,HEND.out.1,HEND.out.2⟩
end Go.Proofs.YtpnlbjnbgemocaaGreat
