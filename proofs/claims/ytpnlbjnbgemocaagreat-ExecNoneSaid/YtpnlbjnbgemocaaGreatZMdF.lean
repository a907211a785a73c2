import Derived.Test.YtpnlbjnbgemocaaGreatZMdC
import Derived.Deep.RegionHeld3
import Derived.Deep.DeepCutAuto
namespace Go.Proofs.YtpnlbjnbgemocaaGreat
set_option linter.unusedVariables false
set_option linter.unusedSimpArgs false
set_option maxRecDepth 100000
open Go.RowKit
theorem ins_endG {d B:Nat}{w W1 w7:World}{x:InsM}{q:InsP}(hB1:Below w.heap.size w W1)(hs:W1.heap.size=w.heap.size+d+1)(hB:B≤w.heap.size)(h7:Below W1.heap.size W1 w7)(hr:InsR (fun b=>b<w7.heap.size∧(b<B∨W1.heap.size≤b)) w7 x q)(y0 y1 y2 y3 y4 y5 y6 y7 y8 y9 y10:Value) :
    InsR (NewP B w.heap.size (((((((((((w7.setCell ⟨w.heap.size+d,0,none⟩ y0).setCell ⟨w.heap.size+d,1,none⟩ y1).setCell ⟨w.heap.size+d,2,none⟩ y2).setCell ⟨w.heap.size+d,3,none⟩ y3).setCell ⟨w.heap.size+d,4,none⟩ y4).setCell ⟨w.heap.size+d,5,none⟩ y5).setCell ⟨w.heap.size+d,6,none⟩ y6).setCell ⟨w.heap.size+d,7,none⟩ y7).setCell ⟨w.heap.size+d,8,none⟩ y8).setCell ⟨w.heap.size+d,9,none⟩ y9).setCell ⟨w.heap.size+d,10,none⟩ y10)) (((((((((((w7.setCell ⟨w.heap.size+d,0,none⟩ y0).setCell ⟨w.heap.size+d,1,none⟩ y1).setCell ⟨w.heap.size+d,2,none⟩ y2).setCell ⟨w.heap.size+d,3,none⟩ y3).setCell ⟨w.heap.size+d,4,none⟩ y4).setCell ⟨w.heap.size+d,5,none⟩ y5).setCell ⟨w.heap.size+d,6,none⟩ y6).setCell ⟨w.heap.size+d,7,none⟩ y7).setCell ⟨w.heap.size+d,8,none⟩ y8).setCell ⟨w.heap.size+d,9,none⟩ y9).setCell ⟨w.heap.size+d,10,none⟩ y10) x q∧Below w.heap.size w (((((((((((w7.setCell ⟨w.heap.size+d,0,none⟩ y0).setCell ⟨w.heap.size+d,1,none⟩ y1).setCell ⟨w.heap.size+d,2,none⟩ y2).setCell ⟨w.heap.size+d,3,none⟩ y3).setCell ⟨w.heap.size+d,4,none⟩ y4).setCell ⟨w.heap.size+d,5,none⟩ y5).setCell ⟨w.heap.size+d,6,none⟩ y6).setCell ⟨w.heap.size+d,7,none⟩ y7).setCell ⟨w.heap.size+d,8,none⟩ y8).setCell ⟨w.heap.size+d,9,none⟩ y9).setCell ⟨w.heap.size+d,10,none⟩ y10):=by
  have ho:=onlyP11 (S:=[some (w.heap.size+d)]) (Only.refl _ w7) (List.mem_cons_self) y0 y1 y2 y3 y4 y5 y6 y7 y8 y9 y10
  refine⟨hr.keep (keepOnly ho fun b q=>⟨q.1, ?_,Nat.lt_of_lt_of_le q.1 ho.size, ?_⟩),belowP11 (hB1.trans (h7.mono hB1.size)) (Nat.le_add_right _ _) y0 y1 y2 y3 y4 y5 y6 y7 y8 y9 y10⟩
  · simp
    rcases q.2 with h | h <;> omega
  · rcases q.2 with h | h
    · exact .inl h
    · exact .inr (by omega)
theorem three_new {w W1:World}{o1 o2 o3:Obj}(h:W1=((w.alloc o1).alloc o2).alloc o3):W1.heap[w.heap.size]?=some o1∧W1.heap[w.heap.size+1]?=some o2∧W1.heap[w.heap.size+2]?=some o3∧W1.heap.size=w.heap.size+2+1∧Below w.heap.size w W1:=by
  subst h
  have n2:=heap_alloc_new (w.alloc o1) o2
  have n3:=heap_alloc_new ((w.alloc o1).alloc o2) o3
  simp only [size_alloc] at n2 n3
  refine⟨?_, ?_,n3,by simp only [size_alloc],(((Below.refl _ _).alloc (Nat.le_refl _) _).alloc (by simp only [size_alloc];omega) _).alloc (by simp only [size_alloc];omega) _⟩
  · rw [Below.heap_alloc _ _ _ (by simp only [size_alloc];omega),Below.heap_alloc _ _ _ (by simp only [size_alloc];omega)]
    exact heap_alloc_new w o1
  · rw [Below.heap_alloc _ _ _ (by simp only [size_alloc];omega)]
    exact n2
theorem row_in {w:World}{g j k C:Nat}{u:Value}{xs:List Int}{cs:Array Value}(hcs:(xs.map (Value.int .i64)).toArray=cs)(hC:C≤w.heap.size)(hk:xs.length=k)(hk2:k≤1000000) :
    IRowP (fun b=>C≤b∧b<((w.setCell ⟨g,j,none⟩ u).alloc (.cells cs 3)).heap.size) ((w.setCell ⟨g,j,none⟩ u).alloc (.cells cs 3)) (some ⟨w.heap.size,0,none⟩) k k xs:=by
  subst hcs
  have h:IMem ((w.setCell ⟨g,j,none⟩ u).alloc (.cells (xs.map (Value.int .i64)).toArray 3)) (w.setCell ⟨g,j,none⟩ u).heap.size xs:=heap_alloc_new _ _
  have e:(w.setCell ⟨g,j,none⟩ u).heap.size=w.heap.size:=by simp [World.setCell]
  rw [e] at h
  exact h.irowP ⟨hC,by rw [size_alloc,e];omega⟩ hk hk2
structure LineF (o:COpM) (n:Nat) (base:Int):Prop where
  base:0≤base∧base≤1000000
  size:o.op.size≤100
  args:∀ x∈o.args,0≤x∧x≤1000000
  var:o.op=copVar→o.args.length=1∧o.args.getD 0 0<(n:Int)
  cont:o.op=copCont→o.args.length=1
  sel:o.op=copSel→o.args.length=3∧o.args.getD 0 0<(n:Int)
  neg:o.op=copNeg→o.args.length=1
  mul:o.op=copMul→o.args.length=3
  two:o.op≠copVar→o.op≠copCont→o.op≠copSel→o.op≠copNeg→o.op≠copMul→o.args.length=2
theorem LineF.at_ {o:COpM}{n:Nat}{base:Int}(h:LineF o n base)(i:Nat):0≤o.args.getD i 0∧o.args.getD i 0≤1000000:=by
  by_cases hi:i<o.args.length
  · exact h.args _ (by rw [List.getD_eq_getElem?_getD,List.getElem?_eq_getElem hi];exact List.getElem_mem _)
  · rw [List.getD_eq_getElem?_getD,List.getElem?_eq_none (by omega)]
    exact⟨Int.le_refl _,by decide⟩
set_option maxHeartbeats 8000000 in
theorem line15_t (B:Nat)(A A2:Option Addr)(m c n c2:Nat)(S:Int)(ss:List Int)(o:COpM)(a:Option Addr×Nat×Nat)(base dst guard:Int)(w:World)(hr:IRow w B A2 n c2 ss)(hB:B≤w.heap.size)(hrow:IRow w B a.1 a.2.1 a.2.2 o.args)(hl:LineF o n base) :
    Calls Tryz.prog 72 #[.agg #[.slice A m c,.slice A2 n c2,.int .i64 S],.agg #[.string o.op,.slice a.1 a.2.1 a.2.2],.int .i64 base,.int .i64 dst,.int .i64 guard] w (InsPost B (lineI ss o base dst guard) w):=by
  obtain⟨op,args⟩:=o
  obtain⟨a1,a2,a3⟩:=a
  simp only at hrow
  obtain⟨W1,hW1⟩:∃ W1,W1=((w.alloc (.cells #[.slice A m c,.slice A2 n c2,.int .i64 S] 86)).alloc (.cells #[.string op,.slice a1 a2 a3] 147)).alloc (.cells #[.string ⟨#[]⟩,.int .i64 0,.slice none 0 0,.int .i64 0,.int .i64 0,.bool false,.slice none 0 0,.slice none 0 0,.string ⟨#[]⟩,.int .i64 0,.slice none 0 0] 96):=⟨_,rfl⟩
  obtain⟨hk1,hk2,hk3,hs1,hb1⟩:=three_new hW1
  have HKP:=Lib.hid (show Blk W1 w.heap.size 86 #[.slice A m c,.slice A2 n c2,.int .i64 S] from hk1)
  have HKO:=Lib.hid (show Blk W1 (w.heap.size+1) 147 #[.string op,.slice a1 a2 a3] from hk2)
  have HZ:=Lib.hid (show Blk W1 (w.heap.size+2) 96 #[.string ⟨#[]⟩,.int .i64 0,.slice none 0 0,.int .i64 0,.int .i64 0,.bool false,.slice none 0 0,.slice none 0 0,.string ⟨#[]⟩,.int .i64 0,.slice none 0 0] from hk3)
  have HB1:=Lib.hid hb1
  have HS1:=Lib.hid hs1
  have HBB:=Lib.hid hB
  have HR:=Lib.hid (fun W (hb:Below W1.heap.size W1 W)=>hr.below ((hb1.trans (hb.mono hb1.size)).mono hB))
  have HRW:=Lib.hid (fun W (hb:Below W1.heap.size W1 W)=>hrow.below ((hb1.trans (hb.mono hb1.size)).mono hB))
  have HBW:=Lib.hid (fun W (hb:Below W1.heap.size W1 W)=>Nat.le_trans hB (hb1.trans (hb.mono hb1.size)).size)
  have HLF:=Lib.hid hl
  have HAL:Hid (args.length=a2):=Lib.hid hrow.1
  obtain⟨hbs0,hbs1⟩:=hl.base
  have hsz:op.size≤100:=hl.size
  have hz1:¬ 9223372036854775807<1+op.size:=by omega
  clear hr hB hrow hl hk1 hk2 hk3 hs1 hb1
  go_enter Tryz.func72,Tryz.ntmps72
  go_upto_region 1 with fail
  rw [←hW1]
  clear hW1
  obtain⟨p0,p1⟩:=And.intro (HKO.out.cell 0 rfl) (HKO.out.cell 1 rfl)
  obtain⟨W2,hW2⟩:∃ W2,W2=W1.alloc (.cells #[.string (⟨#[108]⟩++op),.int .i64 dst,.slice none 0 0,.int .i64 0,.int .i64 0,.bool false,.slice none 0 0,.slice none 0 0,.string ⟨#[]⟩,.int .i64 guard,.slice none 0 0] 96):=⟨_,rfl⟩
  have HB2:=Lib.hid (show Below W1.heap.size W1 W2 from by rw [hW2];exact(Below.refl _ _).alloc (Nat.le_refl _) _)
  have HN2:=Lib.hid (show Blk W2 W1.heap.size 96 #[.string (⟨#[108]⟩++op),.int .i64 dst,.slice none 0 0,.int .i64 0,.int .i64 0,.bool false,.slice none 0 0,.slice none 0 0,.string ⟨#[]⟩,.int .i64 guard,.slice none 0 0] from by rw [hW2];exact Blk.new _ _ _)
  go_upto_region 2 with fail
  rw [←hW2]
  clear hW2
  clear p0 p1 hz1
  obtain⟨p0,p1⟩:=And.intro ((HKO.out.later HB2.out).cell 0 rfl) ((HKO.out.later HB2.out).cell 1 rfl)
  by_cases h0:op=bs [118,97,114]
  · skip
    have g0:=str_yes (l:=[118,97,114]) h0
    have g1:(op.toList==[99,111,110,116])=false:=by rw [h0,bs_toList];rfl
    have g2:(op.toList==[115,101,108])=false:=by rw [h0,bs_toList];rfl
    have g3:(op.toList==[110,101,103])=false:=by rw [h0,bs_toList];rfl
    have g4:(op.toList==[42])=false:=by rw [h0,bs_toList];rfl
    obtain⟨hlen,hlt0⟩:=HLF.out.var h0
    simp only at hlen hlt0
    rw [HAL.out] at hlen
    subst hlen
    obtain⟨b,off,ha1,hlb,hc0⟩:=(HRW.out _ HB2.out).at_ (i:=0) (by omega)
    rw [Nat.add_zero] at hc0
    subst ha1
    have hbW:b<W1.heap.size:=Nat.lt_of_lt_of_le hlb (HBW.out _ (Below.refl _ _))
    obtain⟨X0,hX0⟩:∃ X0,X0=args.getD 0 0:=⟨_,rfl⟩
    obtain⟨hx0a,hx0b⟩:=HLF.out.at_ 0
    simp only at hx0a hx0b
    rw [←hX0] at hc0 hx0a hx0b
    rw [←hX0] at hlt0
    have HI:Hid (lineI ss ⟨op,args⟩ base dst guard=mkI (⟨#[108]⟩++op) dst [slotS ss X0] 0 guard []):=Lib.hid (by unfold lineI mkI;simp only [h0,hX0];rfl)
    have HPW:Hid (∀ W,Below W1.heap.size W2 W→W.cell? ⟨w.heap.size,0,none⟩=some (.slice A m c)∧W.cell? ⟨w.heap.size,1,none⟩=some (.slice A2 n c2)∧W.cell? ⟨w.heap.size,2,none⟩=some (.int .i64 S)∧W.cell? ⟨w.heap.size+1,1,none⟩=some (.slice (some ⟨b,off,none⟩) 1 a3)∧W.cell? ⟨b,off,none⟩=some (.int .i64 X0)):=Lib.hid fun W hb=>by
      have k1:=HKP.out.later (HB2.out.trans hb)
      have k2:=HKO.out.later (HB2.out.trans hb)
      exact⟨k1.cell 0 rfl,k1.cell 1 rfl,k1.cell 2 rfl,k2.cell 1 rfl,(hb.cell (p:=⟨b,_,none⟩) hbW).trans hc0⟩
    have HBd:=Lib.hid (Below.refl W1.heap.size W2).drew
    have HSL:=Lib.hid (slot15_t A A2 m c n c2 B S X0 ss W2.drew (HR.out _ HB2.out.drew) (HBW.out _ HB2.out.drew) hlt0)
    clear h0 hX0
    go_upto_region 5 with fail
    clear p0 p1 hc0
    go_region_held3 (fun w'=>w'.cell? ⟨w.heap.size,0,none⟩=some (.slice A m c)∧w'.cell? ⟨w.heap.size,1,none⟩=some (.slice A2 n c2)∧w'.cell? ⟨w.heap.size,2,none⟩=some (.int .i64 S)∧w'.cell? ⟨w.heap.size+1,1,none⟩=some (.slice (some ⟨b,off,none⟩) 1 a3)∧w'.cell? ⟨b,off,none⟩=some (.int .i64 X0)) (first | with_reducible exact HPW.out _ HBd.out | with_reducible exact HPW.out _ HB4.out | with_reducible exact HPW.out _ (HB4.out.alloc HS4.out _) | with_reducible exact HPW.out _ ((HB4.out.setCell (p:=⟨W1.heap.size,2,none⟩) (Nat.le_refl _) _).alloc (HS5.out _) _) | go_keep) (first
      | (go_at_call 71;(with_reducible refine HSL.out.mono ?_);rintro e w4 ⟨rfl,hb⟩;have HB4:=Lib.hid (HBd.out.trans (hb.mono (show W1.heap.size≤W2.drew.heap.size from HB2.out.size)));have HB5:=Lib.hid (HB2.out.trans HB4.out);have HS4:Hid (W1.heap.size≤w4.heap.size):=Lib.hid HB5.out.size;have HS5:Hid (∀ u,W1.heap.size≤(w4.setCell ⟨W1.heap.size,2,none⟩ u).heap.size):=Lib.hid (fun u=>by simp [World.setCell];exact HS4.out);have HN4:=Lib.hid (HN2.out.later ((Below.refl W2.heap.size W2).drew.trans hb));obtain⟨nc0,nc1,nc2,nc3,nc4,nc5,nc6,nc7,nc8,nc9,nc10⟩:=HN4.out.elevQ;obtain⟨nf0,nf1,nf2,nf3,nf4,nf5,nf6,nf7,nf8,nf9,nf10⟩:=HN4.out.elevQF;have hl4:=HN4.out.lt;clear hb))
    obtain⟨w7,hw7⟩:∃ w7,w7=(w4.setCell ⟨W1.heap.size,2,none⟩ (.slice (some ⟨w4.heap.size,0,none⟩) 1 1)).alloc (.cells #[.int .i64 (slotS ss X0)] 3):=⟨_,rfl⟩
    have HN7:Hid (Blk w7 W1.heap.size 96 #[.string (⟨#[108]⟩++op),.int .i64 dst,.slice (some ⟨w4.heap.size,0,none⟩) 1 1,.int .i64 0,.int .i64 0,.bool false,.slice none 0 0,.slice none 0 0,.string ⟨#[]⟩,.int .i64 guard,.slice none 0 0]):=Lib.hid (by rw [hw7];exact(HN4.out.putA 2 _).alloc _)
    have HB7:Hid (Below W1.heap.size W1 w7):=Lib.hid (by rw [hw7];exact(HB5.out.setCell (p:=⟨W1.heap.size,2,none⟩) (Nat.le_refl _) _).alloc (by simp [World.setCell];exact HB5.out.size) _)
    have HA7:=Lib.hid (show IRowP (fun b=>W1.heap.size≤b∧b<w7.heap.size) w7 (some ⟨w4.heap.size,0,none⟩) 1 1 [slotS ss X0] from by rw [hw7];exact row_in rfl HB5.out.size rfl (by decide))
    rw [←hw7]
    clear hw7 nc0 nc1 nc2 nc3 nc4 nc5 nc6 nc7 nc8 nc9 nc10 nf0 nf1 nf2 nf3 nf4 nf5 nf6 nf7 nf8 nf9 nf10
    obtain⟨nc0,nc1,nc2,nc3,nc4,nc5,nc6,nc7,nc8,nc9,nc10⟩:=HN7.out.elevQ
    obtain⟨zc0,zc1,zc2,zc3,zc4,zc5,zc6,zc7,zc8,zc9,zc10⟩:=(HZ.out.later HB7.out).elevQ
    obtain⟨zf0,zf1,zf2,zf3,zf4,zf5,zf6,zf7,zf8,zf9,zf10⟩:=(HZ.out.later HB7.out).elevQF
    have HRZ:=Lib.hid ((HZ.out.later HB7.out).put11 (.string (⟨#[108]⟩++op)) (.int .i64 dst) (.slice (some ⟨w4.heap.size,0,none⟩) 1 1) (.int .i64 0) (.int .i64 0) (.bool false) (.slice none 0 0) (.slice none 0 0) (.string ⟨#[]⟩) (.int .i64 guard) (.slice none 0 0))
    have HEND:=Lib.hid (ins_endG (x:=⟨⟨#[108]⟩++op,dst,(some ⟨w4.heap.size,0,none⟩,1,1),0,0,false,(none,0,0),(none,0,0),⟨#[]⟩,guard,(none,0,0)⟩) HB1.out HS1.out HBB.out HB7.out (show InsR (fun b=>b<w7.heap.size∧(b<B∨W1.heap.size≤b)) w7 ⟨⟨#[108]⟩++op,dst,(some ⟨w4.heap.size,0,none⟩,1,1),0,0,false,(none,0,0),(none,0,0),⟨#[]⟩,guard,(none,0,0)⟩ (lineI ss ⟨op,args⟩ base dst guard) from by rw [HI.out];exact⟨rfl,rfl,HA7.out.weak fun b p=>⟨p.2,.inr p.1⟩,rfl,rfl,rfl,URowP.nil _ _,URowP.nil _ _,rfl,rfl,IRowP.nil _ _⟩) (.string (⟨#[108]⟩++op)) (.int .i64 dst) (.slice (some ⟨w4.heap.size,0,none⟩) 1 1) (.int .i64 0) (.int .i64 0) (.bool false) (.slice none 0 0) (.slice none 0 0) (.string ⟨#[]⟩) (.int .i64 guard) (.slice none 0 0))
    go_wp2
    refine ret_row rfl (w.heap.size+2) _ HRZ.out rfl rfl Tryz.underlying96 Tryz.infoInsS ?_
    exact⟨⟨⟨#[108]⟩++op,dst,(some ⟨w4.heap.size,0,none⟩,1,1),0,0,false,(none,0,0),(none,0,0),⟨#[]⟩,guard,(none,0,0)⟩,rfl,HEND.out.1,HEND.out.2⟩
  by_cases h1:op=bs [99,111,110,116]
  · clear h0
    have g0:(op.toList==[118,97,114])=false:=by rw [h1,bs_toList];rfl
    have g1:=str_yes (l:=[99,111,110,116]) h1
    have g2:(op.toList==[115,101,108])=false:=by rw [h1,bs_toList];rfl
    have g3:(op.toList==[110,101,103])=false:=by rw [h1,bs_toList];rfl
    have g4:(op.toList==[42])=false:=by rw [h1,bs_toList];rfl
    have hlen:=HLF.out.cont h1
    simp only at hlen
    rw [HAL.out] at hlen
    subst hlen
    obtain⟨b,off,ha1,hlb,hc0⟩:=(HRW.out _ HB2.out).at_ (i:=0) (by omega)
    rw [Nat.add_zero] at hc0
    subst ha1
    have hbW:b<W1.heap.size:=Nat.lt_of_lt_of_le hlb (HBW.out _ (Below.refl _ _))
    obtain⟨X0,hX0⟩:∃ X0,X0=args.getD 0 0:=⟨_,rfl⟩
    obtain⟨hx0a,hx0b⟩:=HLF.out.at_ 0
    simp only at hx0a hx0b
    rw [←hX0] at hc0 hx0a hx0b
    have HI:Hid (lineI ss ⟨op,args⟩ base dst guard=mkI (⟨#[108]⟩++op) dst [] X0 guard []):=Lib.hid (by unfold lineI mkI;simp only [h1,hX0];rfl)
    clear h1 hX0
    obtain⟨nc0,nc1,nc2,nc3,nc4,nc5,nc6,nc7,nc8,nc9,nc10⟩:=HN2.out.elevQ
    obtain⟨nf0,nf1,nf2,nf3,nf4,nf5,nf6,nf7,nf8,nf9,nf10⟩:=HN2.out.elevQF
    have hl2:=HN2.out.lt
    obtain⟨w7,hw7⟩:∃ w7,w7=W2.setCell ⟨W1.heap.size,3,none⟩ (.int .i64 X0):=⟨_,rfl⟩
    have HN7:Hid (Blk w7 W1.heap.size 96 #[.string (⟨#[108]⟩++op),.int .i64 dst,.slice none 0 0,.int .i64 X0,.int .i64 0,.bool false,.slice none 0 0,.slice none 0 0,.string ⟨#[]⟩,.int .i64 guard,.slice none 0 0]):=Lib.hid (by rw [hw7];exact HN2.out.putA 3 _)
    have HB7:Hid (Below W1.heap.size W1 w7):=Lib.hid (by rw [hw7];exact HB2.out.setCell (p:=⟨W1.heap.size,3,none⟩) (Nat.le_refl _) _)
    go_upto_region 15 with fail
    rw [←hw7]
    clear hw7 nc0 nc1 nc2 nc3 nc4 nc5 nc6 nc7 nc8 nc9 nc10 nf0 nf1 nf2 nf3 nf4 nf5 nf6 nf7 nf8 nf9 nf10
    obtain⟨nc0,nc1,nc2,nc3,nc4,nc5,nc6,nc7,nc8,nc9,nc10⟩:=HN7.out.elevQ
    obtain⟨zc0,zc1,zc2,zc3,zc4,zc5,zc6,zc7,zc8,zc9,zc10⟩:=(HZ.out.later HB7.out).elevQ
    obtain⟨zf0,zf1,zf2,zf3,zf4,zf5,zf6,zf7,zf8,zf9,zf10⟩:=(HZ.out.later HB7.out).elevQF
    have HRZ:=Lib.hid ((HZ.out.later HB7.out).put11 (.string (⟨#[108]⟩++op)) (.int .i64 dst) (.slice none 0 0) (.int .i64 X0) (.int .i64 0) (.bool false) (.slice none 0 0) (.slice none 0 0) (.string ⟨#[]⟩) (.int .i64 guard) (.slice none 0 0))
    have HEND:=Lib.hid (ins_endG (x:=⟨⟨#[108]⟩++op,dst,(none,0,0),X0,0,false,(none,0,0),(none,0,0),⟨#[]⟩,guard,(none,0,0)⟩) HB1.out HS1.out HBB.out HB7.out (show InsR (fun b=>b<w7.heap.size∧(b<B∨W1.heap.size≤b)) w7 ⟨⟨#[108]⟩++op,dst,(none,0,0),X0,0,false,(none,0,0),(none,0,0),⟨#[]⟩,guard,(none,0,0)⟩ (lineI ss ⟨op,args⟩ base dst guard) from by rw [HI.out];exact⟨rfl,rfl,IRowP.nil _ _,rfl,rfl,rfl,URowP.nil _ _,URowP.nil _ _,rfl,rfl,IRowP.nil _ _⟩) (.string (⟨#[108]⟩++op)) (.int .i64 dst) (.slice none 0 0) (.int .i64 X0) (.int .i64 0) (.bool false) (.slice none 0 0) (.slice none 0 0) (.string ⟨#[]⟩) (.int .i64 guard) (.slice none 0 0))
    go_wp2
    refine ret_row rfl (w.heap.size+2) _ HRZ.out rfl rfl Tryz.underlying96 Tryz.infoInsS ?_
    exact⟨⟨⟨#[108]⟩++op,dst,(none,0,0),X0,0,false,(none,0,0),(none,0,0),⟨#[]⟩,guard,(none,0,0)⟩,rfl,HEND.out.1,HEND.out.2⟩
  by_cases h2:op=bs [115,101,108]
  · clear h0 h1
    have g0:(op.toList==[118,97,114])=false:=by rw [h2,bs_toList];rfl
    have g1:(op.toList==[99,111,110,116])=false:=by rw [h2,bs_toList];rfl
    have g2:=str_yes (l:=[115,101,108]) h2
    have g3:(op.toList==[110,101,103])=false:=by rw [h2,bs_toList];rfl
    have g4:(op.toList==[42])=false:=by rw [h2,bs_toList];rfl
    obtain⟨hlen,hlt0⟩:=HLF.out.sel h2
    simp only at hlen hlt0
    rw [HAL.out] at hlen
    subst hlen
    obtain⟨b,off,ha1,hlb,hc0⟩:=(HRW.out _ HB2.out).at_ (i:=0) (by omega)
    have hc1:W2.cell? ⟨b,off+1,none⟩=some (.int .i64 (args.getD 1 0)):=by
      obtain⟨b',off',ha',_,hc'⟩:=(HRW.out _ HB2.out).at_ (i:=1) (by omega)
      rw [ha1] at ha'
      injection ha' with ha'
      injection ha' with q1 q2
      subst q1 q2
      exact hc'
    have hc2:W2.cell? ⟨b,off+2,none⟩=some (.int .i64 (args.getD 2 0)):=by
      obtain⟨b',off',ha',_,hc'⟩:=(HRW.out _ HB2.out).at_ (i:=2) (by omega)
      rw [ha1] at ha'
      injection ha' with ha'
      injection ha' with q1 q2
      subst q1 q2
      exact hc'
    rw [Nat.add_zero] at hc0
    subst ha1
    have hbW:b<W1.heap.size:=Nat.lt_of_lt_of_le hlb (HBW.out _ (Below.refl _ _))
    obtain⟨X0,hX0⟩:∃ X0,X0=args.getD 0 0:=⟨_,rfl⟩
    obtain⟨hx0a,hx0b⟩:=HLF.out.at_ 0
    simp only at hx0a hx0b
    rw [←hX0] at hc0 hx0a hx0b
    obtain⟨X1,hX1⟩:∃ X1,X1=args.getD 1 0:=⟨_,rfl⟩
    obtain⟨hx1a,hx1b⟩:=HLF.out.at_ 1
    simp only at hx1a hx1b
    rw [←hX1] at hc1 hx1a hx1b
    obtain⟨X2,hX2⟩:∃ X2,X2=args.getD 2 0:=⟨_,rfl⟩
    obtain⟨hx2a,hx2b⟩:=HLF.out.at_ 2
    simp only at hx2a hx2b
    rw [←hX2] at hc2 hx2a hx2b
    have hw1:IntKind.i64.wrap (base+X1)=base+X1:=IntWalk.i64_in _ (by omega)
    have hw2:IntKind.i64.wrap (base+X2)=base+X2:=IntWalk.i64_in _ (by omega)
    rw [←hX0] at hlt0
    have HI:Hid (lineI ss ⟨op,args⟩ base dst guard=mkI (⟨#[108]⟩++op) dst [slotS ss X0,base+X1,base+X2] 0 guard []):=Lib.hid (by unfold lineI mkI;simp only [h2,hX0,hX1,hX2];rfl)
    have HPW:Hid (∀ W,Below W1.heap.size W2 W→W.cell? ⟨w.heap.size,0,none⟩=some (.slice A m c)∧W.cell? ⟨w.heap.size,1,none⟩=some (.slice A2 n c2)∧W.cell? ⟨w.heap.size,2,none⟩=some (.int .i64 S)∧W.cell? ⟨w.heap.size+1,1,none⟩=some (.slice (some ⟨b,off,none⟩) 3 a3)∧W.cell? ⟨b,off,none⟩=some (.int .i64 X0)∧W.cell? ⟨b,off+1,none⟩=some (.int .i64 X1)∧W.cell? ⟨b,off+2,none⟩=some (.int .i64 X2)):=Lib.hid fun W hb=>by
      have k1:=HKP.out.later (HB2.out.trans hb)
      have k2:=HKO.out.later (HB2.out.trans hb)
      exact⟨k1.cell 0 rfl,k1.cell 1 rfl,k1.cell 2 rfl,k2.cell 1 rfl,(hb.cell (p:=⟨b,_,none⟩) hbW).trans hc0,(hb.cell (p:=⟨b,_,none⟩) hbW).trans hc1,(hb.cell (p:=⟨b,_,none⟩) hbW).trans hc2⟩
    have HBd:=Lib.hid (Below.refl W1.heap.size W2).drew
    have HSL:=Lib.hid (slot15_t A A2 m c n c2 B S X0 ss W2.drew (HR.out _ HB2.out.drew) (HBW.out _ HB2.out.drew) hlt0)
    clear h2 hX0 hX1 hX2
    go_upto_region 9 with fail
    clear p0 p1 hc0 hc1 hc2
    go_region_held3 (fun w'=>w'.cell? ⟨w.heap.size,0,none⟩=some (.slice A m c)∧w'.cell? ⟨w.heap.size,1,none⟩=some (.slice A2 n c2)∧w'.cell? ⟨w.heap.size,2,none⟩=some (.int .i64 S)∧w'.cell? ⟨w.heap.size+1,1,none⟩=some (.slice (some ⟨b,off,none⟩) 3 a3)∧w'.cell? ⟨b,off,none⟩=some (.int .i64 X0)∧w'.cell? ⟨b,off+1,none⟩=some (.int .i64 X1)∧w'.cell? ⟨b,off+2,none⟩=some (.int .i64 X2)) (first | with_reducible exact HPW.out _ HBd.out | with_reducible exact HPW.out _ HB4.out | with_reducible exact HPW.out _ (HB4.out.alloc HS4.out _) | with_reducible exact HPW.out _ ((HB4.out.setCell (p:=⟨W1.heap.size,2,none⟩) (Nat.le_refl _) _).alloc (HS5.out _) _) | go_keep) (first
      | (go_at_call 71;(with_reducible refine HSL.out.mono ?_);rintro e w4 ⟨rfl,hb⟩;have HB4:=Lib.hid (HBd.out.trans (hb.mono (show W1.heap.size≤W2.drew.heap.size from HB2.out.size)));have HB5:=Lib.hid (HB2.out.trans HB4.out);have HS4:Hid (W1.heap.size≤w4.heap.size):=Lib.hid HB5.out.size;have HS5:Hid (∀ u,W1.heap.size≤(w4.setCell ⟨W1.heap.size,2,none⟩ u).heap.size):=Lib.hid (fun u=>by simp [World.setCell];exact HS4.out);have HN4:=Lib.hid (HN2.out.later ((Below.refl W2.heap.size W2).drew.trans hb));obtain⟨nc0,nc1,nc2,nc3,nc4,nc5,nc6,nc7,nc8,nc9,nc10⟩:=HN4.out.elevQ;obtain⟨nf0,nf1,nf2,nf3,nf4,nf5,nf6,nf7,nf8,nf9,nf10⟩:=HN4.out.elevQF;have hl4:=HN4.out.lt;clear hb))
    obtain⟨w7,hw7⟩:∃ w7,w7=(w4.setCell ⟨W1.heap.size,2,none⟩ (.slice (some ⟨w4.heap.size,0,none⟩) 3 3)).alloc (.cells #[.int .i64 (slotS ss X0),.int .i64 (base+X1),.int .i64 (base+X2)] 3):=⟨_,rfl⟩
    have HN7:Hid (Blk w7 W1.heap.size 96 #[.string (⟨#[108]⟩++op),.int .i64 dst,.slice (some ⟨w4.heap.size,0,none⟩) 3 3,.int .i64 0,.int .i64 0,.bool false,.slice none 0 0,.slice none 0 0,.string ⟨#[]⟩,.int .i64 guard,.slice none 0 0]):=Lib.hid (by rw [hw7];exact(HN4.out.putA 2 _).alloc _)
    have HB7:Hid (Below W1.heap.size W1 w7):=Lib.hid (by rw [hw7];exact(HB5.out.setCell (p:=⟨W1.heap.size,2,none⟩) (Nat.le_refl _) _).alloc (by simp [World.setCell];exact HB5.out.size) _)
    have HA7:=Lib.hid (show IRowP (fun b=>W1.heap.size≤b∧b<w7.heap.size) w7 (some ⟨w4.heap.size,0,none⟩) 3 3 [slotS ss X0,base+X1,base+X2] from by rw [hw7];exact row_in rfl HB5.out.size rfl (by decide))
    rw [←hw7]
    clear hw7 nc0 nc1 nc2 nc3 nc4 nc5 nc6 nc7 nc8 nc9 nc10 nf0 nf1 nf2 nf3 nf4 nf5 nf6 nf7 nf8 nf9 nf10
    obtain⟨nc0,nc1,nc2,nc3,nc4,nc5,nc6,nc7,nc8,nc9,nc10⟩:=HN7.out.elevQ
    obtain⟨zc0,zc1,zc2,zc3,zc4,zc5,zc6,zc7,zc8,zc9,zc10⟩:=(HZ.out.later HB7.out).elevQ
    obtain⟨zf0,zf1,zf2,zf3,zf4,zf5,zf6,zf7,zf8,zf9,zf10⟩:=(HZ.out.later HB7.out).elevQF
    have HRZ:=Lib.hid ((HZ.out.later HB7.out).put11 (.string (⟨#[108]⟩++op)) (.int .i64 dst) (.slice (some ⟨w4.heap.size,0,none⟩) 3 3) (.int .i64 0) (.int .i64 0) (.bool false) (.slice none 0 0) (.slice none 0 0) (.string ⟨#[]⟩) (.int .i64 guard) (.slice none 0 0))
    have HEND:=Lib.hid (ins_endG (x:=⟨⟨#[108]⟩++op,dst,(some ⟨w4.heap.size,0,none⟩,3,3),0,0,false,(none,0,0),(none,0,0),⟨#[]⟩,guard,(none,0,0)⟩) HB1.out HS1.out HBB.out HB7.out (show InsR (fun b=>b<w7.heap.size∧(b<B∨W1.heap.size≤b)) w7 ⟨⟨#[108]⟩++op,dst,(some ⟨w4.heap.size,0,none⟩,3,3),0,0,false,(none,0,0),(none,0,0),⟨#[]⟩,guard,(none,0,0)⟩ (lineI ss ⟨op,args⟩ base dst guard) from by rw [HI.out];exact⟨rfl,rfl,HA7.out.weak fun b p=>⟨p.2,.inr p.1⟩,rfl,rfl,rfl,URowP.nil _ _,URowP.nil _ _,rfl,rfl,IRowP.nil _ _⟩) (.string (⟨#[108]⟩++op)) (.int .i64 dst) (.slice (some ⟨w4.heap.size,0,none⟩) 3 3) (.int .i64 0) (.int .i64 0) (.bool false) (.slice none 0 0) (.slice none 0 0) (.string ⟨#[]⟩) (.int .i64 guard) (.slice none 0 0))
    go_wp2
    refine ret_row rfl (w.heap.size+2) _ HRZ.out rfl rfl Tryz.underlying96 Tryz.infoInsS ?_
    exact⟨⟨⟨#[108]⟩++op,dst,(some ⟨w4.heap.size,0,none⟩,3,3),0,0,false,(none,0,0),(none,0,0),⟨#[]⟩,guard,(none,0,0)⟩,rfl,HEND.out.1,HEND.out.2⟩
  by_cases h3:op=bs [110,101,103]
  · clear h0 h1 h2
    have g0:(op.toList==[118,97,114])=false:=by rw [h3,bs_toList];rfl
    have g1:(op.toList==[99,111,110,116])=false:=by rw [h3,bs_toList];rfl
    have g2:(op.toList==[115,101,108])=false:=by rw [h3,bs_toList];rfl
    have g3:=str_yes (l:=[110,101,103]) h3
    have g4:(op.toList==[42])=false:=by rw [h3,bs_toList];rfl
    have hlen:=HLF.out.neg h3
    simp only at hlen
    rw [HAL.out] at hlen
    subst hlen
    obtain⟨b,off,ha1,hlb,hc0⟩:=(HRW.out _ HB2.out).at_ (i:=0) (by omega)
    rw [Nat.add_zero] at hc0
    subst ha1
    have hbW:b<W1.heap.size:=Nat.lt_of_lt_of_le hlb (HBW.out _ (Below.refl _ _))
    obtain⟨X0,hX0⟩:∃ X0,X0=args.getD 0 0:=⟨_,rfl⟩
    obtain⟨hx0a,hx0b⟩:=HLF.out.at_ 0
    simp only at hx0a hx0b
    rw [←hX0] at hc0 hx0a hx0b
    have hw0:IntKind.i64.wrap (base+X0)=base+X0:=IntWalk.i64_in _ (by omega)
    have HI:Hid (lineI ss ⟨op,args⟩ base dst guard=mkI (⟨#[108]⟩++op) dst [base+X0] 0 guard []):=Lib.hid (by unfold lineI mkI;simp only [h3,hX0];rfl)
    clear h3 hX0
    obtain⟨nc0,nc1,nc2,nc3,nc4,nc5,nc6,nc7,nc8,nc9,nc10⟩:=HN2.out.elevQ
    obtain⟨nf0,nf1,nf2,nf3,nf4,nf5,nf6,nf7,nf8,nf9,nf10⟩:=HN2.out.elevQF
    have hl2:=HN2.out.lt
    have hb2:b<W2.heap.size:=Nat.lt_of_lt_of_le hbW HB2.out.size
    have hp2:w.heap.size+1<W2.heap.size:=by have:=HS1.out;have:=HB2.out.size;omega
    go_upto_region 15 with fail
    obtain⟨w7,hw7⟩:∃ w7,w7=(W2.setCell ⟨W1.heap.size,2,none⟩ (.slice (some ⟨W2.heap.size,0,none⟩) 1 1)).alloc (.cells #[.int .i64 (base+X0)] 3):=⟨_,rfl⟩
    have HN7:Hid (Blk w7 W1.heap.size 96 #[.string (⟨#[108]⟩++op),.int .i64 dst,.slice (some ⟨W2.heap.size,0,none⟩) 1 1,.int .i64 0,.int .i64 0,.bool false,.slice none 0 0,.slice none 0 0,.string ⟨#[]⟩,.int .i64 guard,.slice none 0 0]):=Lib.hid (by rw [hw7];exact(HN2.out.putA 2 _).alloc _)
    have HB7:Hid (Below W1.heap.size W1 w7):=Lib.hid (by rw [hw7];exact(HB2.out.setCell (p:=⟨W1.heap.size,2,none⟩) (Nat.le_refl _) _).alloc (by simp [World.setCell];exact HB2.out.size) _)
    have HA7:=Lib.hid (show IRowP (fun b=>W1.heap.size≤b∧b<w7.heap.size) w7 (some ⟨W2.heap.size,0,none⟩) 1 1 [base+X0] from by rw [hw7];exact row_in rfl HB2.out.size rfl (by decide))
    rw [←hw7]
    clear hw7 nc0 nc1 nc2 nc3 nc4 nc5 nc6 nc7 nc8 nc9 nc10 nf0 nf1 nf2 nf3 nf4 nf5 nf6 nf7 nf8 nf9 nf10
    obtain⟨nc0,nc1,nc2,nc3,nc4,nc5,nc6,nc7,nc8,nc9,nc10⟩:=HN7.out.elevQ
    obtain⟨zc0,zc1,zc2,zc3,zc4,zc5,zc6,zc7,zc8,zc9,zc10⟩:=(HZ.out.later HB7.out).elevQ
    obtain⟨zf0,zf1,zf2,zf3,zf4,zf5,zf6,zf7,zf8,zf9,zf10⟩:=(HZ.out.later HB7.out).elevQF
    have HRZ:=Lib.hid ((HZ.out.later HB7.out).put11 (.string (⟨#[108]⟩++op)) (.int .i64 dst) (.slice (some ⟨W2.heap.size,0,none⟩) 1 1) (.int .i64 0) (.int .i64 0) (.bool false) (.slice none 0 0) (.slice none 0 0) (.string ⟨#[]⟩) (.int .i64 guard) (.slice none 0 0))
    have HEND:=Lib.hid (ins_endG (x:=⟨⟨#[108]⟩++op,dst,(some ⟨W2.heap.size,0,none⟩,1,1),0,0,false,(none,0,0),(none,0,0),⟨#[]⟩,guard,(none,0,0)⟩) HB1.out HS1.out HBB.out HB7.out (show InsR (fun b=>b<w7.heap.size∧(b<B∨W1.heap.size≤b)) w7 ⟨⟨#[108]⟩++op,dst,(some ⟨W2.heap.size,0,none⟩,1,1),0,0,false,(none,0,0),(none,0,0),⟨#[]⟩,guard,(none,0,0)⟩ (lineI ss ⟨op,args⟩ base dst guard) from by rw [HI.out];exact⟨rfl,rfl,HA7.out.weak fun b p=>⟨p.2,.inr p.1⟩,rfl,rfl,rfl,URowP.nil _ _,URowP.nil _ _,rfl,rfl,IRowP.nil _ _⟩) (.string (⟨#[108]⟩++op)) (.int .i64 dst) (.slice (some ⟨W2.heap.size,0,none⟩) 1 1) (.int .i64 0) (.int .i64 0) (.bool false) (.slice none 0 0) (.slice none 0 0) (.string ⟨#[]⟩) (.int .i64 guard) (.slice none 0 0))
    go_wp2
    refine ret_row rfl (w.heap.size+2) _ HRZ.out rfl rfl Tryz.underlying96 Tryz.infoInsS ?_
    exact⟨⟨⟨#[108]⟩++op,dst,(some ⟨W2.heap.size,0,none⟩,1,1),0,0,false,(none,0,0),(none,0,0),⟨#[]⟩,guard,(none,0,0)⟩,rfl,HEND.out.1,HEND.out.2⟩
  by_cases h4:op=bs [42]
  · clear h0 h1 h2 h3
    have g0:(op.toList==[118,97,114])=false:=by rw [h4,bs_toList];rfl
    have g1:(op.toList==[99,111,110,116])=false:=by rw [h4,bs_toList];rfl
    have g2:(op.toList==[115,101,108])=false:=by rw [h4,bs_toList];rfl
    have g3:(op.toList==[110,101,103])=false:=by rw [h4,bs_toList];rfl
    have g4:=str_yes (l:=[42]) h4
    have hlen:=HLF.out.mul h4
    simp only at hlen
    rw [HAL.out] at hlen
    subst hlen
    obtain⟨b,off,ha1,hlb,hc0⟩:=(HRW.out _ HB2.out).at_ (i:=0) (by omega)
    have hc1:W2.cell? ⟨b,off+1,none⟩=some (.int .i64 (args.getD 1 0)):=by
      obtain⟨b',off',ha',_,hc'⟩:=(HRW.out _ HB2.out).at_ (i:=1) (by omega)
      rw [ha1] at ha'
      injection ha' with ha'
      injection ha' with q1 q2
      subst q1 q2
      exact hc'
    have hc2:W2.cell? ⟨b,off+2,none⟩=some (.int .i64 (args.getD 2 0)):=by
      obtain⟨b',off',ha',_,hc'⟩:=(HRW.out _ HB2.out).at_ (i:=2) (by omega)
      rw [ha1] at ha'
      injection ha' with ha'
      injection ha' with q1 q2
      subst q1 q2
      exact hc'
    rw [Nat.add_zero] at hc0
    subst ha1
    have hbW:b<W1.heap.size:=Nat.lt_of_lt_of_le hlb (HBW.out _ (Below.refl _ _))
    obtain⟨X0,hX0⟩:∃ X0,X0=args.getD 0 0:=⟨_,rfl⟩
    obtain⟨hx0a,hx0b⟩:=HLF.out.at_ 0
    simp only at hx0a hx0b
    rw [←hX0] at hc0 hx0a hx0b
    obtain⟨X1,hX1⟩:∃ X1,X1=args.getD 1 0:=⟨_,rfl⟩
    obtain⟨hx1a,hx1b⟩:=HLF.out.at_ 1
    simp only at hx1a hx1b
    rw [←hX1] at hc1 hx1a hx1b
    obtain⟨X2,hX2⟩:∃ X2,X2=args.getD 2 0:=⟨_,rfl⟩
    obtain⟨hx2a,hx2b⟩:=HLF.out.at_ 2
    simp only at hx2a hx2b
    rw [←hX2] at hc2 hx2a hx2b
    have hw0:IntKind.i64.wrap (base+X0)=base+X0:=IntWalk.i64_in _ (by omega)
    have hw1:IntKind.i64.wrap (base+X1)=base+X1:=IntWalk.i64_in _ (by omega)
    have hw2:IntKind.i64.wrap (base+X2)=base+X2:=IntWalk.i64_in _ (by omega)
    have HI:Hid (lineI ss ⟨op,args⟩ base dst guard=mkI (⟨#[108]⟩++op) dst [base+X0,base+X1] X2 guard []):=Lib.hid (by unfold lineI mkI;simp only [h4,hX0,hX1,hX2];rfl)
    have hcz:W1.cell? ⟨b,off+2,none⟩=some (.int .i64 X2):=(HB2.out.cell (p:=⟨b,off+2,none⟩) hbW).symm.trans hc2
    clear h4 hX0 hX1 hX2
    obtain⟨nc0,nc1,nc2,nc3,nc4,nc5,nc6,nc7,nc8,nc9,nc10⟩:=HN2.out.elevQ
    obtain⟨nf0,nf1,nf2,nf3,nf4,nf5,nf6,nf7,nf8,nf9,nf10⟩:=HN2.out.elevQF
    have hl2:=HN2.out.lt
    have hb2:b<W2.heap.size:=Nat.lt_of_lt_of_le hbW HB2.out.size
    have hp2:w.heap.size+1<W2.heap.size:=by have:=HS1.out;have:=HB2.out.size;omega
    go_upto_region 13 with fail
    go_region
    obtain⟨w7,hw7⟩:∃ w7,w7=((W2.setCell ⟨W1.heap.size,2,none⟩ (.slice (some ⟨W2.heap.size,0,none⟩) 2 2)).alloc (.cells #[.int .i64 (base+X0),.int .i64 (base+X1)] 3)).drew:=⟨_,rfl⟩
    have HN7:Hid (Blk w7 W1.heap.size 96 #[.string (⟨#[108]⟩++op),.int .i64 dst,.slice (some ⟨W2.heap.size,0,none⟩) 2 2,.int .i64 0,.int .i64 0,.bool false,.slice none 0 0,.slice none 0 0,.string ⟨#[]⟩,.int .i64 guard,.slice none 0 0]):=Lib.hid (by rw [hw7];exact(HN2.out.putA 2 _).alloc _)
    have HB7:Hid (Below W1.heap.size W1 w7):=Lib.hid (by rw [hw7];exact((HB2.out.setCell (p:=⟨W1.heap.size,2,none⟩) (Nat.le_refl _) _).alloc (by simp [World.setCell];exact HB2.out.size) _).drew)
    have HA9:=Lib.hid (show IRowP (fun b=>W1.heap.size<b∧b<w7.heap.size) w7 (some ⟨W2.heap.size,0,none⟩) 2 2 [base+X0,base+X1] from by rw [hw7];exact row_in (C:=W1.heap.size+1) rfl HN2.out.lt rfl (by decide))
    have HA7:=Lib.hid (show IRowP (fun b=>W1.heap.size≤b∧b<w7.heap.size) w7 (some ⟨W2.heap.size,0,none⟩) 2 2 [base+X0,base+X1] from by rw [hw7];exact row_in rfl HB2.out.size rfl (by decide))
    rw [←hw7]
    obtain⟨q0,q1⟩:=And.intro ((HKO.out.later (show Below W1.heap.size W1 w7 from HB7.out)).cell 0 rfl) ((HKO.out.later HB7.out).cell 1 rfl)
    have hc2:=((Below.refl W1.heap.size W1).trans HB7.out).cell (p:=⟨b,off+2,none⟩) hbW
    rw [hcz] at hc2
    clear hw7 nc0 nc1 nc2 nc3 nc4 nc5 nc6 nc7 nc8 nc9 nc10 nf0 nf1 nf2 nf3 nf4 nf5 nf6 nf7 nf8 nf9 nf10
    clear hc0 hc1 p0 p1 hl2 hb2 hp2
    obtain⟨nc0,nc1,nc2,nc3,nc4,nc5,nc6,nc7,nc8,nc9,nc10⟩:=HN7.out.elevQ
    obtain⟨nf0,nf1,nf2,nf3,nf4,nf5,nf6,nf7,nf8,nf9,nf10⟩:=HN7.out.elevQF
    obtain⟨w8,hw8⟩:∃ w8,w8=w7.setCell ⟨W1.heap.size,3,none⟩ (.int .i64 X2):=⟨_,rfl⟩
    have HN8:Hid (Blk w8 W1.heap.size 96 #[.string (⟨#[108]⟩++op),.int .i64 dst,.slice (some ⟨W2.heap.size,0,none⟩) 2 2,.int .i64 X2,.int .i64 0,.bool false,.slice none 0 0,.slice none 0 0,.string ⟨#[]⟩,.int .i64 guard,.slice none 0 0]):=Lib.hid (by rw [hw8];exact HN7.out.putA 3 _)
    have HB8:Hid (Below W1.heap.size W1 w8):=Lib.hid (by rw [hw8];exact HB7.out.setCell (p:=⟨W1.heap.size,3,none⟩) (Nat.le_refl _) _)
    have HO8:Hid (Only [some W1.heap.size] w7 w8):=Lib.hid (by rw [hw8];exact Only.set (List.mem_cons_self) 3 _ _)
    have HLW:Hid (W1.heap.size<W2.heap.size):=Lib.hid HN2.out.lt
    have HA8:=Lib.hid (HA9.out.keep (Q:=fun b=>b<w8.heap.size∧(b<B∨W1.heap.size≤b)) (keepOnly HO8.out fun b p=>⟨p.2,by simp;have:=p.1;omega,Nat.lt_of_lt_of_le p.2 HO8.out.size,.inr (Nat.le_of_lt p.1)⟩))
    go_upto_region 15 with fail
    rw [←hw8]
    clear hw8 q0 q1 hc2 nc0 nc1 nc2 nc3 nc4 nc5 nc6 nc7 nc8 nc9 nc10 nf0 nf1 nf2 nf3 nf4 nf5 nf6 nf7 nf8 nf9 nf10
    obtain⟨nc0,nc1,nc2,nc3,nc4,nc5,nc6,nc7,nc8,nc9,nc10⟩:=HN8.out.elevQ
    obtain⟨zc0,zc1,zc2,zc3,zc4,zc5,zc6,zc7,zc8,zc9,zc10⟩:=(HZ.out.later HB8.out).elevQ
    obtain⟨zf0,zf1,zf2,zf3,zf4,zf5,zf6,zf7,zf8,zf9,zf10⟩:=(HZ.out.later HB8.out).elevQF
    have HRZ:=Lib.hid ((HZ.out.later HB8.out).put11 (.string (⟨#[108]⟩++op)) (.int .i64 dst) (.slice (some ⟨W2.heap.size,0,none⟩) 2 2) (.int .i64 X2) (.int .i64 0) (.bool false) (.slice none 0 0) (.slice none 0 0) (.string ⟨#[]⟩) (.int .i64 guard) (.slice none 0 0))
    have HEND:=Lib.hid (ins_endG (x:=⟨⟨#[108]⟩++op,dst,(some ⟨W2.heap.size,0,none⟩,2,2),X2,0,false,(none,0,0),(none,0,0),⟨#[]⟩,guard,(none,0,0)⟩) HB1.out HS1.out HBB.out HB8.out (show InsR (fun b=>b<w8.heap.size∧(b<B∨W1.heap.size≤b)) w8 ⟨⟨#[108]⟩++op,dst,(some ⟨W2.heap.size,0,none⟩,2,2),X2,0,false,(none,0,0),(none,0,0),⟨#[]⟩,guard,(none,0,0)⟩ (lineI ss ⟨op,args⟩ base dst guard) from by rw [HI.out];exact⟨rfl,rfl,HA8.out,rfl,rfl,rfl,URowP.nil _ _,URowP.nil _ _,rfl,rfl,IRowP.nil _ _⟩) (.string (⟨#[108]⟩++op)) (.int .i64 dst) (.slice (some ⟨W2.heap.size,0,none⟩) 2 2) (.int .i64 X2) (.int .i64 0) (.bool false) (.slice none 0 0) (.slice none 0 0) (.string ⟨#[]⟩) (.int .i64 guard) (.slice none 0 0))
    go_wp2
    refine ret_row rfl (w.heap.size+2) _ HRZ.out rfl rfl Tryz.underlying96 Tryz.infoInsS ?_
    exact⟨⟨⟨#[108]⟩++op,dst,(some ⟨W2.heap.size,0,none⟩,2,2),X2,0,false,(none,0,0),(none,0,0),⟨#[]⟩,guard,(none,0,0)⟩,rfl,HEND.out.1,HEND.out.2⟩
  have g0:=str_no (l:=[118,97,114]) h0
  have g1:=str_no (l:=[99,111,110,116]) h1
  have g2:=str_no (l:=[115,101,108]) h2
  have g3:=str_no (l:=[110,101,103]) h3
  have g4:=str_no (l:=[42]) h4
  have hlen:=HLF.out.two h0 h1 h2 h3 h4
  simp only at hlen
  rw [HAL.out] at hlen
  subst hlen
  obtain⟨b,off,ha1,hlb,hc0⟩:=(HRW.out _ HB2.out).at_ (i:=0) (by omega)
  have hc1:W2.cell? ⟨b,off+1,none⟩=some (.int .i64 (args.getD 1 0)):=by
    obtain⟨b',off',ha',_,hc'⟩:=(HRW.out _ HB2.out).at_ (i:=1) (by omega)
    rw [ha1] at ha'
    injection ha' with ha'
    injection ha' with q1 q2
    subst q1 q2
    exact hc'
  rw [Nat.add_zero] at hc0
  subst ha1
  have hbW:b<W1.heap.size:=Nat.lt_of_lt_of_le hlb (HBW.out _ (Below.refl _ _))
  obtain⟨X0,hX0⟩:∃ X0,X0=args.getD 0 0:=⟨_,rfl⟩
  obtain⟨hx0a,hx0b⟩:=HLF.out.at_ 0
  simp only at hx0a hx0b
  rw [←hX0] at hc0 hx0a hx0b
  obtain⟨X1,hX1⟩:∃ X1,X1=args.getD 1 0:=⟨_,rfl⟩
  obtain⟨hx1a,hx1b⟩:=HLF.out.at_ 1
  simp only at hx1a hx1b
  rw [←hX1] at hc1 hx1a hx1b
  have hw0:IntKind.i64.wrap (base+X0)=base+X0:=IntWalk.i64_in _ (by omega)
  have hw1:IntKind.i64.wrap (base+X1)=base+X1:=IntWalk.i64_in _ (by omega)
  have HI:Hid (lineI ss ⟨op,args⟩ base dst guard=mkI (⟨#[108]⟩++op) dst [base+X0,base+X1] 0 guard []):=Lib.hid (by unfold lineI mkI;simp only [if_neg (show ¬ op=copVar from h0),if_neg (show ¬ op=copCont from h1),if_neg (show ¬ op=copSel from h2),if_neg (show ¬ op=copNeg from h3),if_neg (show ¬ op=copMul from h4),hX0,hX1])
  clear h0 h1 h2 h3 h4 hX0 hX1
  obtain⟨nc0,nc1,nc2,nc3,nc4,nc5,nc6,nc7,nc8,nc9,nc10⟩:=HN2.out.elevQ
  obtain⟨nf0,nf1,nf2,nf3,nf4,nf5,nf6,nf7,nf8,nf9,nf10⟩:=HN2.out.elevQF
  have hl2:=HN2.out.lt
  have hb2:b<W2.heap.size:=Nat.lt_of_lt_of_le hbW HB2.out.size
  have hp2:w.heap.size+1<W2.heap.size:=by have:=HS1.out;have:=HB2.out.size;omega
  go_upto_region 3 with fail
  go_region
  obtain⟨w7,hw7⟩:∃ w7,w7=((W2.setCell ⟨W1.heap.size,2,none⟩ (.slice (some ⟨W2.heap.size,0,none⟩) 2 2)).alloc (.cells #[.int .i64 (base+X0),.int .i64 (base+X1)] 3)).drew:=⟨_,rfl⟩
  have HN7:Hid (Blk w7 W1.heap.size 96 #[.string (⟨#[108]⟩++op),.int .i64 dst,.slice (some ⟨W2.heap.size,0,none⟩) 2 2,.int .i64 0,.int .i64 0,.bool false,.slice none 0 0,.slice none 0 0,.string ⟨#[]⟩,.int .i64 guard,.slice none 0 0]):=Lib.hid (by rw [hw7];exact(HN2.out.putA 2 _).alloc _)
  have HB7:Hid (Below W1.heap.size W1 w7):=Lib.hid (by rw [hw7];exact((HB2.out.setCell (p:=⟨W1.heap.size,2,none⟩) (Nat.le_refl _) _).alloc (by simp [World.setCell];exact HB2.out.size) _).drew)
  have HA7:=Lib.hid (show IRowP (fun b=>W1.heap.size≤b∧b<w7.heap.size) w7 (some ⟨W2.heap.size,0,none⟩) 2 2 [base+X0,base+X1] from by rw [hw7];exact row_in rfl HB2.out.size rfl (by decide))
  rw [←hw7]
  clear hw7 nc0 nc1 nc2 nc3 nc4 nc5 nc6 nc7 nc8 nc9 nc10 nf0 nf1 nf2 nf3 nf4 nf5 nf6 nf7 nf8 nf9 nf10
  obtain⟨nc0,nc1,nc2,nc3,nc4,nc5,nc6,nc7,nc8,nc9,nc10⟩:=HN7.out.elevQ
  obtain⟨zc0,zc1,zc2,zc3,zc4,zc5,zc6,zc7,zc8,zc9,zc10⟩:=(HZ.out.later HB7.out).elevQ
  obtain⟨zf0,zf1,zf2,zf3,zf4,zf5,zf6,zf7,zf8,zf9,zf10⟩:=(HZ.out.later HB7.out).elevQF
  have HRZ:=Lib.hid ((HZ.out.later HB7.out).put11 (.string (⟨#[108]⟩++op)) (.int .i64 dst) (.slice (some ⟨W2.heap.size,0,none⟩) 2 2) (.int .i64 0) (.int .i64 0) (.bool false) (.slice none 0 0) (.slice none 0 0) (.string ⟨#[]⟩) (.int .i64 guard) (.slice none 0 0))
  have HEND:=Lib.hid (ins_endG (x:=⟨⟨#[108]⟩++op,dst,(some ⟨W2.heap.size,0,none⟩,2,2),0,0,false,(none,0,0),(none,0,0),⟨#[]⟩,guard,(none,0,0)⟩) HB1.out HS1.out HBB.out HB7.out (show InsR (fun b=>b<w7.heap.size∧(b<B∨W1.heap.size≤b)) w7 ⟨⟨#[108]⟩++op,dst,(some ⟨W2.heap.size,0,none⟩,2,2),0,0,false,(none,0,0),(none,0,0),⟨#[]⟩,guard,(none,0,0)⟩ (lineI ss ⟨op,args⟩ base dst guard) from by rw [HI.out];exact⟨rfl,rfl,HA7.out.weak fun b p=>⟨p.2,.inr p.1⟩,rfl,rfl,rfl,URowP.nil _ _,URowP.nil _ _,rfl,rfl,IRowP.nil _ _⟩) (.string (⟨#[108]⟩++op)) (.int .i64 dst) (.slice (some ⟨W2.heap.size,0,none⟩) 2 2) (.int .i64 0) (.int .i64 0) (.bool false) (.slice none 0 0) (.slice none 0 0) (.string ⟨#[]⟩) (.int .i64 guard) (.slice none 0 0))
  go_wp2
  refine ret_row rfl (w.heap.size+2) _ HRZ.out rfl rfl Tryz.underlying96 Tryz.infoInsS ?_
  exact⟨⟨⟨#[108]⟩++op,dst,(some ⟨W2.heap.size,0,none⟩,2,2),0,0,false,(none,0,0),(none,0,0),⟨#[]⟩,guard,(none,0,0)⟩,rfl,HEND.out.1,HEND.out.2⟩
end Go.Proofs.YtpnlbjnbgemocaaGreat
