import Derived.Test.YtpnlbjnbgemocaaGreatZQFToMdHN6
import Derived.Deep.RegionHeld3
import Derived.Deep.DeepCutAuto
namespace Go.Proofs.YtpnlbjnbgemocaaGreat
set_option linter.unusedVariables false
set_option linter.unusedSimpArgs false
set_option maxRecDepth 100000
open Go.RowKit
theorem Blk.other {w:World}{g T h o:Nat}{vs:Array Value}{u:Value}(hb:Blk w g T vs)(hg:g≠h):Blk (w.setCell ⟨h,o,none⟩ u) g T vs:=by
  unfold Blk
  rw [Below.heap_setCell w ⟨h,o,none⟩ u g hg]
  exact hb
theorem own_neE {e:Nat}{v:Value}(h:v.ownBlock≠some e):some e ∉ [v.ownBlock]:=by
  simp
  exact fun q=>h q.symm
theorem own_neS {w:World}{C g:Nat}{v:Value}{xs:List InsM}(h:OwnS w C v xs)(hg:g<C):some g ∉ [v.ownBlock]:=by
  simp
  intro e
  have:=(h.lt e.symm).1
  omega
theorem OwnS.otherS {w:World}{C g o:Nat}{v u:Value}{xs:List InsM}(h:OwnS w C v xs)(hg:g<C):OwnS (w.setCell ⟨g,o,none⟩ u) C v xs:=
  h.keep fun k hk=>Below.heap_setCell w ⟨g,o,none⟩ u k (by have:=(h.lt hk).1;simp;omega)
theorem partSet {w:World}{B H g o:Nat}{v u:Value}(hB:B≤g)(hg:g<H):KeepP (PartN B H w v) (PartN B H (w.setCell ⟨g,o,none⟩ u) v) w (w.setCell ⟨g,o,none⟩ u):=
  keepOnly (S:=[some g]) (Only.set (List.mem_cons_self) o w u) fun b p=>⟨p.1,by simp;rcases p.2.1 with q | q <;> omega,by rw [show(w.setCell ⟨g,o,none⟩ u).heap.size=w.heap.size by simp [World.setCell]];exact p.1,p.2⟩
theorem crossTo_len {f:FlatM}{ss:List Int}(hs:SmallF f):∀ k,(crossTo f ss k).length≤k*31
  | 0=>Nat.le_refl _
  | k + 1 => by
    have ih:=crossTo_len (ss:=ss) hs k
    rw [crossTo]
    cases hx:f.cross[k]? with
    | none=>simp;omega
    | some x=>
      have:=hs.ops k x hx
      simp [crossI]
      omega
theorem drew_alloc (w:World)(o:Obj):(w.alloc o).drew=w.drew.alloc o:=rfl
theorem onlyBelow {a b:World}{g C:Nat}(ho:Only [some g] a b)(hB:C≤a.heap.size)(hg:C≤g):Below C a b:=ho.below hB fun j hj=>by
  simp at hj
  omega
theorem own_neX {w:World}{C g:Nat}{v:Value}{xs:List ValX}(h:OwnX w C v xs)(hg:g<C):some g ∉ [v.ownBlock]:=by
  simp
  intro e
  have:=(h.lt e.symm).1
  omega
theorem Blk.only' {w w':World}{g T:Nat}{vs:Array Value}{S:List (Option Nat)}(h:Blk w g T vs)(hb:Only S w w')(hl:g<w.heap.size)(hg:some g ∉ S):Blk w' g T vs:=(hb.block g hl hg).trans h
theorem Blk.flat8 {w:World}{g T:Nat}{x0 x1 x2 x3 x4 x5 x6 x7:Value}(h:Blk w g T #[x0,x1,x2,x3,x4,x5,x6,x7]):w.cell? ⟨g,0,none⟩=some x0∧w.cell? ⟨g,1,none⟩=some x1∧w.cell? ⟨g,2,none⟩=some x2∧w.cell? ⟨g,3,none⟩=some x3∧w.cell? ⟨g,4,none⟩=some x4∧w.cell? ⟨g,5,none⟩=some x5∧w.cell? ⟨g,6,none⟩=some x6∧w.cell? ⟨g,7,none⟩=some x7:=⟨h.cell 0 rfl,h.cell 1 rfl,h.cell 2 rfl,h.cell 3 rfl,h.cell 4 rfl,h.cell 5 rfl,h.cell 6 rfl,h.cell 7 rfl⟩
theorem belowP10 {B:Nat}{a w:World}(h:Below B a w){g:Nat}(hg:B≤g)(y0 y1 y2 y3 y4 y5 y6 y7 y8 y9:Value):Below B a ((((((((((w.setCell ⟨g,0,none⟩ y0).setCell ⟨g,1,none⟩ y1).setCell ⟨g,2,none⟩ y2).setCell ⟨g,3,none⟩ y3).setCell ⟨g,4,none⟩ y4).setCell ⟨g,5,none⟩ y5).setCell ⟨g,6,none⟩ y6).setCell ⟨g,7,none⟩ y7).setCell ⟨g,8,none⟩ y8).setCell ⟨g,9,none⟩ y9):=
  (((((((((h.setCell (p:=⟨g,0,none⟩) hg y0).setCell (p:=⟨g,1,none⟩) hg y1).setCell (p:=⟨g,2,none⟩) hg y2).setCell (p:=⟨g,3,none⟩) hg y3).setCell (p:=⟨g,4,none⟩) hg y4).setCell (p:=⟨g,5,none⟩) hg y5).setCell (p:=⟨g,6,none⟩) hg y6).setCell (p:=⟨g,7,none⟩) hg y7).setCell (p:=⟨g,8,none⟩) hg y8).setCell (p:=⟨g,9,none⟩) hg y9
def CodeP15 (C:CodeM)(w:World)(e:Ending)(w':World):Prop:=∃ v':CodeV,e=.returned (.tuple #[codeV C v',.int .i64 0])∧CodeIs w' w'.heap.size C v'∧Below w.heap.size w w'
theorem newNe {B H Zb:Nat}{w':World}{G:Nat}(hB:B≤G)(hH:G<H)(hB2:B≤Zb)(hH2:Zb<H):∀ b,NewP B H w' b→b<w'.heap.size∧b≠G∧b≠Zb:=fun b p=>⟨p.1,fun e=>by rcases p.2 with q | q <;> omega,fun e=>by rcases p.2 with q | q <;> omega⟩
theorem newNz {B H Zb:Nat}{w':World}(hB2:B≤Zb)(hH2:Zb<H):∀ b,NewP B H w' b→b<w'.heap.size∧b≠Zb:=fun b p=>⟨p.1,fun e=>by rcases p.2 with q | q <;> omega⟩
theorem keepG {w w':World}{G Zb:Nat}(hb:Below w.heap.size w w'):KeepP (fun b=>b<w.heap.size∧b≠G∧b≠Zb) (fun b=>b<w'.heap.size∧b≠G∧b≠Zb) w w':=keepB hb fun b q=>⟨q.1,Nat.lt_of_lt_of_le q.1 hb.size,q.2⟩
theorem keepZ {w w':World}{Zb:Nat}(hb:Below w.heap.size w w'):KeepP (fun b=>b<w.heap.size∧b≠Zb) (fun b=>b<w'.heap.size∧b≠Zb) w w':=keepB hb fun b q=>⟨q.1,Nat.lt_of_lt_of_le q.1 hb.size,q.2⟩
theorem keepNewZ {w w':World}{o:Obj}{Zb:Nat}(hb:Below (w.alloc o).heap.size (w.alloc o) w'):KeepP (fun b=>b<w.heap.size∧b≠Zb) (fun b=>b<w'.heap.size∧b≠w.heap.size∧b≠Zb) w w':=by
  have h1:Below w.heap.size w w':=((Below.refl w.heap.size w).alloc (Nat.le_refl _) o).trans (hb.mono (by simp))
  exact keepB h1 fun b q=>⟨q.1,Nat.lt_of_lt_of_le q.1 h1.size,Nat.ne_of_lt q.1,q.2⟩
theorem keepS {w w':World}{G Zb:Nat}(ho:Only [some G] w w'):KeepP (fun b=>b<w.heap.size∧b≠G∧b≠Zb) (fun b=>b<w'.heap.size∧b≠G∧b≠Zb) w w':=keepOnly ho fun b q=>⟨q.1,by simp;exact q.2.1,Nat.lt_of_lt_of_le q.1 ho.size,q.2⟩
theorem keepE {w w':World}{G Zb:Nat}(ho:Only [some Zb] w w'):KeepP (fun b=>b<w.heap.size∧b≠G∧b≠Zb) (fun b=>b<w'.heap.size) w w':=keepOnly ho fun b q=>⟨q.1,by simp;exact q.2.2,Nat.lt_of_lt_of_le q.1 ho.size⟩
set_option maxHeartbeats 16000000 in
theorem of15_t (B : Nat) (v : FlatV) (f : FlatM) (A A2 : Option Addr) (m c n c2 : Nat) (S : Int) (ss o : List Int) (w : World) (hf : FlatIs w B v f) (hr : IRow w B A2 n c2 ss) (hB : B ≤ w.heap.size) (ho : IRow w B A m c o) (hs : SmallF f) (hS : -9223372036854775808 ≤ S ∧ S ≤ 9223372036854775807) (hR : RightP f v.names.2.1 o ss S) :
    Calls Tryz.prog 33 #[flatV v,.agg #[.slice A m c,.slice A2 n c2,.int .i64 S]] w (CodeP15 (madeC f o ss S) w):=by
  have hn:f.names.length=n:=by rw [hf.names.1,←hR.slots.1];exact hr.1
  have hol:o.length≤200:=by rw [hR.once.len,←hf.names.1];exact hs.names
  have HRT0:=Lib.hid (fun W (hb:Below w.heap.size w W)=>refRight_t v f B A A2 m c n c2 S o ss W (hf.below (hb.mono hB)) (Nat.le_trans hB hb.size) (ho.below (hb.mono hB)) (hr.below (hb.mono hB)) hs hS)
  have HST0:=Lib.hid (fun W (hb:Below w.heap.size w W)=>step15_t B v f A A2 m c n c2 S ss o W (hf.below (hb.mono hB)) (hr.below (hb.mono hB)) (Nat.le_trans hB hb.size) (ho.below (hb.mono hB)) hol hR.good hs hn)
  have HDV0:=Lib.hid (fun W (hb:Below w.heap.size w W)=>deriv15_t B v f A A2 m c n c2 S ss W (hf.below (hb.mono hB)) (hr.below (hb.mono hB)) (Nat.le_trans hB hb.size) hR.good hs hn)
  have HFIT:=Lib.hid hf.fits
  have HRP:=Lib.hid hR
  obtain⟨⟨i1,i2,i3⟩,⟨nm1,nm2,nm3⟩,⟨o1,o2,o3⟩,⟨e1,e2,e3⟩,⟨m1,m2,m3⟩,⟨c1,cn,c3⟩,⟨x1,x2,x3⟩,⟨g1,g2,g3⟩⟩:=v
  obtain⟨W1,hW1⟩:∃ W1,W1=((w.alloc (.cells #[.slice i1 i2 i3,.slice nm1 nm2 nm3,.slice o1 o2 o3,.slice e1 e2 e3,.slice m1 m2 m3,.slice c1 cn c3,.slice x1 x2 x3,.slice g1 g2 g3] 83)).alloc (.cells #[.slice A m c,.slice A2 n c2,.int .i64 S] 86)).alloc (.cells #[.int .i64 0,.int .i64 0,.int .i64 0,.int .i64 0,.int .i64 0,.slice none 0 0,.slice none 0 0,.slice none 0 0,.slice none 0 0,.slice none 0 0] 25):=⟨_,rfl⟩
  obtain⟨hk1,hk2,hk3,hs1,hb1⟩:=three_new hW1
  have HKF:=Lib.hid (show Blk W1 w.heap.size 83 #[.slice i1 i2 i3,.slice nm1 nm2 nm3,.slice o1 o2 o3,.slice e1 e2 e3,.slice m1 m2 m3,.slice c1 cn c3,.slice x1 x2 x3,.slice g1 g2 g3] from hk1)
  have HKP:=Lib.hid (show Blk W1 (w.heap.size+1) 86 #[.slice A m c,.slice A2 n c2,.int .i64 S] from hk2)
  have HZ:=Lib.hid (show Blk W1 (w.heap.size+2) 25 #[.int .i64 0,.int .i64 0,.int .i64 0,.int .i64 0,.int .i64 0,.slice none 0 0,.slice none 0 0,.slice none 0 0,.slice none 0 0,.slice none 0 0] from hk3)
  have HB1:=Lib.hid hb1
  have HS1:=Lib.hid hs1
  have HBB:=Lib.hid hB
  have HBS:Hid (B≤W1.heap.size):=Lib.hid (Nat.le_trans hB hb1.size)
  have HF:=Lib.hid (fun W (hb:Below W1.heap.size W1 W)=>hf.below ((hb1.trans (hb.mono hb1.size)).mono hB))
  have HR:=Lib.hid (fun W (hb:Below W1.heap.size W1 W)=>hr.below ((hb1.trans (hb.mono hb1.size)).mono hB))
  have HBW:=Lib.hid (fun W (hb:Below W1.heap.size W1 W)=>Nat.le_trans hB (hb1.trans (hb.mono hb1.size)).size)
  have HOW:=Lib.hid (fun W (hb:Below W1.heap.size W1 W)=>(hb1.trans (hb.mono hb1.size)))
  have HSM:=Lib.hid hs
  have HNM:=Lib.hid hn
  have HSS:=Lib.hid hS
  have hmm:=hf.mems.len_le
  have hmc:=hf.conts.len_le
  have hmx:=hf.cross.len_le
  have hmi:=hf.ins.len_le
  have hmu:=hf.outs.len_le
  unfold maxLen at hmm hmc hmx hmi hmu
  simp only at hmm hmc hmx hmi hmu
  have HII:Hid (f.ins.length=i2):=Lib.hid hf.ins.1
  have HMM:Hid (f.mems.length=m2):=Lib.hid hf.mems.1
  have HCC:Hid (f.conts.length=cn):=Lib.hid hf.conts.1
  have HUU:Hid (f.outs.length=o2):=Lib.hid hf.outs.1
  have HXX:Hid (f.cross.length=x2):=Lib.hid hf.cross.1
  clear hf hr hB ho hs hn hol hS hR hk1 hk2 hk3 hs1 hb1
  have HPB:Hid (∀ W,Below W1.heap.size W1 W→(W.cell? ⟨w.heap.size,0,none⟩=some (.slice i1 i2 i3)∧W.cell? ⟨w.heap.size,1,none⟩=some (.slice nm1 nm2 nm3)∧W.cell? ⟨w.heap.size,2,none⟩=some (.slice o1 o2 o3)∧W.cell? ⟨w.heap.size,3,none⟩=some (.slice e1 e2 e3)∧W.cell? ⟨w.heap.size,4,none⟩=some (.slice m1 m2 m3)∧W.cell? ⟨w.heap.size,5,none⟩=some (.slice c1 cn c3)∧W.cell? ⟨w.heap.size,6,none⟩=some (.slice x1 x2 x3)∧W.cell? ⟨w.heap.size,7,none⟩=some (.slice g1 g2 g3))∧W.cell? ⟨w.heap.size+1,0,none⟩=some (.slice A m c)∧W.cell? ⟨w.heap.size+1,1,none⟩=some (.slice A2 n c2)∧W.cell? ⟨w.heap.size+1,2,none⟩=some (.int .i64 S)):=Lib.hid fun W hb=>by
    have h1:=HKF.out.later hb
    have h2:=HKP.out.later hb
    exact⟨⟨h1.cell 0 rfl,h1.cell 1 rfl,h1.cell 2 rfl,h1.cell 3 rfl,h1.cell 4 rfl,h1.cell 5 rfl,h1.cell 6 rfl,h1.cell 7 rfl⟩,h2.cell 0 rfl,h2.cell 1 rfl,h2.cell 2 rfl⟩
  have HPW:Hid (∀ W,Below W1.heap.size W1 W→W.cell? ⟨w.heap.size,0,none⟩=some (.slice i1 i2 i3)∧W.cell? ⟨w.heap.size,1,none⟩=some (.slice nm1 nm2 nm3)∧W.cell? ⟨w.heap.size,2,none⟩=some (.slice o1 o2 o3)∧W.cell? ⟨w.heap.size,3,none⟩=some (.slice e1 e2 e3)∧W.cell? ⟨w.heap.size,4,none⟩=some (.slice m1 m2 m3)∧W.cell? ⟨w.heap.size,5,none⟩=some (.slice c1 cn c3)∧W.cell? ⟨w.heap.size,6,none⟩=some (.slice x1 x2 x3)∧W.cell? ⟨w.heap.size,7,none⟩=some (.slice g1 g2 g3)∧W.cell? ⟨w.heap.size+1,0,none⟩=some (.slice A m c)∧W.cell? ⟨w.heap.size+1,1,none⟩=some (.slice A2 n c2)∧W.cell? ⟨w.heap.size+1,2,none⟩=some (.int .i64 S)):=Lib.hid fun W hb=>by
    obtain⟨⟨a0,a1,a2,a3,a4,a5,a6,a7⟩,a8,a9,a10⟩:=HPB.out W hb
    exact⟨a0,a1,a2,a3,a4,a5,a6,a7,a8,a9,a10⟩
  have HRT:=Lib.hid (HRT0.out W1 HB1.out)
  unfold flatV sl3 planV at HRT
  unfold flatV sl3 at HST0 HDV0 ⊢
  dsimp only at HRT HST0 HDV0
  obtain⟨f0,f1,f2,f3,f4,f5,f6,f7⟩:=HKF.out.flat8
  obtain⟨p0,p1,p2⟩:=And.intro (HKP.out.cell 0 rfl) (And.intro (HKP.out.cell 1 rfl) (HKP.out.cell 2 rfl))
  go_enter Tryz.func33,Tryz.ntmps33
  go_upto_region 1 with fail
  rw [←hW1]
  clear hW1
  go_upto_region 3 with (go_at_call 68;(with_reducible refine HRT.out.mono ?_);rintro e w2 ⟨⟨b,rfl,hb⟩,hb2⟩;obtain rfl:b=true:=hb.2 HRP.out;have HB2:=Lib.hid hb2;clear hb hb2 f0 f1 f2 f3 f4 f5 f6 f7 p0 p1 p2)
  have HB2d:=Lib.hid HB2.out.drew
  have HB2a:=Lib.hid (fun o=>(HB2.out.alloc HB2.out.size o).drew)
  have HST:=Lib.hid (fun W (hb:Below W1.heap.size W1 W)=>HST0.out W (HOW.out W hb))
  have HDV:=Lib.hid (fun W (hb:Below W1.heap.size W1 W)=>HDV0.out W (HOW.out W hb))
  have HBL2:Hid (B≤w2.heap.size):=Lib.hid (Nat.le_trans HBS.out HB2.out.size)
  have HZB:Hid (B≤w.heap.size+2):=Lib.hid (Nat.le_trans HBB.out (Nat.le_add_right _ _))
  have HZ2:Hid (w.heap.size+2<w2.heap.size):=Lib.hid (by have:=HS1.out;have:=HB2.out.size;omega)
  have HZZ:=Lib.hid (show Blk (w2.alloc (.cells #[.int .i64 0,.int .i64 0,.int .i64 0,.int .i64 0,.int .i64 0,.slice none 0 0,.slice none 0 0,.slice none 0 0,.slice none 0 0,.slice none 0 0] 25)).drew w2.heap.size 25 #[.int .i64 0,.int .i64 0,.int .i64 0,.int .i64 0,.int .i64 0,.slice none 0 0,.slice none 0 0,.slice none 0 0,.slice none 0 0,.slice none 0 0] from Blk.new w2 25 #[.int .i64 0,.int .i64 0,.int .i64 0,.int .i64 0,.int .i64 0,.slice none 0 0,.slice none 0 0,.slice none 0 0,.slice none 0 0,.slice none 0 0])
  go_cut [6] (fun s6 wx=>∃(g6:Nat) (sa da:Option Addr) (sn sc dn dc:Nat),s6=.pointer (some ⟨g6,0,none⟩)∧Hid (W1.heap.size≤g6)∧Hid (Blk wx g6 25 #[.int .i64 (i2:Int),.int .i64 (o2:Int),.int .i64 S,.int .i64 (x2:Int),.int .i64 0,.slice none 0 0,.slice none 0 0,.slice sa sn sc,.slice da dn dc,.slice none 0 0])∧Hid (BodyR (fun b=>b<wx.heap.size∧b≠g6∧b≠w.heap.size+2) wx sa sn sc (stepL f ss o))∧Hid (BodyR (fun b=>b<wx.heap.size∧b≠g6∧b≠w.heap.size+2) wx da dn dc (derivL f ss))∧Hid (Below W1.heap.size W1 wx))
  case first=>
    go_region_held3 (fun w'=>w'.cell? ⟨w.heap.size,0,none⟩=some (.slice i1 i2 i3)∧w'.cell? ⟨w.heap.size,1,none⟩=some (.slice nm1 nm2 nm3)∧w'.cell? ⟨w.heap.size,2,none⟩=some (.slice o1 o2 o3)∧w'.cell? ⟨w.heap.size,3,none⟩=some (.slice e1 e2 e3)∧w'.cell? ⟨w.heap.size,4,none⟩=some (.slice m1 m2 m3)∧w'.cell? ⟨w.heap.size,5,none⟩=some (.slice c1 cn c3)∧w'.cell? ⟨w.heap.size,6,none⟩=some (.slice x1 x2 x3)∧w'.cell? ⟨w.heap.size,7,none⟩=some (.slice g1 g2 g3)∧w'.cell? ⟨w.heap.size+1,0,none⟩=some (.slice A m c)∧w'.cell? ⟨w.heap.size+1,1,none⟩=some (.slice A2 n c2)∧w'.cell? ⟨w.heap.size+1,2,none⟩=some (.int .i64 S)) (first | with_reducible exact HPW.out _ HB2d.out | with_reducible exact HPW.out _ (HB2a.out _) | with_reducible exact HPW.out _ HB3.out | with_reducible exact HPW.out _ (HB3.out.alloc HB3.out.size _) | with_reducible exact HPW.out _ HB4.out | with_reducible exact HPW.out _ (HB4.out.alloc HB4.out.size _) | with_reducible exact HPW.out _ (belowP10 HB4.out HGL.out _ _ _ _ _ _ _ _ _ _) | go_keep) (first
      | (go_at_call 69;first
        | ((with_reducible refine(HST.out _ HB2d.out).mono ?_);rintro e w3 ⟨v3,xs3,rfl,hown,hl,hb⟩;obtain⟨sa,sc,hv3,hbd⟩:=hown.body hl (Nat.le_refl _);obtain⟨sn,hsn⟩:∃ sn,sn=(stepL f ss o).length:=⟨_,rfl⟩;rw [←hsn] at hv3 hbd;clear hsn;subst hv3;have HB3:=Lib.hid (HB2d.out.trans (hb.mono HB2d.out.size));have HSB3:=Lib.hid (hbd.keep (Q:=fun b=>b<w3.heap.size∧b≠w.heap.size+2) fun b p=>⟨newNz HZB.out HZ2.out b p,fun _=>rfl⟩);have HL3:Hid (w2.heap.size≤w3.heap.size):=Lib.hid hb.size;clear hown hl hb hbd)
        | ((with_reducible refine(HST.out _ (HB2a.out _)).mono ?_);rintro e w3 ⟨v3,xs3,rfl,hown,hl,hb⟩;obtain⟨sa,sc,hv3,hbd⟩:=hown.body hl (Nat.le_refl _);obtain⟨sn,hsn⟩:∃ sn,sn=(stepL f ss o).length:=⟨_,rfl⟩;rw [←hsn] at hv3 hbd;clear hsn;subst hv3;have HB3:=Lib.hid ((HB2a.out _).trans (hb.mono (HB2a.out _).size));have HL3:Hid (w2.heap.size<w3.heap.size):=Lib.hid (Nat.lt_of_lt_of_le HZZ.out.lt hb.size);have HSB3:=Lib.hid (hbd.keep (Q:=fun b=>b<w3.heap.size∧b≠w2.heap.size∧b≠w.heap.size+2) fun b p=>⟨newNe HBL2.out HZZ.out.lt HZB.out (Nat.lt_trans HZ2.out HZZ.out.lt) b p,fun _=>rfl⟩);have HT3:=Lib.hid (HZZ.out.later hb);have HG3:Hid (W1.heap.size≤w2.heap.size):=Lib.hid HB2.out.size;clear hown hl hb hbd))
      | (go_at_call 70;first
        | ((with_reducible refine(HDV.out _ HB3.out).mono ?_);rintro e w4 ⟨v4,xs4,rfl,hown,hl,hb⟩;obtain⟨da,dc,hv4,hbd⟩:=hown.body hl (Nat.le_refl _);obtain⟨dn,hdn⟩:∃ dn,dn=(derivL f ss).length:=⟨_,rfl⟩;rw [←hdn] at hv4 hbd;clear hdn;subst hv4;have HB4:=Lib.hid (HB3.out.trans (hb.mono HB3.out.size));first
          | (have HT4:=Lib.hid (HT3.out.later hb);have HGL:=HG3;have HSB4:=Lib.hid (HSB3.out.keep (keepG hb));have HDB4:=Lib.hid (hbd.keep (Q:=fun b=>b<w4.heap.size∧b≠w2.heap.size∧b≠w.heap.size+2) fun b p=>⟨newNe HBL2.out HL3.out HZB.out (Nat.lt_trans HZ2.out HL3.out) b p,fun _=>rfl⟩);obtain⟨nc0,nc1,nc2,nc3,nc4,nc5,nc6,nc7,nc8,nc9⟩:=HT4.out.ten;obtain⟨nf0,nf1,nf2,nf3,nf4,nf5,nf6,nf7,nf8,nf9⟩:=HT4.out.tenF;clear hown hl hb hbd)
          | (have HSB4:=Lib.hid (HSB3.out.keep (keepZ hb));have HDB4:=Lib.hid (hbd.keep (Q:=fun b=>b<w4.heap.size∧b≠w.heap.size+2) fun b p=>⟨newNz HZB.out (Nat.lt_of_lt_of_le HZ2.out HL3.out) b p,fun _=>rfl⟩);clear hown hl hb hbd))
        | ((with_reducible refine(HDV.out _ (HB3.out.alloc HB3.out.size _)).mono ?_);rintro e w4 ⟨v4,xs4,rfl,hown,hl,hb⟩;obtain⟨da,dc,hv4,hbd⟩:=hown.body hl (Nat.le_refl _);obtain⟨dn,hdn⟩:∃ dn,dn=(derivL f ss).length:=⟨_,rfl⟩;rw [←hdn] at hv4 hbd;clear hdn;subst hv4;have HB4:=Lib.hid ((HB3.out.alloc HB3.out.size _).trans (hb.mono (HB3.out.alloc HB3.out.size _).size));have HT4:=Lib.hid ((Blk.new w3 25 #[.int .i64 0,.int .i64 0,.int .i64 0,.int .i64 0,.int .i64 0,.slice none 0 0,.slice none 0 0,.slice none 0 0,.slice none 0 0,.slice none 0 0]).later hb);have HGL:Hid (W1.heap.size≤w3.heap.size):=Lib.hid HB3.out.size;have HSB4:=Lib.hid (HSB3.out.keep (keepNewZ hb));have HDB4:=Lib.hid (hbd.keep (Q:=fun b=>b<w4.heap.size∧b≠w3.heap.size∧b≠w.heap.size+2) fun b p=>⟨newNe (Nat.le_trans HBL2.out HL3.out) (by simp) HZB.out (Nat.lt_of_lt_of_le (Nat.lt_of_lt_of_le HZ2.out HL3.out) (by simp)) b p,fun _=>rfl⟩);obtain⟨nc0,nc1,nc2,nc3,nc4,nc5,nc6,nc7,nc8,nc9⟩:=HT4.out.ten;obtain⟨nf0,nf1,nf2,nf3,nf4,nf5,nf6,nf7,nf8,nf9⟩:=HT4.out.tenF;clear hown hl hb hbd)))
    all_goals
      go_wp2_with fail
      go_meet
      case rel=>
        first
        | exact⟨_,sa,da,sn,sc,dn,dc,rfl,HGL,Lib.hid (HT4.out.put10 (.int .i64 (i2:Int)) (.int .i64 (o2:Int)) (.int .i64 S) (.int .i64 (x2:Int)) (.int .i64 0) (.slice none 0 0) (.slice none 0 0) (.slice sa sn sc) (.slice da dn dc) (.slice none 0 0)),Lib.hid (HSB4.out.keep (keepS (onlyP10 (Only.refl _ _) (List.mem_cons_self) (.int .i64 (i2:Int)) (.int .i64 (o2:Int)) (.int .i64 S) (.int .i64 (x2:Int)) (.int .i64 0) (.slice none 0 0) (.slice none 0 0) (.slice sa sn sc) (.slice da dn dc) (.slice none 0 0)))),Lib.hid (HDB4.out.keep (keepS (onlyP10 (Only.refl _ _) (List.mem_cons_self) (.int .i64 (i2:Int)) (.int .i64 (o2:Int)) (.int .i64 S) (.int .i64 (x2:Int)) (.int .i64 0) (.slice none 0 0) (.slice none 0 0) (.slice sa sn sc) (.slice da dn dc) (.slice none 0 0)))),Lib.hid (belowP10 HB4.out HGL.out (.int .i64 (i2:Int)) (.int .i64 (o2:Int)) (.int .i64 S) (.int .i64 (x2:Int)) (.int .i64 0) (.slice none 0 0) (.slice none 0 0) (.slice sa sn sc) (.slice da dn dc) (.slice none 0 0))⟩
        | exact⟨_,sa,da,sn,sc,dn,dc,rfl,Lib.hid HB4.out.size,Lib.hid (Blk.new _ _ _),Lib.hid (HSB4.out.keep (keepNewZ (Below.refl _ _))),Lib.hid (HDB4.out.keep (keepNewZ (Below.refl _ _))),Lib.hid (HB4.out.alloc HB4.out.size _)⟩
  case rest =>
    obtain⟨g6,sa,da,sn,sc,dn,dc,rfl,HG6,HC5,HSB5,HDB5,HB5⟩:=hcut
    obtain⟨w5,rfl⟩:∃ w5:World,w5=wc:=⟨_,rfl⟩
    clear HST0 HDV0 HST HDV HB2d HB2a HZZ HRT0 HRT
    go_upto_region 5 with fail
    have HBb:=HB5
    have HLb:Hid (W1.heap.size≤w5.heap.size):=Lib.hid HBb.out.size
    have HGb:Hid (g6<w5.heap.size):=Lib.hid HC5.out.lt
    obtain⟨⟨f0,f1,f2,f3,f4,f5,f6,f7⟩,p0,p1,p2⟩:=HPB.out _ HBb.out
    go_wp2_with fail
    clear f0 f1 f2 f3 f4 f5 f6 f7 p0 p1 p2
    go_loopw [7] (fun t wr=>∃(k:Nat) (am:Option Addr) (nm cm:Nat),k≤m2∧t=.int .i64 k∧Hid (∃ xs,OwnX wr w5.heap.size (.slice am nm cm) xs∧ValL B wr xs ((f.mems.take k).map MemM.init))∧Hid (Blk wr g6 25 #[.int .i64 (i2:Int),.int .i64 (o2:Int),.int .i64 S,.int .i64 (x2:Int),.int .i64 0,.slice am nm cm,.slice none 0 0,.slice sa sn sc,.slice da dn dc,.slice none 0 0])∧Hid (Only [some g6] w5 wr)) (fun t _=>m2-(intOf t).toNat)
    case atStart=>exact⟨0,none,0,0,Nat.zero_le _,rfl,Lib.hid ⟨[],OwnX.nil _ _,ValL.nil _ _⟩,HC5,Lib.hid (Only.refl _ _)⟩
    case round =>
      obtain⟨k,am,nm,cm,hk,rfl,HV,HCk,HOk⟩:=hrel
      have HBk:=Lib.hid (HBb.out.trans (onlyBelow HOk.out HLb.out HG6.out))
      obtain⟨⟨f0,f1,f2,f3,f4,f5,f6,f7⟩,p0,p1,p2⟩:=HPB.out _ HBk.out
      by_cases hlt:k<m2
      · obtain⟨x,hx⟩:=(HF.out _ HBk.out).mems.ex hlt
        obtain⟨b,off,hab,hbb,hat⟩:=(HF.out _ HBk.out).mems.at_ hx
        obtain⟨d1,d2,r,hrm,hrd,_,y0,y1,y2,y3,y4,y5,y6,y7⟩:=hat.cells
        obtain⟨xs,hox,hvl⟩:=HV.out
        dsimp only at hab
        subst hab
        have HOX:=Lib.hid hox
        have HVL:=Lib.hid hvl
        have HPR:=Lib.hid (show ValR B wr ⟨x.init.kind,x.init.neg,d1,d2,x.init.name⟩ x.init from⟨rfl,rfl,hrm,hrd,rfl⟩)
        have HMT:=Lib.hid (map_take (g:=MemM.init) hx)
        have hkI:(k:Int)<(m2:Int):=by omega
        have HLEN:Hid (xs.length≤100000000):=Lib.hid (by rw [hvl.len,List.length_map,List.length_take];have:=HSM.out.mems;have:=HSM.out.conts;omega)
        have HSZ:Hid (w5.heap.size≤wr.heap.size):=Lib.hid HOk.out.size
        have hgl:g6<wr.heap.size:=HCk.out.lt
        have k5:=HCk.out.cell 5 rfl
        have k5:wr.cell? ⟨g6,5,none⟩=some (.slice am nm cm):=HCk.out.cell 5 rfl
        have hbl:b<wr.heap.size:=Nat.lt_of_lt_of_le hbb (HBW.out _ HBk.out)
        have hwl:w.heap.size<wr.heap.size:=by have:=HS1.out;have:=HBk.out.size;omega
        clear hx hat hox hvl hrm hrd HV
        go_upto_region 7 with fail
        go_region_law (first
          | (rw [drew_alloc];refine stepVX rfl _ _ rfl w5.heap.size (.slice am nm cm) xs ⟨x.init.kind,x.init.neg,d1,d2,x.init.name⟩ 51 _ rfl rfl rfl rfl (HOX.out.later (Below.refl _ _).drew) HSZ.out HLEN.out ?_;intro v7 w7 hown7 honly7 hat7;obtain⟨a7,n7,c7,hv7⟩:=own_sliceX hown7;subst hv7;have HO7:=Lib.hid hown7;have HN7:=Lib.hid honly7;have HK7:=Lib.hid ((HCk.out.later (Below.refl _ _).drew).only' honly7 hgl (own_neX HOX.out HGb.out));have k7:w7.cell? ⟨g6,5,none⟩=some (.slice am nm cm):=HK7.out.cell 5 rfl;have z7:=HK7.out.free 5;clear hown7 honly7 hat7))
        all_goals
          go_wp2_with fail
          go_roundw
          case rel=>
            refine⟨k+1,a7,n7,c7,by omega,by go_num,Lib.hid ⟨xs++[_],HO7.out.setOther HGb.out 5 _, ?_⟩,Lib.hid (HK7.out.putA 5 _),Lib.hid ?_⟩
            · rw [HMT.out]
              have h1:Below B wr w7:=((Below.refl B wr).drew).trans ((HN7.out.ownX (HOX.out.later (Below.refl _ _).drew) HSZ.out).mono (Nat.le_trans HBS.out HLb.out))
              exact(HVL.out.snoc HPR.out).keep (h1.setCell (p:=⟨g6,5,none⟩) (Nat.le_trans HBS.out HG6.out) _)
            · have h2:Only [some g6] wr.drew (w7.setCell ⟨g6,5,none⟩ (.slice a7 n7 c7))→True:=fun _=>trivial
              refine(HOk.out.drew.andThen HN7.out fun j hj hl=>?_).trans (Only.set (List.mem_cons_self) 5 _ _)
              simp at hj
              have:=(HOX.out.lt hj.symm).1
              omega
          case measure=>simp [intOf];omega
      · obtain rfl : m2 = k := by omega
        obtain⟨xs,hox,hvl⟩:=HV.out
        rw [←HMM.out,List.take_length] at hvl
        obtain⟨a9,c9,e9,hvr⟩:=hox.vals hvl
        obtain⟨n9,hn9⟩:∃ n9,n9=(f.mems.map MemM.init).length:=⟨_,rfl⟩
        rw [←hn9] at e9 hvr
        injection e9 with q1 q2 q3
        subst q1 q2 q3
        have HMV0:=Lib.hid (hvr.keep (Q:=fun b=>b<wr.heap.size∧b≠g6∧b≠w.heap.size+2) (fun b p=>⟨⟨p.2,fun e=>by have:=p.1;have:=HGb.out;omega,fun e=>by have:=p.1;have:=HLb.out;have:=HS1.out;omega⟩,fun _=>rfl⟩) (Below.refl _ _))
        obtain⟨w6,rfl⟩:∃ w6:World,w6=wr:=⟨_,rfl⟩
        replace HSB5:=Lib.hid (HSB5.out.keep (keepS HOk.out))
        replace HDB5:=Lib.hid (HDB5.out.keep (keepS HOk.out))
        skip
        clear HBb HV hox hvl hvr HLb HGb
        have HBb:=HBk
        have HCw6:=HCk
        clear hn9 f0 f1 f2 f3 f4 f5 f6 f7 p0 p1 p2 hlt
        have HLb:Hid (W1.heap.size≤w6.heap.size):=Lib.hid HBb.out.size
        have HGb:Hid (g6<w6.heap.size):=Lib.hid HCw6.out.lt
        obtain⟨⟨f0,f1,f2,f3,f4,f5,f6,f7⟩,p0,p1,p2⟩:=HPB.out _ HBb.out
        go_wp2_with fail
        clear f0 f1 f2 f3 f4 f5 f6 f7 p0 p1 p2
        go_loopw [8] (fun t wr=>∃(k:Nat) (ac:Option Addr) (nc cc:Nat),k≤cn∧t=.int .i64 k∧Hid (∃ xs,OwnX wr w6.heap.size (.slice ac nc cc) xs∧ValL B wr xs ((f.conts.take k).map ContM.init))∧Hid (Blk wr g6 25 #[.int .i64 (i2:Int),.int .i64 (o2:Int),.int .i64 S,.int .i64 (x2:Int),.int .i64 0,.slice am nm cm,.slice ac nc cc,.slice sa sn sc,.slice da dn dc,.slice none 0 0])∧Hid (Only [some g6] w6 wr)) (fun t _=>cn-(intOf t).toNat)
        case atStart=>exact⟨0,none,0,0,Nat.zero_le _,rfl,Lib.hid ⟨[],OwnX.nil _ _,ValL.nil _ _⟩,HCw6,Lib.hid (Only.refl _ _)⟩
        case round =>
          obtain⟨k,ac,nc,cc,hk,rfl,HV,HCk,HOk⟩:=hrel
          have HBk:=Lib.hid (HBb.out.trans (onlyBelow HOk.out HLb.out HG6.out))
          obtain⟨⟨f0,f1,f2,f3,f4,f5,f6,f7⟩,p0,p1,p2⟩:=HPB.out _ HBk.out
          by_cases hlt:k<cn
          · obtain⟨x,hx⟩:=(HF.out _ HBk.out).conts.ex hlt
            obtain⟨b,off,hab,hbb,hat⟩:=(HF.out _ HBk.out).conts.at_ hx
            obtain⟨d1,d2,r,s,hrm,hrd,_,_,y0,y1,y2,y3,y4,y5,y6,y7,y8⟩:=hat.cells
            obtain⟨xs,hox,hvl⟩:=HV.out
            dsimp only at hab
            subst hab
            have HOX:=Lib.hid hox
            have HVL:=Lib.hid hvl
            have HPR:=Lib.hid (show ValR B wr ⟨x.init.kind,x.init.neg,d1,d2,x.init.name⟩ x.init from⟨rfl,rfl,hrm,hrd,rfl⟩)
            have HMT:=Lib.hid (map_take (g:=ContM.init) hx)
            have hkI:(k:Int)<(cn:Int):=by omega
            have HLEN:Hid (xs.length≤100000000):=Lib.hid (by rw [hvl.len,List.length_map,List.length_take];have:=HSM.out.mems;have:=HSM.out.conts;omega)
            have HSZ:Hid (w6.heap.size≤wr.heap.size):=Lib.hid HOk.out.size
            have hgl:g6<wr.heap.size:=HCk.out.lt
            have k5:=HCk.out.cell 6 rfl
            have k5:wr.cell? ⟨g6,6,none⟩=some (.slice ac nc cc):=HCk.out.cell 6 rfl
            have hbl:b<wr.heap.size:=Nat.lt_of_lt_of_le hbb (HBW.out _ HBk.out)
            have hwl:w.heap.size<wr.heap.size:=by have:=HS1.out;have:=HBk.out.size;omega
            clear hx hat hox hvl hrm hrd HV
            go_upto_region 11 with fail
            go_region_law (first
              | (rw [drew_alloc];refine stepVX rfl _ _ rfl w6.heap.size (.slice ac nc cc) xs ⟨x.init.kind,x.init.neg,d1,d2,x.init.name⟩ 51 _ rfl rfl rfl rfl (HOX.out.later (Below.refl _ _).drew) HSZ.out HLEN.out ?_;intro v7 w7 hown7 honly7 hat7;obtain⟨a7,n7,c7,hv7⟩:=own_sliceX hown7;subst hv7;have HO7:=Lib.hid hown7;have HN7:=Lib.hid honly7;have HK7:=Lib.hid ((HCk.out.later (Below.refl _ _).drew).only' honly7 hgl (own_neX HOX.out HGb.out));have k7:w7.cell? ⟨g6,6,none⟩=some (.slice ac nc cc):=HK7.out.cell 6 rfl;have z7:=HK7.out.free 6;clear hown7 honly7 hat7))
            all_goals
              go_wp2_with fail
              go_roundw
              case rel=>
                refine⟨k+1,a7,n7,c7,by omega,by go_num,Lib.hid ⟨xs++[_],HO7.out.setOther HGb.out 6 _, ?_⟩,Lib.hid (HK7.out.putA 6 _),Lib.hid ?_⟩
                · rw [HMT.out]
                  have h1:Below B wr w7:=((Below.refl B wr).drew).trans ((HN7.out.ownX (HOX.out.later (Below.refl _ _).drew) HSZ.out).mono (Nat.le_trans HBS.out HLb.out))
                  exact(HVL.out.snoc HPR.out).keep (h1.setCell (p:=⟨g6,6,none⟩) (Nat.le_trans HBS.out HG6.out) _)
                · have h2:Only [some g6] wr.drew (w7.setCell ⟨g6,6,none⟩ (.slice a7 n7 c7))→True:=fun _=>trivial
                  refine(HOk.out.drew.andThen HN7.out fun j hj hl=>?_).trans (Only.set (List.mem_cons_self) 6 _ _)
                  simp at hj
                  have:=(HOX.out.lt hj.symm).1
                  omega
              case measure=>simp [intOf];omega
          · obtain rfl : cn = k := by omega
            obtain⟨xs,hox,hvl⟩:=HV.out
            rw [←HCC.out,List.take_length] at hvl
            obtain⟨a9,c9,e9,hvr⟩:=hox.vals hvl
            obtain⟨n9,hn9⟩:∃ n9,n9=(f.conts.map ContM.init).length:=⟨_,rfl⟩
            rw [←hn9] at e9 hvr
            injection e9 with q1 q2 q3
            subst q1 q2 q3
            have HCV0:=Lib.hid (hvr.keep (Q:=fun b=>b<wr.heap.size∧b≠g6∧b≠w.heap.size+2) (fun b p=>⟨⟨p.2,fun e=>by have:=p.1;have:=HGb.out;omega,fun e=>by have:=p.1;have:=HLb.out;have:=HS1.out;omega⟩,fun _=>rfl⟩) (Below.refl _ _))
            obtain⟨w7,rfl⟩:∃ w7:World,w7=wr:=⟨_,rfl⟩
            replace HSB5:=Lib.hid (HSB5.out.keep (keepS HOk.out))
            replace HDB5:=Lib.hid (HDB5.out.keep (keepS HOk.out))
            replace HMV0:=Lib.hid (HMV0.out.keep (keepS HOk.out) (onlyBelow HOk.out (Nat.le_trans HBS.out HLb.out) (Nat.le_trans HBS.out HG6.out)))
            clear HBb HV hox hvl hvr HLb HGb
            have HBb:=HBk
            have HCw7:=HCk
            clear hn9 f0 f1 f2 f3 f4 f5 f6 f7 p0 p1 p2 hlt
            have HLb:Hid (W1.heap.size≤w7.heap.size):=Lib.hid HBb.out.size
            have HGb:Hid (g6<w7.heap.size):=Lib.hid HCw7.out.lt
            have HHb:Hid (B≤w7.heap.size):=Lib.hid (Nat.le_trans HBS.out HLb.out)
            obtain⟨⟨f0,f1,f2,f3,f4,f5,f6,f7⟩,p0,p1,p2⟩:=HPB.out _ HBb.out
            go_wp2_with fail
            clear f0 f1 f2 f3 f4 f5 f6 f7 p0 p1 p2
            go_loopw [9] (fun t wr=>∃(k:Nat) (ax:Option Addr) (nx cx:Nat),k≤x2∧t=.int .i64 k∧Hid (∃ xs,OwnS wr w7.heap.size (.slice ax nx cx) xs∧InsL (PartN B w7.heap.size wr (.slice ax nx cx)) wr xs (crossTo f ss k))∧Hid (Blk wr g6 25 #[.int .i64 (i2:Int),.int .i64 (o2:Int),.int .i64 S,.int .i64 (x2:Int),.int .i64 ((baseTo f k:Nat):Int),.slice am nm cm,.slice ac nc cc,.slice sa sn sc,.slice da dn dc,.slice ax nx cx])∧Hid (Only [some g6] w7 wr)) (fun t _=>x2-(intOf t).toNat)
            case atStart=>exact⟨0,none,0,0,Nat.zero_le _,rfl,Lib.hid ⟨[],OwnS.nil _ _,InsL.nil _ _⟩,HCw7,Lib.hid (Only.refl _ _)⟩
            case round =>
              obtain⟨k,ax,nx,cx,hk,rfl,HV,HCk,HOk⟩:=hrel
              have HBk:=Lib.hid (HBb.out.trans (onlyBelow HOk.out HLb.out HG6.out))
              obtain⟨⟨f0,f1,f2,f3,f4,f5,f6,f7⟩,p0,p1,p2⟩:=HPB.out _ HBk.out
              by_cases hlt:k<x2
              · obtain ⟨x, hx⟩ := (HF.out _ HBk.out).cross.ex hlt
                obtain⟨b,off,hab,hbb,hat⟩:=(HF.out _ HBk.out).cross.at_ hx
                obtain⟨q1,q2,q3,hq,hops⟩:=hat.ops
                have hgu:=hat.guard.1
                obtain⟨xs,hox,hvl⟩:=HV.out
                obtain⟨hz1,hz2,hz3⟩:=cross_fine HRP.out.good HNM.out hx
                have HLF:=Lib.hid (fun(j:Nat) (o:COpM) (ho:x.ops[j]?=some o)=>line_fine HRP.out.good HNM.out HSM.out hx ho (base:=((baseTo f k:Nat):Int)) (by have:=baseTo_le HSM.out k;have:=HSM.out.cross;have:=HXX.out;omega))
                have HBT:Hid (baseTo f k≤600):=Lib.hid (by have:=baseTo_le HSM.out k;have:=HSM.out.cross;have:=HXX.out;omega)
                have HOL:Hid (x.ops.length≤30):=Lib.hid (HSM.out.ops k x hx)
                have HCT:Hid (crossTo f ss (k+1)=crossTo f ss k++crossI ss k (baseTo f k) x):=Lib.hid (by rw [crossTo,hx];rfl)
                have HBN:Hid (baseTo f (k+1)=baseTo f k+x.ops.length):=Lib.hid (by rw [baseTo,hx];rfl)
                have HQL:Hid (x.ops.length=q2):=Lib.hid hops.1
                have hmq:=hops.len_le
                unfold maxLen at hmq
                have HLX:Hid ((crossTo f ss k).length≤700):=Lib.hid (by have:=crossTo_len (ss:=ss) HSM.out k;have:=HSM.out.cross;have:=HXX.out;omega)
                dsimp only at hab
                subst hab
                have hkI:(k:Int)<(x2:Int):=by omega
                have hbl:b<wr.heap.size:=Nat.lt_of_lt_of_le hbb (HBW.out _ HBk.out)
                obtain⟨wo,rfl⟩:∃ wo:World,wo=wr:=⟨_,rfl⟩
                obtain⟨e,he⟩:∃ e,e=wo.heap.size:=⟨_,rfl⟩
                obtain⟨W8,hW8⟩:∃ W8,W8=wo.alloc (.cells #[.int .i64 x.guard,.slice q1 q2 q3] 143):=⟨_,rfl⟩
                have HB8:=Lib.hid (show Below wo.heap.size wo W8 from by rw [hW8];exact(Below.refl _ _).alloc (Nat.le_refl _) _)
                have HK8:=Lib.hid (show Blk W8 e 143 #[.int .i64 x.guard,.slice q1 q2 q3] from by rw [hW8,he];exact Blk.new _ _ _)
                have HC8:=Lib.hid (HCk.out.later HB8.out)
                have HBk8:=Lib.hid (HBk.out.trans (HB8.out.mono HBk.out.size))
                have HSG:=Lib.hid (slot15_t A A2 m c n c2 B S x.guard ss W8 (HR.out _ HBk8.out) (HBW.out _ HBk8.out) hz1)
                have HE:Hid (w7.heap.size≤e):=Lib.hid (by rw [he];exact HOk.out.size)
                have HEo:Hid ((Value.slice ax nx cx).ownBlock≠some e):=Lib.hid (fun h=>by have:=(hox.lt h).2;omega)
                have HOX:=Lib.hid hox
                have HVL:=Lib.hid hvl
                have HOP:=Lib.hid (fun W (hb:Below W1.heap.size W1 W)=>(hops.keep fun _ _ _ q p=>p.keep q fun p hp=>(hb.cell (Nat.lt_of_lt_of_le hp HBS.out)).trans (HBk.out.cell (Nat.lt_of_lt_of_le hp HBS.out)).symm:SRow 2 COpAt W B q1 q2 q3 x.ops))
                have HBO:Hid (B≤wo.heap.size):=Lib.hid (HBW.out _ HBk.out)
                have hgl8:g6<W8.heap.size:=HC8.out.lt
                clear hx hat hops hox hvl hz1 hz3 HV
                go_upto_region 16 with fail
                rw [←hW8,←he]
                have HEW:=Lib.hid he
                clear he hW8 f0 f1 f2 f3 f4 f5 f6 f7 p0 p1 p2 hgu hq
                obtain⟨⟨f0,f1,f2,f3,f4,f5,f6,f7⟩,p0,p1,p2⟩:=HPB.out _ HBk8.out
                have k4:W8.cell? ⟨g6,4,none⟩=some (.int .i64 ((baseTo f k:Nat):Int)):=HC8.out.cell 4 rfl
                have b0:W8.cell? ⟨e,0,none⟩=some (.int .i64 x.guard):=HK8.out.cell 0 rfl
                go_upto_region 19 with (go_at_call 71;(with_reducible refine HSG.out.mono ?_);rintro e' w9 ⟨rfl,hb9⟩;have HB9:=Lib.hid (HB8.out.trans (hb9.mono HB8.out.size));have HK9:=Lib.hid (HK8.out.later hb9);have HC9:=Lib.hid (HC8.out.later hb9);clear hb9)
                clear f0 f1 f2 f3 f4 f5 f6 f7 p0 p1 p2 k4 b0
                have HBr9:Hid (Below W1.heap.size W1 w9):=Lib.hid (HBk.out.trans (HB9.out.mono HBk.out.size))
                have HO9:=Lib.hid (HOX.out.later HB9.out)
                have HL9:=Lib.hid (HVL.out.keep (callN HB9.out))
                have HG9:Hid (w7.heap.size≤w9.heap.size):=Lib.hid (Nat.le_trans HOk.out.size HB9.out.size)
                have b1:w9.cell? ⟨e,1,none⟩=some (.slice q1 q2 q3):=HK9.out.cell 1 rfl
                go_wp2_with fail
                clear b1
                go_loopw [13] (fun t wr=>∃(j:Nat) (ax:Option Addr) (nx cx:Nat),j≤q2∧t=.int .i64 j∧Hid (∃ xs,OwnS wr w7.heap.size (.slice ax nx cx) xs∧InsL (PartN B w7.heap.size wr (.slice ax nx cx)) wr xs (crossTo f ss k++((x.ops.take j).mapIdx fun j o=>lineI ss o ((baseTo f k:Nat):Int) (((baseTo f k:Nat):Int)+(j:Int)) (slotS ss x.guard))))∧Hid (Blk wr g6 25 #[.int .i64 (i2:Int),.int .i64 (o2:Int),.int .i64 S,.int .i64 (x2:Int),.int .i64 ((baseTo f k:Nat):Int),.slice am nm cm,.slice ac nc cc,.slice sa sn sc,.slice da dn dc,.slice ax nx cx])∧Hid (Only [some g6] w7 wr)∧Hid (Blk wr e 143 #[.int .i64 x.guard,.slice q1 q2 q3])∧Hid ((Value.slice ax nx cx).ownBlock≠some e)) (fun t _=>q2-(intOf t).toNat)
                case atStart=>exact⟨0,ax,nx,cx,Nat.zero_le _,rfl,Lib.hid ⟨xs,HO9.out,by simpa using HL9.out⟩,HC9,Lib.hid (HOk.out.trans (Only.of_below HB9.out)),HK9,HEo⟩
                case round =>
                  clear HOX HVL HO9 HL9
                  obtain⟨j,ax,nx,cx,hj,rfl,HVj,HCj,HOj,HKj,HEj⟩:=hrel
                  obtain⟨xs,hox,hvl⟩:=HVj.out
                  have HBj:=Lib.hid (HBb.out.trans (onlyBelow HOj.out HLb.out HG6.out))
                  have b1:wr.cell? ⟨e,1,none⟩=some (.slice q1 q2 q3):=HKj.out.cell 1 rfl
                  have HSZj:Hid (w7.heap.size≤wr.heap.size):=Lib.hid HOj.out.size
                  have HEg:Hid (e≠g6):=Lib.hid (by have:=HE.out;have:=HGb.out;omega)
                  by_cases hlt2:j<q2
                  · obtain ⟨o', ho⟩ := (HOP.out _ HBj.out).ex hlt2
                    obtain⟨bo,offo,hq1,hlb,hco⟩:=(HOP.out _ HBj.out).at_ ho
                    obtain⟨r1,r2,r3,hr,hrow⟩:=hco.args
                    have hop:=hco.op.1
                    subst hq1
                    have hjI:(j:Int)<(q2:Int):=by omega
                    have hbo:bo<W1.heap.size:=Nat.lt_of_lt_of_le hlb HBS.out
                    have HOX:=Lib.hid hox
                    have HVL:=Lib.hid hvl
                    have HMT:=Lib.hid (mapIdx_take (g:=fun j o=>lineI ss o ((baseTo f k:Nat):Int) (((baseTo f k:Nat):Int)+(j:Int)) (slotS ss x.guard)) ho)
                    have HLEN:Hid (xs.length≤100000000):=Lib.hid (hvl.le (by
                      have:=HLX.out;have:=HOL.out
                      simp only [List.length_append,List.length_mapIdx,List.length_take]
                      omega))
                    have HLN:=Lib.hid (fun W (hb:Below wr.heap.size wr W)=>line15_t B A A2 m c n c2 S ss o' (r1,r2,r3) ((baseTo f k:Nat):Int) (((baseTo f k:Nat):Int)+(j:Int)) (slotS ss x.guard) W (HR.out _ (HBj.out.trans (hb.mono HBj.out.size))) (HBW.out _ (HBj.out.trans (hb.mono HBj.out.size))) (hrow.below (hb.mono (HBW.out _ HBj.out))) (HLF.out j o' ho))
                    dsimp only at HLN
                    have hwr:IntKind.i64.wrap (((baseTo f k:Nat):Int)+(j:Int))=((baseTo f k:Nat):Int)+(j:Int):=IntWalk.i64_in _ (by have:=HBT.out;have:=HOL.out;have:=HQL.out;omega)
                    have HPS:Hid (∀ W,Below W1.heap.size W1 W→Blk W e 143 #[.int .i64 x.guard,.slice (some ⟨bo,offo,none⟩) q2 q3]→W.cell? ⟨w.heap.size+1,0,none⟩=some (.slice A m c)∧W.cell? ⟨w.heap.size+1,1,none⟩=some (.slice A2 n c2)∧W.cell? ⟨w.heap.size+1,2,none⟩=some (.int .i64 S)∧W.cell? ⟨e,1,none⟩=some (.slice (some ⟨bo,offo,none⟩) q2 q3)∧W.cell? ⟨bo,offo+j*2,none⟩=some (.string o'.op)∧W.cell? ⟨bo,offo+j*2+1,none⟩=some (.slice r1 r2 r3)):=Lib.hid fun W hb hk=>by
                      obtain⟨_,l0,l1,l2⟩:=HPB.out W hb
                      have hcc:∀ o,W.cell? ⟨bo,o,none⟩=wr.cell? ⟨bo,o,none⟩:=fun o=>(hb.cell (p:=⟨bo,o,none⟩) hbo).trans (HBj.out.cell (p:=⟨bo,o,none⟩) hbo).symm
                      exact⟨l0,l1,l2,hk.cell 1 rfl,(hcc _).trans hop,(hcc _).trans hr⟩
                    have HBd:=Lib.hid HBj.out.drew
                    have HKd:=Lib.hid (HKj.out.later (Below.refl wr.heap.size wr).drew)
                    have k9:wr.drew.cell? ⟨g6,9,none⟩=some (.slice ax nx cx):=HCj.out.cell 9 rfl
                    have hgj:g6<wr.heap.size:=HCj.out.lt
                    have HCK:=Lib.hid HCj.out
                    clear ho hco hr hrow hop hox hvl
                    go_upto_region 21 with fail
                    clear b1
                    obtain⟨l0,l1,l2,l3,l4,l5⟩:=HPS.out _ HBd.out HKd.out
                    go_region_law (first
                      | (go_simp;go_at_call 72;(with_reducible refine(HLN.out _ (Below.refl _ _).drew).mono ?_);rintro e' w4 ⟨x4,rfl,hx4,hb4⟩;rw [insV_A];unfold insA;have HB4r:=Lib.hid (show Below wr.heap.size wr w4 from(Below.refl _ _).drew.trans hb4);have HB4:=Lib.hid (HBj.out.trans (HB4r.out.mono HBj.out.size));have HK4:=Lib.hid (HKj.out.later HB4r.out);have HC4:=Lib.hid (HCj.out.later HB4r.out);have HX4:=Lib.hid hx4;have k9a:w4.cell? ⟨g6,9,none⟩=some (.slice ax nx cx):=HC4.out.cell 9 rfl;have hg4:g6<w4.heap.size:=HC4.out.lt;have HO4:=Lib.hid (HOX.out.later HB4r.out);have HSZ4:Hid (w7.heap.size≤w4.heap.size):=Lib.hid (Nat.le_trans HSZj.out HB4r.out.size);clear hx4 hb4)
                      | (refine stepZ rfl _ _ rfl w7.heap.size (.slice ax nx cx) xs x4 96 w4.heap.size rfl rfl rfl rfl HO4.out HSZ4.out HLEN.out ?_;intro v7 wz hown7 honly7 hat7;obtain⟨a7,n7,c7,hv7⟩:=own_sliceS hown7;subst hv7;have HO7:=Lib.hid hown7;have HN7:=Lib.hid honly7;have HAT:=Lib.hid hat7;have HRE:=Lib.hid (round_end HOX.out HVL.out HB4r.out HX4.out HHb.out (Nat.le_refl _) HSZj.out honly7 hat7 (Nat.le_refl _));have HBz:=Lib.hid (HB4.out.trans ((honly7.ownS HO4.out HSZ4.out).mono HLb.out));have HKz:=Lib.hid (HK4.out.only' honly7 HK4.out.lt (own_neE HEj.out));have HCz:=Lib.hid (HC4.out.only' honly7 hg4 (own_neS HO4.out HGb.out));have k9c:wz.cell? ⟨g6,9,none⟩=some (.slice ax nx cx):=HCz.out.cell 9 rfl;have z9:=HCz.out.free 9;clear hown7 honly7 hat7))
                    all_goals
                      go_wp2_with fail
                      go_roundw
                      case rel=>
                        refine⟨j+1,a7,n7,c7,by omega,by go_num,Lib.hid ⟨xs++[x4],HO7.out.otherS HGb.out, ?_⟩,Lib.hid (HCz.out.putA 9 _),Lib.hid ?_,Lib.hid (HKz.out.other HEg.out),Lib.hid fun h=>?_⟩
                        · rw [HMT.out,←List.append_assoc]
                          exact HRE.out.keep (partSet (Nat.le_trans HBS.out HG6.out) HGb.out)
                        · refine((HOj.out.trans (Only.of_below HB4r.out)).andThen HN7.out fun i hi hl=>?_).trans (Only.set (List.mem_cons_self) 9 _ _)
                          simp at hi
                          have:=(HO4.out.lt hi.symm).1
                          omega
                        · rcases HAT.out with q | ⟨kk,q,hq⟩
                          · exact HEj.out (q▸h)
                          · rw [q] at h
                            injection h with h
                            have:=HKj.out.lt
                            have:=HB4r.out.size
                            omega
                      case measure=>simp [intOf];omega
                  · obtain rfl:q2=j:=by omega
                    rw [←HQL.out,List.take_length] at hvl
                    have HX10:=Lib.hid hox
                    have HLEN:Hid (xs.length≤100000000):=Lib.hid (hvl.le (by
                      have:=HLX.out;have:=HOL.out
                      simp only [List.length_append,List.length_mapIdx]
                      omega))
                    have hwa:IntKind.i64.wrap (((baseTo f k:Nat):Int)+(q2:Int))=((baseTo f k:Nat):Int)+(q2:Int):=IntWalk.i64_in _ (by have:=HBT.out;have:=HOL.out;have:=HQL.out;omega)
                    have hwb:IntKind.i64.wrap (((baseTo f k:Nat):Int)+(q2:Int)-1)=((baseTo f k:Nat):Int)+(q2:Int)-1:=IntWalk.i64_in _ (by have:=HBT.out;have:=HOL.out;have:=HQL.out;omega)
                    obtain⟨W10,hW10⟩:∃ W10,W10=wr.setCell ⟨g6,4,none⟩ (.int .i64 (((baseTo f k:Nat):Int)+(q2:Int))):=⟨_,rfl⟩
                    have HC10:Hid (Blk W10 g6 25 #[.int .i64 (i2:Int),.int .i64 (o2:Int),.int .i64 S,.int .i64 (x2:Int),.int .i64 (((baseTo f k:Nat):Int)+(q2:Int)),.slice am nm cm,.slice ac nc cc,.slice sa sn sc,.slice da dn dc,.slice ax nx cx]):=Lib.hid (by rw [hW10];exact HCj.out.putA 4 _)
                    have HO10:Hid (Only [some g6] wr W10):=Lib.hid (by rw [hW10];exact Only.set (List.mem_cons_self) 4 _ _)
                    have HOS10:Hid (OwnS W10 w7.heap.size (.slice ax nx cx) xs):=Lib.hid (by rw [hW10];exact hox.otherS HGb.out)
                    have HIL10:=Lib.hid (show InsL (PartN B w7.heap.size W10 (.slice ax nx cx)) W10 xs _ from by rw [hW10];exact hvl.keep (partSet (Nat.le_trans HBS.out HG6.out) HGb.out))
                    have HSZ10:Hid (w7.heap.size≤W10.heap.size):=Lib.hid (Nat.le_trans HSZj.out HO10.out.size)
                    have y4:wr.cell? ⟨g6,4,none⟩=some (.int .i64 ((baseTo f k:Nat):Int)):=HCj.out.cell 4 rfl
                    have z4:=HCj.out.free 4
                    clear hvl hox
                    go_upto_region 23 with fail
                    rw [←hW10]
                    clear hW10 y4 z4 b1
                    have k4:W10.cell? ⟨g6,4,none⟩=some (.int .i64 (((baseTo f k:Nat):Int)+(q2:Int))):=HC10.out.cell 4 rfl
                    have k9:W10.cell? ⟨g6,9,none⟩=some (.slice ax nx cx):=HC10.out.cell 9 rfl
                    have hg10:g6<W10.heap.size:=HC10.out.lt
                    have HR1:Hid (Below W10.heap.size W10 (W10.alloc (.cells #[.int .i64 (((baseTo f k:Nat):Int)+(q2:Int)-1)] 3))):=Lib.hid ((Below.refl _ _).alloc (Nat.le_refl _) _)
                    obtain⟨XX,hXX⟩:∃ XX:InsM,XX=⟨⟨#[97,115,107]⟩,0,(some ⟨W10.heap.size,0,none⟩,1,1),(k:Int),0,false,(none,0,0),(none,0,0),⟨#[]⟩,slotS ss x.guard,(none,0,0)⟩:=⟨_,rfl⟩
                    have HIX:Hid (InsR (NewP B W10.heap.size (W10.alloc (.cells #[.int .i64 (((baseTo f k:Nat):Int)+(q2:Int)-1)] 3))) (W10.alloc (.cells #[.int .i64 (((baseTo f k:Nat):Int)+(q2:Int)-1)] 3)) XX (askI k (((baseTo f k:Nat):Int)+(q2:Int)-1) (slotS ss x.guard))):=Lib.hid ⟨by rw [hXX] <;> rfl,by rw [hXX] <;> rfl,by rw [hXX];exact(row_new0 (Nat.le_refl _)).weak (fun b p=>⟨p.2,.inr p.1⟩),by rw [hXX] <;> rfl,by rw [hXX] <;> rfl,by rw [hXX] <;> rfl,by rw [hXX];exact URowP.nil _ _,by rw [hXX];exact URowP.nil _ _,by rw [hXX] <;> rfl,by rw [hXX] <;> rfl,by rw [hXX];exact IRowP.nil _ _⟩
                    have HXX':=Lib.hid hXX
                    clear hXX
                    go_wp2_with (at_builtin;refine appendZ rfl _ _ rfl w7.heap.size (.slice ax nx cx) xs XX 96 _ rfl rfl (by simp) (by rw [HXX'.out] <;> rfl) (HOS10.out.later HR1.out) (by have:=HSZ10.out;omega) HLEN.out ?_;intro v7 wz hown7 honly7 hat7;obtain⟨a7,n7,c7,hv7⟩:=own_sliceS hown7;subst hv7;have HO7:=Lib.hid hown7;have HN7:=Lib.hid honly7;have HRE:=Lib.hid (round_end HOS10.out HIL10.out HR1.out HIX.out HHb.out (Nat.le_refl _) HSZ10.out honly7 hat7 (by simp));have HCz:=Lib.hid ((HC10.out.later HR1.out).only' honly7 (HC10.out.later HR1.out).lt (own_neS HOS10.out HGb.out));have k9c:wz.cell? ⟨g6,9,none⟩=some (.slice ax nx cx):=HCz.out.cell 9 rfl;have z9:=HCz.out.free 9;clear hown7 honly7 hat7)
                    go_roundw
                    case rel=>
                      refine⟨k+1,a7,n7,c7,by omega,by go_num,Lib.hid ⟨xs++[XX],HO7.out.otherS HGb.out, ?_⟩,Lib.hid ?_,Lib.hid ?_⟩
                      · rw [HCT.out]
                        unfold crossI
                        rw [←List.append_assoc,HQL.out]
                        exact HRE.out.keep (partSet (Nat.le_trans HBS.out HG6.out) HGb.out)
                      · have h1:=HCz.out.putA 9 (.slice a7 n7 c7)
                        rw [HBN.out,HQL.out,Int.natCast_add]
                        exact h1
                      · refine((((HOj.out.trans HO10.out).trans (Only.of_below HR1.out)).andThen HN7.out fun i hi hl=>?_)).trans (Only.set (List.mem_cons_self) 9 _ _)
                        simp at hi
                        have:=(HOS10.out.lt hi.symm).1
                        omega
                    case measure=>simp [intOf];omega
              · obtain rfl:x2=k:=by omega
                obtain⟨xs,hox,hvl⟩:=HV.out
                obtain⟨a9,c9,e9,hbr⟩:=hox.body hvl (Nat.le_refl _)
                obtain⟨n9,hn9⟩:∃ n9,n9=(crossTo f ss x2).length:=⟨_,rfl⟩
                rw [←hn9] at e9 hbr
                injection e9 with q1 q2 q3
                subst q1 q2 q3
                have hzw:w.heap.size+2<w7.heap.size:=by have:=HS1.out;have:=HLb.out;omega
                have HXB:=Lib.hid (hbr.keep (Q:=fun b=>b<wr.heap.size∧b≠g6∧b≠w.heap.size+2) fun b p=>⟨newNe (Nat.le_trans HBS.out HG6.out) HGb.out (Nat.le_trans HBB.out (Nat.le_add_right _ _)) hzw b p,fun _=>rfl⟩)
                replace HSB5:=Lib.hid (HSB5.out.keep (keepS HOk.out))
                replace HDB5:=Lib.hid (HDB5.out.keep (keepS HOk.out))
                have hbw:=onlyBelow HOk.out (Nat.le_trans HBS.out HLb.out) (Nat.le_trans HBS.out HG6.out)
                replace HMV0:=Lib.hid (HMV0.out.keep (keepS HOk.out) hbw)
                replace HCV0:=Lib.hid (HCV0.out.keep (keepS HOk.out) hbw)
                obtain⟨nc0,nc1,nc2,nc3,nc4,nc5,nc6,nc7,nc8,nc9⟩:=HCk.out.ten
                obtain⟨y0,y1,y2,y3,y4,y5,y6,y7,y8,y9⟩:=(HZ.out.later HBk.out).ten
                obtain⟨z0,z1,z2,z3,z4,z5,z6,z7,z8,z9⟩:=(HZ.out.later HBk.out).tenF
                have HRZ:=Lib.hid ((HZ.out.later HBk.out).put10 (.int .i64 (i2:Int)) (.int .i64 (o2:Int)) (.int .i64 S) (.int .i64 (x2:Int)) (.int .i64 ((baseTo f x2:Nat):Int)) (.slice am nm cm) (.slice ac nc cc) (.slice sa sn sc) (.slice da dn dc) (.slice ax nx cx))
                have HOE:=Lib.hid (onlyP10 (S:=[some (w.heap.size+2)]) (Only.refl _ wr) (List.mem_cons_self) (.int .i64 (i2:Int)) (.int .i64 (o2:Int)) (.int .i64 S) (.int .i64 (x2:Int)) (.int .i64 ((baseTo f x2:Nat):Int)) (.slice am nm cm) (.slice ac nc cc) (.slice sa sn sc) (.slice da dn dc) (.slice ax nx cx))
                have HBE:=Lib.hid (belowP10 (HB1.out.trans (HBk.out.mono HB1.out.size)) (Nat.le_add_right w.heap.size 2) (.int .i64 (i2:Int)) (.int .i64 (o2:Int)) (.int .i64 S) (.int .i64 (x2:Int)) (.int .i64 ((baseTo f x2:Nat):Int)) (.slice am nm cm) (.slice ac nc cc) (.slice sa sn sc) (.slice da dn dc) (.slice ax nx cx))
                have HSL:=Lib.hid (fun y (hy:y∈ss)=>HRP.out.slots.2 y hy)
                have HCK:=Lib.hid (crossTo_F HRP.out.good HNM.out HSM.out HSL.out HSS.out.2 x2 (by have:=HSM.out.cross;have:=HXX.out;omega))
                have hb600:baseTo f x2≤600:=by have:=baseTo_le HSM.out x2;have:=HSM.out.cross;have:=HXX.out;omega
                have HB6:=Lib.hid hb600
                clear hn9 hbr hox hvl hb600
                go_wp2
                refine ret_code rfl (w.heap.size+2) _ rfl HRZ.out rfl rfl ?_
                refine⟨⟨(am,nm,cm),(ac,nc,cc),(sa,sn,sc),(da,dn,dc),(ax,nx,cx)⟩, ?_, ?_,HBE.out⟩
                · unfold codeV madeC
                  simp only [HII.out,HUU.out,HXX.out]
                  rfl
                · have hbe:Below B wr _:=HOE.out.below (HBW.out _ HBk.out) fun j hj=>by simp at hj;have:=HBB.out;omega
                  have hsm:=HSM.out
                  refine⟨small_lt (by have:=hsm.ins;exact Nat.le_trans this (by decide)),small_lt (by have:=hsm.outs;exact Nat.le_trans this (by decide)),HSS.out,small_lt (by have:=hsm.cross;exact Nat.le_trans this (by decide)), ?_, ?_, ?_, ?_, ?_, ?_⟩
                  · show _≤((baseTo f f.cross.length:Nat):Int)∧((baseTo f f.cross.length:Nat):Int)≤_
                    rw [HXX.out];have:=HB6.out;omega
                  · exact(HMV0.out.keep (keepE HOE.out) hbe).srow (fun b h=>h) (Nat.le_trans (HBW.out _ HBk.out) HOE.out.size) (fun q hq=>by obtain⟨y,hy,rfl⟩:=List.mem_map.1 hq;exact HFIT.out.mem y hy)
                  · exact(HCV0.out.keep (keepE HOE.out) hbe).srow (fun b h=>h) (Nat.le_trans (HBW.out _ HBk.out) HOE.out.size) (fun q hq=>by obtain⟨y,hy,rfl⟩:=List.mem_map.1 hq;exact HFIT.out.cont y hy)
                  · exact(HSB5.out.keep (keepE HOE.out)).srow (fun b h=>h) (stepL_F HFIT.out hsm HSL.out HSS.out.2)
                  · exact(HDB5.out.keep (keepE HOE.out)).srow (fun b h=>h) (derivL_F hsm HSL.out HSS.out.2)
                  · show SRow 11 InsAt _ _ _ _ _ (crossTo f ss f.cross.length)
                    rw [HXX.out]
                    exact(HXB.out.keep (keepE HOE.out)).srow (fun b h=>h) HCK.out
end Go.Proofs.YtpnlbjnbgemocaaGreat
