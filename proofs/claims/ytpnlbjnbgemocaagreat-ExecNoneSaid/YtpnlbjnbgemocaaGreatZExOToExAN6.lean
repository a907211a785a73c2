import Derived.Test.YtpnlbjnbgemocaaGreatZQPEyQExN
import Derived.Deep.DeepCutAuto
import Derived.Test.YtpnlbjnbgemocaaGreatZEyDToRpRN7
import Derived.Deep.RegionHeld3
import Derived.Maps.AppendAt
import Derived.Laws.AppendOwnNone
import Derived.Test.YtpnlbjnbgemocaaGreatZNAToHpMN7
import Derived.OwnWalk
namespace Go.Proofs.YtpnlbjnbgemocaaGreat
set_option linter.unusedVariables false
set_option linter.unusedSimpArgs false
set_option maxRecDepth 100000
open Go.RowKit Nums
set_option maxHeartbeats 4000000 in
theorem one_neg_ok {r:RV}{kk j:Nat}{q:Rat}{w:World}(k:Int)(nm:ByteArray)(g:Nat)(bits:Int)(dv bg:Bool)(hr:r.Is kk j q w)(hf:FAt w g bits dv bg)(h2:2≤kk∧kk≤60∧2≤j∧j≤60)(ht:¬ bits<(bitsQ (-q):Int)) :
    Calls Tryz.prog 166 #[.pointer (some ⟨g,0,none⟩),.string ⟨#[110,101,103]⟩,.agg #[.int .i64 k,.bool r.s,.slice r.a r.n r.c,.slice r.b r.m r.d,.string nm]] w (ValV 2 kk j (-q) ⟨#[]⟩ w):=by
  obtain⟨W1,hW1⟩:∃ W1,W1=w.alloc (.cells #[.int .i64 k,.bool r.s,.slice r.a r.n r.c,.slice r.b r.m r.d,.string nm] 51):=⟨_,rfl⟩
  obtain⟨W2,hW2⟩:∃ W2,W2=W1.alloc (.cells #[.int .i64 0,.bool false,.slice none 0 0,.slice none 0 0,.string ⟨#[]⟩] 51):=⟨_,rfl⟩
  have hb1:Below w.heap.size w W1:=by rw [hW1];exact below_one _ _
  have hb2:Below W1.heap.size W1 W2:=by rw [hW2];exact below_one _ _
  have HK1:=Lib.hid ((show Blk W1 w.heap.size 51 #[.int .i64 k,.bool r.s,.slice r.a r.n r.c,.slice r.b r.m r.d,.string nm] by rw [hW1];exact Blk.new _ _ _).later hb2)
  have HK2:=Lib.hid (show Blk W2 W1.heap.size 51 #[.int .i64 0,.bool false,.slice none 0 0,.slice none 0 0,.string ⟨#[]⟩] by rw [hW2];exact Blk.new _ _ _)
  have HB:=Lib.hid (bthen hb1 hb2)
  have HR:=Lib.hid (hr.later HB.out)
  have HF:=Lib.hid (hf.later HB.out)
  have HG:=Lib.hid hf.lt
  have HS1:=Lib.hid (show w.heap.size+1=W1.heap.size by rw [hW1];simp)
  have HL:=Lib.hid (show w.heap.size<W1.heap.size by rw [hW1];simp)
  have HW1:=Lib.hid hW1
  have HW2:=Lib.hid hW2
  have H2:=Lib.hid h2
  have HTT:=Lib.hid ht
  clear hb1 hb2 hr hf hW1 hW2 h2 ht
  obtain⟨p0,p1,p2,p3,p4⟩:=HK1.out.fiveR
  go_enter Tryz.func166,Tryz.ntmps166
  go_upto_region 1 with fail
  rw [←HW1.out,←HW2.out];simp only [HS1.out];clear HW1 HW2 HS1
  go_wp2_with (first
    | (go_at_call 178;(with_reducible refine(neg_v HR.out (by have:=H2.out;omega) (by have:=H2.out;omega) (by have:=H2.out;omega)).mono ?_);rintro e w3 ⟨rn,rfl,hn,hb⟩;have HN:=Lib.hid hn;replace HF:=Lib.hid (HF.out.later hb);replace HK2:=Lib.hid (HK2.out.later hb);replace HB:=Lib.hid (bthen HB.out hb);clear hn hb p0 p1 p2 p3 p4)
    | (go_at_call 50;(with_reducible refine(number_ok g bits dv bg HN.out HF.out H2.out (by have:=HTT.out;omega)).mono ?_);rintro e w4 ⟨rfl,hn,hb⟩;have HQ:=Lib.hid hn;replace HK2:=Lib.hid (HK2.out.later hb);replace HB:=Lib.hid (bthen HB.out hb);clear hn hb;obtain⟨z0,z1,z2,z3,z4⟩:=HK2.out.fiveR;obtain⟨y0,y1,y2,y3,y4⟩:=HK2.out.fiveF))
  exact bodyPost_ret (v:=.agg #[.int .i64 2,.bool rn.s,.slice rn.a rn.n rn.c,.slice rn.b rn.m rn.d,.string ⟨#[]⟩]) (by simp [results,Tryz.results166,go_sem, *]) rfl ⟨rn,rfl,HQ.out.put5 HK2.out _ _ _ _ _,below_put5 HB.out (Nat.le_of_lt HL.out) _ _ _ _ _⟩
end Go.Proofs.YtpnlbjnbgemocaaGreat
namespace Go.Proofs.YtpnlbjnbgemocaaGreat
set_option linter.unusedVariables false
set_option linter.unusedSimpArgs false
set_option maxRecDepth 100000
open Go.RowKit Nums
set_option maxHeartbeats 4000000 in
theorem op_neg {w:World}(a:Option Addr)(c:Nat)(x:VM)(g:Nat)(bits:Int)(dv bg:Bool)(h:VRow w a 1 c [x])(hk:x.k≠0)(hf:FAt w g bits dv bg)(ht:¬ bits<(bitsQ (-x.q):Int)) :
    Calls Tryz.prog 128 #[.pointer (some ⟨g,0,none⟩),.string ⟨#[110,101,103]⟩,.slice a 1 c] w (ValV 2 19 19 (-x.q) ⟨#[]⟩ w):=by
  obtain⟨W1,hW1⟩:∃ W1,W1=w.alloc (.cells #[.int .i64 0,.bool false,.slice none 0 0,.slice none 0 0,.string ⟨#[]⟩] 51):=⟨_,rfl⟩
  have hb1:Below w.heap.size w W1:=by rw [hW1];exact below_one _ _
  have HK:=Lib.hid (show Blk W1 w.heap.size 51 #[.int .i64 0,.bool false,.slice none 0 0,.slice none 0 0,.string ⟨#[]⟩] by rw [hW1];exact Blk.new _ _ _)
  have HB:=Lib.hid hb1
  have HV:=Lib.hid (h.later hb1)
  have HF:=Lib.hid (hf.later hb1)
  have HX:=Lib.hid (And.intro hk ht)
  have HW1:=Lib.hid hW1
  clear hb1 h hf hk ht hW1
  go_enter Tryz.func128,Tryz.ntmps128
  go_upto_region 1 with fail
  rw [←HW1.out];clear HW1
  go_wp2_with (first
    | (go_at_call 161;(with_reducible refine(contains_no a 1 c [x] _ HV.out (by omega) (by simpa using HX.out.1)).mono ?_);rintro e w2 ⟨rfl,hb⟩;replace HV:=Lib.hid (HV.out.later hb);replace HF:=Lib.hid (HF.out.later hb);replace HK:=Lib.hid (HK.out.later hb);replace HB:=Lib.hid (bthen HB.out hb);clear hb;obtain⟨b,off,ha,hbB,hat⟩:=HV.out.at_ (i:=0) (x:=x) rfl;rw [Nat.zero_mul,Nat.add_zero] at hat;obtain⟨c0,c1,c2,c3,c4,cn⟩:=hat;have HN:=Lib.hid cn;clear cn;subst ha)
    | (go_at_call 166;(with_reducible refine(one_neg_ok x.k x.nm g bits dv bg HN.out HF.out (by omega) (by have:=HX.out.2;omega)).mono ?_);rintro e w3 ⟨rn,rfl,hn,hb⟩;have HQ:=Lib.hid hn;replace HK:=Lib.hid (HK.out.later hb);replace HB:=Lib.hid (bthen HB.out hb);clear hn hb c0 c1 c2 c3 c4;obtain⟨z0,z1,z2,z3,z4⟩:=HK.out.fiveR;obtain⟨y0,y1,y2,y3,y4⟩:=HK.out.fiveF))
  exact bodyPost_ret (v:=.agg #[.int .i64 2,.bool rn.s,.slice rn.a rn.n rn.c,.slice rn.b rn.m rn.d,.string ⟨#[]⟩]) (by simp [results,Tryz.results128,go_sem, *]) rfl ⟨rn,rfl,HQ.out.put5 HK.out _ _ _ _ _,below_put5 HB.out (Nat.le_refl _) _ _ _ _ _⟩
end Go.Proofs.YtpnlbjnbgemocaaGreat
namespace Go.Proofs.YtpnlbjnbgemocaaGreat
set_option linter.unusedVariables false
set_option linter.unusedSimpArgs false
set_option maxRecDepth 100000
open Go.RowKit Nums
theorem isOn_none (p:Value)(w:World):Calls Tryz.prog 39 #[p,.int .i64 (-1)] w fun e w'=>e=.returned (.bool true)∧w'=w:=by
  go_enter Tryz.func39,Tryz.ntmps39
  go_wp2
  go_ret
  exact⟨rfl,rfl⟩
end Go.Proofs.YtpnlbjnbgemocaaGreat
namespace Go.Proofs.YtpnlbjnbgemocaaGreat
set_option linter.unusedVariables false
set_option linter.unusedSimpArgs false
set_option maxRecDepth 100000
open Go.RowKit Nums
theorem cell_put5 {w:World}{g h i:Nat}{a b c d e:Value}(hne:h<g):(((((w.setCell ⟨g,0,none⟩ a).setCell ⟨g,1,none⟩ b).setCell ⟨g,2,none⟩ c).setCell ⟨g,3,none⟩ d).setCell ⟨g,4,none⟩ e).cell? ⟨h,i,none⟩=w.cell? ⟨h,i,none⟩:=by
  rw [World.cell?_setCell_far _ _ _ _ (show g≠h by omega),World.cell?_setCell_far _ _ _ _ (show g≠h by omega),World.cell?_setCell_far _ _ _ _ (show g≠h by omega),World.cell?_setCell_far _ _ _ _ (show g≠h by omega),World.cell?_setCell_far _ _ _ _ (show g≠h by omega)]
structure InAt (w:World) (b off k:Nat) (r:RV):Prop where
  lt:b<w.heap.size
  c0:w.cell? ⟨b,off+k*3,none⟩=some (.bool r.s)
  c1:w.cell? ⟨b,off+k*3+1,none⟩=some (.slice r.a r.n r.c)
  c2:w.cell? ⟨b,off+k*3+2,none⟩=some (.slice r.b r.m r.d)
theorem InAt.later {w w':World}{b off k:Nat}{r:RV}(h:InAt w b off k r)(hb:Below w.heap.size w w'):InAt w' b off k r:=
  ⟨Nat.lt_of_lt_of_le h.lt hb.size,(hb.cell (p:=⟨b,off+k*3,none⟩) h.lt).trans h.c0,(hb.cell (p:=⟨b,off+k*3+1,none⟩) h.lt).trans h.c1,(hb.cell (p:=⟨b,off+k*3+2,none⟩) h.lt).trans h.c2⟩
theorem input_in {r:RV}{kk j:Nat}{q:Rat}{w:World}(b off n c:Nat)(fl:Option Addr)(fn fc k:Nat)(hk:k<n)(hn:n≤10)(hr:r.Is kk j q w)(hi:InAt w b off k r)(h2:kk≤90∧1≤j∧j≤90) :
    Calls Tryz.prog 146 #[.agg #[.slice (some ⟨b,off,none⟩) n c,.slice fl fn fc],.int .i64 (k:Int)] w (RatV kk j q w):=input_at b off n c fl fn fc k hk hn hr hi.lt hi.c0 hi.c1 hi.c2 h2
set_option maxHeartbeats 8000000 in
theorem equation_in {r:RV}{kk j:Nat}{q:Rat}{w:World}(g:Nat)(bits:Int)(dv bg:Bool)(hf:FAt w g bits dv bg)(d aa l0 l1 l2 l3 l4 rs:Value)(b off n c:Nat)(fl:Option Addr)(fn fc k:Nat)(hk:k<n)(hn:n≤10)(hr:r.Is kk j q w)(hi:InAt w b off k r)(h2:2≤kk∧kk≤60∧2≤j∧j≤60)(ht:¬ bits<(bitsQ q:Int)) :
    Calls Tryz.prog 104 #[.pointer (some ⟨g,0,none⟩),.agg #[.string ⟨#[105,110]⟩,d,aa,.int .i64 (k:Int),l0,l1,l2,l3,l4,.int .i64 (-1),rs],.agg #[.slice (some ⟨b,off,none⟩) n c,.slice fl fn fc]] w (ValV 2 kk j q ⟨#[]⟩ w):=by
  obtain⟨W1,hW1⟩:∃ W1,W1=w.alloc (.cells #[.string ⟨#[105,110]⟩,d,aa,.int .i64 (k:Int),l0,l1,l2,l3,l4,.int .i64 (-1),rs] 96):=⟨_,rfl⟩
  obtain⟨W2,hW2⟩:∃ W2,W2=W1.alloc (.cells #[.slice (some ⟨b,off,none⟩) n c,.slice fl fn fc] 124):=⟨_,rfl⟩
  obtain⟨W3,hW3⟩:∃ W3,W3=W2.alloc (.cells #[.int .i64 0,.bool false,.slice none 0 0,.slice none 0 0,.string ⟨#[]⟩] 51):=⟨_,rfl⟩
  have hb1:Below w.heap.size w W1:=by rw [hW1];exact below_one _ _
  have hb2:Below W1.heap.size W1 W2:=by rw [hW2];exact below_one _ _
  have hb3:Below W2.heap.size W2 W3:=by rw [hW3];exact below_one _ _
  have HK1:=Lib.hid (((show Blk W1 w.heap.size 96 #[.string ⟨#[105,110]⟩,d,aa,.int .i64 (k:Int),l0,l1,l2,l3,l4,.int .i64 (-1),rs] by rw [hW1];exact Blk.new _ _ _).later hb2).later hb3)
  have HK2:=Lib.hid ((show Blk W2 W1.heap.size 124 #[.slice (some ⟨b,off,none⟩) n c,.slice fl fn fc] by rw [hW2];exact Blk.new _ _ _).later hb3)
  have HK3:=Lib.hid (show Blk W3 W2.heap.size 51 #[.int .i64 0,.bool false,.slice none 0 0,.slice none 0 0,.string ⟨#[]⟩] by rw [hW3];exact Blk.new _ _ _)
  have HB:=Lib.hid (bthen (bthen hb1 hb2) hb3)
  have HR:=Lib.hid (hr.later HB.out)
  have HF:=Lib.hid (hf.later HB.out)
  have HC:=Lib.hid (hi.later HB.out)
  have HS1:=Lib.hid (show w.heap.size+1=W1.heap.size by rw [hW1];simp)
  have HS2:=Lib.hid (show W1.heap.size+1=W2.heap.size by rw [hW2];simp)
  have HS3:=Lib.hid (show w.heap.size+2=W2.heap.size by rw [hW2,hW1];simp)
  have HL:=Lib.hid (show w.heap.size<W2.heap.size∧W1.heap.size<W2.heap.size by rw [hW2,hW1];simp;omega)
  have HH:=Lib.hid (And.intro h2 (And.intro ht (And.intro hk hn)))
  have HW1:=Lib.hid hW1
  have HW2:=Lib.hid hW2
  have HW3:=Lib.hid hW3
  clear hb1 hb2 hb3 hr hf hi hW1 hW2 hW3 h2 ht hk hn
  have p0:=HK1.out.cell 0 rfl
  have p3:=HK1.out.cell 3 rfl
  have p9:=HK1.out.cell 9 rfl
  have g0:=HK2.out.cell 0 rfl
  have g1:=HK2.out.cell 1 rfl
  go_enter Tryz.func104,Tryz.ntmps104
  go_upto_region 1 with fail
  rw [←HW1.out,←HW2.out,←HW3.out];simp only [HS1.out,HS2.out,HS3.out];clear HW1 HW2 HW3 HS1 HS2 HS3
  go_upto_region 9 with (go_at_call 39;(with_reducible refine(isOn_none _ _).mono ?_);rintro e w1 ⟨rfl,hw⟩;subst hw)
  go_region_held3 (fun w'=>w'.cell? ⟨w.heap.size,3,none⟩=some (.int .i64 (k:Int))∧w'.cell? ⟨W1.heap.size,0,none⟩=some (.slice (some ⟨b,off,none⟩) n c)∧w'.cell? ⟨W1.heap.size,1,none⟩=some (.slice fl fn fc))
    (first | (refine⟨?_, ?_, ?_⟩ <;> with_reducible assumption) | (exact⟨by rw [cell_put5 HL.out.1];exact p3,by rw [cell_put5 HL.out.2];exact g0,by rw [cell_put5 HL.out.2];exact g1⟩) | (go_keep;done))
    (first
      | (have mk:=G1;clear mk
         go_at_call 50
         refine(number_ok g bits dv bg HN.out HF.out (by have:=HH.out.1;omega) (by have:=HH.out.2.1;omega)).mono ?_
         rintro e w4 ⟨rfl,hn,hb⟩
         have HQ:=Lib.hid hn
         replace HK1:=Lib.hid (HK1.out.later hb)
         replace HK2:=Lib.hid (HK2.out.later hb)
         replace HK3:=Lib.hid (HK3.out.later hb)
         replace HB:=Lib.hid (bthen HB.out hb)
         clear hn hb p3 g0 g1
         have p3:=HK1.out.cell 3 rfl
         have g0:=HK2.out.cell 0 rfl
         have g1:=HK2.out.cell 1 rfl
         obtain⟨z0,z1,z2,z3,z4⟩:=HK3.out.fiveR
         obtain⟨y0,y1,y2,y3,y4⟩:=HK3.out.fiveF
         have G2:Hid True:=trivial)
      | (go_at_call 146
         refine(input_in b off n c fl fn fc k (by have:=HH.out.2.2.1;omega) (by have:=HH.out.2.2.2;omega) (HR.out.later (by first | exact Below.refl _ _ | exact(Below.refl _ _).drew)) (HC.out.later (by first | exact Below.refl _ _ | exact(Below.refl _ _).drew)) (by have:=HH.out.1;omega)).mono ?_
         rintro e w3 ⟨rn,rfl,hn,hb0⟩
         have hb:Below w1.heap.size w1 w3:=bthen (by first | exact Below.refl _ _ | exact(Below.refl _ _).drew) hb0
         have HN:=Lib.hid hn
         replace HF:=Lib.hid (HF.out.later hb)
         replace HK1:=Lib.hid (HK1.out.later hb)
         replace HK2:=Lib.hid (HK2.out.later hb)
         replace HK3:=Lib.hid (HK3.out.later hb)
         replace HB:=Lib.hid (bthen HB.out hb)
         clear hn hb hb0 p0 p3 p9 g0 g1
         have p3:=HK1.out.cell 3 rfl
         have g0:=HK2.out.cell 0 rfl
         have g1:=HK2.out.cell 1 rfl
         have G1:Hid True:=trivial))
  all_goals
    go_wp2_with fail
    exact bodyPost_ret (v:=.agg #[.int .i64 2,.bool rn.s,.slice rn.a rn.n rn.c,.slice rn.b rn.m rn.d,.string ⟨#[]⟩]) (by simp [results,Tryz.results104,go_sem, *]) rfl ⟨rn,rfl,HQ.out.put5 HK3.out _ _ _ _ _,below_put5 HB.out (Nat.le_of_lt HL.out.1) _ _ _ _ _⟩
end Go.Proofs.YtpnlbjnbgemocaaGreat
namespace Go.Proofs.YtpnlbjnbgemocaaGreat
set_option linter.unusedVariables false
set_option linter.unusedSimpArgs false
set_option maxRecDepth 100000
open Go.RowKit Nums
def VM.cs (x:VM):List Value:=[.int .i64 x.k,.bool x.r.s,.slice x.r.a x.r.n x.r.c,.slice x.r.b x.r.m x.r.d,.string x.nm]
theorem VM.cs_len (x:VM):x.cs.length=5:=rfl
theorem VM.cs_one (x:VM):∀ u∈x.cs,u.oneCell'=true:=by
  intro u hu
  simp only [VM.cs,List.mem_cons,List.not_mem_nil,or_false] at hu
  rcases hu with rfl | rfl | rfl | rfl | rfl <;> rfl
def flatW (xs:List VM):List Value:=xs.flatMap VM.cs
theorem flatW_len (xs:List VM):(flatW xs).length=xs.length*5:=by
  induction xs with
  | nil=>rfl
  | cons x xs ih=>unfold flatW at ih ⊢;simp only [List.flatMap_cons,List.length_append,VM.cs_len,List.length_cons,ih];omega
theorem flatW_append (xs ys:List VM):flatW (xs++ys)=flatW xs++flatW ys:=List.flatMap_append
theorem flatW_get:∀(xs:List VM) (i:Nat) (x:VM),xs[i]?=some x→∀ j,j<5→(flatW xs)[i*5+j]?=x.cs[j]?
  | [],i,x,h=>by simp at h
  | y::ys,0,x,h=>by
    intro j hj
    simp at h;subst h
    unfold flatW
    rw [List.flatMap_cons,List.getElem?_append_left (by rw [VM.cs_len];omega)]
    simp
  | y::ys,i+1,x,h=>by
    intro j hj
    have:=flatW_get ys i x (by simpa using h) j hj
    unfold flatW at this ⊢
    rw [List.flatMap_cons,List.getElem?_append_right (by rw [VM.cs_len];omega),VM.cs_len,show(i+1)*5+j-5=i*5+j by omega]
    exact this
def OwnW (w:World)(B:Nat)(v:Value)(xs:List VM):Prop:=w.ownsRow B 51 5 v xs.length (flatW xs)
section
variable {w w':World} {B B':Nat} {v:Value} {xs:List VM}
theorem OwnW.keep (h:OwnW w B v xs)(hk:∀ k,v.ownBlock=some k→w'.heap[k]?=w.heap[k]?):OwnW w' B v xs:=by
  refine⟨h.1, ?_⟩
  rcases h.2 with h0 | ⟨g,cap,cur,rfl,hb,hg,hr⟩
  · exact Or.inl h0
  · exact Or.inr ⟨g,cap,cur,rfl,hb,(hk g rfl).trans hg,hr⟩
theorem OwnW.lt (h:OwnW w B v xs){k:Nat}(hk:v.ownBlock=some k):B≤k∧k<w.heap.size:=World.ownsRow.lt h k hk
theorem OwnW.only {S:List (Option Nat)}(h:OwnW w B v xs)(hb:Only S w w')(hv:∀ k,v.ownBlock=some k→some k ∉ S):OwnW w' B v xs:=
  h.keep fun k hk=>hb.block k (h.lt hk).2 (hv k hk)
theorem OwnW.below (h:OwnW w B v xs)(hb:Below B' w w')(hB:w.heap.size≤B'):OwnW w' B v xs:=
  h.keep fun k hk=>hb.block k (Nat.lt_of_lt_of_le (h.lt hk).2 hB)
theorem OwnW.later (h:OwnW w B v xs)(hb:Below w.heap.size w w'):OwnW w' B v xs:=h.below hb (Nat.le_refl _)
theorem OwnW.more (h:OwnW w B v xs)(hB:B'≤B):OwnW w B' v xs:=by
  refine⟨h.1, ?_⟩
  rcases h.2 with h0 | ⟨g,cap,cur,rfl,hb,hr⟩
  · exact Or.inl h0
  · exact Or.inr ⟨g,cap,cur,rfl,Nat.le_trans hB hb,hr⟩
theorem OwnW.nil (w:World)(B:Nat):OwnW w B (.slice none 0 0) []:=World.ownsRow_nil w B 51 5
end
def WMem (w:World)(B:Nat)(a:Option Addr)(n c:Nat)(xs:List VM):Prop:=
  xs.length=n∧n≤c∧c≤maxLen∧∃ b,(a=some ⟨b,0,none⟩∨n≤0)∧∀ i x,xs[i]?=some x→b<B∧∀ j u,x.cs[j]?=some u→w.cell? ⟨b,i*5+j,none⟩=some u
theorem OwnW.mem {w:World}{B:Nat}{v:Value}{xs:List VM}(h:OwnW w B v xs):∃ a c,v=.slice a xs.length c∧WMem w w.heap.size a xs.length c xs:=by
  rcases h.2 with ⟨rfl,h0⟩ | ⟨g,cap,cur,rfl,_,hg,hnc,hcm,_⟩
  · refine⟨none,0,by rw [h0],rfl,by omega,Nat.zero_le _,0,Or.inr (by omega),fun i x hx=>?_⟩
    have:=(List.getElem?_eq_some_iff.1 hx).1
    omega
  · refine⟨_,cap,rfl,rfl,hnc,hcm,g,Or.inl rfl,fun i x hx=>⟨(Array.getElem?_eq_some_iff.1 hg).1,fun j u hu=>?_⟩⟩
    have hj:j<5:=by rw [←VM.cs_len x];exact(List.getElem?_eq_some_iff.1 hu).1
    have:=h.cells (g:=g) rfl (i*5+j) u (by rw [flatW_get xs i x hx j hj];exact hu)
    have e:(⟨g,0,none⟩:Addr).add (i*5+j)=⟨g,i*5+j,none⟩:=by unfold Addr.add;split <;> simp_all
    rw [e] at this
    exact this
theorem Tryz.infoVaW:(Tryz.prog.info? 51).map (fun i=>(i.zero,i.size,i.bytes))=some (some (Value.agg #[.int .i64 0,.bool false,.slice none 0 0,.slice none 0 0,.string ⟨#[]⟩]),5,80):=by kernel_rfl
theorem runW (w:World)(ty:TypeId)(B:Nat)(v:Value)(xs:List VM)(hown:OwnW w B v xs)(ad:Addr)(n c:Nat)(ys:List VM)(hys:ys.length=n)(hn:∀ j u,(flatW ys)[j]?=some u→w.cell? (ad.add j)=some u)(hB:B≤w.heap.size)(hl:xs.length≤100000000)(hy:n≤1000000) :
    ∃ v' w',(Builtin.append_ #[22,22] ty #[v,.slice (some ad) n c]).run Tryz.prog w=.ok v' w'∧OwnW w' B v' (xs++ys)∧Only [v.ownBlock] w w'∧(v'.ownBlock=v.ownBlock∨∃ k,v'.ownBlock=some k∧w.heap.size≤k):=by
  obtain⟨i0,hi,hz0,hz1,hz2⟩:=info_parts Tryz.infoVaW
  obtain⟨v',w',h1,h2,h3,h4,h5⟩:=run_append_own_at (P:=Tryz.prog) w B 22 ty 51 i0 _ 5 80 Tryz.underlying22 hi hz0 hz1 hz2 rfl (by decide) v xs.length (flatW xs) hown ad n c (flatW ys) (by rw [flatW_len,hys]) hn (fun u hu=>by
    unfold flatW at hu
    rw [List.mem_flatMap] at hu
    obtain⟨y,_,hu⟩:=hu
    exact y.cs_one u hu) (by unfold maxLen;omega) (by omega) hB
  refine⟨v',w',h1, ?_,Only.of_grown h3 (Or.inl (by simp)), ?_⟩
  · unfold OwnW;rw [flatW_append,List.length_append,hys];exact h2
  · rcases h5 with h | h
    · exact Or.inl h
    · exact Or.inr ⟨_,h,Nat.le_refl _⟩
theorem cell_val_new (w:World)(x:VM)(T:TypeId){H:Nat}(hH:w.heap.size=H):∀ j u,(flatW [x])[j]?=some u→(w.alloc (.cells x.cs.toArray T)).cell? ((⟨H,0,none⟩:Addr).add j)=some u:=by
  intro j u hu
  subst hH
  have e:(⟨w.heap.size,0,none⟩:Addr).add j=⟨w.heap.size,j,none⟩:=by unfold Addr.add;split <;> simp_all
  rw [e,cell_of_row _ w.heap.size j _ T (0,0) (heap_alloc_new w _)]
  simpa [flatW] using hu
theorem OwnW.row {w:World}{B:Nat}{v:Value}{xs:List VM}(h:OwnW w B v xs)(hn:∀ x∈xs,x.r.Is 19 19 x.q w):∃ a c,v=.slice a xs.length c∧VRow w a xs.length c xs:=by
  obtain⟨a,c,rfl,h1,h2,h3,b,h4,h5⟩:=h.mem
  refine⟨a,c,rfl,h1,h2,h3,b,0,h4,fun i x hx=>?_⟩
  obtain⟨hb,hc⟩:=h5 i x hx
  rw [Nat.zero_add]
  exact⟨hb,hc 0 _ rfl,hc 1 _ rfl,hc 2 _ rfl,hc 3 _ rfl,hc 4 _ rfl,hn x (List.mem_of_getElem? hx)⟩
end Go.Proofs.YtpnlbjnbgemocaaGreat
namespace Go.Proofs.YtpnlbjnbgemocaaGreat
set_option linter.unusedVariables false
set_option linter.unusedSimpArgs false
set_option maxRecDepth 100000
open Go.RowKit
def NoM (w:World)(p:Value):Prop:=p=.pointer none∨∃ g,p=.pointer (some ⟨g,0,none⟩)∧g<w.heap.size∧w.cell? ⟨g,3,none⟩=some (.bool false)
theorem NoM.later {w w':World}{p:Value}(h:NoM w p)(hb:Below w.heap.size w w'):NoM w' p:=by
  rcases h with h | ⟨g,h1,h2,h3⟩
  · exact .inl h
  · exact .inr ⟨g,h1,Nat.lt_of_lt_of_le h2 hb.size,(hb.cell (p:=⟨g,3,none⟩) h2).trans h3⟩
theorem runs_no {w:World}{p:Value}(h:NoM w p):Calls Tryz.prog 36 #[p] w fun e w'=>e=.returned (.bool false)∧w'=w:=by
  rcases h with rfl | ⟨g,rfl,hg,h3⟩
  · go_enter Tryz.func36,Tryz.ntmps36
    go_wp2
    go_ret
    exact⟨rfl,rfl⟩
  · go_enter Tryz.func36,Tryz.ntmps36
    go_wp2
    go_ret
    exact⟨rfl,rfl⟩
theorem stepM_no {w:World}{p:Value}(h:NoM w p)(a b:Value)(n:Int):Calls Tryz.prog 26 #[p,a,b,.int .i64 n] w fun e w'=>e=.returned (.tuple #[.bool false,.bool false])∧w'=w:=by
  have H:=Lib.hid h
  clear h
  go_enter Tryz.func26,Tryz.ntmps26
  go_wp2_with (go_at_call 36;refine(runs_no H.out).mono ?_;rintro e w1 ⟨rfl,rfl⟩)
  go_ret2
  exact⟨rfl,rfl⟩
theorem derivM_no {w:World}{p:Value}(h:NoM w p):Calls Tryz.prog 15 #[p] w fun e w'=>e=.returned (.tuple #[])∧w'=w:=by
  have H:=Lib.hid h
  clear h
  go_enter Tryz.func15,Tryz.ntmps15
  go_wp2_with (go_at_call 36;refine(runs_no H.out).mono ?_;rintro e w1 ⟨rfl,rfl⟩)
  first | (((try simp only [Exit.inBlock,Exit.then]);refine bodyPost_ret (results_none rfl _ _ _) rfl ?_)) | go_end0
  exact⟨rfl,rfl⟩
theorem crossM_no {w:World}{p:Value}(h:NoM w p)(n:Int):Calls Tryz.prog 16 #[p,.int .i64 n] w fun e w'=>e=.returned (.tuple #[.slice none 0 0,.bool false,.bool false])∧w'=w:=by
  have H:=Lib.hid h
  clear h
  go_enter Tryz.func16,Tryz.ntmps16
  go_wp2_with (go_at_call 36;refine(runs_no H.out).mono ?_;rintro e w1 ⟨rfl,rfl⟩)
  go_ret3
  exact⟨rfl,rfl⟩
theorem move_no {w:World}{p:Value}(h:NoM w p)(s:Bool)(a b:Option Addr)(n c m d:Nat)(k:Int):Calls Tryz.prog 20 #[p,.agg #[.bool s,.slice a n c,.slice b m d],.int .i64 k] w fun e w'=>e=.returned (.bool false)∧Below w.heap.size w w':=by
  obtain⟨W1,hW1⟩:∃ W1,W1=w.alloc (.cells #[.bool s,.slice a n c,.slice b m d] 46):=⟨_,rfl⟩
  have hb1:Below w.heap.size w W1:=by rw [hW1];exact(Below.refl _ _).alloc (Nat.le_refl _) _
  have H:=Lib.hid (h.later hb1)
  clear h
  go_enter Tryz.func20,Tryz.ntmps20
  go_upto_region 1 with fail
  rw [←hW1]
  clear hW1
  go_wp2_with (go_at_call 36;refine(runs_no H.out).mono ?_;rintro e w1 ⟨rfl,rfl⟩)
  go_ret
  exact⟨rfl,hb1⟩
theorem outs_no {w:World}{p:Value}(h:NoM w p):Calls Tryz.prog 13 #[p] w fun e w'=>e=.returned (.slice none 0 0)∧w'=w:=by
  have H:=Lib.hid h
  clear h
  go_enter Tryz.func13,Tryz.ntmps13
  go_wp2_with (go_at_call 36;refine(runs_no H.out).mono ?_;rintro e w1 ⟨rfl,rfl⟩)
  go_ret
  exact⟨rfl,rfl⟩
theorem mems_no {w:World}{p:Value}(h:NoM w p):Calls Tryz.prog 11 #[p] w fun e w'=>e=.returned (.slice none 0 0)∧w'=w:=by
  have H:=Lib.hid h
  clear h
  go_enter Tryz.func11,Tryz.ntmps11
  go_wp2_with (go_at_call 36;refine(runs_no H.out).mono ?_;rintro e w1 ⟨rfl,rfl⟩)
  go_ret
  exact⟨rfl,rfl⟩
theorem conts_no {w:World}{p:Value}(h:NoM w p):Calls Tryz.prog 12 #[p] w fun e w'=>e=.returned (.slice none 0 0)∧w'=w:=by
  have H:=Lib.hid h
  clear h
  go_enter Tryz.func12,Tryz.ntmps12
  go_wp2_with (go_at_call 36;refine(runs_no H.out).mono ?_;rintro e w1 ⟨rfl,rfl⟩)
  go_ret
  exact⟨rfl,rfl⟩
theorem states_no {w:World}{p:Value}(h:NoM w p):Calls Tryz.prog 17 #[p] w fun e w'=>e=.returned (.slice none 0 0)∧w'=w:=by
  have H:=Lib.hid h
  clear h
  go_enter Tryz.func17,Tryz.ntmps17
  go_wp2_with (go_at_call 36;refine(runs_no H.out).mono ?_;rintro e w1 ⟨rfl,rfl⟩)
  go_ret
  exact⟨rfl,rfl⟩
theorem again_no {w:World}{p:Value}(h:NoM w p):Calls Tryz.prog 14 #[p] w fun e w'=>e=.returned (.bool false)∧w'=w:=by
  have H:=Lib.hid h
  clear h
  go_enter Tryz.func14,Tryz.ntmps14
  go_wp2_with (go_at_call 36;refine(runs_no H.out).mono ?_;rintro e w1 ⟨rfl,rfl⟩)
  go_ret
  exact⟨rfl,rfl⟩
end Go.Proofs.YtpnlbjnbgemocaaGreat
