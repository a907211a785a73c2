import Derived.Test.YtpnlbjnbgemocaaGreatZFlAToHpKN11
import Derived.Test.YtpnlbjnbgemocaaGreatZPlASfK
import Derived.Deep.RegionWith
import Derived.Deep.DeepCutAuto
import Derived.BigRegion
namespace Go.Proofs.YtpnlbjnbgemocaaGreat
set_option linter.unusedVariables false
set_option linter.unusedSimpArgs false
set_option maxRecDepth 100000
open Go.RowKit
section
variable {w:World} {B B' b o:Nat}
theorem URow.more {a:Option Addr}{n c:Nat}{xs:List Nat}(h:URow w B a n c xs)(hB:B≤B'):URow w B' a n c xs:=by
  obtain⟨h1,h2,h3,h4,h5,h8,b,off,h6,h7⟩:=h
  exact⟨h1,h2,h3,h4,h5,h8,b,off,h6,fun i hi=>⟨Nat.lt_of_lt_of_le (h7 i hi).1 hB,(h7 i hi).2⟩⟩
theorem SRow.more {α:Type}{sz:Nat}{R:World→Nat→Nat→Nat→α→Prop}{a:Option Addr}{n c:Nat}{xs:List α}(h:SRow sz R w B a n c xs)(hB:B≤B')(hR:∀ b o x,R w B b o x→R w B' b o x):SRow sz R w B' a n c xs:=by
  obtain⟨h1,h2,h3,b,off,h6,h7⟩:=h
  exact⟨h1,h2,h3,b,off,h6,fun i x hx=>⟨Nat.lt_of_lt_of_le (h7 i x hx).1 hB,hR b _ x (h7 i x hx).2⟩⟩
theorem IsAt.more {x:List Int}(h:IsAt w B b o x)(hB:B≤B'):IsAt w B' b o x:=by
  obtain⟨A,L,C,h1,h2⟩:=h;exact⟨A,L,C,h1,h2.more hB⟩
theorem UsAt.more {x:List Nat}(h:UsAt w B b o x)(hB:B≤B'):UsAt w B' b o x:=by
  obtain⟨A,L,C,h1,h2⟩:=h;exact⟨A,L,C,h1,h2.more hB⟩
theorem ValAt.more {v:ValM}(h:ValAt w B b o v)(hB:B≤B'):ValAt w B' b o v:=⟨h.kind,h.neg,h.mag.more hB,h.den.more hB,h.name⟩
theorem InsAt.more {v:InsP}(h:InsAt w B b o v)(hB:B≤B'):InsAt w B' b o v:=⟨h.op,h.dst,h.args.more hB,h.k,h.lit.more hB,h.guard,h.resets.more hB⟩
theorem CodeIs.more {c:CodeM}{v:CodeV}(h:CodeIs w B c v)(hB:B≤B'):CodeIs w B' c v:=
  { h with mems:=h.mems.more hB fun _ _ _ q=>q.more hB,conts:=h.conts.more hB fun _ _ _ q=>q.more hB,step:=h.step.more hB fun _ _ _ q=>q.more hB,deriv:=h.deriv.more hB fun _ _ _ q=>q.more hB,cross:=h.cross.more hB fun _ _ _ q=>q.more hB }
end
theorem irow5 {w:World}{g T:Nat}{a b c d e:Int}(h:Blk w g T #[.int .i64 a,.int .i64 b,.int .i64 c,.int .i64 d,.int .i64 e]):IRow w w.heap.size (some ⟨g,0,none⟩) 5 5 [a,b,c,d,e]:=by
  refine⟨rfl,Nat.le_refl _,by unfold maxLen;omega,(fun h=>by cases h),g,0,Or.inl rfl,fun i hi=>⟨h.lt, ?_⟩⟩
  rw [Nat.zero_add]
  match i,hi with
  | 0,_=>exact h.cell 0 rfl
  | 1,_=>exact h.cell 1 rfl
  | 2,_=>exact h.cell 2 rfl
  | 3,_=>exact h.cell 3 rfl
  | 4,_=>exact h.cell 4 rfl
def zb (n:Nat):Obj:=.cells (List.replicate n (Value.bool false)).toArray 4
theorem zb_mem (w:World)(n:Nat):BMem (w.alloc (zb n)) w.heap.size (mkB n []):=by
  rw [mkB_nil]
  unfold BMem zb
  rw [heap_alloc_new]
  simp
theorem zb_run (n:Nat)(hn:n≤1000000000)(w:World):(Instr.makeSlice 175 (.int .i64 (n:Int)) (.int .i64 (n:Int))).run Tryz.prog w=.ok (.slice (some ⟨w.heap.size,0,none⟩) n n) (w.alloc (zb n)):=by
  obtain⟨i,hi,hz0,hz1,hz2⟩:=info_parts Tryz.info4
  have hr:=run_make (P:=Tryz.prog) w 175 4 i (.bool false) Tryz.underlying175 hi hz0 .i64 .i64 n n (by omega) (Int.le_refl _) (by rw [hz2];omega) (by omega)
  simp only [Int.toNat_natCast] at hr
  rw [hr]
  congr 2
  unfold zb
  congr 1
  rw [hz1,Nat.mul_one]
  apply Array.ext'
  show(madeCells #[Value.bool false] n).toList=_
  rw [toList_madeCells_one]
theorem OkS_all {c:CodeM}{n:Nat}(hn:c.step.length=n):OkS c n↔∀(i:Nat) (x:InsP),c.step[i]?=some x→stB c (wTo (c.step.take i)) x=true:=
  ⟨fun h i x hx=>h i x (by rw [←hn];exact(List.getElem?_eq_some_iff.1 hx).1) hx,fun h i x _ hx=>h i x hx⟩
theorem cnt_five {a b c d e:Int}:[a,b,c,d,e].all cntB=true↔cntB a=true∧cntB b=true∧cntB c=true∧cntB d=true∧cntB e=true:=by simp
theorem rd_a {W:World}{B:Nat}{c:CodeM}{v:CodeV}{S N:Nat}(hi:CodeIs W B c v)(hB:B≤W.heap.size)(hS:c.slots=(S:Int))(hN:c.lines=(N:Int))(h1:S≤65536)(h2:N≤65536) :
    Rd (((W.alloc (zb S)).alloc (zb N)).alloc (.cells #[.int .i64 c.ins,.int .i64 c.outs,.int .i64 c.slots,.int .i64 c.crosses,.int .i64 c.lines,.slice v.mems.1 v.mems.2.1 v.mems.2.2,.slice v.conts.1 v.conts.2.1 v.conts.2.2,.slice v.step.1 v.step.2.1 v.step.2.2,.slice v.deriv.1 v.deriv.2.1 v.deriv.2.2,.slice v.cross.1 v.cross.2.1 v.cross.2.2,.slice (some ⟨W.heap.size,0,none⟩) S S,.slice (some ⟨W.heap.size+1,0,none⟩) N N] 177)) B (W.heap.size+1+1) c v S N W.heap.size (W.heap.size+1) [] []:=by
  have s1:(W.alloc (zb S)).heap.size=W.heap.size+1:=size_alloc _ _
  have s2:((W.alloc (zb S)).alloc (zb N)).heap.size=W.heap.size+1+1:=by rw [size_alloc,s1]
  have hb:=Blk.new ((W.alloc (zb S)).alloc (zb N)) 177 #[.int .i64 c.ins,.int .i64 c.outs,.int .i64 c.slots,.int .i64 c.crosses,.int .i64 c.lines,.slice v.mems.1 v.mems.2.1 v.mems.2.2,.slice v.conts.1 v.conts.2.1 v.conts.2.2,.slice v.step.1 v.step.2.1 v.step.2.2,.slice v.deriv.1 v.deriv.2.1 v.deriv.2.2,.slice v.cross.1 v.cross.2.1 v.cross.2.2,.slice (some ⟨W.heap.size,0,none⟩) S S,.slice (some ⟨W.heap.size+1,0,none⟩) N N]
  rw [s2] at hb
  have m1:=zb_mem W S
  have m2:=zb_mem (W.alloc (zb S)) N
  rw [s1] at m2
  refine⟨hb,hi.below ((((Below.refl _ _).alloc hB _).alloc (by rw [s1];omega) _).alloc (by rw [s2];omega) _),(m1.alloc _).alloc _,m2.alloc _,by omega,hB,by omega,by omega,by omega,by omega,hS,hN,h1,h2⟩
theorem rd_b {W:World}{B:Nat}{c:CodeM}{v:CodeV}{S N:Nat}(hi:CodeIs W B c v)(hB:B≤W.heap.size)(hS:c.slots=(S:Int))(hN:c.lines=(N:Int))(h1:S≤65536)(h2:N≤65536) :
    Rd (((W.alloc (zb N)).alloc (zb S)).alloc (.cells #[.int .i64 c.ins,.int .i64 c.outs,.int .i64 c.slots,.int .i64 c.crosses,.int .i64 c.lines,.slice v.mems.1 v.mems.2.1 v.mems.2.2,.slice v.conts.1 v.conts.2.1 v.conts.2.2,.slice v.step.1 v.step.2.1 v.step.2.2,.slice v.deriv.1 v.deriv.2.1 v.deriv.2.2,.slice v.cross.1 v.cross.2.1 v.cross.2.2,.slice (some ⟨W.heap.size+1,0,none⟩) S S,.slice (some ⟨W.heap.size,0,none⟩) N N] 177)) B (W.heap.size+1+1) c v S N (W.heap.size+1) W.heap.size [] []:=by
  have s1:(W.alloc (zb N)).heap.size=W.heap.size+1:=size_alloc _ _
  have s2:((W.alloc (zb N)).alloc (zb S)).heap.size=W.heap.size+1+1:=by rw [size_alloc,s1]
  have hb:=Blk.new ((W.alloc (zb N)).alloc (zb S)) 177 #[.int .i64 c.ins,.int .i64 c.outs,.int .i64 c.slots,.int .i64 c.crosses,.int .i64 c.lines,.slice v.mems.1 v.mems.2.1 v.mems.2.2,.slice v.conts.1 v.conts.2.1 v.conts.2.2,.slice v.step.1 v.step.2.1 v.step.2.2,.slice v.deriv.1 v.deriv.2.1 v.deriv.2.2,.slice v.cross.1 v.cross.2.1 v.cross.2.2,.slice (some ⟨W.heap.size+1,0,none⟩) S S,.slice (some ⟨W.heap.size,0,none⟩) N N]
  rw [s2] at hb
  have m1:=zb_mem W N
  have m2:=zb_mem (W.alloc (zb N)) S
  rw [s1] at m2
  refine⟨hb,hi.below ((((Below.refl _ _).alloc hB _).alloc (by rw [s1];omega) _).alloc (by rw [s2];omega) _),m2.alloc _,(m1.alloc _).alloc _,by omega,by omega,hB,by omega,by omega,by omega,hS,hN,h1,h2⟩
theorem allS_yes (B g:Nat)(c:CodeM)(v:CodeV)(S N gs gl:Nat)(w:World)(hr:Rd w B g c v S N gs gl [] [])(h:OkS c v.step.2.1)(hA:∀(i:Nat) (x:InsP),c.step[i]?=some x→OkA x) :
    Calls Tryz.prog 107 #[.slice v.step.1 v.step.2.1 v.step.2.2,.func (.func 108) #[.pointer (some ⟨g,0,none⟩)] #[]] w fun e w'=>e=.returned (.bool true)∧Rd w' B g c v S N gs gl (wTo c.step) []∧Below B w w':=
  (allS_t B g c v S N gs gl w hr h hA).mono fun e w' ⟨h1,h5,h4⟩=>⟨h1,by rw [←hr.is.step.1,List.take_length] at h5;exact h5,h4⟩
theorem allD_yes (B g:Nat)(c:CodeM)(v:CodeV)(S N gs gl:Nat)(w:World)(hr:Rd w B g c v S N gs gl (wTo c.step) [])(h:v.deriv.2.1=0) :
    Calls Tryz.prog 107 #[.slice v.deriv.1 v.deriv.2.1 v.deriv.2.2,.func (.func 109) #[.pointer (some ⟨g,0,none⟩)] #[]] w fun e w'=>e=.returned (.bool true)∧Rd w' B g c v S N gs gl (wTo c.step) []∧Below B w w':=by
  rw [h];exact(all0_t _ _ _ w.heap.size w).mono fun e w' ⟨h1,h2⟩=>⟨h1,hr.later h2,h2.mono hr.hB⟩
theorem allX_yes (B g:Nat)(c:CodeM)(v:CodeV)(S N gs gl:Nat)(w:World)(hr:Rd w B g c v S N gs gl (wTo c.step) [])(h:v.cross.2.1=0) :
    Calls Tryz.prog 107 #[.slice v.cross.1 v.cross.2.1 v.cross.2.2,.func (.func 110) #[.pointer (some ⟨g,0,none⟩)] #[]] w fun e w'=>e=.returned (.bool true)∧Rd w' B g c v S N gs gl (wTo c.step) []∧Below B w w':=by
  rw [h];exact(all0_t _ _ _ w.heap.size w).mono fun e w' ⟨h1,h2⟩=>⟨h1,hr.later h2,h2.mono hr.hB⟩
def RightPost (c:CodeM)(w:World)(e:Ending)(w':World):Prop:=∃ b,e=.returned (.bool b)∧(b=true↔RightC c)∧Below w.heap.size w w'
set_option maxHeartbeats 4000000 in
theorem sright_t (B:Nat)(c:CodeM)(v:CodeV)(w:World)(h:CodeIs w B c v)(hB:B≤w.heap.size)(hR:RightC c)(hA:∀(i:Nat) (x:InsP),c.step[i]?=some x→OkA x)(hD:c.deriv=[])(hX:c.cross=[]):Calls Tryz.prog 62 #[codeV c v] w (RightPost c w):=by
  have HRC:=Lib.hid hR
  have HAA:=Lib.hid hA
  have H1:=Lib.hid ((OkS_all h.step.1).2 hR.step)
  have H2:Hid (v.deriv.2.1=0):=Lib.hid (by rw [←h.deriv.1,hD];rfl)
  have H3:Hid (v.cross.2.1=0):=Lib.hid (by rw [←h.cross.1,hX];rfl)
  have hc:[c.ins,c.outs,c.slots,c.crosses,c.lines].all cntB=true:=cnt_five.2 ⟨hR.ins,hR.outs,hR.slots,hR.crosses,hR.lines⟩
  clear hR hA hD hX
  obtain⟨W1,hW1⟩:∃ W1,W1=w.alloc (.cells #[.int .i64 c.ins,.int .i64 c.outs,.int .i64 c.slots,.int .i64 c.crosses,.int .i64 c.lines,.slice v.mems.1 v.mems.2.1 v.mems.2.2,.slice v.conts.1 v.conts.2.1 v.conts.2.2,.slice v.step.1 v.step.2.1 v.step.2.2,.slice v.deriv.1 v.deriv.2.1 v.deriv.2.2,.slice v.cross.1 v.cross.2.1 v.cross.2.2] 25):=⟨_,rfl⟩
  have hb1:Below w.heap.size w W1:=by rw [hW1];exact(Below.refl _ _).alloc (Nat.le_refl _) _
  have HK:=Lib.hid (show Blk W1 w.heap.size 25 (cvs c v) from by rw [hW1];exact Blk.new _ _ _)
  have HI:=Lib.hid ((h.more hB).below hb1)
  have HB1:=Lib.hid hb1
  clear h hB hb1
  unfold codeV
  obtain⟨n0,n1,n2,n3,n4,n5,n6,n7,n8,n9⟩:=HK.out.code
  obtain⟨W2,hW2⟩:∃ W2,W2=W1.alloc (.cells #[.int .i64 c.ins,.int .i64 c.outs,.int .i64 c.slots,.int .i64 c.crosses,.int .i64 c.lines] 3):=⟨_,rfl⟩
  have HF:=Lib.hid (show Blk W2 W1.heap.size 3 #[.int .i64 c.ins,.int .i64 c.outs,.int .i64 c.slots,.int .i64 c.crosses,.int .i64 c.lines] from by rw [hW2];exact Blk.new _ _ _)
  have HB2:=Lib.hid (show Below W1.heap.size W1 W2 from by rw [hW2];exact(Below.refl _ _).alloc (Nat.le_refl _) _)
  obtain⟨k0,k1,k2,k3,k4⟩:=cnt_five.1 hc
  obtain⟨S,hS,hS2⟩:∃ S:Nat,c.slots=(S:Int)∧S≤65536:=by
    unfold cntB at k2
    simp at k2
    exact⟨c.slots.toNat,by omega,by omega⟩
  obtain⟨N,hN,hN2⟩:∃ N:Nat,c.lines=(N:Int)∧N≤65536:=by
    unfold cntB at k4
    simp at k4
    exact⟨c.lines.toNat,by omega,by omega⟩
  have HCN:=Lib.hid (And.intro k0 (And.intro k1 (And.intro k2 (And.intro k3 k4))))
  have HAC:=Lib.hid (allC_t (some ⟨W1.heap.size,0,none⟩) 5 5 W2.heap.size [c.ins,c.outs,c.slots,c.crosses,c.lines] true W2 (irow5 HF.out) hc)
  have HSE:=Lib.hid hS
  have HNE:=Lib.hid hN
  clear hc hS hN k0 k1 k2 k3 k4
  rw [hW2] at HAC
  go_enter Tryz.func62,Tryz.ntmps62
  go_upto_region 1 with fail
  rw [←hW1]
  clear hW1
  go_upto_region 3 with (go_at_call 105;refine HAC.out.mono ?_;rintro e w3 ⟨rfl,rfl⟩)
  rw [←hW2]
  clear hW2
  have HK2:=Lib.hid (HK.out.later HB2.out)
  have HI2:=Lib.hid (HI.out.below (HB2.out.mono HB1.out.size))
  have HB3:=Lib.hid (HB1.out.trans (HB2.out.mono HB1.out.size))
  have HSB:Hid (w.heap.size+1≤W2.heap.size):=Lib.hid HK2.out.lt
  have HI3:=Lib.hid (HI2.out.more (Nat.le_succ w.heap.size))
  clear n0 n1 n2 n3 n4 n5 n6 n7 n8 n9 HAC HF
  obtain⟨n0,n1,n2,n3,n4,n5,n6,n7,n8,n9⟩:=HK2.out.code
  go_cut [3] (fun s3 wx=>∃ g gs gl:Nat,s3=.pointer (some ⟨g,0,none⟩)∧Hid (Rd wx (w.heap.size+1) g c v S N gs gl [] [])∧Hid (Below W2.heap.size W2 wx))
  case first=>
    have hk1:∀ w:World,(Instr.makeSlice 175 (.int .i64 c.slots) (.int .i64 c.slots)).run Tryz.prog w=.ok (.slice (some ⟨w.heap.size,0,none⟩) S S) (w.alloc (zb S)):=by rw [HSE.out];exact zb_run S (by omega)
    have hk2:∀ w:World,(Instr.makeSlice 175 (.int .i64 c.lines) (.int .i64 c.lines)).run Tryz.prog w=.ok (.slice (some ⟨w.heap.size,0,none⟩) N N) (w.alloc (zb N)):=by rw [HNE.out];exact zb_run N (by omega)
    have hq0:w.heap.size<W2.heap.size:=HK2.out.lt
    have HBD:=Lib.hid (((Below.refl W2.heap.size W2).drew))
    go_region
    all_goals
      go_wp2_with fail
      go_meet
      case rel=>
        first
        | exact⟨_,_,_,rfl,Lib.hid (rd_a (W:=W2.drew) (HI3.out.below (Below.refl _ _).drew) HSB.out HSE.out HNE.out hS2 hN2),Lib.hid (((HBD.out.alloc (Nat.le_refl _) _).alloc (by simp) _).alloc (by simp;omega) _)⟩
        | exact⟨_,_,_,rfl,Lib.hid (rd_b (W:=W2.drew) (HI3.out.below (Below.refl _ _).drew) HSB.out HSE.out HNE.out hS2 hN2),Lib.hid (((HBD.out.alloc (Nat.le_refl _) _).alloc (by simp) _).alloc (by simp;omega) _)⟩
  case rest=>
    obtain⟨g,gs,gl,rfl,HR,HBc⟩:=hcut
    obtain⟨W6,rfl⟩:∃ W6:World,W6=wc:=⟨_,rfl⟩
    clear n0 n1 n2 n3 n4 n5 n6 n7 n8 n9
    have HK6:=Lib.hid (HK2.out.later HBc.out)
    have HB6:=Lib.hid (HB3.out.trans (HBc.out.mono HB3.out.size))
    obtain⟨n0,n1,n2,n3,n4,n5,n6,n7,n8,n9⟩:=HK6.out.code
    go_wp2_with (first | (go_at_call 107;(with_reducible refine(allS_yes (w.heap.size+1) g c v S N gs gl _ HR.out H1.out HAA.out).mono ?_);rintro e w7 ⟨rfl,hr7,hb7⟩;have HB7:=Lib.hid (HB6.out.trans (hb7.mono (Nat.le_succ _)));have HR7:=Lib.hid hr7;have HK7:=Lib.hid (HK6.out.below hb7 (Nat.lt_succ_self _));clear hr7 hb7 n0 n1 n2 n3 n4 n5 n6 n7 n8 n9;obtain⟨n0,n1,n2,n3,n4,n5,n6,n7,n8,n9⟩:=HK7.out.code) | (go_at_call 107;(with_reducible refine(allD_yes (w.heap.size+1) g c v S N gs gl _ HR7.out H2.out).mono ?_);rintro e w8 ⟨rfl,hr8,hb8⟩;have HB8:=Lib.hid (HB7.out.trans (hb8.mono (Nat.le_succ _)));have HR8:=Lib.hid hr8;have HK8:=Lib.hid (HK7.out.below hb8 (Nat.lt_succ_self _));clear hr8 hb8 n0 n1 n2 n3 n4 n5 n6 n7 n8 n9;obtain⟨n0,n1,n2,n3,n4,n5,n6,n7,n8,n9⟩:=HK8.out.code) | (go_at_call 107;(with_reducible refine(allX_yes (w.heap.size+1) g c v S N gs gl _ HR8.out H3.out).mono ?_);rintro e w9 ⟨rfl,hr9,hb9⟩;have HB9:=Lib.hid (HB8.out.trans (hb9.mono (Nat.le_succ _)));have HR9:=Lib.hid hr9;have HK9:=Lib.hid (HK8.out.below hb9 (Nat.lt_succ_self _));clear hr9 hb9 n0 n1 n2 n3 n4 n5 n6 n7 n8 n9;obtain⟨n0,n1,n2,n3,n4,n5,n6,n7,n8,n9⟩:=HK9.out.code))
    go_ret
    exact⟨true,rfl,⟨fun _=>HRC.out,fun _=>rfl⟩,HB9.out⟩
end Go.Proofs.YtpnlbjnbgemocaaGreat
