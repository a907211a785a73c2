import Derived.Test.YtpnlbjnbgemocaaGreatZFlAToHpKN11
import Derived.Test.YtpnlbjnbgemocaaGreatZNdAToPlanMN6
import Derived.Deep.DeepCutAuto
import Derived.Test.YtpnlbjnbgemocaaGreatZNAToHpMN7
import Derived.ProofKit
import Derived.OpenShut
import Derived.ShutString
import Derived.ChangeOld
import Derived.Lib.SmallJoins
import Derived.SizedLaws
import Derived.Deep.RegionWith
namespace Go.Proofs.YtpnlbjnbgemocaaGreat
set_option linter.unusedVariables false
set_option linter.unusedSimpArgs false
set_option maxRecDepth 100000
open Go.RowKit
theorem Blk.only {w w':World}{g T:Nat}{vs:Array Value}{S:List (Option Nat)}(h:Blk w g T vs)(hb:Only S w w')(hg:some g ∉ S):Blk w' g T vs:=(hb.block g h.lt hg).trans h
structure InsAt (w:World) (B b o:Nat) (q:InsP):Prop where
  op:StrAt w B b o q.op
  dst:IntAt w B b (o+1) q.dst
  args:IsAt w B b (o+2) q.args
  k:IntAt w B b (o+3) q.k
  lit:ValAt w B b (o+4) q.lit
  guard:IntAt w B b (o+9) q.guard
  resets:IsAt w B b (o+10) q.resets
theorem InsAt.keep {w w':World}{B b o:Nat}{v:InsP}(h:InsAt w B b o v)(hb:b<B)(hk:∀ p:Addr,p.block<B→w'.cell? p=w.cell? p):InsAt w' B b o v:=
  ⟨h.op.keep hb hk,h.dst.keep hb hk,h.args.keep hb hk,h.k.keep hb hk,h.lit.keep hb hk,h.guard.keep hb hk,h.resets.keep hb hk⟩
def ics (q:InsP)(a m d r:Option Addr×Nat×Nat):Array Value:=#[.string q.op,.int .i64 q.dst,.slice a.1 a.2.1 a.2.2,.int .i64 q.k,.int .i64 q.lit.kind,.bool q.lit.neg,.slice m.1 m.2.1 m.2.2,.slice d.1 d.2.1 d.2.2,.string q.lit.name,.int .i64 q.guard,.slice r.1 r.2.1 r.2.2]
def insU (q:InsP)(a m d r:Option Addr×Nat×Nat):Value:=.agg #[.string q.op,.int .i64 q.dst,.slice a.1 a.2.1 a.2.2,.int .i64 q.k,.int .i64 q.lit.kind,.bool q.lit.neg,.slice m.1 m.2.1 m.2.2,.slice d.1 d.2.1 d.2.2,.string q.lit.name,.int .i64 q.guard,.slice r.1 r.2.1 r.2.2]
structure InsW (w:World) (B:Nat) (q:InsP) (a m d r:Option Addr×Nat×Nat):Prop where
  args:IRow w B a.1 a.2.1 a.2.2 q.args
  resets:IRow w B r.1 r.2.1 r.2.2 q.resets
  size:q.op.size≤maxLen
  dst:-9223372036854775808≤q.dst∧q.dst≤9223372036854775807
  k:-9223372036854775808≤q.k∧q.k≤9223372036854775807
  guard:-9223372036854775808≤q.guard∧q.guard≤9223372036854775807
theorem InsW.keep {w w':World}{B:Nat}{q:InsP}{a m d r:Option Addr×Nat×Nat}(h:InsW w B q a m d r)(hb:Below B w w'):InsW w' B q a m d r:=
  { h with args:=h.args.below hb,resets:=h.resets.below hb }
theorem InsAt.cells {w:World}{B b o:Nat}{q:InsP}(h:InsAt w B b o q):∃ a m d r:Option Addr×Nat×Nat,InsW w B q a m d r∧URow w B m.1 m.2.1 m.2.2 q.lit.mag∧URow w B d.1 d.2.1 d.2.2 q.lit.den∧q.lit.name.size≤maxLen ∧
    (w.cell? ⟨b,o,none⟩=some (.string q.op)∧w.cell? ⟨b,o+1,none⟩=some (.int .i64 q.dst)∧w.cell? ⟨b,o+2,none⟩=some (.slice a.1 a.2.1 a.2.2)∧w.cell? ⟨b,o+3,none⟩=some (.int .i64 q.k)∧w.cell? ⟨b,o+4,none⟩=some (.int .i64 q.lit.kind)∧w.cell? ⟨b,o+5,none⟩=some (.bool q.lit.neg)∧w.cell? ⟨b,o+6,none⟩=some (.slice m.1 m.2.1 m.2.2)∧w.cell? ⟨b,o+7,none⟩=some (.slice d.1 d.2.1 d.2.2)∧w.cell? ⟨b,o+8,none⟩=some (.string q.lit.name)∧w.cell? ⟨b,o+9,none⟩=some (.int .i64 q.guard)∧w.cell? ⟨b,o+10,none⟩=some (.slice r.1 r.2.1 r.2.2)):=by
  obtain⟨A,L,C,h1,h2⟩:=h.args
  obtain⟨A',L',C',h3,h4⟩:=h.lit.mag
  obtain⟨A'',L'',C'',h5,h6⟩:=h.lit.den
  obtain⟨A3,L3,C3,h7,h8⟩:=h.resets
  exact⟨(A,L,C),(A',L',C'),(A'',L'',C''),(A3,L3,C3),⟨h2,h8,h.op.2,h.dst.2,h.k.2,h.guard.2⟩,h4,h6,h.lit.name.2,h.op.1,h.dst.1,h1,h.k.1,h.lit.kind.1,h.lit.neg,h3,h5,h.lit.name.1,h.guard.1,h7⟩
theorem Blk.elev {w:World}{g T:Nat}{q:InsP}{a m d r:Option Addr×Nat×Nat}(h:Blk w g T (ics q a m d r)):w.cell? ⟨g,0,none⟩=some (.string q.op)∧w.cell? ⟨g,1,none⟩=some (.int .i64 q.dst)∧w.cell? ⟨g,2,none⟩=some (.slice a.1 a.2.1 a.2.2)∧w.cell? ⟨g,3,none⟩=some (.int .i64 q.k)∧w.cell? ⟨g,4,none⟩=some (.int .i64 q.lit.kind)∧w.cell? ⟨g,5,none⟩=some (.bool q.lit.neg)∧w.cell? ⟨g,6,none⟩=some (.slice m.1 m.2.1 m.2.2)∧w.cell? ⟨g,7,none⟩=some (.slice d.1 d.2.1 d.2.2)∧w.cell? ⟨g,8,none⟩=some (.string q.lit.name)∧w.cell? ⟨g,9,none⟩=some (.int .i64 q.guard)∧w.cell? ⟨g,10,none⟩=some (.slice r.1 r.2.1 r.2.2):=
  ⟨h.cell 0 rfl,h.cell 1 rfl,h.cell 2 rfl,h.cell 3 rfl,h.cell 4 rfl,h.cell 5 rfl,h.cell 6 rfl,h.cell 7 rfl,h.cell 8 rfl,h.cell 9 rfl,h.cell 10 rfl⟩
structure CodeV where
  mems:Option Addr×Nat×Nat
  conts:Option Addr×Nat×Nat
  step:Option Addr×Nat×Nat
  deriv:Option Addr×Nat×Nat
  cross:Option Addr×Nat×Nat
def cvs (c:CodeM)(v:CodeV):Array Value:=#[.int .i64 c.ins,.int .i64 c.outs,.int .i64 c.slots,.int .i64 c.crosses,.int .i64 c.lines,.slice v.mems.1 v.mems.2.1 v.mems.2.2,.slice v.conts.1 v.conts.2.1 v.conts.2.2,.slice v.step.1 v.step.2.1 v.step.2.2,.slice v.deriv.1 v.deriv.2.1 v.deriv.2.2,.slice v.cross.1 v.cross.2.1 v.cross.2.2]
def codeV (c:CodeM)(v:CodeV):Value:=.agg #[.int .i64 c.ins,.int .i64 c.outs,.int .i64 c.slots,.int .i64 c.crosses,.int .i64 c.lines,.slice v.mems.1 v.mems.2.1 v.mems.2.2,.slice v.conts.1 v.conts.2.1 v.conts.2.2,.slice v.step.1 v.step.2.1 v.step.2.2,.slice v.deriv.1 v.deriv.2.1 v.deriv.2.2,.slice v.cross.1 v.cross.2.1 v.cross.2.2]
structure CodeIs (w:World) (B:Nat) (c:CodeM) (v:CodeV):Prop where
  ins:-9223372036854775808≤c.ins∧c.ins≤9223372036854775807
  outs:-9223372036854775808≤c.outs∧c.outs≤9223372036854775807
  slots:-9223372036854775808≤c.slots∧c.slots≤9223372036854775807
  crosses:-9223372036854775808≤c.crosses∧c.crosses≤9223372036854775807
  lines:-9223372036854775808≤c.lines∧c.lines≤9223372036854775807
  mems:SRow 5 ValAt w B v.mems.1 v.mems.2.1 v.mems.2.2 c.mems
  conts:SRow 5 ValAt w B v.conts.1 v.conts.2.1 v.conts.2.2 c.conts
  step:SRow 11 InsAt w B v.step.1 v.step.2.1 v.step.2.2 c.step
  deriv:SRow 11 InsAt w B v.deriv.1 v.deriv.2.1 v.deriv.2.2 c.deriv
  cross:SRow 11 InsAt w B v.cross.1 v.cross.2.1 v.cross.2.2 c.cross
theorem CodeIs.keep {w w':World}{B:Nat}{c:CodeM}{v:CodeV}(h:CodeIs w B c v)(hk:∀ p:Addr,p.block<B→w'.cell? p=w.cell? p):CodeIs w' B c v:=
  { h with mems:=h.mems.keep fun _ _ _ q r=>r.keep q hk,conts:=h.conts.keep fun _ _ _ q r=>r.keep q hk,step:=h.step.keep fun _ _ _ q r=>r.keep q hk,deriv:=h.deriv.keep fun _ _ _ q r=>r.keep q hk,cross:=h.cross.keep fun _ _ _ q r=>r.keep q hk }
theorem CodeIs.below {w w':World}{B:Nat}{c:CodeM}{v:CodeV}(h:CodeIs w B c v)(hb:Below B w w'):CodeIs w' B c v:=h.keep fun _ hp=>hb.cell hp
theorem Blk.code {w:World}{g:Nat}{c:CodeM}{v:CodeV}(h:Blk w g 25 (cvs c v)):w.cell? ⟨g,0,none⟩=some (.int .i64 c.ins)∧w.cell? ⟨g,1,none⟩=some (.int .i64 c.outs)∧w.cell? ⟨g,2,none⟩=some (.int .i64 c.slots)∧w.cell? ⟨g,3,none⟩=some (.int .i64 c.crosses)∧w.cell? ⟨g,4,none⟩=some (.int .i64 c.lines)∧w.cell? ⟨g,5,none⟩=some (.slice v.mems.1 v.mems.2.1 v.mems.2.2)∧w.cell? ⟨g,6,none⟩=some (.slice v.conts.1 v.conts.2.1 v.conts.2.2)∧w.cell? ⟨g,7,none⟩=some (.slice v.step.1 v.step.2.1 v.step.2.2)∧w.cell? ⟨g,8,none⟩=some (.slice v.deriv.1 v.deriv.2.1 v.deriv.2.2)∧w.cell? ⟨g,9,none⟩=some (.slice v.cross.1 v.cross.2.1 v.cross.2.2):=
  ⟨h.cell 0 rfl,h.cell 1 rfl,h.cell 2 rfl,h.cell 3 rfl,h.cell 4 rfl,h.cell 5 rfl,h.cell 6 rfl,h.cell 7 rfl,h.cell 8 rfl,h.cell 9 rfl⟩
structure Rd (w:World) (B g:Nat) (c:CodeM) (v:CodeV) (S N gs gl:Nat) (W L:List Int):Prop where
  blk:Blk w g 177 #[.int .i64 c.ins,.int .i64 c.outs,.int .i64 c.slots,.int .i64 c.crosses,.int .i64 c.lines,.slice v.mems.1 v.mems.2.1 v.mems.2.2,.slice v.conts.1 v.conts.2.1 v.conts.2.2,.slice v.step.1 v.step.2.1 v.step.2.2,.slice v.deriv.1 v.deriv.2.1 v.deriv.2.2,.slice v.cross.1 v.cross.2.1 v.cross.2.2,.slice (some ⟨gs,0,none⟩) S S,.slice (some ⟨gl,0,none⟩) N N]
  is:CodeIs w B c v
  ms:BMem w gs (mkB S W)
  ml:BMem w gl (mkB N L)
  hg:B≤g
  hs:B≤gs
  hl:B≤gl
  ne:gs≠gl
  ng:g≠gs
  nl:g≠gl
  slots:c.slots=(S:Int)
  lines:c.lines=(N:Int)
  sS:S≤65536
  sN:N≤65536
section
variable {w w':World} {B g:Nat} {c:CodeM} {v:CodeV} {S N gs gl:Nat} {W L:List Int}
theorem Rd.cells (h:Rd w B g c v S N gs gl W L):w.cell? ⟨g,0,none⟩=some (.int .i64 c.ins)∧w.cell? ⟨g,1,none⟩=some (.int .i64 c.outs)∧w.cell? ⟨g,2,none⟩=some (.int .i64 c.slots)∧w.cell? ⟨g,3,none⟩=some (.int .i64 c.crosses)∧w.cell? ⟨g,4,none⟩=some (.int .i64 c.lines)∧w.cell? ⟨g,5,none⟩=some (.slice v.mems.1 v.mems.2.1 v.mems.2.2)∧w.cell? ⟨g,6,none⟩=some (.slice v.conts.1 v.conts.2.1 v.conts.2.2)∧w.cell? ⟨g,7,none⟩=some (.slice v.step.1 v.step.2.1 v.step.2.2)∧w.cell? ⟨g,8,none⟩=some (.slice v.deriv.1 v.deriv.2.1 v.deriv.2.2)∧w.cell? ⟨g,9,none⟩=some (.slice v.cross.1 v.cross.2.1 v.cross.2.2)∧w.cell? ⟨g,10,none⟩=some (.slice (some ⟨gs,0,none⟩) S S)∧w.cell? ⟨g,11,none⟩=some (.slice (some ⟨gl,0,none⟩) N N):=
  ⟨h.blk.cell 0 rfl,h.blk.cell 1 rfl,h.blk.cell 2 rfl,h.blk.cell 3 rfl,h.blk.cell 4 rfl,h.blk.cell 5 rfl,h.blk.cell 6 rfl,h.blk.cell 7 rfl,h.blk.cell 8 rfl,h.blk.cell 9 rfl,h.blk.cell 10 rfl,h.blk.cell 11 rfl⟩
theorem Rd.hB (h:Rd w B g c v S N gs gl W L):B≤w.heap.size:=Nat.le_of_lt (Nat.lt_of_le_of_lt h.hg h.blk.lt)
theorem Rd.later (h:Rd w B g c v S N gs gl W L)(hb:Below w.heap.size w w'):Rd w' B g c v S N gs gl W L:=
  { h with blk:=h.blk.later hb,is:=h.is.below (hb.mono h.hB),ms:=h.ms.below hb h.ms.lt,ml:=h.ml.below hb h.ml.lt }
theorem Rd.drew (h:Rd w B g c v S N gs gl W L):Rd w.drew B g c v S N gs gl W L:=h.later (Below.refl _ _).drew
theorem Rd.alloc (h:Rd w B g c v S N gs gl W L)(o:Obj):Rd (w.alloc o) B g c v S N gs gl W L:=h.later ((Below.refl _ _).alloc (Nat.le_refl _) o)
theorem Rd.putS (h:Rd w B g c v S N gs gl W L)(j:Nat):Rd (w.setCell ⟨gs,j,none⟩ (.bool true)) B g c v S N gs gl (W++[(j:Int)]) L:=
  { h with blk:=by unfold Blk;rw [Below.heap_setCell w _ _ g h.ng];exact h.blk
           is:=h.is.keep fun p hp=>(((Below.refl gs w).setCell (p:=⟨gs,j,none⟩) (Nat.le_refl _) (.bool true)).mono h.hs).cell hp
           ms:=by rw [←mkB_set];exact h.ms.set j true
           ml:=h.ml.setOther h.ne.symm _ }
end
end Go.Proofs.YtpnlbjnbgemocaaGreat
namespace Go.Proofs.YtpnlbjnbgemocaaGreat
set_option linter.unusedVariables false
set_option linter.unusedSimpArgs false
set_option maxRecDepth 100000
open Go.RowKit
theorem needs_t (q:FEqM)(a m d:Option Addr×Nat×Nat)(v:FlatV)(f:FlatM)(B:Nat)(w:World)(hF:FlatIs w B v f)(hrow:IRow w B a.1 a.2.1 a.2.2 q.args)(hB:B≤w.heap.size)(ha:a.2.1≤1000)
    (hk:kL q.op q.k v.ins.2.1 v.mems.2.1 v.conts.2.1 v.cross.2.1=true) (hm:∀(i:Nat) (x:MemM),f.mems[i]?=some x→x.resets.length≤1000) (hc:∀(i:Nat) (x:ContM),f.conts[i]?=some x→x.resets.length≤1000) :
    Calls Tryz.prog 118 #[flatV v,feqV q a m d] w (NeedsPost f q w):=by
  by_cases h0:q.op=bs [109,101,109]
  · have hk':plB q.k v.mems.2.1=true:=by rw [h0] at hk;exact hk
    by_cases hg:0≤q.guard
    · exact nd_0_1 q a m d v f B w hF hrow hB ha h0 hk' hm hg
    · exact nd_0_0 q a m d v f B w hF hrow hB ha h0 hk' hm (by omega)
  · by_cases h1:q.op=bs [99,111,110,116]
    · have hk':plB q.k v.conts.2.1=true:=by rw [h1] at hk;exact hk
      by_cases hg:0≤q.guard
      · exact nd_1_1 q a m d v f B w hF hrow hB ha h1 hk' hc hg
      · exact nd_1_0 q a m d v f B w hF hrow hB ha h1 hk' hc (by omega)
    · by_cases hg:0≤q.guard
      · exact nd_2_1 q a m d v f B w hF hrow hB ha h0 h1 hg
      · exact nd_2_0 q a m d v f B w hF hrow hB ha h0 h1 (by omega)
end Go.Proofs.YtpnlbjnbgemocaaGreat
namespace Go.Proofs.YtpnlbjnbgemocaaGreat
set_option linter.unusedVariables false
set_option linter.unusedSimpArgs false
set_option maxRecDepth 100000
open Go.RowKit
def ndB (G:List (List Int))(I K:Int):Bool:=decide (0≤I)&&decide (I<G.length)&&decide (0≤K)&&decide (K<G.length)&&decide (K∈G.getD I.toNat [])
theorem mem_getD {xs:List Int}{K:Int}(h:K∈xs):∃ i,i<xs.length∧xs.getD i 0=K:=by
  obtain⟨i,hi,e⟩:=List.mem_iff_getElem.1 h
  exact⟨i,hi,by simp [hi,e]⟩
theorem getD_mem {xs:List Int}{i:Nat}(h:i<xs.length):xs.getD i 0∈xs:=by simp [h]
set_option maxHeartbeats 1000000 in
theorem needs_any (a:Option Addr)(n c B:Nat)(G:List (List Int))(I K:Int)(w:World)(hg:GRow w B a n c G) :
    Calls Tryz.prog 117 #[.slice a n c,.int .i64 I,.int .i64 K] w fun e w'=>e=.returned (.bool (ndB G I K))∧w=w':=by
  have hm:=hg.len_le
  have HN:Hid (G.length=n):=hg.1
  have HG:=Lib.hid hg;clear hg
  unfold maxLen at hm
  by_cases hI0:0≤I
  rotate_left
  · have HF:Hid (ndB G I K=false):=by show _=_;unfold ndB;rw [HN.out];simp;omega
    have hI0':I<0:=by omega
    clear hI0
    go_enter Tryz.func117,Tryz.ntmps117
    go_wp2
    go_ret
    exact⟨by rw [HF.out];rfl,rfl⟩
  by_cases hI1:I<n
  rotate_left
  · have HF:Hid (ndB G I K=false):=by show _=_;unfold ndB;rw [HN.out];simp;omega
    have hI1':(n:Int)≤I:=by omega
    clear hI1
    go_enter Tryz.func117,Tryz.ntmps117
    go_wp2
    go_ret
    exact⟨by rw [HF.out];rfl,rfl⟩
  by_cases hK0:0≤K
  rotate_left
  · have HF:Hid (ndB G I K=false):=by show _=_;unfold ndB;rw [HN.out];simp;omega
    have hK0':K<0:=by omega
    clear hK0
    go_enter Tryz.func117,Tryz.ntmps117
    go_wp2
    go_ret
    exact⟨by rw [HF.out];rfl,rfl⟩
  by_cases hK1:K<n
  rotate_left
  · have HF:Hid (ndB G I K=false):=by show _=_;unfold ndB;rw [HN.out];simp;omega
    have hK1':(n:Int)≤K:=by omega
    clear hK1
    go_enter Tryz.func117,Tryz.ntmps117
    go_wp2
    go_ret
    exact⟨by rw [HF.out];rfl,rfl⟩
  obtain⟨i,rfl⟩:∃ i:Nat,I=(i:Int):=⟨I.toNat,by omega⟩
  have hi:i<n:=by omega
  obtain⟨b,off,A,L,C,rfl,hb,hcell,hrow⟩:=HG.out.at_ hi
  have hL:=hrow.len_le
  unfold maxLen at hL
  have HL:Hid ((G.getD i []).length=L):=hrow.1
  have HR:=Lib.hid hrow;clear hrow
  have HB:Hid (ndB G (i:Int) K=decide (K∈G.getD i [])):=by show _=_;unfold ndB;rw [HN.out];simp;omega
  go_enter Tryz.func117,Tryz.ntmps117
  go_wp2
  go_loop [7] (fun t=>∃ k:Nat,k≤L∧t=.int .i64 k∧Hid (∀ j,j<k→(G.getD i []).getD j 0≠K)) (fun t=>L-(intOf t).toNat)
  case atStart=>exact⟨0,Nat.zero_le _,rfl,fun i hi=>by omega⟩
  case round=>
    obtain⟨k,hk,rfl,hz⟩:=hrel
    by_cases hlt:k<L
    · obtain⟨b2,off2,rfl,hb2,hcell2⟩:=HR.out.at_ hlt
      obtain⟨X,hX⟩:∃ X,X=(G.getD i []).getD k 0:=⟨_,rfl⟩
      rw [←hX] at hcell2
      have HX:=Lib.hid hX;clear hX
      by_cases hXK:X=K
      · have hXK':(X==K)=true:=by simpa using hXK
        have HE:Hid (ndB G (i:Int) K=true):=by
          show _=_
          rw [HB.out,decide_eq_true_eq,←hXK,HX.out]
          exact getD_mem (by rw [HL.out];exact hlt)
        have HXK:=Lib.hid hXK;clear hXK
        go_wp2
        go_ret
        exact⟨by rw [HE.out];rfl,rfl⟩
      · have hXK':(X==K)=false:=by simpa using hXK
        have HXK:=Lib.hid hXK;clear hXK
        go_wp2
        go_round
        case rel=>exact⟨k+1,by omega,by go_num,fun j hj=>if h:j=k then by rw [h,←HX.out];exact HXK.out else hz.out j (by omega)⟩
        case measure=>simp [intOf];omega
    · have HE:Hid (ndB G (i:Int) K=false):=by
        show _=_
        rw [HB.out,decide_eq_false_iff_not]
        intro hmem
        obtain⟨j,hj,e⟩:=mem_getD hmem
        exact hz.out j (by have:=HL.out;omega) e
      go_wp2
      go_ret
      exact⟨by rw [HE.out];rfl,rfl⟩
end Go.Proofs.YtpnlbjnbgemocaaGreat
namespace Go.Proofs.YtpnlbjnbgemocaaGreat
set_option linter.unusedVariables false
set_option linter.unusedSimpArgs false
set_option maxRecDepth 100000
open Go.RowKit
theorem asksB_mem {f:FlatM}:∀(l:List COpM) (i k:Nat) (o:COpM),l[k]?=some o→asksB f i l=true→askB f (i+k) o=true:=by
  intro l
  induction l with
  | nil=>intro i k o h;simp at h
  | cons a l ih=>
    intro i k o h ha
    unfold asksB at ha
    rw [Bool.and_eq_true] at ha
    cases k with
    | zero=>simp at h;subst h;exact ha.1
    | succ k=>have:=ih (i+1) k o (by simpa using h) ha.2;rwa [show i+1+k=i+(k+1) by omega] at this
theorem goodB_parts {f:FlatM}(hg:goodB f=true):(∀ x∈f.outs,plB x f.names.length=true)∧(∀ x∈f.again,plB x f.names.length=true)∧(∀ m∈f.mems,memB f m=true)∧(∀ c∈f.conts,contB f c=true)∧(∀ c∈f.cross,crossB f c=true):=by
  unfold goodB at hg
  rw [Bool.and_eq_true,Bool.and_eq_true,Bool.and_eq_true] at hg
  obtain⟨⟨⟨h1,h2⟩,h3⟩,h4⟩:=hg
  unfold keptB at h3
  rw [Bool.and_eq_true,Bool.and_eq_true,Bool.and_eq_true] at h3
  obtain⟨⟨⟨k1,k2⟩,k3⟩,k4⟩:=h3
  exact⟨List.all_eq_true.1 k1,List.all_eq_true.1 k2,List.all_eq_true.1 k3,List.all_eq_true.1 k4,List.all_eq_true.1 h4⟩
theorem good_cop {f:FlatM}(hg:goodB f=true){i j:Nat}{x:CrossM}{y:COpM}(hx:f.cross[i]?=some x)(hy:x.ops[j]?=some y)(ho:y.op=copVar∨y.op=copSel):0<y.args.length∧plB (y.args.getD 0 0) f.names.length=true:=by
  have h1:=(goodB_parts hg).2.2.2.2 x (List.mem_of_getElem? hx)
  unfold crossB at h1
  rw [Bool.and_eq_true,Bool.and_eq_true] at h1
  have h2:=asksB_mem x.ops 0 j y hy h1.2.2
  unfold askB askL at h2
  have e1:copVar≠copCont:=by decide
  rcases ho with h | h
  · rw [if_pos h,Bool.and_eq_true] at h2
    have hl:y.args.length=1:=by simpa using h2.1
    refine⟨by omega, ?_⟩
    have:=List.all_eq_true.1 h2.2 (y.args.getD 0 0) (by simp [hl])
    exact this
  · rw [h] at h2
    have h2':(y.args.length==3&&(wiB (y.args.take 1) f.names.length&&wiB (y.args.drop 1) (0+j)))=true:=h2
    rw [Bool.and_eq_true,Bool.and_eq_true] at h2'
    have hl:y.args.length=3:=by simpa using h2'.1
    refine⟨by omega, ?_⟩
    refine List.all_eq_true.1 h2'.2.1 (y.args.getD 0 0) ?_
    match hargs:y.args,hl with
    | a::l,_=>simp
theorem guB_lt {g:Int}{n:Nat}(h:guB g n=true):g<(n:Int):=by simpa [guB] using h
theorem endL_lt {f:FlatM}(hg:goodB f=true):∀ x∈endL f,x<(f.names.length:Int):=by
  obtain⟨p1,p2,p3,p4,p5⟩:=goodB_parts hg
  have wi:∀ {l:List Int},wiB l f.names.length=true→∀ x∈l,x<(f.names.length:Int):=fun h x hx=>(plB_yes (List.all_eq_true.1 h x hx)).2
  intro x hx
  unfold endL outsE memsE contsE crosE at hx
  rw [List.mem_append,List.mem_append,List.mem_append,List.mem_append] at hx
  rcases hx with (((hx | hx) | hx) | hx) | hx
  · exact(plB_yes (p1 x hx)).2
  · exact(plB_yes (p2 x hx)).2
  · obtain⟨m,hm,hx⟩:=List.mem_flatMap.1 hx
    have h:=p3 m (List.mem_of_mem_take hm)
    unfold memB at h
    rw [Bool.and_eq_true,Bool.and_eq_true] at h
    unfold memE at hx
    rw [List.mem_append] at hx
    rcases hx with hx | hx
    · simp at hx
      rcases hx with rfl | rfl
      · exact(plB_yes h.1.1).2
      · exact guB_lt h.1.2
    · exact wi h.2 x hx
  · obtain⟨c,hc,hx⟩:=List.mem_flatMap.1 hx
    have h:=p4 c (List.mem_of_mem_take hc)
    unfold contB at h
    rw [Bool.and_eq_true,Bool.and_eq_true,Bool.and_eq_true] at h
    unfold contE at hx
    rw [List.mem_append,List.mem_append] at hx
    rcases hx with (hx | hx) | hx
    · simp at hx
      rcases hx with rfl | rfl
      · exact(plB_yes h.1.1.1).2
      · exact guB_lt h.1.1.2
    · exact wi h.1.2 x hx
    · obtain⟨s,hs,hx⟩:=List.mem_flatMap.1 hx
      have h2:=List.all_eq_true.1 h.2 s hs
      unfold slopeB at h2
      rw [Bool.and_eq_true] at h2
      simp at hx
      rcases hx with rfl | rfl
      · exact guB_lt h2.1
      · exact(plB_yes h2.2).2
  · obtain⟨c,hc,hx⟩:=List.mem_flatMap.1 hx
    obtain⟨i,hi⟩:=List.mem_iff_getElem?.1 (List.mem_of_mem_take hc)
    have h:=p5 c (List.mem_of_mem_take hc)
    unfold crossB at h
    rw [Bool.and_eq_true] at h
    unfold crossE at hx
    rw [List.mem_append] at hx
    rcases hx with hx | hx
    · simp at hx;subst hx;exact guB_lt h.1
    · obtain⟨o,ho,hx⟩:=List.mem_flatMap.1 hx
      obtain⟨j,hj⟩:=List.mem_iff_getElem?.1 ho
      unfold copE at hx
      by_cases hop:o.op=copVar∨o.op=copSel
      · rw [if_pos hop] at hx
        simp at hx
        have:=(good_cop hg hi hj hop).2
        rw [show x=o.args.getD 0 0 by simpa using hx]
        exact(plB_yes this).2
      · rw [if_neg hop] at hx;simp at hx
def endB (f:FlatM):List Bool:=(List.range f.names.length).map fun(v:Nat)=>decide ((v:Int)∈endL f)
def EMarks (N:Nat)(l:List Int)(k:Nat)(bs:List Bool):Prop:=bs.length=N∧∀ j,j<N→bs.getD j false=decide ((j:Int)∈l.take k)
theorem EMarks.start (N:Nat)(l:List Int):EMarks N l 0 (List.replicate N false):=⟨by simp,fun j hj=>by simp [hj]⟩
theorem EMarks.step {N:Nat}{l:List Int}{k:Nat}{x:Int}{bs:List Bool}(h:EMarks N l k bs)(hx:l[k]?=some x)(j:Nat)(e:x=(j:Int)):EMarks N l (k+1) (bs.set j true):=by
  refine⟨by rw [List.length_set];exact h.1,fun i hi=>?_⟩
  rw [List.take_add_one,hx]
  by_cases hij:i=j
  · subst hij
    have:(bs.set i true).getD i false=true:=by simp [h.1,hi]
    rw [this,eq_comm,decide_eq_true_eq,e];simp
  · have:(bs.set j true).getD i false=bs.getD i false:=by simp [List.getElem?_set,Ne.symm hij]
    rw [this,h.2 i hi,decide_eq_decide,List.mem_append]
    constructor
    · exact .inl
    · rintro(h | h)
      · exact h
      · simp at h;omega
theorem EMarks.skip {N:Nat}{l:List Int}{k:Nat}{x:Int}{bs:List Bool}(h:EMarks N l k bs)(hx:l[k]?=some x)(e:x<0):EMarks N l (k+1) bs:=by
  refine⟨h.1,fun i hi=>?_⟩
  rw [List.take_add_one,hx,h.2 i hi,decide_eq_decide,List.mem_append]
  constructor
  · exact .inl
  · rintro(h | h)
    · exact h
    · simp at h;omega
theorem EMarks.done {f:FlatM}{n:Nat}{bs:List Bool}(h:EMarks f.names.length (endL f) n bs)(hn:(endL f).length=n):bs=endB f:=by
  apply List.ext_getElem?
  intro i
  unfold endB
  by_cases hi:i<f.names.length
  · have:=h.2 i hi
    rw [List.take_of_length_le (by omega)] at this
    have hb:i<bs.length:=by rw [h.1];exact hi
    rw [List.getElem?_eq_getElem hb,List.getElem?_map,List.getElem?_range hi]
    simp [List.getD,List.getElem?_eq_getElem hb] at this
    simp [this]
  · rw [List.getElem?_eq_none (by rw [h.1];omega),List.getElem?_eq_none (by simp;omega)]
def EndPost (f:FlatM)(w:World)(e:Ending)(w':World):Prop:=
  ∃ g,e=.returned (.slice (some ⟨g,0,none⟩) f.names.length f.names.length)∧BMem w' g (endB f)∧w.heap.size≤g∧Below w.heap.size w w'
end Go.Proofs.YtpnlbjnbgemocaaGreat
namespace Go.Proofs.YtpnlbjnbgemocaaGreat
set_option linter.unusedVariables false
set_option linter.unusedSimpArgs false
set_option maxRecDepth 100000
open Go.RowKit
def memvs (x:MemM)(m d r:Option Addr×Nat×Nat):Array Value:=#[.int .i64 x.init.kind,.bool x.init.neg,.slice m.1 m.2.1 m.2.2,.slice d.1 d.2.1 d.2.2,.string x.init.name,.int .i64 x.next,.int .i64 x.guard,.slice r.1 r.2.1 r.2.2]
theorem MemAt.cells {w:World}{B b o:Nat}{x:MemM}(h:MemAt w B b o x):∃ m d r:Option Addr×Nat×Nat,URow w B m.1 m.2.1 m.2.2 x.init.mag∧URow w B d.1 d.2.1 d.2.2 x.init.den∧IRow w B r.1 r.2.1 r.2.2 x.resets∧(w.cell? ⟨b,o,none⟩=some (.int .i64 x.init.kind)∧w.cell? ⟨b,o+1,none⟩=some (.bool x.init.neg)∧w.cell? ⟨b,o+2,none⟩=some (.slice m.1 m.2.1 m.2.2)∧w.cell? ⟨b,o+3,none⟩=some (.slice d.1 d.2.1 d.2.2)∧w.cell? ⟨b,o+4,none⟩=some (.string x.init.name)∧w.cell? ⟨b,o+5,none⟩=some (.int .i64 x.next)∧w.cell? ⟨b,o+6,none⟩=some (.int .i64 x.guard)∧w.cell? ⟨b,o+7,none⟩=some (.slice r.1 r.2.1 r.2.2)):=by
  obtain⟨A1,L1,C1,p1,q1⟩:=h.init.mag
  obtain⟨A2,L2,C2,p2,q2⟩:=h.init.den
  obtain⟨A3,L3,C3,p3,q3⟩:=h.resets
  exact⟨(A1,L1,C1),(A2,L2,C2),(A3,L3,C3),q1,q2,q3,h.init.kind.1,h.init.neg,p1,p2,h.init.name.1,h.next.1,h.guard.1,p3⟩
theorem SlopeAt.cells {w:World}{B b o:Nat}{x:SlopeM}(h:SlopeAt w B b o x):(w.cell? ⟨b,o,none⟩=some (.int .i64 x.guard)∧w.cell? ⟨b,o+1,none⟩=some (.int .i64 x.var)):=by
  exact⟨h.guard.1,h.var.1⟩
def contvs (x:ContM)(m d r s:Option Addr×Nat×Nat):Array Value:=#[.int .i64 x.init.kind,.bool x.init.neg,.slice m.1 m.2.1 m.2.2,.slice d.1 d.2.1 d.2.2,.string x.init.name,.int .i64 x.var,.int .i64 x.guard,.slice r.1 r.2.1 r.2.2,.slice s.1 s.2.1 s.2.2]
theorem Blk.cont {w:World}{g T:Nat}{x:ContM}{m d r s:Option Addr×Nat×Nat}(h:Blk w g T (contvs x m d r s)):w.cell? ⟨g,0,none⟩=some (.int .i64 x.init.kind)∧w.cell? ⟨g,1,none⟩=some (.bool x.init.neg)∧w.cell? ⟨g,2,none⟩=some (.slice m.1 m.2.1 m.2.2)∧w.cell? ⟨g,3,none⟩=some (.slice d.1 d.2.1 d.2.2)∧w.cell? ⟨g,4,none⟩=some (.string x.init.name)∧w.cell? ⟨g,5,none⟩=some (.int .i64 x.var)∧w.cell? ⟨g,6,none⟩=some (.int .i64 x.guard)∧w.cell? ⟨g,7,none⟩=some (.slice r.1 r.2.1 r.2.2)∧w.cell? ⟨g,8,none⟩=some (.slice s.1 s.2.1 s.2.2):=
  ⟨h.cell 0 rfl,h.cell 1 rfl,h.cell 2 rfl,h.cell 3 rfl,h.cell 4 rfl,h.cell 5 rfl,h.cell 6 rfl,h.cell 7 rfl,h.cell 8 rfl⟩
theorem ContAt.cells {w:World}{B b o:Nat}{x:ContM}(h:ContAt w B b o x):∃ m d r s:Option Addr×Nat×Nat,URow w B m.1 m.2.1 m.2.2 x.init.mag∧URow w B d.1 d.2.1 d.2.2 x.init.den∧IRow w B r.1 r.2.1 r.2.2 x.resets∧SRow 2 SlopeAt w B s.1 s.2.1 s.2.2 x.slopes∧(w.cell? ⟨b,o,none⟩=some (.int .i64 x.init.kind)∧w.cell? ⟨b,o+1,none⟩=some (.bool x.init.neg)∧w.cell? ⟨b,o+2,none⟩=some (.slice m.1 m.2.1 m.2.2)∧w.cell? ⟨b,o+3,none⟩=some (.slice d.1 d.2.1 d.2.2)∧w.cell? ⟨b,o+4,none⟩=some (.string x.init.name)∧w.cell? ⟨b,o+5,none⟩=some (.int .i64 x.var)∧w.cell? ⟨b,o+6,none⟩=some (.int .i64 x.guard)∧w.cell? ⟨b,o+7,none⟩=some (.slice r.1 r.2.1 r.2.2)∧w.cell? ⟨b,o+8,none⟩=some (.slice s.1 s.2.1 s.2.2)):=by
  obtain⟨A1,L1,C1,p1,q1⟩:=h.init.mag
  obtain⟨A2,L2,C2,p2,q2⟩:=h.init.den
  obtain⟨A3,L3,C3,p3,q3⟩:=h.resets
  obtain⟨A4,L4,C4,p4,q4⟩:=h.slopes
  exact⟨(A1,L1,C1),(A2,L2,C2),(A3,L3,C3),(A4,L4,C4),q1,q2,q3,q4,h.init.kind.1,h.init.neg,p1,p2,h.init.name.1,h.var.1,h.guard.1,p3,p4⟩
def copvs (x:COpM)(r:Option Addr×Nat×Nat):Array Value:=#[.string x.op,.slice r.1 r.2.1 r.2.2]
theorem COpAt.cells {w:World}{B b o:Nat}{x:COpM}(h:COpAt w B b o x):∃ r:Option Addr×Nat×Nat,IRow w B r.1 r.2.1 r.2.2 x.args∧(w.cell? ⟨b,o,none⟩=some (.string x.op)∧w.cell? ⟨b,o+1,none⟩=some (.slice r.1 r.2.1 r.2.2)):=by
  obtain⟨A1,L1,C1,p1,q1⟩:=h.args
  exact⟨(A1,L1,C1),q1,h.op.1,p1⟩
theorem CrossAt.cells {w:World}{B b o:Nat}{x:CrossM}(h:CrossAt w B b o x):∃ r:Option Addr×Nat×Nat,SRow 2 COpAt w B r.1 r.2.1 r.2.2 x.ops∧(w.cell? ⟨b,o,none⟩=some (.int .i64 x.guard)∧w.cell? ⟨b,o+1,none⟩=some (.slice r.1 r.2.1 r.2.2)):=by
  obtain⟨A1,L1,C1,p1,q1⟩:=h.ops
  exact⟨(A1,L1,C1),q1,h.guard.1,p1⟩
structure St (W0:World) (B g e T:Nat) (v:FlatV) (f:FlatM) (vs:Array Value) (P:World→Prop) (W:World):Prop where
  fb:Blk W g 83 (fvs v)
  qb:Blk W e T vs
  is:FlatIs W B v f
  row:P W
  old:Below (g+1) W0 W
  le:B≤g
  keep:∀ W W',Below B W W'→P W→P W'
theorem St.later {W0 W W':World}{B g e T:Nat}{v:FlatV}{f:FlatM}{vs:Array Value}{P:World→Prop}(h:St W0 B g e T v f vs P W)(hb:Below W.heap.size W W'):St W0 B g e T v f vs P W':=
  have hl:=h.fb.lt
  have hB:B≤W.heap.size:=Nat.le_trans h.le (Nat.le_of_lt hl)
  ⟨h.fb.later hb,h.qb.later hb,h.is.below (hb.mono hB),h.keep _ _ (hb.mono hB) h.row,h.old.trans (hb.mono hl),h.le,h.keep⟩
theorem St.hB {W0 W:World}{B g e T:Nat}{v:FlatV}{f:FlatM}{vs:Array Value}{P:World→Prop}(h:St W0 B g e T v f vs P W):B≤W.heap.size:=Nat.le_trans h.le (Nat.le_of_lt h.fb.lt)
theorem St.new {W0 W:World}{B g T:Nat}{v:FlatV}{f:FlatM}(vs:Array Value){P:World→Prop}(hfb:Blk W g 83 (fvs v))(his:FlatIs W B v f)(ho:Below (g+1) W0 W)(hB:B≤g)(hk:∀ W W',Below B W W'→P W→P W')(hp:P W) :
    St W0 B g W.heap.size T v f vs P (W.alloc (.cells vs T)):=
  have hnew:Below W.heap.size W (W.alloc (.cells vs T)):=(Below.refl _ _).alloc (Nat.le_refl _) _
  have hB':B≤W.heap.size:=Nat.le_trans hB (Nat.le_of_lt hfb.lt)
  ⟨hfb.later hnew,Blk.new _ _ _,his.below (hnew.mono hB'),hk _ _ (hnew.mono hB') hp,ho.trans (hnew.mono hfb.lt),hB,hk⟩
end Go.Proofs.YtpnlbjnbgemocaaGreat
namespace Go.Proofs.YtpnlbjnbgemocaaGreat
set_option linter.unusedVariables false
set_option linter.unusedSimpArgs false
set_option maxRecDepth 100000
open Go.RowKit
theorem keptB_mems {f:FlatM}(h:f.mems.all (memB f)=false):keptB f=false:=by unfold keptB;rw [h];simp
theorem keptB_conts {f:FlatM}(h:f.conts.all (contB f)=false):keptB f=false:=by unfold keptB;rw [h];simp
end Go.Proofs.YtpnlbjnbgemocaaGreat
namespace Go.Proofs.YtpnlbjnbgemocaaGreat

end Go.Proofs.YtpnlbjnbgemocaaGreat
namespace Go.Proofs.YtpnlbjnbgemocaaGreat
set_option linter.unusedVariables false
set_option linter.unusedSimpArgs false
set_option maxRecDepth 100000
open Go.RowKit
def plc (l:List Int)(x:Int):Int:=match l.findIdx? (fun y=>y==x) with
  | some i=>(i:Int)
  | none=>-1
theorem plc_yes {l:List Int}{k:Nat}{x:Int}(hx:l[k]?=some x)(hn:∀ y∈l.take k,y≠x):plc l x=(k:Int):=by
  have:l.findIdx? (fun y=>y==x)=some k:=by
    rw [List.findIdx?_eq_some_iff_getElem]
    have hk:k<l.length:=(List.getElem?_eq_some_iff.1 hx).1
    refine⟨hk,by rw [(List.getElem?_eq_some_iff.1 hx).2];simp,fun j hj=>?_⟩
    have:=hn (l[j]'(by omega)) (by rw [List.mem_take_iff_getElem];exact⟨j,by omega,rfl⟩)
    simpa using this
  unfold plc;rw [this]
theorem plc_no {l:List Int}{x:Int}(hn:∀ y∈l,y≠x):plc l x=-1:=by
  have:l.findIdx? (fun y=>y==x)=none:=by
    rw [List.findIdx?_eq_none_iff]
    intro y hy;simpa using hn y hy
  unfold plc;rw [this]
set_option maxHeartbeats 400000 in
theorem place_t (a:Option Addr)(n c B:Nat)(xs:List Int)(X:Int)(w:World)(hr:IRow w B a n c xs) :
    Calls Tryz.prog 120 #[.slice a n c,.int .i64 X] w fun e w'=>e=.returned (.int .i64 (plc xs X))∧w=w':=by
  have hm:=hr.len_le
  have HR:=Lib.hid hr;clear hr
  unfold maxLen at hm
  go_enter Tryz.func120,Tryz.ntmps120
  go_wp2
  go_loop [5] (fun t=>∃ k:Nat,k≤n∧t=.int .i64 k∧Hid (∀ y∈xs.take k,y≠X)) (fun t=>n-(intOf t).toNat)
  case atStart=>exact⟨0,Nat.zero_le _,rfl,Lib.hid (fun y hy=>by simp at hy)⟩
  case round=>
    obtain⟨k,hk,rfl,hz⟩:=hrel
    by_cases hlt:k<n
    · obtain⟨g,off,rfl,hg,hcell⟩:=HR.out.at_ hlt
      have HX:=Lib.hid (irow_get HR.out hlt)
      obtain⟨Y,hY⟩:∃ Y,xs.getD k 0=Y:=⟨_,rfl⟩
      rw [hY] at hcell HX
      clear hY
      by_cases hp:Y=X
      · have hpe:(Y==X)=true:=by rw [beq_iff_eq];exact hp
        have HP:Hid (plc xs X=(k:Int)):=Lib.hid (plc_yes (by rw [HX.out,hp]) hz.out)
        clear hp
        go_wp2
        go_ret
        exact⟨by rw [HP.out];first | rfl | simp,rfl⟩
      · have hpe:(Y==X)=false:=by rw [beq_eq_false_iff_ne];exact hp
        have HP:=Lib.hid hp;clear hp
        go_wp2
        go_round
        case rel=>exact⟨k+1,by omega,by go_num,Lib.hid (fun y hy=>by
          rw [List.take_add_one,HX.out] at hy
          rw [List.mem_append] at hy
          rcases hy with hy | hy
          · exact hz.out y hy
          · simp at hy;subst hy;exact HP.out)⟩
        case measure=>simp [intOf];omega
    · have HP:Hid (plc xs X=-1):=Lib.hid (plc_no (fun y hy=>hz.out y (by rwa [List.take_of_length_le (by rw [HR.out.1];omega)])))
      go_wp2
      go_ret
      exact⟨by rw [HP.out];first | rfl | simp,rfl⟩
end Go.Proofs.YtpnlbjnbgemocaaGreat
namespace Go.Proofs.YtpnlbjnbgemocaaGreat
set_option linter.unusedVariables false
set_option linter.unusedSimpArgs false
set_option maxRecDepth 100000
open Go.RowKit Go.Lib
end Go.Proofs.YtpnlbjnbgemocaaGreat
namespace Go.Proofs.YtpnlbjnbgemocaaGreat
set_option linter.unusedVariables false
set_option linter.unusedSimpArgs false
set_option maxRecDepth 100000
open Go.ChangeShapes Go.WideShapes Go.ChangeAt Go.RowKit Go.Joins
section
variable {w:World} {b o:Nat} {ds:List Value}
end
end Go.Proofs.YtpnlbjnbgemocaaGreat
namespace Go.Proofs.YtpnlbjnbgemocaaGreat
set_option linter.unusedVariables false
set_option linter.unusedSimpArgs false
set_option maxRecDepth 100000
open Go.RowKit
theorem inB_no {i n:Int}(h:inB i n=false):i<0∨n≤i:=by
  unfold inB at h
  simp at h
  omega
theorem isPlace_t (i n:Int)(b:Bool)(w:World)(h:inB i n=b) :
    Calls Tryz.prog 175 #[.int .i64 i,.int .i64 n] w fun e w'=>e=.returned (.bool b)∧w'=w:=by
  cases b with
  | true=>
    obtain⟨j,rfl,h1⟩:=inB_yes h
    clear h
    go_enter Tryz.func175,Tryz.ntmps175
    go_wp2
    go_ret
    exact⟨rfl,rfl⟩
  | false=>
    have h':=inB_no h
    clear h
    by_cases h0:i<0
    · go_enter Tryz.func175,Tryz.ntmps175
      go_wp2
      go_ret
      exact⟨rfl,rfl⟩
    · have h1:n≤i:=by omega
      have h0':0≤i:=by omega
      have h2:decide (i<n)=false:=by rw [decide_eq_false_iff_not];omega
      clear h' h0
      go_enter Tryz.func175,Tryz.ntmps175
      go_wp2
      go_ret
      exact⟨by first | rfl | rw [h2],rfl⟩
theorem isCount_t (i:Int)(b:Bool)(w:World)(h:cntB i=b) :
    Calls Tryz.prog 106 #[.int .i64 i] w fun e w'=>e=.returned (.bool b)∧w'=w:=by
  have h':=h
  unfold cntB at h'
  by_cases h0:0≤i
  · have g0:decide (0≤i)=true:=decide_eq_true h0
    rw [g0,Bool.true_and] at h'
    clear h
    go_enter Tryz.func106,Tryz.ntmps106
    go_wp2
    go_ret
    exact⟨by first | rfl | rw [h'],rfl⟩
  · have h2:decide (0≤i)=false:=by rw [decide_eq_false_iff_not];exact h0
    rw [h2,Bool.false_and] at h'
    subst h'
    have h3:i<0:=by omega
    clear h h0
    go_enter Tryz.func106,Tryz.ntmps106
    go_wp2
    go_ret
    exact⟨rfl,rfl⟩
set_option maxHeartbeats 1000000 in
theorem written_t (gs S:Nat)(W:List Int)(i:Int)(b:Bool)(w:World)(hm:BMem w gs (mkB S W))(hS:S≤65536)(h:wrB S W i=b) :
    Calls Tryz.prog 153 #[.slice (some ⟨gs,0,none⟩) S S,.int .i64 i] w fun e w'=>e=.returned (.bool b)∧w'=w:=by
  have HM:=Lib.hid hm
  cases hb:inB i S with
  | false=>
    rw [wrB_no hb] at h
    subst h
    have HB:=Lib.hid hb
    clear hm hb
    go_enter Tryz.func153,Tryz.ntmps153
    go_wp2_with (go_at_call 175;refine(isPlace_t i (S:Int) false _ HB.out).mono ?_;rintro e w1 ⟨rfl,rfl⟩)
    go_ret
    exact⟨rfl,rfl⟩
  | true=>
    obtain⟨j,rfl,h1⟩:=inB_yes hb
    have HB:=Lib.hid hb
    rw [wrB_at h1] at h
    have hj:j<S:=by omega
    have hc:=hm.cell j (by rw [mkB_len];exact hj)
    rw [mkB_get hj,h] at hc
    clear hm hb h
    go_enter Tryz.func153,Tryz.ntmps153
    go_wp2_with (go_at_call 175;refine(isPlace_t (j:Int) (S:Int) true _ HB.out).mono ?_;rintro e w1 ⟨rfl,rfl⟩)
    go_ret
    exact⟨rfl,rfl⟩
theorem mayGuard_t (gs S:Nat)(W:List Int)(i:Int)(b:Bool)(w:World)(hm:BMem w gs (mkB S W))(hS:S≤65536)(h:gdB S W i=b) :
    Calls Tryz.prog 152 #[.slice (some ⟨gs,0,none⟩) S S,.int .i64 i] w fun e w'=>e=.returned (.bool b)∧w'=w:=by
  have HM:=Lib.hid hm
  by_cases h0:i<0
  · have:b=true:=by rw [←h];unfold gdB;simp [h0]
    subst this
    clear hm h
    go_enter Tryz.func152,Tryz.ntmps152
    go_wp2
    go_ret
    exact⟨rfl,rfl⟩
  · have HB:Hid (wrB S W i=b):=Lib.hid (by rw [←h];unfold gdB;simp [h0])
    have g0:0≤i:=by omega
    have g1:decide (i<0)=false:=by rw [decide_eq_false_iff_not];exact h0
    clear hm h h0
    go_enter Tryz.func152,Tryz.ntmps152
    go_wp2_with (go_at_call 153;refine(written_t gs S W i b _ HM.out hS HB.out).mono ?_;rintro e w1 ⟨rfl,rfl⟩)
    go_ret
    exact⟨by first | rfl | (rw [g1];rfl),rfl⟩
theorem write_yes (gs S:Nat)(W:List Int)(j:Nat)(w:World)(hm:BMem w gs (mkB S W))(hS:S≤65536)(h:inB (j:Int) S=true) :
    Calls Tryz.prog 155 #[.slice (some ⟨gs,0,none⟩) S S,.int .i64 (j:Int)] w fun e w'=>e=.returned (.bool true)∧w'=w.setCell ⟨gs,j,none⟩ (.bool true):=by
  have HB:=Lib.hid h
  obtain⟨k,hk,h1⟩:=inB_yes h
  have hj:j<S:=by omega
  have hc:=hm.cell j (by rw [mkB_len];exact hj)
  have hf:=hm.free j
  clear h hm hk
  go_enter Tryz.func155,Tryz.ntmps155
  go_wp2_with (go_at_call 175;refine(isPlace_t (j:Int) (S:Int) true _ HB.out).mono ?_;rintro e w1 ⟨rfl,rfl⟩)
  go_ret
  exact⟨rfl,rfl⟩
theorem isEnd_0 (op:ByteArray)(w:World)(h:op=bs [107,101,101,112]):Calls Tryz.prog 154 #[.string op] w fun e w'=>e=.returned (.bool (isEnd op))∧w'=w:=by
  have HE:Hid (isEnd (bs [107,101,101,112])=true):=Lib.hid (by unfold isEnd;decide)
  subst h
  unfold bs at HE ⊢
  go_enter Tryz.func154,Tryz.ntmps154
  go_wp2
  go_ret
  exact⟨by rw [HE.out];rfl,rfl⟩
theorem isEnd_1 (op:ByteArray)(w:World)(h:op=bs [115,116,97,116,101]):Calls Tryz.prog 154 #[.string op] w fun e w'=>e=.returned (.bool (isEnd op))∧w'=w:=by
  have HE:Hid (isEnd (bs [115,116,97,116,101])=true):=Lib.hid (by unfold isEnd;decide)
  subst h
  unfold bs at HE ⊢
  go_enter Tryz.func154,Tryz.ntmps154
  go_wp2
  go_ret
  exact⟨by rw [HE.out];rfl,rfl⟩
theorem isEnd_2 (op:ByteArray)(w:World)(h:op=bs [111,117,116]):Calls Tryz.prog 154 #[.string op] w fun e w'=>e=.returned (.bool (isEnd op))∧w'=w:=by
  have HE:Hid (isEnd (bs [111,117,116])=true):=Lib.hid (by unfold isEnd;decide)
  subst h
  unfold bs at HE ⊢
  go_enter Tryz.func154,Tryz.ntmps154
  go_wp2
  go_ret
  exact⟨by rw [HE.out];rfl,rfl⟩
theorem isEnd_3 (op:ByteArray)(w:World)(h:op=bs [97,103,97,105,110]):Calls Tryz.prog 154 #[.string op] w fun e w'=>e=.returned (.bool (isEnd op))∧w'=w:=by
  have HE:Hid (isEnd (bs [97,103,97,105,110])=true):=Lib.hid (by unfold isEnd;decide)
  subst h
  unfold bs at HE ⊢
  go_enter Tryz.func154,Tryz.ntmps154
  go_wp2
  go_ret
  exact⟨by rw [HE.out];rfl,rfl⟩
theorem isEnd_none (op:ByteArray)(w:World)(h0:¬ op=bs [107,101,101,112])(h1:¬ op=bs [115,116,97,116,101])(h2:¬ op=bs [111,117,116])(h3:¬ op=bs [97,103,97,105,110]):Calls Tryz.prog 154 #[.string op] w fun e w'=>e=.returned (.bool (isEnd op))∧w'=w:=by
  have HE:Hid (isEnd op=false):=Lib.hid (by unfold isEnd hasOp opsEnd;simp [h0,h1,h2,h3])
  have g0:=str_no h0;clear h0
  have g1:=str_no h1;clear h1
  have g2:=str_no h2;clear h2
  have g3:=str_no h3;clear h3
  go_enter Tryz.func154,Tryz.ntmps154
  go_wp2
  go_ret
  exact⟨by rw [HE.out];rfl,rfl⟩
theorem isEnd_t (op:ByteArray)(w:World):Calls Tryz.prog 154 #[.string op] w fun e w'=>e=.returned (.bool (isEnd op))∧w'=w:=by
  by_cases h0:op=bs [107,101,101,112]
  · exact isEnd_0 op w h0
  by_cases h1:op=bs [115,116,97,116,101]
  · exact isEnd_1 op w h1
  by_cases h2:op=bs [111,117,116]
  · exact isEnd_2 op w h2
  by_cases h3:op=bs [97,103,97,105,110]
  · exact isEnd_3 op w h3
  exact isEnd_none op w h0 h1 h2 h3
end Go.Proofs.YtpnlbjnbgemocaaGreat
namespace Go.Proofs.YtpnlbjnbgemocaaGreat
set_option linter.unusedVariables false
set_option linter.unusedSimpArgs false
set_option maxRecDepth 100000
open Go.RowKit
theorem IRow.take {w:World}{B:Nat}{a:Option Addr}{n c:Nat}{xs:List Int}(h:IRow w B a n c xs)(m:Nat)(hm:m≤n):IRow w B a m c (xs.take m):=by
  obtain⟨h1,h2,h3,hn,b,off,h6,h7⟩:=h
  refine⟨by rw [List.length_take];omega,by omega,h3,hn,b,off, ?_,fun i hi=>?_⟩
  · rcases h6 with h | h
    · exact .inl h
    · exact .inr (by omega)
  · obtain⟨q1,q2⟩:=h7 i (by omega)
    refine⟨q1, ?_⟩
    rw [q2];congr 2
    simp [List.getD,List.getElem?_take,hi]
theorem IRow.drop {w:World}{B:Nat}{b off n c:Nat}{xs:List Int}(h:IRow w B (some ⟨b,off,none⟩) n c xs)(m:Nat)(hm:m<n):IRow w B (some ⟨b,off+m,none⟩) (n-m) (c-m) (xs.drop m):=by
  obtain⟨h1,h2,h3,hn,b',off',h6,h7⟩:=h
  have e:b=b'∧off=off':=by
    rcases h6 with h | h
    · injection h with h;injection h with h4 h5 _;exact⟨h4,h5⟩
    · omega
  obtain⟨rfl,rfl⟩:=e
  refine⟨by rw [List.length_drop];omega,by omega,by omega,(fun h=>by cases h),b,off+m,.inl rfl,fun i hi=>?_⟩
  obtain⟨q1,q2⟩:=h7 (m+i) (by omega)
  refine⟨q1, ?_⟩
  rw [Nat.add_assoc,q2];congr 2
  simp [List.getD,List.getElem?_drop]
theorem ask_0 (args:List Int)(i N C:Nat):askL (bs [118,97,114]) args i N C=(args.length==1&&wiB args N):=rfl
theorem ask_1 (args:List Int)(i N C:Nat):askL (bs [99,111,110,116]) args i N C=(args.length==1&&wiB args C):=rfl
theorem ask_2 (args:List Int)(i N C:Nat):askL (bs [110,101,103]) args i N C=(args.length==1&&wiB args i):=rfl
theorem ask_3 (args:List Int)(i N C:Nat):askL (bs [43]) args i N C=(args.length==2&&wiB args i):=rfl
theorem ask_4 (args:List Int)(i N C:Nat):askL (bs [45]) args i N C=(args.length==2&&wiB args i):=rfl
theorem ask_5 (args:List Int)(i N C:Nat):askL (bs [47]) args i N C=(args.length==2&&wiB args i):=rfl
theorem ask_6 (args:List Int)(i N C:Nat):askL (bs [42]) args i N C=(args.length==3&&(wiB (args.take 2) i&&wiB (args.drop 2) 2)):=rfl
theorem ask_7 (args:List Int)(i N C:Nat):askL (bs [115,101,108]) args i N C=(args.length==3&&(wiB (args.take 1) N&&wiB (args.drop 1) i)):=rfl
theorem ask_no (op:ByteArray)(args:List Int)(i N C:Nat)(h0:¬ op=bs [118,97,114])(h1:¬ op=bs [99,111,110,116])(h2:¬ op=bs [110,101,103])(h3:¬ op=bs [43])(h4:¬ op=bs [45])(h5:¬ op=bs [47])(h6:¬ op=bs [42])(h7:¬ op=bs [115,101,108]):askL op args i N C=false:=by
  unfold askL copVar copCont copNeg copsTwo copMul copSel
  rw [if_neg h0,if_neg h1,if_neg h2,if_neg (by simp [h3,h4,h5]),if_neg h6,if_neg h7]
end Go.Proofs.YtpnlbjnbgemocaaGreat
namespace Go.Proofs.YtpnlbjnbgemocaaGreat
set_option linter.unusedVariables false
set_option linter.unusedSimpArgs false
set_option maxRecDepth 100000
open Go.RowKit
theorem below_drewN {B n:Nat}{a w:World}(h:Below B a w):Below B a (w.drewN n):=⟨h.os,h.tape,h.output,h.size,h.block⟩
theorem three_int {xs:List Int}(h:xs.length=3):∃ x y z,xs=[x,y,z]:=by
  match xs,h with
  | [x,y,z],_=>exact⟨x,y,z,rfl⟩
end Go.Proofs.YtpnlbjnbgemocaaGreat
