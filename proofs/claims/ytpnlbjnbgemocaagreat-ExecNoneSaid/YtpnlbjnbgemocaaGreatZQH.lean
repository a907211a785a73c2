import Derived.Test.YtpnlbjnbgemocaaGreatZQE
import Derived.RegionTactic
import Derived.ChangeAlike
import Derived.Deep.QuietTactic
import Derived.BigQuiet
import Derived.Deep.LoopGhost
import Derived.Deep.RegionHeld3
import Derived.Test.YtpnlbjnbgemocaaGreatZIFToEyBN4
namespace Go.Proofs.YtpnlbjnbgemocaaGreat
set_option linter.unusedVariables false
set_option linter.unusedSimpArgs false
set_option maxRecDepth 100000
open Go.RowKit Nums
theorem limbs_two {x:Nat}(h:4294967296≤x)(h2:x<18446744073709551616):limbs x=[x % 4294967296,x / 4294967296]:=by
  rw [limbs_pos (by omega),limbs_one (x / 4294967296) (by omega) (by omega)]
set_option maxHeartbeats 1000000 in
theorem qlimbs0 (w:World):Calls Tryz.prog 73 #[.int .u64 0] w (NumK 2 0 w):=by
  go_enter Tryz.func73,Tryz.ntmps73
  go_wp2
  go_ret
  exact⟨none,0,rfl,by omega,by rw [limbs_zero];exact row_nil _,Below.refl _ _⟩
set_option maxHeartbeats 1000000 in
theorem qlimbs1 (x:Nat)(w:World)(h0:0<x)(hx:x<4294967296):Calls Tryz.prog 73 #[.int .u64 (x:Int)] w (NumK 2 x w):=by
  have hb:((x:Int)==0)=false:=by rw [beq_eq_false_iff_ne];omega
  have hi:(x:Int)<4294967296:=by omega
  have E1:Hid ((x:Int) % 4294967296=(x:Int)):=by show _=_;omega
  go_enter Tryz.func73,Tryz.ntmps73
  go_wp2
  go_ret
  refine⟨some ⟨w.heap.size,0,none⟩,1,rfl,by omega, ?_,below_one _ _⟩
  exact row_lit w _ x (by first | rfl | exact E1.out) h0 hx
set_option maxHeartbeats 1000000 in
theorem qlimbs2 (x:Nat)(w:World)(h0:4294967296≤x)(hx:x<18446744073709551616):Calls Tryz.prog 73 #[.int .u64 (x:Int)] w (NumK 2 x w):=by
  have hb:((x:Int)==0)=false:=by rw [beq_eq_false_iff_ne];omega
  have hi:¬(x:Int)<4294967296:=by omega
  obtain⟨lo,hlo⟩:∃ lo,lo=x % 4294967296:=⟨_,rfl⟩
  obtain⟨hi',hhi⟩:∃ hi,hi=x / 4294967296:=⟨_,rfl⟩
  have hloI:(x:Int) % 4294967296=(lo:Int):=by omega
  have hhiI:(x:Int) / 4294967296=(hi':Int):=by omega
  have hl:lo<4294967296:=by omega
  have hh:hi'<4294967296:=by omega
  have LX:=Lib.hid (show limbs x=[lo,hi'] by rw [limbs_two h0 hx,hlo,hhi])
  have HLO:=Lib.hid hloI;clear hloI hlo
  have HHI:=Lib.hid hhiI;clear hhiI hhi
  go_enter Tryz.func73,Tryz.ntmps73
  go_wp2
  go_ret
  refine⟨some ⟨w.heap.size,0,none⟩,2,rfl,by omega, ?_,below_one _ _⟩
  rw [LX.out]
  have hs:Small [lo,hi']:=by intro y hy;simp at hy;omega
  have h:=(mem_alloc w [lo,hi'] _ rfl).row0 hs 2 (by simp) (by unfold maxLen;omega)
  simp only [u32,List.map_cons,List.map_nil] at h
  first
    | exact h
    | (rw [HLO.out];first | exact h | (rw [HHI.out];exact h))
    | (simp only [HLO.out,HHI.out];exact h)
theorem qlimbs (x:Nat)(X:Int)(w:World)(hX:X=(x:Int))(hx:x<18446744073709551616):Calls Tryz.prog 73 #[.int .u64 X] w (NumK 2 x w):=by
  subst hX
  rcases Nat.eq_zero_or_pos x with h | h
  · subst h;exact qlimbs0 w
  · by_cases h1:x<4294967296
    · exact qlimbs1 x w h h1
    · exact qlimbs2 x w (by omega) hx
end Go.Proofs.YtpnlbjnbgemocaaGreat
/- What the answer's quick tells. -/
namespace Go.Proofs.YtpnlbjnbgemocaaGreat
set_option linter.unusedVariables false
set_option linter.unusedSimpArgs false
set_option maxRecDepth 100000
open Go.RowKit Nums
def QuickNo (w:World)(e:Ending)(w':World):Prop:=e=.returned (.tuple #[.int .i64 0,.int .i64 0,.bool false])∧Below w.heap.size w w'
def QuickYes (X Y:Int)(w:World)(e:Ending)(w':World):Prop:=e=.returned (.tuple #[.int .i64 X,.int .i64 Y,.bool true])∧Below w.heap.size w w'
theorem row_at_one {w:World}{a:Option Addr}{c:Nat}{xs:List Nat}(h:Row w a 1 c xs):∃ x b off,xs=[x]∧x<4294967296∧a=some ⟨b,off,none⟩∧b<w.heap.size∧w.cell? ⟨b,off,none⟩=some (.int .u32 (x:Int)):=by
  obtain⟨h1,h2,h3,h4,h5,b,off,h6,h7⟩:=h
  match xs,h1 with
  | [x],_=>
    rcases h6 with rfl | h6
    · exact⟨x,b,off,rfl,h5 x (by simp),rfl,(h7 0 (by omega)).1,by simpa using (h7 0 (by omega)).2⟩
    · omega
set_option maxHeartbeats 4000000 in
theorem quick_no1 (s:Bool)(a b:Option Addr)(n c m d:Nat)(w:World)(h:1<n) :
    Calls Tryz.prog 54 #[.agg #[.bool s,.slice a n c,.slice b m d]] w (QuickNo w):=by
  have hi:(1:Int)<(n:Int):=by omega
  go_enter Tryz.func54,Tryz.ntmps54
  go_wp2
  go_ret3
  exact⟨rfl,below_one _ _⟩
set_option maxHeartbeats 4000000 in
theorem quick_no2 (s:Bool)(a b:Option Addr)(n c m d:Nat)(w:World)(h:n≤1)(h2:m≠1) :
    Calls Tryz.prog 54 #[.agg #[.bool s,.slice a n c,.slice b m d]] w (QuickNo w):=by
  have hi:(n:Int)≤1:=by omega
  have h3:((m:Int) != 1)=true:=by rw [bne_iff_ne];omega
  go_enter Tryz.func54,Tryz.ntmps54
  go_wp2
  go_ret3
  exact⟨rfl,below_one _ _⟩
set_option maxHeartbeats 4000000 in
theorem quick_no3 (s:Bool)(a:Option Addr)(n c d g off:Nat)(y:Int)(w:World)(h:n≤1)(hg:g<w.heap.size)(hc:w.cell? ⟨g,off,none⟩=some (.int .u32 y))(hy:y=0) :
    Calls Tryz.prog 54 #[.agg #[.bool s,.slice a n c,.slice (some ⟨g,off,none⟩) 1 d]] w (QuickNo w):=by
  have hi:(n:Int)≤1:=by omega
  subst hy
  have hne:g≠w.heap.size:=by omega
  have hne':w.heap.size≠g:=by omega
  go_enter Tryz.func54,Tryz.ntmps54
  go_wp2
  go_ret3
  exact⟨rfl,below_one _ _⟩
set_option maxHeartbeats 4000000 in
theorem quick_no4 (s:Bool)(a:Option Addr)(n c d g off:Nat)(y:Int)(w:World)(h:n≤1)(hg:g<w.heap.size)(hc:w.cell? ⟨g,off,none⟩=some (.int .u32 y))(hy:1073741824≤y)(hy2:y<4294967296) :
    Calls Tryz.prog 54 #[.agg #[.bool s,.slice a n c,.slice (some ⟨g,off,none⟩) 1 d]] w (QuickNo w):=by
  have hi:(n:Int)≤1:=by omega
  have h0:(y==0)=false:=by rw [beq_eq_false_iff_ne];omega
  have h1:(1073741824:Int)≤y:=by omega
  have hne:g≠w.heap.size:=by omega
  have hne':w.heap.size≠g:=by omega
  clear hy hy2
  go_enter Tryz.func54,Tryz.ntmps54
  go_wp2
  go_ret3
  exact⟨rfl,below_one _ _⟩
set_option maxHeartbeats 4000000 in
theorem quick_no5 (s:Bool)(c d g off:Nat)(y:Int)(w:World)(x:Int)(gx ox:Nat)(hgx:gx<w.heap.size)(hcx:w.cell? ⟨gx,ox,none⟩=some (.int .u32 x))(hg:g<w.heap.size)(hc:w.cell? ⟨g,off,none⟩=some (.int .u32 y))(hy:0<y)(hy2:y<1073741824)(hx:1073741824≤x)(hx2:x<4294967296) :
    Calls Tryz.prog 54 #[.agg #[.bool s,.slice (some ⟨gx,ox,none⟩) 1 c,.slice (some ⟨g,off,none⟩) 1 d]] w (QuickNo w):=by
  have h0:(y==0)=false:=by rw [beq_eq_false_iff_ne];omega
  have h1:y<1073741824:=by omega
  have h2:(0:Int)≤y:=by omega
  have hne:g≠w.heap.size:=by omega
  have hne':w.heap.size≠g:=by omega
  have hnx:gx≠w.heap.size:=by omega
  have hnx':w.heap.size≠gx:=by omega
  have x1:(1073741824:Int)≤x:=by omega
  have x2:x<4294967296:=by omega
  clear hy hy2
  clear hx hx2
  go_enter Tryz.func54,Tryz.ntmps54
  go_wp2
  go_ret3
  exact⟨rfl,below_one _ _⟩
set_option maxHeartbeats 4000000 in
theorem quick_yes0f (a:Option Addr)(c d g off:Nat)(y:Int)(w:World)(hg:g<w.heap.size)(hc:w.cell? ⟨g,off,none⟩=some (.int .u32 y))(hy:0<y)(hy2:y<1073741824)  :
    Calls Tryz.prog 54 #[.agg #[.bool false,.slice a 0 c,.slice (some ⟨g,off,none⟩) 1 d]] w (QuickYes (0) y w):=by
  have h0:(y==0)=false:=by rw [beq_eq_false_iff_ne];omega
  have h1:y<1073741824:=by omega
  have h2:(0:Int)≤y:=by omega
  have hne:g≠w.heap.size:=by omega
  have hne':w.heap.size≠g:=by omega
  clear hy hy2
  go_enter Tryz.func54,Tryz.ntmps54
  go_wp2
  go_region
  all_goals
    go_wp2
    go_ret3
    exact⟨rfl,(below_one _ _).drew⟩
set_option maxHeartbeats 4000000 in
theorem quick_yes0t (a:Option Addr)(c d g off:Nat)(y:Int)(w:World)(hg:g<w.heap.size)(hc:w.cell? ⟨g,off,none⟩=some (.int .u32 y))(hy:0<y)(hy2:y<1073741824)  :
    Calls Tryz.prog 54 #[.agg #[.bool true,.slice a 0 c,.slice (some ⟨g,off,none⟩) 1 d]] w (QuickYes (0) y w):=by
  have h0:(y==0)=false:=by rw [beq_eq_false_iff_ne];omega
  have h1:y<1073741824:=by omega
  have h2:(0:Int)≤y:=by omega
  have hne:g≠w.heap.size:=by omega
  have hne':w.heap.size≠g:=by omega
  clear hy hy2
  go_enter Tryz.func54,Tryz.ntmps54
  go_wp2
  go_region
  all_goals
    go_wp2
    go_ret3
    exact⟨rfl,(below_one _ _).drew⟩
set_option maxHeartbeats 4000000 in
theorem quick_yes1f (c d g off:Nat)(y:Int)(w:World)(x:Int)(gx ox:Nat)(hgx:gx<w.heap.size)(hcx:w.cell? ⟨gx,ox,none⟩=some (.int .u32 x))(hg:g<w.heap.size)(hc:w.cell? ⟨g,off,none⟩=some (.int .u32 y))(hy:0<y)(hy2:y<1073741824)(hx0:0≤x)(hx:x<1073741824) :
    Calls Tryz.prog 54 #[.agg #[.bool false,.slice (some ⟨gx,ox,none⟩) 1 c,.slice (some ⟨g,off,none⟩) 1 d]] w (QuickYes (x) y w):=by
  have h0:(y==0)=false:=by rw [beq_eq_false_iff_ne];omega
  have h1:y<1073741824:=by omega
  have h2:(0:Int)≤y:=by omega
  have hne:g≠w.heap.size:=by omega
  have hne':w.heap.size≠g:=by omega
  have hnx:gx≠w.heap.size:=by omega
  have hnx':w.heap.size≠gx:=by omega
  have x1:x<1073741824:=by omega
  have x2:(0:Int)≤x:=by omega
  clear hy hy2
  clear hx
  go_enter Tryz.func54,Tryz.ntmps54
  go_wp2
  go_region
  all_goals
    go_wp2
    go_ret3
    exact⟨rfl,(below_one _ _).drew⟩
set_option maxHeartbeats 4000000 in
theorem quick_yes1t (c d g off:Nat)(y:Int)(w:World)(x:Int)(gx ox:Nat)(hgx:gx<w.heap.size)(hcx:w.cell? ⟨gx,ox,none⟩=some (.int .u32 x))(hg:g<w.heap.size)(hc:w.cell? ⟨g,off,none⟩=some (.int .u32 y))(hy:0<y)(hy2:y<1073741824)(hx0:0≤x)(hx:x<1073741824) :
    Calls Tryz.prog 54 #[.agg #[.bool true,.slice (some ⟨gx,ox,none⟩) 1 c,.slice (some ⟨g,off,none⟩) 1 d]] w (QuickYes ((-x)) y w):=by
  have h0:(y==0)=false:=by rw [beq_eq_false_iff_ne];omega
  have h1:y<1073741824:=by omega
  have h2:(0:Int)≤y:=by omega
  have hne:g≠w.heap.size:=by omega
  have hne':w.heap.size≠g:=by omega
  have hnx:gx≠w.heap.size:=by omega
  have hnx':w.heap.size≠gx:=by omega
  have x1:x<1073741824:=by omega
  have x2:(0:Int)≤x:=by omega
  clear hy hy2
  clear hx
  go_enter Tryz.func54,Tryz.ntmps54
  go_wp2
  go_region
  all_goals
    go_wp2
    go_ret3
    exact⟨rfl,(below_one _ _).drew⟩
end Go.Proofs.YtpnlbjnbgemocaaGreat
/- What the answer's told tells. -/
namespace Go.Proofs.YtpnlbjnbgemocaaGreat
set_option linter.unusedVariables false
set_option linter.unusedSimpArgs false
set_option maxRecDepth 100000
open Go.RowKit Nums
theorem wrapU {A:Nat}(h:A<18446744073709551616):IntKind.u64.wrap (A:Int)=(A:Int):=by rw [IntKind.wrap_u64];omega
theorem wrap_div {A G:Nat}(h:A<18446744073709551616):IntKind.u64.wrap ((A:Int).tdiv (G:Int))=((A / G:Nat):Int):=by
  rw [←Int.ofNat_tdiv]
  exact wrapU (Nat.lt_of_le_of_lt (Nat.div_le_self _ _) h)
theorem told_num {Z D:Int}{q:Rat}(hD:0<D)(hq:mkRat Z D.natAbs=q):q.num.natAbs=Z.natAbs / Nat.gcd Z.natAbs D.natAbs∧q.den=D.natAbs / Nat.gcd Z.natAbs D.natAbs∧(Z<0↔q.num<0)∧0<Nat.gcd Z.natAbs D.natAbs:=by
  obtain⟨f1,f2,f3,f4,f5,-,-⟩:=norm_facts (by omega:0<D.natAbs) hq
  have hs:=sgn_raw (by omega:0<D.natAbs) hq
  refine⟨?_,f3.symm, ?_,f5⟩
  · rw [←f1,Int.fdiv_eq_ediv_of_nonneg _ (by omega),Int.natAbs_ediv_of_dvd (Int.dvd_natAbs.1 (Int.natCast_dvd_natCast.2 (Nat.gcd_dvd_left _ _))),Int.natAbs_natCast]
  · unfold sgn at hs;constructor <;> intro h <;> (split at hs <;> (try split at hs) <;> (try omega)) <;> (split at hs <;> (try split at hs) <;> omega)
set_option maxHeartbeats 4000000 in
theorem toldP (q:Rat)(Z D:Int)(w:World)(h0:0≤Z)(h1:Z<4611686018427387904)(hD:0<D)(hD1:D<4611686018427387904)(hq:mkRat Z D.natAbs=q) :
    Calls Tryz.prog 55 #[.int .i64 Z,.int .i64 D] w (RatK 2 2 q w):=by
  obtain⟨t1,t2,t3,t4⟩:=told_num hD hq
  obtain⟨G,hG⟩:∃ G,Nat.gcd Z.natAbs D.natAbs=G:=⟨_,rfl⟩
  rw [hG] at t1 t2 t4
  obtain⟨U,hU⟩:∃ U,Z.natAbs=U:=⟨_,rfl⟩
  obtain⟨V,hV⟩:∃ V,D.natAbs=V:=⟨_,rfl⟩
  rw [hU,hV] at hG
  rw [hU] at t1
  rw [hV] at t2
  have BU:=Lib.hid (show U<18446744073709551616 by omega)
  have BV:=Lib.hid (show V<18446744073709551616 by omega)
  have EU:=Lib.hid (show Z=(U:Int) by omega)
  have BN:=Lib.hid (show(U:Int)=Z by omega)
  have EV:=Lib.hid (show D=(V:Int) by omega)
  have T1:=Lib.hid t1
  have T2:=Lib.hid t2
  have T3:=Lib.hid (show decide (q.num<0)=false from decide_eq_false (fun h=>absurd (t3.2 h) (by omega)))
  have T4:=Lib.hid t4
  have HG:=Lib.hid hG
  clear t1 t2 t3 t4 hG hU hV hq
  have HB:=Lib.hid (below_one w (.cells #[.bool false,.slice none 0 0,.slice none 0 0] 46))
  have Z0:=Lib.hid (tri_new w (.bool false) (.slice none 0 0) (.slice none 0 0))
  go_enter Tryz.func55,Tryz.ntmps55
  go_wp2
  go_loopg [6,7] V (fun y u v wr=>∃ x:Nat,u=.int .u64 (x:Int)∧v=.int .u64 (y:Int)∧Hid (x<18446744073709551616∧y<18446744073709551616∧G=Nat.gcd x y)∧Below (w.alloc (.cells #[.bool false,.slice none 0 0,.slice none 0 0] 46)).heap.size (w.alloc (.cells #[.bool false,.slice none 0 0,.slice none 0 0] 46)) wr)
  case atStart=>exact⟨U,congrArg (Value.int .u64) (by first | exact EU.out | (have:=EU.out;simpa using this)),congrArg (Value.int .u64) (by first | exact EV.out | (have:=EV.out;simpa using this)),⟨BU.out,BV.out,HG.out.symm⟩,Below.refl _ _⟩
  case round =>
    obtain⟨x,rfl,rfl,HW,hbw⟩:=hrel
    obtain⟨yv,rfl⟩:∃ y,y=gk:=⟨_,rfl⟩
    by_cases hy0:0<yv
    · have hy1:(1:Int)≤(yv:Int):=by omega
      go_wp2
      go_quiet (fail)
      go_wp2
      go_roundg (x % yv)
      case measure=>exact Nat.mod_lt _ hy0
      case rel=>exact⟨yv,rfl,congrArg (Value.int .u64) (by simp),⟨HW.out.2.1,Nat.lt_trans (Nat.mod_lt _ hy0) HW.out.2.1,by rw [HW.out.2.2,Nat.gcd_comm,Nat.gcd_rec,Nat.gcd_comm]⟩,below_drewN hbw⟩
    · obtain rfl:yv=0:=by omega
      have hGx:G=x:=by have:=HW.out.2.2;rw [Nat.gcd_zero_right] at this;exact this
      subst hGx
      clear HW hy0
      have ZZ:=Lib.hid (Z0.out.later hbw).drew
      replace HB:=Lib.hid (bthen HB.out hbw).drew
      have hl:=ZZ.out.2.2.2.2.2.2
      have hG1:(1:Int)≤(G:Int):=by have:=T4.out;omega
      have hG2:¬(G:Int)=0:=by omega
      have hG3:¬ G=0:=by omega
      have hG4:((G:Int)==0)=false:=by rw [beq_eq_false_iff_ne];omega
      have T5:=Lib.hid (show IntKind.u64.wrap ((Z).tdiv (G:Int))=((U / G:Nat):Int) by rw [EU.out];exact wrap_div BU.out)
      have T5b:=Lib.hid (show IntKind.u64.wrap ((IntKind.u64.wrap (Z)).tdiv (G:Int))=((U / G:Nat):Int) by rw [show(Z)=(U:Int) by exact EU.out,wrapU BU.out];exact wrap_div BU.out)
      have T5c:=Lib.hid (show IntKind.u64.wrap ((Z).tdiv (G:Int))=((U / G:Nat):Int) by rw [show(Z)=(U:Int) by exact EU.out];exact wrap_div BU.out)
      have T6:=Lib.hid (show IntKind.u64.wrap (D.tdiv (G:Int))=((V / G:Nat):Int) by rw [EV.out];exact wrap_div BV.out)
      have T6b:=Lib.hid (show IntKind.u64.wrap ((IntKind.u64.wrap D).tdiv (G:Int))=((V / G:Nat):Int) by rw [EV.out,wrapU BV.out];exact wrap_div BV.out)
      have B5:=Lib.hid (show U / G<18446744073709551616 from Nat.lt_of_le_of_lt (Nat.div_le_self _ _) BU.out)
      have B6:=Lib.hid (show V / G<18446744073709551616 from Nat.lt_of_le_of_lt (Nat.div_le_self _ _) BV.out)
      clear hbw
      go_wp2_with fail
      go_region_held3 (fun w'=>w.heap.size<w'.heap.size)
        (first | exact ZZ.out.2.2.2.2.2.2 | (simp;exact ZZ.out.2.2.2.2.2.2) | omega | (simp;omega) | (go_keep;done))
        (first
          | (have mk:=G1;clear mk
             go_at_call 73
             refine(qlimbs (V / G) _ _ (by first | exact T6.out | exact T6b.out) B6.out).mono ?_
             rintro e v2 ⟨a2,m2,rfl,hm2,hr,hb⟩
             have R2:=Lib.hid hr;clear hr
             replace R1:=Lib.hid (R1.out.later hb)
             replace ZZ:=Lib.hid (ZZ.out.later hb)
             replace HB:=Lib.hid (bthen HB.out hb);clear hb
             obtain⟨z0,z1,z2,z3,z4,z5,z6⟩:=ZZ.out)
          | (go_at_call 73
             refine(qlimbs (U / G) _ _ (by first | exact T5.out | exact T5b.out | exact T5c.out) B5.out).mono ?_
             rintro e v1 ⟨a1,m1,rfl,hm1,hr,hb⟩
             have R1:=Lib.hid hr;clear hr
             replace ZZ:=Lib.hid (ZZ.out.later hb)
             replace HB:=Lib.hid (bthen HB.out hb);clear hb
             have G1:Hid True:=trivial))
      go_wp2
      exact bodyPost_ret (v:=.agg #[.bool false,.slice a1 m1 m1,.slice a2 m2 m2]) (by simp [results,Tryz.results55,go_sem, *]) rfl
        ⟨a1,m1,m1,a2,m2,m2,by rw [T3.out],hm1,hm2,by rw [T1.out];exact R1.out.put3 ZZ.out _ _ _,by rw [T2.out];exact R2.out.put3 ZZ.out _ _ _,below_put3 HB.out (Nat.le_refl _) _ _ _⟩
set_option maxHeartbeats 4000000 in
theorem toldN (q:Rat)(Z D:Int)(w:World)(h0:Z<0)(h1:-4611686018427387904<Z)(hD:0<D)(hD1:D<4611686018427387904)(hq:mkRat Z D.natAbs=q) :
    Calls Tryz.prog 55 #[.int .i64 Z,.int .i64 D] w (RatK 2 2 q w):=by
  obtain⟨t1,t2,t3,t4⟩:=told_num hD hq
  obtain⟨G,hG⟩:∃ G,Nat.gcd Z.natAbs D.natAbs=G:=⟨_,rfl⟩
  rw [hG] at t1 t2 t4
  obtain⟨U,hU⟩:∃ U,Z.natAbs=U:=⟨_,rfl⟩
  obtain⟨V,hV⟩:∃ V,D.natAbs=V:=⟨_,rfl⟩
  rw [hU,hV] at hG
  rw [hU] at t1
  rw [hV] at t2
  have BU:=Lib.hid (show U<18446744073709551616 by omega)
  have BV:=Lib.hid (show V<18446744073709551616 by omega)
  have EU:=Lib.hid (show IntKind.u64.wrap (-IntKind.u64.wrap Z)=(U:Int) by rw [u64_neg h0 (by omega)];omega)
  have BN:=Lib.hid (show(U:Int)=-Z by omega)
  have EV:=Lib.hid (show D=(V:Int) by omega)
  have T1:=Lib.hid t1
  have T2:=Lib.hid t2
  have T3:=Lib.hid (show decide (q.num<0)=true from decide_eq_true (t3.1 h0))
  have T4:=Lib.hid t4
  have HG:=Lib.hid hG
  clear t1 t2 t3 t4 hG hU hV hq
  have HB:=Lib.hid (below_one w (.cells #[.bool false,.slice none 0 0,.slice none 0 0] 46))
  have Z0:=Lib.hid (tri_new w (.bool false) (.slice none 0 0) (.slice none 0 0))
  go_enter Tryz.func55,Tryz.ntmps55
  go_wp2
  go_loopg [6,7] V (fun y u v wr=>∃ x:Nat,u=.int .u64 (x:Int)∧v=.int .u64 (y:Int)∧Hid (x<18446744073709551616∧y<18446744073709551616∧G=Nat.gcd x y)∧Below (w.alloc (.cells #[.bool false,.slice none 0 0,.slice none 0 0] 46)).heap.size (w.alloc (.cells #[.bool false,.slice none 0 0,.slice none 0 0] 46)) wr)
  case atStart=>exact⟨U,congrArg (Value.int .u64) (by first | exact EU.out | (have:=EU.out;simpa using this)),congrArg (Value.int .u64) (by first | exact EV.out | (have:=EV.out;simpa using this)),⟨BU.out,BV.out,HG.out.symm⟩,Below.refl _ _⟩
  case round =>
    obtain⟨x,rfl,rfl,HW,hbw⟩:=hrel
    obtain⟨yv,rfl⟩:∃ y,y=gk:=⟨_,rfl⟩
    by_cases hy0:0<yv
    · have hy1:(1:Int)≤(yv:Int):=by omega
      go_wp2
      go_quiet (fail)
      go_wp2
      go_roundg (x % yv)
      case measure=>exact Nat.mod_lt _ hy0
      case rel=>exact⟨yv,rfl,congrArg (Value.int .u64) (by simp),⟨HW.out.2.1,Nat.lt_trans (Nat.mod_lt _ hy0) HW.out.2.1,by rw [HW.out.2.2,Nat.gcd_comm,Nat.gcd_rec,Nat.gcd_comm]⟩,below_drewN hbw⟩
    · obtain rfl:yv=0:=by omega
      have hGx:G=x:=by have:=HW.out.2.2;rw [Nat.gcd_zero_right] at this;exact this
      subst hGx
      clear HW hy0
      have ZZ:=Lib.hid (Z0.out.later hbw).drew
      replace HB:=Lib.hid (bthen HB.out hbw).drew
      have hl:=ZZ.out.2.2.2.2.2.2
      have hG1:(1:Int)≤(G:Int):=by have:=T4.out;omega
      have hG2:¬(G:Int)=0:=by omega
      have hG3:¬ G=0:=by omega
      have hG4:((G:Int)==0)=false:=by rw [beq_eq_false_iff_ne];omega
      have T5:=Lib.hid (show IntKind.u64.wrap ((IntKind.u64.wrap (-IntKind.u64.wrap Z)).tdiv (G:Int))=((U / G:Nat):Int) by rw [EU.out];exact wrap_div BU.out)
      have T5b:=Lib.hid (show IntKind.u64.wrap ((IntKind.u64.wrap (-Z)).tdiv (G:Int))=((U / G:Nat):Int) by rw [show(-Z)=(U:Int) by have:=BN.out;omega,wrapU BU.out];exact wrap_div BU.out)
      have T5c:=Lib.hid (show IntKind.u64.wrap ((-Z).tdiv (G:Int))=((U / G:Nat):Int) by rw [show(-Z)=(U:Int) by have:=BN.out;omega];exact wrap_div BU.out)
      have T6:=Lib.hid (show IntKind.u64.wrap (D.tdiv (G:Int))=((V / G:Nat):Int) by rw [EV.out];exact wrap_div BV.out)
      have T6b:=Lib.hid (show IntKind.u64.wrap ((IntKind.u64.wrap D).tdiv (G:Int))=((V / G:Nat):Int) by rw [EV.out,wrapU BV.out];exact wrap_div BV.out)
      have B5:=Lib.hid (show U / G<18446744073709551616 from Nat.lt_of_le_of_lt (Nat.div_le_self _ _) BU.out)
      have B6:=Lib.hid (show V / G<18446744073709551616 from Nat.lt_of_le_of_lt (Nat.div_le_self _ _) BV.out)
      clear hbw
      go_wp2_with fail
      go_region_held3 (fun w'=>w.heap.size<w'.heap.size)
        (first | exact ZZ.out.2.2.2.2.2.2 | (simp;exact ZZ.out.2.2.2.2.2.2) | omega | (simp;omega) | (go_keep;done))
        (first
          | (have mk:=G1;clear mk
             go_at_call 73
             refine(qlimbs (V / G) _ _ (by first | exact T6.out | exact T6b.out) B6.out).mono ?_
             rintro e v2 ⟨a2,m2,rfl,hm2,hr,hb⟩
             have R2:=Lib.hid hr;clear hr
             replace R1:=Lib.hid (R1.out.later hb)
             replace ZZ:=Lib.hid (ZZ.out.later hb)
             replace HB:=Lib.hid (bthen HB.out hb);clear hb
             obtain⟨z0,z1,z2,z3,z4,z5,z6⟩:=ZZ.out)
          | (go_at_call 73
             refine(qlimbs (U / G) _ _ (by first | exact T5.out | exact T5b.out | exact T5c.out) B5.out).mono ?_
             rintro e v1 ⟨a1,m1,rfl,hm1,hr,hb⟩
             have R1:=Lib.hid hr;clear hr
             replace ZZ:=Lib.hid (ZZ.out.later hb)
             replace HB:=Lib.hid (bthen HB.out hb);clear hb
             have G1:Hid True:=trivial))
      go_wp2
      exact bodyPost_ret (v:=.agg #[.bool true,.slice a1 m1 m1,.slice a2 m2 m2]) (by simp [results,Tryz.results55,go_sem, *]) rfl
        ⟨a1,m1,m1,a2,m2,m2,by rw [T3.out],hm1,hm2,by rw [T1.out];exact R1.out.put3 ZZ.out _ _ _,by rw [T2.out];exact R2.out.put3 ZZ.out _ _ _,below_put3 HB.out (Nat.le_refl _) _ _ _⟩
end Go.Proofs.YtpnlbjnbgemocaaGreat
/- What the answer's Norm tells. -/
namespace Go.Proofs.YtpnlbjnbgemocaaGreat
set_option linter.unusedVariables false
set_option linter.unusedSimpArgs false
set_option maxRecDepth 100000
open Go.RowKit Nums
theorem quick_any {s:Bool}{a b:Option Addr}{n c m d:Nat}{xs ys:List Nat}{w:World}(h0:Row w a n c xs)(h1:Row w b m d ys) :
    Calls Tryz.prog 54 #[.agg #[.bool s,.slice a n c,.slice b m d]] w (QuickNo w)∨∃ X Y:Int,Calls Tryz.prog 54 #[.agg #[.bool s,.slice a n c,.slice b m d]] w (QuickYes X Y w)∧-1073741824<X∧X<1073741824∧0<Y∧Y<1073741824∧sv s (val xs)=X∧val ys=Y.natAbs:=by
  by_cases hn:1<n
  · exact Or.inl (quick_no1 s a b n c m d w hn)
  · by_cases hm:m=1
    · subst hm
      obtain⟨y,g,off,rfl,hy,rfl,hg,hc⟩:=row_at_one h1
      have ev:val [y]=y:=by simp [val]
      rw [ev]
      by_cases hy0:y=0
      · exact Or.inl (quick_no3 s a n c d g off (y:Int) w (by omega) hg hc (by omega))
      · by_cases hyb:1073741824≤y
        · exact Or.inl (quick_no4 s a n c d g off (y:Int) w (by omega) hg hc (by omega) (by omega))
        · by_cases hn1:n=1
          · subst hn1
            obtain⟨x,gx,ox,rfl,hx,rfl,hgx,hcx⟩:=row_at_one h0
            have ex:val [x]=x:=by simp [val]
            rw [ex]
            by_cases hxb:1073741824≤x
            · exact Or.inl (quick_no5 s c d g off (y:Int) w (x:Int) gx ox hgx hcx hg hc (by omega) (by omega) (by omega) (by omega))
            · cases s
              · exact Or.inr ⟨(x:Int),(y:Int),quick_yes1f c d g off (y:Int) w (x:Int) gx ox hgx hcx hg hc (by omega) (by omega) (by omega) (by omega),by omega,by omega,by omega,by omega,rfl,by omega⟩
              · exact Or.inr ⟨-(x:Int),(y:Int),quick_yes1t c d g off (y:Int) w (x:Int) gx ox hgx hcx hg hc (by omega) (by omega) (by omega) (by omega),by omega,by omega,by omega,by omega,rfl,by omega⟩
          · obtain rfl:n=0:=by omega
            have ex:xs=[]:=List.length_eq_zero_iff.1 h0.1
            subst ex
            cases s
            · exact Or.inr ⟨0,(y:Int),quick_yes0f a c d g off (y:Int) w hg hc (by omega) (by omega),by omega,by omega,by omega,by omega,rfl,by omega⟩
            · exact Or.inr ⟨0,(y:Int),quick_yes0t a c d g off (y:Int) w hg hc (by omega) (by omega),by omega,by omega,by omega,by omega,rfl,by omega⟩
    · exact Or.inl (quick_no2 s a b n c m d w (by omega) hm)
theorem toldR (q:Rat)(Z D:Int)(w:World)(h0:-4611686018427387904<Z)(h1:Z<4611686018427387904)(hD:0<D)(hD1:D<4611686018427387904)(hq:mkRat Z D.natAbs=q) :
    Calls Tryz.prog 55 #[.int .i64 Z,.int .i64 D] w (RatK 2 2 q w):=by
  by_cases h:Z<0
  · exact toldN q Z D w h h0 hD hD1 hq
  · exact toldP q Z D w (by omega) h1 hD hD1 hq
set_option maxHeartbeats 8000000 in
theorem rnormR_yes (K J:Nat)(q:Rat){s:Bool}{a b:Option Addr}{n c m d:Nat}{xs ys:List Nat}{w:World}(h0:Row w a n c xs)(h1:Row w b m d ys)(hq:mkRat (sv s (val xs)) (val ys)=q)(hn:n≤K)(hm:m≤J)(hK:K≤60)(hK2:2≤K)(hJ2:2≤J)(hJ:J≤60)(X Y:Int)(hc:Calls Tryz.prog 54 #[.agg #[.bool s,.slice a n c,.slice b m d]] ((w.alloc (.cells #[.bool s,.slice a n c,.slice b m d] 46)).alloc (.cells #[.bool false,.slice none 0 0,.slice none 0 0] 46)) (QuickYes X Y ((w.alloc (.cells #[.bool s,.slice a n c,.slice b m d] 46)).alloc (.cells #[.bool false,.slice none 0 0,.slice none 0 0] 46))))(x0:-1073741824<X)(x1:X<1073741824)(y0:0<Y)(y1:Y<1073741824)(hX:sv s (val xs)=X)(hY:val ys=Y.natAbs) :
    Calls Tryz.prog 53 #[.agg #[.bool s,.slice a n c,.slice b m d]] w (RatK K J q w):=by
  have HB:=Lib.hid (below_two w (.cells #[.bool s,.slice a n c,.slice b m d] 46) (.cells #[.bool false,.slice none 0 0,.slice none 0 0] 46))
  have X0:Hid (Tri ((w.alloc (.cells #[.bool s,.slice a n c,.slice b m d] 46)).alloc (.cells #[.bool false,.slice none 0 0,.slice none 0 0] 46)) (w.heap.size) (.bool s) (.slice a n c) (.slice b m d)):=((tri_new _ (.bool s) (.slice a n c) (.slice b m d)).alloc _)
  have Z:Hid (Tri ((w.alloc (.cells #[.bool s,.slice a n c,.slice b m d] 46)).alloc (.cells #[.bool false,.slice none 0 0,.slice none 0 0] 46)) (w.heap.size+1) (.bool false) (.slice none 0 0) (.slice none 0 0)):=(tri_newE (by simp))
  rw [hX,hY] at hq
  have HQ:=Lib.hid hq;clear hq hX hY
  have HC:=Lib.hid hc;clear hc
  go_enter Tryz.func53,Tryz.ntmps53
  go_wp2_with fail
  refine(HC.out).mono ?_
  rintro e w1 ⟨rfl,hb⟩
  replace X0:=Lib.hid (X0.out.later hb)
  replace Z:=Lib.hid (Z.out.later hb)
  replace HB:=Lib.hid (bthen HB.out hb)
  clear hb
  obtain⟨kX00,kX01,kX02,-,-,-,-⟩:=X0.out
  obtain⟨kZ0,kZ1,kZ2,kZ3,kZ4,kZ5,kZ6⟩:=Z.out
  go_wp2_with fail
  refine(toldR q X Y _ (by omega) (by omega) y0 (by omega) HQ.out).mono ?_
  rintro e w2 ⟨a1,n1,c1,b1,m1,d1,rfl,hn1,hm1,hr,hr2,hb⟩
  replace X0:=Lib.hid (X0.out.later hb)
  replace Z:=Lib.hid (Z.out.later hb)
  replace HB:=Lib.hid (bthen HB.out hb)
  clear hb
  clear kX00 kX01 kX02 kZ0 kZ1 kZ2 kZ3 kZ4 kZ5 kZ6
  have RA:=Lib.hid hr;clear hr
  have RB:=Lib.hid hr2;clear hr2
  obtain⟨kX00,kX01,kX02,-,-,-,-⟩:=X0.out
  obtain⟨kZ0,kZ1,kZ2,kZ3,kZ4,kZ5,kZ6⟩:=Z.out
  go_wp2
  exact bodyPost_ret (v:=.agg #[.bool (decide (q.num<0)),.slice a1 n1 c1,.slice b1 m1 d1]) (by simp [results,Tryz.results53,go_sem, *]) rfl
    ⟨a1,n1,c1,b1,m1,d1,rfl,by omega,by omega,RA.out.put3 Z.out _ _ _,RB.out.put3 Z.out _ _ _,below_put3 HB.out (by omega) _ _ _⟩
set_option maxHeartbeats 8000000 in
theorem rnormR_zero (K J:Nat)(q:Rat){s:Bool}{a b:Option Addr}{n c m d:Nat}{xs ys:List Nat}{w:World}(h0:Row w a n c xs)(h1:Row w b m d ys)(hq:mkRat (sv s (val xs)) (val ys)=q)(hn:n≤K)(hm:m≤J)(hK:K≤60)(hK2:2≤K)(hJ2:2≤J)(hJ:J≤60)(hc:Calls Tryz.prog 54 #[.agg #[.bool s,.slice a n c,.slice b m d]] ((w.alloc (.cells #[.bool s,.slice a n c,.slice b m d] 46)).alloc (.cells #[.bool false,.slice none 0 0,.slice none 0 0] 46)) (QuickNo ((w.alloc (.cells #[.bool s,.slice a n c,.slice b m d] 46)).alloc (.cells #[.bool false,.slice none 0 0,.slice none 0 0] 46))))(hz:val ys=0) :
    Calls Tryz.prog 53 #[.agg #[.bool s,.slice a n c,.slice b m d]] w (RatK K J q w):=by
  have HB:=Lib.hid (below_two w (.cells #[.bool s,.slice a n c,.slice b m d] 46) (.cells #[.bool false,.slice none 0 0,.slice none 0 0] 46))
  have X0:Hid (Tri ((w.alloc (.cells #[.bool s,.slice a n c,.slice b m d] 46)).alloc (.cells #[.bool false,.slice none 0 0,.slice none 0 0] 46)) (w.heap.size) (.bool s) (.slice a n c) (.slice b m d)):=((tri_new _ (.bool s) (.slice a n c) (.slice b m d)).alloc _)
  have Z:Hid (Tri ((w.alloc (.cells #[.bool s,.slice a n c,.slice b m d] 46)).alloc (.cells #[.bool false,.slice none 0 0,.slice none 0 0] 46)) (w.heap.size+1) (.bool false) (.slice none 0 0) (.slice none 0 0)):=(tri_newE (by simp))
  have R0:=Lib.hid (h0.later HB.out);clear h0
  have R1:=Lib.hid (h1.later HB.out);clear h1
  have HC:=Lib.hid hc;clear hc
  obtain⟨V,hV⟩:∃ V,sv s (val xs)=V:=⟨_,rfl⟩
  obtain⟨E,hE⟩:∃ E,val ys=E:=⟨_,rfl⟩
  rw [hV,hE] at hq
  rw [hE] at hz
  have LV:=Lib.hid (lenZ_raw R0.out hn hV)
  have LE:=Lib.hid (show(limbs E).length≤J by have:=row_len' R1.out hm;rw [hE] at this;exact this)
  subst hz
  rw [Rat.mkRat_zero] at hq
  have HQ:=Lib.hid hq;clear hq
  have HV:=Lib.hid hV;clear hV
  have HE:=Lib.hid hE;clear hE
  go_enter Tryz.func53,Tryz.ntmps53
  go_wp2_with fail
  refine(HC.out).mono ?_
  rintro e w1 ⟨rfl,hb⟩
  replace R0:=Lib.hid (R0.out.later hb)
  replace R1:=Lib.hid (R1.out.later hb)
  replace X0:=Lib.hid (X0.out.later hb)
  replace Z:=Lib.hid (Z.out.later hb)
  replace HB:=Lib.hid (bthen HB.out hb)
  clear hb
  obtain⟨kX00,kX01,kX02,-,-,-,-⟩:=X0.out
  obtain⟨kZ0,kZ1,kZ2,-,-,-,-⟩:=Z.out
  go_wp2_with fail
  refine(rnormI K V R0.out HV.out (by omega) LV.out).mono ?_
  rintro e w2 ⟨an,nn,cn,rfl,hnn,hr,hb⟩
  clear R0
  replace R1:=Lib.hid (R1.out.later hb)
  replace X0:=Lib.hid (X0.out.later hb)
  replace Z:=Lib.hid (Z.out.later hb)
  replace HB:=Lib.hid (bthen HB.out hb)
  clear hb
  clear kX00 kX01 kX02 kZ0 kZ1 kZ2
  have hb1:=below_one w2 (.cells #[.bool (decide (V<0)),.slice an nn cn] 44)
  have XN:Hid (Box (w2.alloc (.cells #[.bool (decide (V<0)),.slice an nn cn] 44)) w2.heap.size (.bool (decide (V<0))) (.slice an nn cn)):=box_new w2 _ _
  have RN:=Lib.hid (hr.later hb1);clear hr
  have lw:w.heap.size+1<w2.heap.size:=by have:=Z.out.2.2.2.2.2.2;simpa using this
  replace R1:=Lib.hid (R1.out.later hb1)
  replace X0:=Lib.hid (X0.out.later hb1)
  replace Z:=Lib.hid (Z.out.later hb1)
  replace HB:=Lib.hid (bthen HB.out hb1)
  clear hb1
  obtain⟨kX00,kX01,kX02,-,-,-,-⟩:=X0.out
  go_wp2_with fail
  refine(rtrimN J 0 R1.out (by omega) HE.out LE.out).mono ?_
  rintro e w3 ⟨ad,nd,cd,rfl,hnd,hr,hb⟩
  clear R1
  clear X0
  replace RN:=Lib.hid (RN.out.later hb)
  replace XN:=Lib.hid (XN.out.later hb)
  replace Z:=Lib.hid (Z.out.later hb)
  replace HB:=Lib.hid (bthen HB.out hb)
  clear hb
  clear kX00 kX01 kX02
  have RD:=Lib.hid hr;clear hr
  have hl:nd=0:=by have:=RD.out.1;rw [limbs_zero] at this;simpa using this.symm
  subst hl
  have hb1:=below_one w3 (.cells #[.int .u32 1] 120)
  have RL:=Lib.hid (row_lit w3 1 1 rfl (by omega) (by omega))
  replace RN:=Lib.hid (RN.out.later hb1)
  replace RD:=Lib.hid (RD.out.later hb1)
  replace XN:=Lib.hid (XN.out.later hb1)
  replace Z:=Lib.hid (Z.out.later hb1)
  replace HB:=Lib.hid (bthen HB.out hb1)
  clear hb1
  obtain⟨kZ0,kZ1,kZ2,kZ3,kZ4,kZ5,kZ6⟩:=Z.out
  go_wp2
  exact bodyPost_ret (v:=.agg #[.bool false,.slice none 0 0,.slice (some ⟨w3.heap.size,0,none⟩) 1 1]) (by simp [results,Tryz.results53,go_sem, *]) rfl
    ⟨none,0,0,_,1,1,by rw [←HQ.out];rfl,by omega,by omega,by rw [←HQ.out];show Row _ _ _ _ (limbs 0);rw [limbs_zero];exact row_nil _,by rw [←HQ.out];exact RL.out.put3 Z.out _ _ _,below_put3 HB.out (by omega) _ _ _⟩
set_option maxHeartbeats 8000000 in
theorem rnormR_some (K J:Nat)(q:Rat){s:Bool}{a b:Option Addr}{n c m d:Nat}{xs ys:List Nat}{w:World}(h0:Row w a n c xs)(h1:Row w b m d ys)(hq:mkRat (sv s (val xs)) (val ys)=q)(hn:n≤K)(hm:m≤J)(hK:K≤60)(hK2:2≤K)(hJ2:2≤J)(hJ:J≤60)(hc:Calls Tryz.prog 54 #[.agg #[.bool s,.slice a n c,.slice b m d]] ((w.alloc (.cells #[.bool s,.slice a n c,.slice b m d] 46)).alloc (.cells #[.bool false,.slice none 0 0,.slice none 0 0] 46)) (QuickNo ((w.alloc (.cells #[.bool s,.slice a n c,.slice b m d] 46)).alloc (.cells #[.bool false,.slice none 0 0,.slice none 0 0] 46))))(hz:0<val ys) :
    Calls Tryz.prog 53 #[.agg #[.bool s,.slice a n c,.slice b m d]] w (RatK K J q w):=by
  have HB:=Lib.hid (below_two w (.cells #[.bool s,.slice a n c,.slice b m d] 46) (.cells #[.bool false,.slice none 0 0,.slice none 0 0] 46))
  have X0:Hid (Tri ((w.alloc (.cells #[.bool s,.slice a n c,.slice b m d] 46)).alloc (.cells #[.bool false,.slice none 0 0,.slice none 0 0] 46)) (w.heap.size) (.bool s) (.slice a n c) (.slice b m d)):=((tri_new _ (.bool s) (.slice a n c) (.slice b m d)).alloc _)
  have Z:Hid (Tri ((w.alloc (.cells #[.bool s,.slice a n c,.slice b m d] 46)).alloc (.cells #[.bool false,.slice none 0 0,.slice none 0 0] 46)) (w.heap.size+1) (.bool false) (.slice none 0 0) (.slice none 0 0)):=(tri_newE (by simp))
  have R0:=Lib.hid (h0.later HB.out);clear h0
  have R1:=Lib.hid (h1.later HB.out);clear h1
  have HC:=Lib.hid hc;clear hc
  obtain⟨V,hV⟩:∃ V,sv s (val xs)=V:=⟨_,rfl⟩
  obtain⟨E,hE⟩:∃ E,val ys=E:=⟨_,rfl⟩
  rw [hV,hE] at hq
  rw [hE] at hz
  have LV:=Lib.hid (lenZ_raw R0.out hn hV)
  have LE:=Lib.hid (show(limbs E).length≤J by have:=row_len' R1.out hm;rw [hE] at this;exact this)
  obtain⟨f1,f2,f3,f4,f5,f6,f7⟩:=norm_facts hz hq
  obtain⟨C,hC⟩:∃ C,Nat.gcd V.natAbs E=C:=⟨_,rfl⟩
  rw [hC] at f1 f2 f3 f4 f5
  have e1:V.natAbs / C=q.num.natAbs:=by
    rw [←f1,Int.fdiv_eq_ediv_of_nonneg _ (by omega),Int.natAbs_ediv_of_dvd (Int.dvd_natAbs.1 (Int.natCast_dvd_natCast.2 (by rw [←hC];exact Nat.gcd_dvd_left _ _))),Int.natAbs_natCast]
  have e2:V.natAbs % C=0:=Nat.mod_eq_zero_of_dvd (by rw [←hC];exact Nat.gcd_dvd_left _ _)
  have e3:decide (V<0)=decide (q.num<0):=by
    have:=sgn_raw hz hq
    have h3:V<0↔q.num<0:=by
      unfold sgn at this;constructor <;> intro h <;> (split at this <;> (try split at this) <;> (try omega)) <;> (split at this <;> (try split at this) <;> omega)
    simp only [h3]
  have hz2:0<(limbs E).length:=by
    rcases Nat.eq_zero_or_pos (limbs E).length with h | h
    · have:=length_limbs_zero.1 h;omega
    · exact h
  have LC:=Lib.hid (show(limbs C).length≤J from Nat.le_trans (limbs_len_mono (by rw [←hC];exact Nat.gcd_le_right _ hz)) LE.out)
  have LQ:=Lib.hid (show(limbs (V.natAbs / C)).length≤K by rw [e1];exact Nat.le_trans (limbs_len_mono f6) LV.out)
  have LD:=Lib.hid (show(limbs (E / C)).length≤J by rw [f3];exact Nat.le_trans (limbs_len_mono f7) LE.out)
  have L1:=Lib.hid (show(limbs (V.natAbs % C)).length≤0 by rw [e2,limbs_zero];exact Nat.le_refl _)
  have L2:=Lib.hid (show(limbs (E % C)).length≤0 by rw [f4,limbs_zero];exact Nat.le_refl _)
  have HC0:=Lib.hid f5
  have HCC:=Lib.hid hC
  have E1:=Lib.hid e1
  have E3:=Lib.hid e3
  have F3:=Lib.hid f3
  have HV:=Lib.hid hV;clear hV
  have HE:=Lib.hid hE;clear hE
  have HZ2:=Lib.hid hz2
  clear hq hz hC f1 f2 f3 f4 f5 f6 f7 e1 e2 e3 hz2
  go_enter Tryz.func53,Tryz.ntmps53
  go_wp2_with fail
  refine(HC.out).mono ?_
  rintro e w1 ⟨rfl,hb⟩
  replace R0:=Lib.hid (R0.out.later hb)
  replace R1:=Lib.hid (R1.out.later hb)
  replace X0:=Lib.hid (X0.out.later hb)
  replace Z:=Lib.hid (Z.out.later hb)
  replace HB:=Lib.hid (bthen HB.out hb)
  clear hb
  obtain⟨kX00,kX01,kX02,-,-,-,-⟩:=X0.out
  obtain⟨kZ0,kZ1,kZ2,-,-,-,-⟩:=Z.out
  go_wp2_with fail
  refine(rnormI K V R0.out HV.out (by omega) LV.out).mono ?_
  rintro e w2 ⟨an,nn,cn,rfl,hnn,hr,hb⟩
  clear R0
  replace R1:=Lib.hid (R1.out.later hb)
  replace X0:=Lib.hid (X0.out.later hb)
  replace Z:=Lib.hid (Z.out.later hb)
  replace HB:=Lib.hid (bthen HB.out hb)
  clear hb
  clear kX00 kX01 kX02 kZ0 kZ1 kZ2
  have hb1:=below_one w2 (.cells #[.bool (decide (V<0)),.slice an nn cn] 44)
  have XN:Hid (Box (w2.alloc (.cells #[.bool (decide (V<0)),.slice an nn cn] 44)) w2.heap.size (.bool (decide (V<0))) (.slice an nn cn)):=box_new w2 _ _
  have RN:=Lib.hid (hr.later hb1);clear hr
  have lw:w.heap.size+1<w2.heap.size:=by have:=Z.out.2.2.2.2.2.2;simpa using this
  replace R1:=Lib.hid (R1.out.later hb1)
  replace X0:=Lib.hid (X0.out.later hb1)
  replace Z:=Lib.hid (Z.out.later hb1)
  replace HB:=Lib.hid (bthen HB.out hb1)
  clear hb1
  obtain⟨kX00,kX01,kX02,-,-,-,-⟩:=X0.out
  go_wp2_with fail
  refine(rtrimN J E R1.out (by omega) HE.out LE.out).mono ?_
  rintro e w3 ⟨ad,nd,cd,rfl,hnd,hr,hb⟩
  clear R1
  clear X0
  replace RN:=Lib.hid (RN.out.later hb)
  replace XN:=Lib.hid (XN.out.later hb)
  replace Z:=Lib.hid (Z.out.later hb)
  replace HB:=Lib.hid (bthen HB.out hb)
  clear hb
  clear kX00 kX01 kX02
  have RD:=Lib.hid hr;clear hr
  have hd0:((nd:Int)==0)=false:=by rw [beq_eq_false_iff_ne];have:=RD.out.1;have:=HZ2.out;omega
  obtain⟨kXN0,kXN1,kXN2,kXN3,kXN4⟩:=XN.out
  go_wp2_with fail
  refine(rgcdN J RN.out RD.out (val_limbs _) (val_limbs _) (by omega) (by omega) HCC.out LC.out).mono ?_
  rintro e w4 ⟨ag,ng,cg,rfl,hng,hr,hb⟩
  replace RN:=Lib.hid (RN.out.later hb)
  replace RD:=Lib.hid (RD.out.later hb)
  replace XN:=Lib.hid (XN.out.later hb)
  replace Z:=Lib.hid (Z.out.later hb)
  replace HB:=Lib.hid (bthen HB.out hb)
  clear hb
  clear kXN0 kXN1 kXN2 kXN3 kXN4
  have RG:=Lib.hid hr;clear hr
  obtain⟨kXN0,kXN1,kXN2,kXN3,kXN4⟩:=XN.out
  go_wp2_with fail
  refine(rdivN K 0 RN.out RG.out (val_limbs _) (val_limbs _) (by omega) (by omega) HC0.out LQ.out L1.out).mono ?_
  rintro e w5 ⟨aq,nq,cq,ar,nr,cr,rfl,hnq,hnr,hr,hr2,hb⟩
  clear RN
  replace RD:=Lib.hid (RD.out.later hb)
  replace RG:=Lib.hid (RG.out.later hb)
  replace XN:=Lib.hid (XN.out.later hb)
  replace Z:=Lib.hid (Z.out.later hb)
  replace HB:=Lib.hid (bthen HB.out hb)
  clear hb
  clear kXN0 kXN1 kXN2 kXN3 kXN4
  clear hr2
  rw [E1.out] at hr
  have RQ:=Lib.hid hr;clear hr
  obtain⟨kXN0,kXN1,kXN2,kXN3,kXN4⟩:=XN.out
  replace RD:=Lib.hid (RD.out.set XN.out.2.1 (by intro x;simp) (.slice aq nq cq))
  replace RG:=Lib.hid (RG.out.set XN.out.2.1 (by intro x;simp) (.slice aq nq cq))
  replace RQ:=Lib.hid (RQ.out.set XN.out.2.1 (by intro x;simp) (.slice aq nq cq))
  replace Z:=Lib.hid (Z.out.farS (g':=w2.heap.size) (o:=1) (by omega) (.slice aq nq cq))
  replace XN:=Lib.hid (XN.out.set1 (.slice aq nq cq))
  replace HB:=Lib.hid (HB.out.setCell (p:=⟨w2.heap.size,1,none⟩) (by simp;omega) (.slice aq nq cq))
  go_wp2_with fail
  refine(rdivN J 0 RD.out RG.out (val_limbs _) (val_limbs _) (by omega) (by omega) HC0.out LD.out L2.out).mono ?_
  rintro e w6 ⟨a6,n6,c6,a7,n7,c7,rfl,hn6,hn7,hr,hr2,hb⟩
  clear RD
  clear RG
  replace RQ:=Lib.hid (RQ.out.later hb)
  replace XN:=Lib.hid (XN.out.later hb)
  replace Z:=Lib.hid (Z.out.later hb)
  replace HB:=Lib.hid (bthen HB.out hb)
  clear hb
  clear kXN0 kXN1 kXN2 kXN3 kXN4
  clear hr2
  rw [F3.out] at hr
  have RE:=Lib.hid hr;clear hr
  obtain⟨kXN0,kXN1,-,-,-⟩:=XN.out
  obtain⟨kZ0,kZ1,kZ2,kZ3,kZ4,kZ5,kZ6⟩:=Z.out
  go_wp2
  exact bodyPost_ret (v:=.agg #[.bool (decide (V<0)),.slice aq nq cq,.slice a6 n6 c6]) (by simp [results,Tryz.results53,go_sem, *]) rfl
    ⟨aq,nq,cq,a6,n6,c6,by rw [E3.out],by omega,by omega,RQ.out.put3 Z.out _ _ _,RE.out.put3 Z.out _ _ _,below_put3 HB.out (by omega) _ _ _⟩
theorem rnormR (K J:Nat)(q:Rat){s:Bool}{a b:Option Addr}{n c m d:Nat}{xs ys:List Nat}{w:World}(h0:Row w a n c xs)(h1:Row w b m d ys)(hq:mkRat (sv s (val xs)) (val ys)=q)(hn:n≤K)(hm:m≤J)(hK:K≤60)(hK2:2≤K)(hJ2:2≤J)(hJ:J≤60) :
    Calls Tryz.prog 53 #[.agg #[.bool s,.slice a n c,.slice b m d]] w (RatK K J q w):=by
  rcases quick_any (s:=s) (h0.later (below_two w (.cells #[.bool s,.slice a n c,.slice b m d] 46) (.cells #[.bool false,.slice none 0 0,.slice none 0 0] 46))) (h1.later (below_two w (.cells #[.bool s,.slice a n c,.slice b m d] 46) (.cells #[.bool false,.slice none 0 0,.slice none 0 0] 46))) with hc | ⟨X,Y,hc,x0,x1,y0,y1,hX,hY⟩
  · rcases Nat.eq_zero_or_pos (val ys) with hz | hz
    · exact rnormR_zero K J q h0 h1 hq hn hm hK hK2 hJ2 hJ hc hz
    · exact rnormR_some K J q h0 h1 hq hn hm hK hK2 hJ2 hJ hc hz
  · exact rnormR_yes K J q h0 h1 hq hn hm hK hK2 hJ2 hJ X Y hc x0 x1 y0 y1 hX hY
end Go.Proofs.YtpnlbjnbgemocaaGreat
/- What the answer's den, Sign and Neg tell. -/
namespace Go.Proofs.YtpnlbjnbgemocaaGreat
set_option linter.unusedVariables false
set_option linter.unusedSimpArgs false
set_option maxRecDepth 100000
open Go.RowKit Nums
end Go.Proofs.YtpnlbjnbgemocaaGreat
