import Derived.Test.YtpnlbjnbgemocaaGreatZQFToMdHN6
import Derived.Deep.RegionHeld3
import Derived.Deep.QuietTactic
import Derived.BigQuiet
import Derived.Test.YtpnlbjnbgemocaaGreatZQE
import Derived.Deep.DeepCutAuto
import Derived.RegionTactic
import Derived.ChangeAlike
import Derived.ProofKit
import Derived.OpenShut
import Derived.ShutString
import Derived.ChangeOld
import Derived.Test.YtpnlbjnbgemocaaGreatZQH
import Derived.Test.YtpnlbjnbgemocaaGreatZIFToEyBN4
import Derived.Test.YtpnlbjnbgemocaaGreatZQKToExFN4
namespace Go.Proofs.YtpnlbjnbgemocaaGreat
set_option linter.unusedVariables false
set_option linter.unusedSimpArgs false
set_option maxRecDepth 100000
open Go.RowKit Nums
end Go.Proofs.YtpnlbjnbgemocaaGreat
/- What the program's Bits tells. -/
namespace Go.Proofs.YtpnlbjnbgemocaaGreat
set_option linter.unusedVariables false
set_option linter.unusedSimpArgs false
set_option maxRecDepth 100000
open Go.RowKit Nums
theorem field_run1 (s:Bool)(a b:Option Addr)(n c m d:Nat)(w:World):Sem.run Tryz.prog (Instr.field 46 (Value.agg #[.bool s,.slice a n c,.slice b m d]) 1) w=Result.ok (Value.slice b m d) w:=rfl
theorem ret_i64 {x y:Int}(h:x=y):Ending.returned (.int .i64 x)=.returned (.int .i64 y):=by rw [h]
theorem below_drewNQ {B:Nat}{a w:World}(h:Below B a w)(n:Nat):Below B a (w.drewN n):=⟨h.os,h.tape,h.output,h.size,h.block⟩
theorem bitsQuiet (T:Nat){a:Option Addr}{n c:Nat}{xs:List Nat}{w:World}(h0:Row w a n c xs)(hn:n≤100)(hT:(bitsOf (val xs)).length=T) :
    Calls Tryz.prog 131 #[.slice a n c] w fun e w'=>e=.returned (.int .i64 (T:Int))∧w'=w:=
  (bits_any a n c xs w h0 (by omega)).mono fun e w' ⟨he,hw⟩=>⟨by rw [he,hT],hw.symm⟩
def bitsQ (q:Rat):Nat:=max (bitsOf q.num.natAbs).length (bitsOf q.den).length
set_option maxHeartbeats 8000000 in
theorem bitsR_lt (K J T B1 B2:Nat)(q:Rat){s:Bool}{a b:Option Addr}{n c m d:Nat}{xs ys:List Nat}{w:World}(h0:Row w a n c xs)(h1:Row w b m d ys)(hq:mkRat (sv s (val xs)) (val ys)=q)(hn:n≤K)(hm:m≤J)(hK:K≤60)(hK2:2≤K)(hJ2:2≤J)(hJ:J≤60)(hT:bitsQ q=T)(hB1:(bitsOf q.num.natAbs).length=B1)(hB2:(bitsOf q.den).length=B2)(ho:B1<B2) :
    Calls Tryz.prog 83 #[.agg #[.bool s,.slice a n c,.slice b m d]] w fun e w'=>e=.returned (.int .i64 (T:Int))∧Below w.heap.size w w':=by
  have e1:T=B2:=by unfold bitsQ at hT;omega
  have E1:=Lib.hid e1;clear e1
  clear hT
  have HB:=Lib.hid (below_one w (.cells #[.bool s,.slice a n c,.slice b m d] 46))
  have X0:Hid (Tri (w.alloc (.cells #[.bool s,.slice a n c,.slice b m d] 46)) (w.heap.size) (.bool s) (.slice a n c) (.slice b m d)):=(tri_new _ (.bool s) (.slice a n c) (.slice b m d))
  have hoI:(B1:Int)<(B2:Int):=by omega
  have R0:=Lib.hid (h0.later HB.out);clear h0
  have R1:=Lib.hid (h1.later HB.out);clear h1
  have HQ:=Lib.hid hq;clear hq
  have H1:=Lib.hid hB1;clear hB1
  have H2:=Lib.hid hB2;clear hB2
  go_enter Tryz.func83,Tryz.ntmps83
  go_wp2_with fail
  refine(normR K J q R0.out R1.out HQ.out hn hm (by omega) (by omega) (by omega)).mono ?_
  rintro e w1 ⟨a1,n1,c1,b1,m1,d1,rfl,hn1,hm1,hr,hr2,hb⟩
  replace X0:=Lib.hid (X0.out.later hb)
  replace HB:=Lib.hid (bthen HB.out hb)
  clear hb
  have RA:=Lib.hid hr;clear hr
  have RB:=Lib.hid hr2;clear hr2
  have hV1:B1≤32*n1:=by rw [←H1.out];have:=bits_le RA.out;rw [val_limbs] at this;exact this
  have hV2:B2≤32*m1:=by rw [←H2.out];have:=bits_le RB.out;rw [val_limbs] at this;exact this
  obtain⟨kX00,kX01,kX02,kX03,kX04,kX05,kX06⟩:=X0.out
  have kx:=kX00
  clear kX00 kX01 kX02 kX03 kX04 kX05 kX06
  obtain⟨kX00,kX01,kX02,kX03,kX04,kX05,kX06⟩:=X0.out
  have X0':=Lib.hid X0.out
  replace RA:=Lib.hid (RA.out.put3 X0'.out (.bool (decide (q.num<0))) (.slice a1 n1 c1) (.slice b1 m1 d1))
  replace RB:=Lib.hid (RB.out.put3 X0'.out (.bool (decide (q.num<0))) (.slice a1 n1 c1) (.slice b1 m1 d1))
  replace X0:=Lib.hid (X0.out.put (.bool (decide (q.num<0))) (.slice a1 n1 c1) (.slice b1 m1 d1))
  replace HB:=Lib.hid (below_put3 (g:=w.heap.size) HB.out (by omega) (.bool (decide (q.num<0))) (.slice a1 n1 c1) (.slice b1 m1 d1))
  clear X0'
  go_wp2_with fail
  clear kX00 kX01 kX02 kX03 kX04 kX05 kX06
  obtain⟨W,hW⟩:∃ W,(((w1.setCell ⟨w.heap.size,0,none⟩ (.bool (decide (q.num<0)))).setCell ⟨w.heap.size,1,none⟩ (.slice a1 n1 c1)).setCell ⟨w.heap.size,2,none⟩ (.slice b1 m1 d1))=W:=⟨_,rfl⟩
  rw [hW] at RA RB X0 HB ⊢
  clear hW kx
  obtain⟨kX00,kX01,kX02,-,-,-,-⟩:=X0.out
  have Q1:=Lib.hid (fun n=>bitsQuiet B1 (RA.out.later (below_drewNQ (Below.refl _ W) n)) (by omega) (by rw [val_limbs];exact H1.out))
  have Q2:=Lib.hid (fun n=>bitsQuiet B2 (RB.out.later (below_drewNQ (Below.refl _ W) n)) (by omega) (by rw [val_limbs];exact H2.out))
  go_quiet ((first | (go_at_call 131;with_reducible exact Calls.quiet_of_same (Q1.out _)) | (go_at_call 131;with_reducible exact Calls.quiet_of_same (Q2.out _))))
  go_wp2
  go_ret
  exact⟨by rw [E1.out];exact ret_i64 (by omega),below_drewNQ HB.out _⟩
set_option maxHeartbeats 8000000 in
theorem bitsR_ge (K J T B1 B2:Nat)(q:Rat){s:Bool}{a b:Option Addr}{n c m d:Nat}{xs ys:List Nat}{w:World}(h0:Row w a n c xs)(h1:Row w b m d ys)(hq:mkRat (sv s (val xs)) (val ys)=q)(hn:n≤K)(hm:m≤J)(hK:K≤60)(hK2:2≤K)(hJ2:2≤J)(hJ:J≤60)(hT:bitsQ q=T)(hB1:(bitsOf q.num.natAbs).length=B1)(hB2:(bitsOf q.den).length=B2)(ho:B2≤B1) :
    Calls Tryz.prog 83 #[.agg #[.bool s,.slice a n c,.slice b m d]] w fun e w'=>e=.returned (.int .i64 (T:Int))∧Below w.heap.size w w':=by
  have e1:T=B1:=by unfold bitsQ at hT;omega
  have E1:=Lib.hid e1;clear e1
  clear hT
  have HB:=Lib.hid (below_one w (.cells #[.bool s,.slice a n c,.slice b m d] 46))
  have X0:Hid (Tri (w.alloc (.cells #[.bool s,.slice a n c,.slice b m d] 46)) (w.heap.size) (.bool s) (.slice a n c) (.slice b m d)):=(tri_new _ (.bool s) (.slice a n c) (.slice b m d))
  have hoI:(B2:Int)≤(B1:Int):=by omega
  have hoJ:¬(B1:Int)<(B2:Int):=by omega
  have hoK:¬ B1<B2:=by omega
  have R0:=Lib.hid (h0.later HB.out);clear h0
  have R1:=Lib.hid (h1.later HB.out);clear h1
  have HQ:=Lib.hid hq;clear hq
  have H1:=Lib.hid hB1;clear hB1
  have H2:=Lib.hid hB2;clear hB2
  go_enter Tryz.func83,Tryz.ntmps83
  go_wp2_with fail
  refine(normR K J q R0.out R1.out HQ.out hn hm (by omega) (by omega) (by omega)).mono ?_
  rintro e w1 ⟨a1,n1,c1,b1,m1,d1,rfl,hn1,hm1,hr,hr2,hb⟩
  replace X0:=Lib.hid (X0.out.later hb)
  replace HB:=Lib.hid (bthen HB.out hb)
  clear hb
  have RA:=Lib.hid hr;clear hr
  have RB:=Lib.hid hr2;clear hr2
  have hV1:B1≤32*n1:=by rw [←H1.out];have:=bits_le RA.out;rw [val_limbs] at this;exact this
  have hV2:B2≤32*m1:=by rw [←H2.out];have:=bits_le RB.out;rw [val_limbs] at this;exact this
  obtain⟨kX00,kX01,kX02,kX03,kX04,kX05,kX06⟩:=X0.out
  have kx:=kX00
  clear kX00 kX01 kX02 kX03 kX04 kX05 kX06
  obtain⟨kX00,kX01,kX02,kX03,kX04,kX05,kX06⟩:=X0.out
  have X0':=Lib.hid X0.out
  replace RA:=Lib.hid (RA.out.put3 X0'.out (.bool (decide (q.num<0))) (.slice a1 n1 c1) (.slice b1 m1 d1))
  replace RB:=Lib.hid (RB.out.put3 X0'.out (.bool (decide (q.num<0))) (.slice a1 n1 c1) (.slice b1 m1 d1))
  replace X0:=Lib.hid (X0.out.put (.bool (decide (q.num<0))) (.slice a1 n1 c1) (.slice b1 m1 d1))
  replace HB:=Lib.hid (below_put3 (g:=w.heap.size) HB.out (by omega) (.bool (decide (q.num<0))) (.slice a1 n1 c1) (.slice b1 m1 d1))
  clear X0'
  go_wp2_with fail
  clear kX00 kX01 kX02 kX03 kX04 kX05 kX06
  obtain⟨W,hW⟩:∃ W,(((w1.setCell ⟨w.heap.size,0,none⟩ (.bool (decide (q.num<0)))).setCell ⟨w.heap.size,1,none⟩ (.slice a1 n1 c1)).setCell ⟨w.heap.size,2,none⟩ (.slice b1 m1 d1))=W:=⟨_,rfl⟩
  rw [hW] at RA RB X0 HB ⊢
  clear hW kx
  obtain⟨kX00,kX01,kX02,-,-,-,-⟩:=X0.out
  have Q1:=Lib.hid (fun n=>bitsQuiet B1 (RA.out.later (below_drewNQ (Below.refl _ W) n)) (by omega) (by rw [val_limbs];exact H1.out))
  have Q2:=Lib.hid (fun n=>bitsQuiet B2 (RB.out.later (below_drewNQ (Below.refl _ W) n)) (by omega) (by rw [val_limbs];exact H2.out))
  go_quiet ((first | (go_at_call 131;with_reducible exact Calls.quiet_of_same (Q1.out _)) | (go_at_call 131;with_reducible exact Calls.quiet_of_same (Q2.out _))))
  go_wp2
  go_ret
  exact⟨by rw [E1.out];exact ret_i64 (by omega),below_drewNQ HB.out _⟩
theorem bitsR (K J T:Nat)(q:Rat){s:Bool}{a b:Option Addr}{n c m d:Nat}{xs ys:List Nat}{w:World}(h0:Row w a n c xs)(h1:Row w b m d ys)(hq:mkRat (sv s (val xs)) (val ys)=q)(hn:n≤K)(hm:m≤J)(hK:K≤60)(hK2:2≤K)(hJ2:2≤J)(hJ:J≤60)(hT:bitsQ q=T) :
    Calls Tryz.prog 83 #[.agg #[.bool s,.slice a n c,.slice b m d]] w fun e w'=>e=.returned (.int .i64 (T:Int))∧Below w.heap.size w w':=by
  rcases Nat.lt_or_ge (bitsOf q.num.natAbs).length (bitsOf q.den).length with h | h
  · exact bitsR_lt K J T _ _ q h0 h1 hq hn hm hK hK2 hJ2 hJ hT rfl rfl h
  · exact bitsR_ge K J T _ _ q h0 h1 hq hn hm hK hK2 hJ2 hJ hT rfl rfl h
end Go.Proofs.YtpnlbjnbgemocaaGreat
namespace Go.Proofs.YtpnlbjnbgemocaaGreat
set_option linter.unusedVariables false
set_option linter.unusedSimpArgs false
set_option maxRecDepth 100000
open Go.RowKit Nums
set_option maxHeartbeats 4000000 in
theorem rwholeR_yes (K J:Nat)(q:Rat){s:Bool}{a b:Option Addr}{n c m d:Nat}{xs ys:List Nat}{w:World}(h0:Row w a n c xs)(h1:Row w b m d ys)(hq:mkRat (sv s (val xs)) (val ys)=q)(hn:n≤K)(hm:m≤J)(hK:K≤60)(hK2:2≤K)(hJ2:2≤J)(hJ:J≤60)(hB:q.den=1) :
    Calls Tryz.prog 74 #[.agg #[.bool s,.slice a n c,.slice b m d]] w fun e w'=>e=.returned (.bool true)∧Below w.heap.size w w':=by
  have HB:=Lib.hid (below_one w (.cells #[.bool s,.slice a n c,.slice b m d] 46))
  have X0:Hid (Tri (w.alloc (.cells #[.bool s,.slice a n c,.slice b m d] 46)) (w.heap.size) (.bool s) (.slice a n c) (.slice b m d)):=(tri_new _ (.bool s) (.slice a n c) (.slice b m d))
  have R0:=Lib.hid (h0.later HB.out);clear h0
  have R1:=Lib.hid (h1.later HB.out);clear h1
  have HQ:=Lib.hid hq;clear hq
  have HD:=Lib.hid hB;clear hB
  go_enter Tryz.func74,Tryz.ntmps74
  go_wp2_with fail
  refine(rnormR K J q R0.out R1.out HQ.out hn hm hK hK2 hJ2 hJ).mono ?_
  rintro e w1 ⟨a1,n1,c1,b1,m1,d1,rfl,hn1,hm1,hr,hr2,hb⟩
  replace X0:=Lib.hid (X0.out.later hb)
  replace HB:=Lib.hid (bthen HB.out hb)
  clear hb
  have RA:=Lib.hid hr;clear hr
  have RB:=Lib.hid hr2;clear hr2
  obtain⟨kX00,kX01,kX02,-,-,-,-⟩:=X0.out
  go_wp2_with fail
  rw [field_run1]
  have hb1:=below_one w1 (.cells #[.int .u32 1] 120)
  have RL:=Lib.hid (row_one_here w1)
  replace RB:=Lib.hid (RB.out.later hb1)
  replace HB:=Lib.hid (bthen HB.out hb1)
  clear hb1 kX00 kX01 kX02
  go_wp2_with fail
  refine(sameN RB.out RL.out (by rw [HD.out,limbs_1]) (by omega)).mono ?_
  rintro e w2 ⟨rfl,hb⟩
  replace HB:=Lib.hid (bthen HB.out hb)
  clear hb
  go_wp2
  go_ret
  exact⟨rfl,HB.out⟩
set_option maxHeartbeats 4000000 in
theorem rofR_neg (Z:Int)(w:World)(h0:Z<0)(h1:-9223372036854775808≤Z) :
    Calls Tryz.prog 34 #[.int .i64 Z] w (RatK 2 1 (Z:Rat) w):=by
  have HB:=Lib.hid (below_one w (.cells #[.bool false,.slice none 0 0,.slice none 0 0] 46))
  have X0:=Lib.hid (tri_new w (.bool false) (.slice none 0 0) (.slice none 0 0))
  have HX:Hid (IntKind.u64.wrap (-IntKind.u64.wrap Z)=((Z.natAbs:Nat):Int)):=by show _=_;rw [u64_neg h0 h1]
  have hlt:Z.natAbs<18446744073709551616:=by omega
  have HS:=Lib.hid (show decide (Z<0)=true by exact decide_eq_true h0)
  obtain⟨k1,k2,k3,k4,k5,k6,k7⟩:=X0.out
  go_enter Tryz.func34,Tryz.ntmps34
  go_wp2_with fail
  refine(qlimbs Z.natAbs _ _ (by first | exact HX.out | omega | (go_simp;exact HX.out)) hlt).mono ?_
  rintro e w1 ⟨a,n,rfl,hn,hr,hb⟩
  have RL:=Lib.hid (row_lit w1 1 1 rfl (by omega) (by omega))
  have b1:=below_one w1 (.cells #[.int .u32 1] 120)
  replace HB:=Lib.hid (bthen (bthen HB.out hb) b1)
  replace X0:=Lib.hid ((X0.out.later hb).later b1)
  have R0:=Lib.hid (hr.later b1);clear hr hb b1 k1 k2 k3 k4 k5 k6 k7
  obtain⟨k1,k2,k3,k4,k5,k6,k7⟩:=X0.out
  go_wp2
  exact bodyPost_ret (v:=.agg #[.bool true,.slice a n n,.slice (some ⟨w1.heap.size,0,none⟩) 1 1]) (by simp [results,Tryz.results34,go_sem, *]) rfl
    ⟨a,n,n,_,1,1,by rw [Rat.num_intCast,HS.out],hn,Nat.le_refl _,by rw [Rat.num_intCast];exact R0.out.put3 X0.out _ _ _,by rw [Rat.den_intCast];exact RL.out.put3 X0.out _ _ _,below_put3 HB.out (by simp) _ _ _⟩
set_option maxHeartbeats 4000000 in
theorem rofR_pos (Z:Int)(w:World)(h0:0≤Z)(h1:Z<9223372036854775808) :
    Calls Tryz.prog 34 #[.int .i64 Z] w (RatK 2 1 (Z:Rat) w):=by
  have HB:=Lib.hid (below_one w (.cells #[.bool false,.slice none 0 0,.slice none 0 0] 46))
  have X0:=Lib.hid (tri_new w (.bool false) (.slice none 0 0) (.slice none 0 0))
  have HX:Hid (IntKind.u64.wrap Z=((Z.natAbs:Nat):Int)):=by show _=_;rw [IntKind.wrap_u64];omega
  have hlt:Z.natAbs<18446744073709551616:=by omega
  have HS:=Lib.hid (show decide (Z<0)=false by exact decide_eq_false (by omega))
  have h2:¬ Z<0:=by omega
  obtain⟨k1,k2,k3,k4,k5,k6,k7⟩:=X0.out
  go_enter Tryz.func34,Tryz.ntmps34
  go_wp2_with fail
  refine(qlimbs Z.natAbs _ _ (by first | exact HX.out | omega | (go_simp;exact HX.out)) hlt).mono ?_
  rintro e w1 ⟨a,n,rfl,hn,hr,hb⟩
  have RL:=Lib.hid (row_lit w1 1 1 rfl (by omega) (by omega))
  have b1:=below_one w1 (.cells #[.int .u32 1] 120)
  replace HB:=Lib.hid (bthen (bthen HB.out hb) b1)
  replace X0:=Lib.hid ((X0.out.later hb).later b1)
  have R0:=Lib.hid (hr.later b1);clear hr hb b1 k1 k2 k3 k4 k5 k6 k7
  obtain⟨k1,k2,k3,k4,k5,k6,k7⟩:=X0.out
  go_wp2
  exact bodyPost_ret (v:=.agg #[.bool false,.slice a n n,.slice (some ⟨w1.heap.size,0,none⟩) 1 1]) (by simp [results,Tryz.results34,go_sem, *]) rfl
    ⟨a,n,n,_,1,1,by rw [Rat.num_intCast,HS.out],hn,Nat.le_refl _,by rw [Rat.num_intCast];exact R0.out.put3 X0.out _ _ _,by rw [Rat.den_intCast];exact RL.out.put3 X0.out _ _ _,below_put3 HB.out (by simp) _ _ _⟩
theorem rofR (Z:Int)(w:World)(h0:-9223372036854775808≤Z)(h1:Z<9223372036854775808):Calls Tryz.prog 34 #[.int .i64 Z] w (RatK 2 1 (Z:Rat) w):=by
  by_cases h:Z<0
  · exact rofR_neg Z w h h0
  · exact rofR_pos Z w (by omega) h1
set_option maxHeartbeats 8000000 in
theorem rprintR_one (T:ByteArray)(q:Rat){s:Bool}{a b:Option Addr}{n c m d:Nat}{xs ys:List Nat}{w:World}(h0:Row w a n c xs)(h1:Row w b m d ys)(hq:mkRat (sv s (val xs)) (val ys)=q)(hn:n≤19)(hm:m≤19)(hl1:(limbs q.num.natAbs).length≤12)(hl2:(limbs q.den).length≤12)(hD:q.den=1)(hT:ratStr q=T) :
    Calls Tryz.prog 35 #[.agg #[.bool s,.slice a n c,.slice b m d]] w fun e w'=>e=.returned (.string T)∧Below w.heap.size w w':=by
  have HB:=Lib.hid (below_one w (.cells #[.bool s,.slice a n c,.slice b m d] 46))
  have X0:Hid (Tri (w.alloc (.cells #[.bool s,.slice a n c,.slice b m d] 46)) (w.heap.size) (.bool s) (.slice a n c) (.slice b m d)):=(tri_new _ (.bool s) (.slice a n c) (.slice b m d))
  have R0:=Lib.hid (h0.later HB.out);clear h0
  have R1:=Lib.hid (h1.later HB.out);clear h1
  have HQ:=Lib.hid hq;clear hq
  have HD:=Lib.hid hD
  go_enter Tryz.func35,Tryz.ntmps35
  go_wp2_with fail
  refine(rnormR 19 19 q R0.out R1.out HQ.out hn hm (by omega) (by omega) (by omega) (by omega)).mono ?_
  rintro e w1 ⟨ar,nr,cr,br,mr,dr,rfl,h2',h3',hr,hr2,hb⟩
  have h2:nr≤12:=by rw [←hr.1];exact hl1
  have h3:mr≤12:=by rw [←hr2.1];exact hl2
  clear h2' h3' hl1 hl2 hn hm
  replace X0:=Lib.hid (X0.out.later hb)
  replace HB:=Lib.hid (bthen HB.out hb)
  clear hb
  have RA:=Lib.hid hr;clear hr
  have RB:=Lib.hid hr2;clear hr2 R0 R1 HQ
  obtain⟨kX00,kX01,kX02,kX03,kX04,kX05,kX06⟩:=X0.out
  have X0':=Lib.hid X0.out
  replace RA:=Lib.hid (RA.out.put3 X0'.out (.bool (decide (q.num<0))) (.slice ar nr cr) (.slice br mr dr))
  replace RB:=Lib.hid (RB.out.put3 X0'.out (.bool (decide (q.num<0))) (.slice ar nr cr) (.slice br mr dr))
  replace X0:=Lib.hid (X0.out.put (.bool (decide (q.num<0))) (.slice ar nr cr) (.slice br mr dr))
  replace HB:=Lib.hid (below_put3 (g:=w.heap.size) HB.out (by omega) (.bool (decide (q.num<0))) (.slice ar nr cr) (.slice br mr dr))
  clear X0'
  obtain⟨U,hU⟩:∃ U,decI q.num=U:=⟨_,rfl⟩
  obtain⟨V,hV⟩:∃ V,decStr q.den=V:=⟨_,rfl⟩
  have lU:U.size≤117:=by rw [←hU];exact decI_len (by rw [RA.out.1];omega)
  have lV:V.size≤116:=by rw [←hV];exact dec_len (by rw [RB.out.1];omega) (by omega)
  have LQ:=Lib.hid (show(decStr q.num.natAbs).size≤1000 from dec_len (by rw [RA.out.1];omega) (by omega))
  have hTU:T=U:=by rw [←hT,←hU,ratStr,if_pos hD]
  subst hTU
  have HU:=Lib.hid hU
  have HV:=Lib.hid (show decStr (val (limbs q.den))=V by rw [val_limbs];exact hV)
  clear hU hV hT hD
  go_wp2_with fail
  refine(rwholeR_yes 12 12 q RA.out RB.out (rat_limbs q) h2 h3 (by omega) (by omega) (by omega) (by omega) HD.out).mono ?_
  rintro e w2 ⟨rfl,hb⟩
  replace RA:=Lib.hid (RA.out.later hb)
  replace RB:=Lib.hid (RB.out.later hb)
  replace X0:=Lib.hid (X0.out.later hb)
  replace HB:=Lib.hid (bthen HB.out hb)
  clear hb
  clear kX00 kX01 kX02 kX03 kX04 kX05 kX06
  obtain⟨kX00,kX01,kX02,-,-,-,-⟩:=X0.out
  go_wp2_with fail
  refine(rprintI T q.num _ _ _ _ _ _ RA.out h2 (sv_limbs _) HU.out LQ.out).mono ?_
  rintro e w3 ⟨rfl,hb⟩
  replace RA:=Lib.hid (RA.out.later hb)
  replace RB:=Lib.hid (RB.out.later hb)
  replace X0:=Lib.hid (X0.out.later hb)
  replace HB:=Lib.hid (bthen HB.out hb)
  clear hb
  clear kX00 kX01 kX02
  obtain⟨kX00,kX01,kX02,-,-,-,-⟩:=X0.out
  go_wp2
  go_ret
  exact⟨rfl,HB.out⟩
end Go.Proofs.YtpnlbjnbgemocaaGreat
namespace Go.Proofs.YtpnlbjnbgemocaaGreat
set_option linter.unusedVariables false
set_option linter.unusedSimpArgs false
set_option maxRecDepth 100000
open Go.RowKit Nums
theorem bits_v {r:RV}{k j:Nat}{q:Rat}{w:World}(T:Nat)(h:r.Is k j q w)(h2:2≤k∧k≤60∧2≤j∧j≤60)(hT:bitsQ q=T):Calls Tryz.prog 83 #[.agg #[.bool r.s,.slice r.a r.n r.c,.slice r.b r.m r.d]] w fun e w'=>e=.returned (.int .i64 (T:Int))∧Below w.heap.size w w':=by
  obtain⟨xs,ys,h1,h3',h3,h4,h5⟩:=h;exact bitsR k j T q h1 h3' h3 h4 h5 h2.2.1 h2.1 h2.2.2.1 h2.2.2.2 hT
structure FAt (w:World) (g:Nat) (bits:Int) (dv bg:Bool):Prop where
  bits:w.cell? ⟨g,0,none⟩=some (.int .i64 bits)
  div:w.cell? ⟨g,1,none⟩=some (.bool dv)
  big:w.cell? ⟨g,2,none⟩=some (.bool bg)
  fdiv:w.frozen? ⟨g,1,none⟩=false
  fbig:w.frozen? ⟨g,2,none⟩=false
  lt:g<w.heap.size
theorem FAt.later {w w':World}{g:Nat}{bits:Int}{dv bg:Bool}(h:FAt w g bits dv bg)(hb:Below w.heap.size w w'):FAt w' g bits dv bg:=
  ⟨(hb.cell (p:=⟨g,0,none⟩) h.lt).trans h.bits,(hb.cell (p:=⟨g,1,none⟩) h.lt).trans h.div,(hb.cell (p:=⟨g,2,none⟩) h.lt).trans h.big,(hb.frozen (p:=⟨g,1,none⟩) h.lt).trans h.fdiv,(hb.frozen (p:=⟨g,2,none⟩) h.lt).trans h.fbig,Nat.lt_of_lt_of_le h.lt hb.size⟩
set_option maxHeartbeats 4000000 in
theorem number_ok {r:RV}{k j:Nat}{q:Rat}{w:World}(g:Nat)(bits:Int)(dv bg:Bool)(hr:r.Is k j q w)(hf:FAt w g bits dv bg)(h2:2≤k∧k≤60∧2≤j∧j≤60)(ht:¬ bits<(bitsQ q:Int)) :
    Calls Tryz.prog 50 #[.pointer (some ⟨g,0,none⟩),.agg #[.bool r.s,.slice r.a r.n r.c,.slice r.b r.m r.d]] w fun e w'=>e=.returned (.agg #[.int .i64 2,.bool r.s,.slice r.a r.n r.c,.slice r.b r.m r.d,.string ⟨#[]⟩])∧r.Is k j q w'∧Below w.heap.size w w':=by
  obtain⟨W1,hW1⟩:∃ W1,W1=w.alloc (.cells #[.bool r.s,.slice r.a r.n r.c,.slice r.b r.m r.d] 46):=⟨_,rfl⟩
  obtain⟨W2,hW2⟩:∃ W2,W2=W1.alloc (.cells #[.int .i64 0,.bool false,.slice none 0 0,.slice none 0 0,.string ⟨#[]⟩] 51):=⟨_,rfl⟩
  have hb1:Below w.heap.size w W1:=by rw [hW1];exact below_one _ _
  have hb2:Below W1.heap.size W1 W2:=by rw [hW2];exact below_one _ _
  have HK1:=Lib.hid ((show Blk W1 w.heap.size 46 #[.bool r.s,.slice r.a r.n r.c,.slice r.b r.m r.d] by rw [hW1];exact Blk.new _ _ _).later hb2)
  have HK2:=Lib.hid (show Blk W2 W1.heap.size 51 #[.int .i64 0,.bool false,.slice none 0 0,.slice none 0 0,.string ⟨#[]⟩] by rw [hW2];exact Blk.new _ _ _)
  have HB:=Lib.hid (bthen hb1 hb2)
  have HR:=Lib.hid (hr.later HB.out)
  have HF:=Lib.hid (hf.later HB.out)
  have HG:=Lib.hid hf.lt
  have HS1:=Lib.hid (show w.heap.size+1=W1.heap.size by rw [hW1];simp)
  have HL:=Lib.hid (show w.heap.size<W1.heap.size by rw [hW1];simp)
  have HW1:=Lib.hid hW1
  have HW2:=Lib.hid hW2
  have H2:=Lib.hid h2
  have HTT:=Lib.hid ht
  clear hb1 hb2 hr hf hW1 hW2 h2 ht
  obtain⟨q0,q1,q2,-,-,-,-⟩:=HK1.out.tri
  have f0:=HF.out.bits
  go_enter Tryz.func50,Tryz.ntmps50
  go_upto_region 1 with fail
  rw [←HW1.out,←HW2.out];simp only [HS1.out];clear HW1 HW2 HS1
  go_region_held3 (fun w'=>w'.cell? ⟨w.heap.size,0,none⟩=some (.bool r.s)∧w'.cell? ⟨w.heap.size,1,none⟩=some (.slice r.a r.n r.c)∧w'.cell? ⟨w.heap.size,2,none⟩=some (.slice r.b r.m r.d)∧w'.cell? ⟨g,0,none⟩=some (.int .i64 bits))
    (first | (refine⟨?_, ?_, ?_, ?_⟩ <;> with_reducible assumption) | (go_keep;done))
    (first
      | (go_at_call 83
         refine(bits_v (bitsQ q) (HR.out.later (by first | exact Below.refl _ _ | exact(Below.refl _ _).drew)) H2.out rfl).mono ?_
         rintro e w3 ⟨rfl,hb0⟩
         have hb:Below W2.heap.size W2 w3:=bthen (by first | exact Below.refl _ _ | exact(Below.refl _ _).drew) hb0
         replace HR:=Lib.hid (HR.out.later hb)
         replace HF:=Lib.hid (HF.out.later hb)
         replace HK1:=Lib.hid (HK1.out.later hb)
         replace HK2:=Lib.hid (HK2.out.later hb)
         replace HB:=Lib.hid (bthen HB.out hb)
         clear q0 q1 q2 f0 hb hb0
         obtain⟨q0,q1,q2,-,-,-,-⟩:=HK1.out.tri
         have f0:=HF.out.bits
         have G1:Hid True:=trivial))
  all_goals
    have ht:=HTT.out
    obtain⟨z0,z1,z2,z3,z4⟩:=HK2.out.fiveR
    obtain⟨y0,y1,y2,y3,y4⟩:=HK2.out.fiveF
    go_wp2_with fail
    exact bodyPost_ret (v:=.agg #[.int .i64 2,.bool r.s,.slice r.a r.n r.c,.slice r.b r.m r.d,.string ⟨#[]⟩]) (by simp [results,Tryz.results50,go_sem, *]) rfl ⟨rfl,HR.out.put5 HK2.out _ _ _ _ _,below_put5 HB.out (Nat.le_of_lt HL.out) _ _ _ _ _⟩
end Go.Proofs.YtpnlbjnbgemocaaGreat
