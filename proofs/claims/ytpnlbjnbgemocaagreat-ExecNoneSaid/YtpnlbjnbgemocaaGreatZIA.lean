import Derived.Test.YtpnlbjnbgemocaaGreatZRB
import Derived.Test.YtpnlbjnbgemocaaGreatZRC
import Derived.Deep.RegionHeld3
namespace Go.Proofs.YtpnlbjnbgemocaaGreat
set_option linter.unusedVariables false
set_option linter.unusedSimpArgs false
set_option maxRecDepth 100000
open Go.RowKit Nums
def sv (s:Bool)(X:Nat):Int:=if s then -(X:Int) else X
theorem natAbs_sv (s:Bool)(X:Nat):(sv s X).natAbs=X:=by cases s <;> simp [sv]
theorem sv_told (Z:Int):sv (decide (Z<0)) Z.natAbs=Z:=by
  by_cases h:Z<0
  · simp [sv,h];omega
  · simp [sv,h];omega
theorem sv_limbs (Z:Int):sv (decide (Z<0)) (val (limbs Z.natAbs))=Z:=by rw [val_limbs,sv_told]
def IntK (k:Nat)(Z:Int)(w:World)(e:Ending)(w':World):Prop:=
  ∃ a m c,e=.returned (.agg #[.bool (decide (Z<0)),.slice a m c])∧m≤k∧Row w' a m c (limbs Z.natAbs)∧Below w.heap.size w w'
theorem cell_other {w:World}{p q:Addr}{v:Value}(h:p≠q):(w.setCell p v).cell? q=w.cell? q:=World.cell?_setCell_other w p q v h
theorem cell_here {w:World}{p:Addr}{u v:Value}(h:w.cell? p=some u):(w.setCell p v).cell? p=some v:=World.cell?_setCell_same w p v h
def Box (w:World)(g:Nat)(u v:Value):Prop:=
  w.cell? ⟨g,0,none⟩=some u∧w.cell? ⟨g,1,none⟩=some v∧w.frozen? ⟨g,0,none⟩=false∧w.frozen? ⟨g,1,none⟩=false∧g<w.heap.size
theorem Box.below {B g:Nat}{w w':World}{u v:Value}(h:Box w g u v)(hb:Below B w w')(hg:g<B):Box w' g u v:=
  ⟨(hb.cell (p:=⟨g,0,none⟩) hg).trans h.1,(hb.cell (p:=⟨g,1,none⟩) hg).trans h.2.1,(hb.frozen (p:=⟨g,0,none⟩) hg).trans h.2.2.1,(hb.frozen (p:=⟨g,1,none⟩) hg).trans h.2.2.2.1,Nat.lt_of_lt_of_le h.2.2.2.2 hb.size⟩
theorem Box.later {g:Nat}{w w':World}{u v:Value}(h:Box w g u v)(hb:Below w.heap.size w w'):Box w' g u v:=h.below hb h.2.2.2.2
theorem Box.alloc {g:Nat}{w:World}{u v:Value}(h:Box w g u v)(o:Obj):Box (w.alloc o) g u v:=
  h.below ((Below.refl _ _).alloc (Nat.le_refl _) o) h.2.2.2.2
theorem Box.drew {g:Nat}{w:World}{u v:Value}(h:Box w g u v):Box w.drew g u v:=
  h.below (Below.refl _ _).drew h.2.2.2.2
theorem box_new (w:World)(u v:Value):Box (w.alloc (.cells #[u,v] 44)) w.heap.size u v:=by
  have h:=heap_alloc_new w (.cells #[u,v] 44)
  refine⟨?_, ?_, ?_, ?_,by simp⟩
  · rw [cell_of_row _ _ _ #[u,v] 44 (0,0) h];rfl
  · rw [cell_of_row _ _ _ #[u,v] 44 (0,0) h];rfl
  · exact frozen_of_row _ _ _ #[u,v] 44 h
  · exact frozen_of_row _ _ _ #[u,v] 44 h
theorem box_two (w:World)(u v x y:Value):Box ((w.alloc (.cells #[u,v] 44)).alloc (.cells #[x,y] 44)) w.heap.size u v∧Box ((w.alloc (.cells #[u,v] 44)).alloc (.cells #[x,y] 44)) (w.heap.size+1) x y:=by
  refine⟨(box_new w _ _).alloc _, ?_⟩
  have h:=box_new (w.alloc (.cells #[u,v] 44)) x y
  rw [show(w.alloc (.cells #[u,v] 44)).heap.size=w.heap.size+1 from by simp] at h
  exact h
theorem box_three (w:World)(u v x y p q:Value):Box (((w.alloc (.cells #[u,v] 44)).alloc (.cells #[x,y] 44)).alloc (.cells #[p,q] 44)) w.heap.size u v∧Box (((w.alloc (.cells #[u,v] 44)).alloc (.cells #[x,y] 44)).alloc (.cells #[p,q] 44)) (w.heap.size+1) x y∧Box (((w.alloc (.cells #[u,v] 44)).alloc (.cells #[x,y] 44)).alloc (.cells #[p,q] 44)) (w.heap.size+2) p q:=by
  obtain⟨h0,h1⟩:=box_two w u v x y
  refine⟨h0.alloc _,h1.alloc _, ?_⟩
  have h:=box_new ((w.alloc (.cells #[u,v] 44)).alloc (.cells #[x,y] 44)) p q
  rw [show((w.alloc (.cells #[u,v] 44)).alloc (.cells #[x,y] 44)).heap.size=w.heap.size+2 from by simp] at h
  exact h
theorem Row.set {w:World}{a:Option Addr}{n c:Nat}{xs:List Nat}{p:Addr}{u:Value}(h:Row w a n c xs)(hp:w.cell? p=some u)(hu:∀ x,u≠.int .u32 x)(v:Value):Row (w.setCell p v) a n c xs:=by
  obtain⟨h1,h2,h3,h4,h5,b,off,h6,h7⟩:=h
  refine⟨h1,h2,h3,h4,h5,b,off,h6,fun i hi=>⟨by simpa using (h7 i hi).1, ?_⟩⟩
  rw [cell_other (by rintro rfl;rw [(h7 i hi).2] at hp;exact hu _ (Option.some.inj hp).symm)]
  exact(h7 i hi).2
theorem Row.put {w:World}{a:Option Addr}{n c g:Nat}{xs:List Nat}{s:Bool}{sl:Option Addr}{sn sc:Nat}(h:Row w a n c xs)(h0:w.cell? ⟨g,0,none⟩=some (.bool s))(h1:w.cell? ⟨g,1,none⟩=some (.slice sl sn sc))(p q:Value) :
    Row ((w.setCell ⟨g,0,none⟩ p).setCell ⟨g,1,none⟩ q) a n c xs:=by
  refine(h.set h0 (by intro x;simp) p).set (u:=.slice sl sn sc) ?_ (by intro x;simp) q
  rw [cell_other (by simp)];exact h1
theorem below_put {B g:Nat}{a w:World}(h:Below B a w)(hg:B≤g)(p q:Value):Below B a ((w.setCell ⟨g,0,none⟩ p).setCell ⟨g,1,none⟩ q):=(h.setCell hg _).setCell hg _
theorem Box.put {w:World}{g:Nat}{u v:Value}(h:Box w g u v)(p q:Value):Box ((w.setCell ⟨g,0,none⟩ p).setCell ⟨g,1,none⟩ q) g p q:=by
  obtain⟨h0,h1,h2,h3,h4⟩:=h
  have e1:(w.setCell ⟨g,0,none⟩ p).cell? ⟨g,1,none⟩=some v:=by rw [cell_other (by simp)];exact h1
  refine⟨?_,cell_here e1,by simpa using h2,by simpa using h3,by simpa using h4⟩
  rw [cell_other (by simp)];exact cell_here h0
theorem Box.far {w:World}{g g':Nat}{u v:Value}(h:Box w g u v)(hg:g'≠g)(p q:Value):Box ((w.setCell ⟨g',0,none⟩ p).setCell ⟨g',1,none⟩ q) g u v:=by
  obtain⟨h0,h1,h2,h3,h4⟩:=h
  refine⟨?_, ?_,by simpa using h2,by simpa using h3,by simpa using h4⟩
  · rw [cell_other (by simp),cell_other (by simp)];exact h0
  · rw [cell_other (by simp),cell_other (by simp)];exact h1
theorem below_one (w:World)(o:Obj):Below w.heap.size w (w.alloc o):=(Below.refl _ _).alloc (Nat.le_refl _) _
theorem below_two (w:World)(o p:Obj):Below w.heap.size w ((w.alloc o).alloc p):=(below_one w o).alloc (by simp) _
theorem below_three (w:World)(o p q:Obj):Below w.heap.size w (((w.alloc o).alloc p).alloc q):=(below_two w o p).alloc (by simp;omega) _
theorem below_four (w:World)(o p q r:Obj):Below w.heap.size w ((((w.alloc o).alloc p).alloc q).alloc r):=(below_three w o p q).alloc (by simp;omega) _
theorem bthen {w w1 w2:World}(h:Below w.heap.size w w1)(h2:Below w1.heap.size w1 w2):Below w.heap.size w w2:=h.trans (h2.mono h.size)
theorem Row.later {w w':World}{a:Option Addr}{n c:Nat}{xs:List Nat}(h:Row w a n c xs)(hb:Below w.heap.size w w'):Row w' a n c xs:=row_below (Nat.le_refl _) hb h
theorem put_any (s:Bool)(a:Option Addr)(n c:Nat)(w:World) :
    Calls Tryz.prog 137 #[.bool s,.slice a n c] w fun e w'=>e=.returned (.agg #[.bool (s&&decide (0<n)),.slice a n c])∧Below w.heap.size w w':=by
  rcases Nat.eq_zero_or_pos n with h0 | h0
  · subst h0
    cases s
    all_goals
      go_enter Tryz.func137,Tryz.ntmps137
      go_wp2
      exact bodyPost_ret (v:=.agg #[.bool false,.slice a 0 c]) (by simp [results,Tryz.results137,go_sem]) rfl ⟨rfl,below_one _ _⟩
  · have hp:(0:Int)<(n:Int):=by omega
    cases s
    · go_enter Tryz.func137,Tryz.ntmps137
      go_wp2
      exact bodyPost_ret (v:=.agg #[.bool false,.slice a n c]) (by simp [results,Tryz.results137,go_sem]) rfl ⟨rfl,below_one _ _⟩
    · go_enter Tryz.func137,Tryz.ntmps137
      go_wp2
      exact bodyPost_ret (v:=.agg #[.bool true,.slice a n c]) (by simp [results,Tryz.results137,go_sem]) rfl ⟨by simp [h0],below_one _ _⟩
theorem put_told (k:Nat)(s:Bool)(a:Option Addr)(n c X:Nat)(Z:Int)(w:World)(hr:Row w a n c (limbs X))(hZ:sv s X=Z)(hk:(limbs X).length≤k) :
    Calls Tryz.prog 137 #[.bool s,.slice a n c] w (IntK k Z w):=by
  subst hZ
  refine(put_any s a n c w).mono ?_
  rintro e w' ⟨rfl,hb⟩
  have hl:=hr.1
  refine⟨a,n,c, ?_,by omega, ?_,hb⟩
  · have e1:(s&&decide (0<n))=decide (sv s X<0):=by
      rcases Nat.eq_zero_or_pos X with h | h
      · subst h
        rw [limbs_zero] at hl
        simp at hl
        subst hl
        cases s <;> simp [sv]
      · have:0<n:=by
          rcases Nat.eq_zero_or_pos n with h0 | h0
          · rw [h0] at hl;have:=length_limbs_zero.1 hl;omega
          · exact h0
        cases s <;> simp [sv,this,h]
    rw [e1]
  · rw [natAbs_sv];exact row_below (Nat.le_refl _) hb hr
set_option maxHeartbeats 1000000 in
theorem norm_any (k:Nat)(Z:Int)(s:Bool)(a:Option Addr)(n c:Nat)(xs:List Nat)(w:World)(hr:Row w a n c xs)(hn:n≤1000)(hZ:sv s (val xs)=Z)(hk:(limbs (val xs)).length≤k) :
    Calls Tryz.prog 203 #[.agg #[.bool s,.slice a n c]] w (IntK k Z w):=by
  have HZ:=Lib.hid hZ;clear hZ
  have HR:=Lib.hid hr;clear hr
  have HK:=Lib.hid hk;clear hk
  have HX:=Lib.hid (box_two w (.bool s) (.slice a n c) (.bool false) (.slice none 0 0))
  have HW:=Lib.hid (below_two w (.cells #[.bool s,.slice a n c] 44) (.cells #[.bool false,.slice none 0 0] 44)).drew
  have HRW:=Lib.hid (HR.out.later HW.out)
  go_enter Tryz.func203,Tryz.ntmps203
  go_wp2_with fail
  go_region_held3 (fun w'=>w'.cell? ⟨w.heap.size,0,none⟩=some (.bool s)∧w'.cell? ⟨w.heap.size,1,none⟩=some (.slice a n c))
    (first | go_keep | (simp;done))
    (first
      | (go_at_call 176
         refine(trim_any a n c xs _ HRW.out (by omega)).mono ?_
         rintro e w1 ⟨a',m,rfl,hm,hmn,hrow,hb⟩
         have HROW:=Lib.hid hrow;clear hrow
         clear hm
         obtain⟨c0,c1,f0,f1,l0⟩:=HX.out.1.drew.later hb
         obtain⟨c2,c3,f2,f3,l1⟩:=HX.out.2.drew.later hb
         have HB:=Lib.hid (bthen HW.out hb);clear hb)
      | (go_at_call 137
         refine(put_told k s _ _ _ (val xs) Z _ HROW.out HZ.out HK.out).mono ?_
         rintro e w2 ⟨a2,m2,cc2,rfl,hmk,hrow,hb⟩
         have HROW2:=Lib.hid hrow;clear hrow
         obtain⟨d0,d1,g0,g1,k0⟩:=Box.later ⟨c0,c1,f0,f1,l0⟩ hb
         obtain⟨d2,d3,g2,g3,k1⟩:=Box.later ⟨c2,c3,f2,f3,l1⟩ hb
         have HB2:=Lib.hid (bthen HB.out hb);clear hb))
  go_wp2
  refine bodyPost_ret (v:=.agg #[.bool (decide (Z<0)),.slice a2 m2 cc2]) (by simp [results,Tryz.results203,go_sem, *]) rfl ⟨a2,m2,cc2,rfl,hmk, ?_, ?_⟩
  · exact HROW2.out.put d2 d3 _ _
  · exact below_put HB2.out (by omega) _ _
theorem flip_any (s:Bool)(a:Option Addr)(n c:Nat)(w:World) :
    Calls Tryz.prog 204 #[.agg #[.bool s,.slice a n c]] w fun e w'=>e=.returned (.agg #[.bool (!s),.slice a n c])∧Below w.heap.size w w':=by
  go_enter Tryz.func204,Tryz.ntmps204
  go_wp2
  exact bodyPost_ret (v:=.agg #[.bool (!s),.slice a n c]) (by simp [results,Tryz.results204,go_sem]) rfl ⟨rfl,below_two _ _ _⟩
end Go.Proofs.YtpnlbjnbgemocaaGreat
/- What Sign, Compare and Cmp tell of any integers. -/
namespace Go.Proofs.YtpnlbjnbgemocaaGreat
set_option linter.unusedVariables false
set_option linter.unusedSimpArgs false
set_option maxRecDepth 100000
open Go.RowKit Nums
def sgn (Z:Int):Int:=if Z<0 then -1 else if 0<Z then 1 else 0
theorem bitsI (T:Int){w:World}{a:Option Addr}{n c:Nat}{xs:List Nat}(h0:Row w a n c xs)(hn:n≤100)(hT:((bitsOf (val xs)).length:Int)=T):Calls Tryz.prog 131 #[.slice a n c] w fun e w'=>e=.returned (.int .i64 T)∧Below w.heap.size w w':=by
  subst hT
  exact bitsN _ h0 hn rfl
end Go.Proofs.YtpnlbjnbgemocaaGreat
/- What Neg, Add, Sub and Mul tell of any integers. -/
namespace Go.Proofs.YtpnlbjnbgemocaaGreat
set_option linter.unusedVariables false
set_option linter.unusedSimpArgs false
set_option maxRecDepth 100000
open Go.RowKit Nums
set_option maxHeartbeats 1000000 in
theorem negI_any (k:Nat)(Z:Int)(s:Bool)(a:Option Addr)(n c:Nat)(xs:List Nat)(w:World)(hr:Row w a n c xs)(hn:n≤100)(hZ:-sv s (val xs)=Z)(hk:(limbs (val xs)).length≤k) :
    Calls Tryz.prog 196 #[.agg #[.bool s,.slice a n c]] w (IntK k Z w):=by
  have HZ:=Lib.hid (show sv (!s) (val xs)=Z by rw [←hZ];cases s <;> simp [sv]);clear hZ
  have HX:=Lib.hid (box_two w (.bool s) (.slice a n c) (.bool false) (.slice none 0 0))
  have HW:=Lib.hid (below_two w (.cells #[.bool s,.slice a n c] 44) (.cells #[.bool false,.slice none 0 0] 44))
  have HR:=Lib.hid (hr.later HW.out);clear hr
  have HK:=Lib.hid hk;clear hk
  go_enter Tryz.func196,Tryz.ntmps196
  go_wp2_with fail
  refine(flip_any _ _ _ _ _).mono ?_
  rintro e w1 ⟨rfl,hb⟩
  obtain⟨c2,c3,f2,f3,l1⟩:=HX.out.2.later hb
  have HR1:=Lib.hid (HR.out.later hb)
  have HB:=Lib.hid (bthen HW.out hb);clear hb
  go_wp2_with fail
  refine(norm_any k Z (!s) a n c xs _ HR1.out (by omega) HZ.out HK.out).mono ?_
  rintro e w2 ⟨a2,m2,cc2,rfl,hmk,hrow,hb⟩
  have HROW2:=Lib.hid hrow;clear hrow
  obtain⟨d2,d3,g2,g3,k1⟩:=Box.later ⟨c2,c3,f2,f3,l1⟩ hb
  have HB2:=Lib.hid (bthen HB.out hb);clear hb
  clear c2 c3 f2 f3
  go_wp2
  exact bodyPost_ret (v:=.agg #[.bool (decide (Z<0)),.slice a2 m2 cc2]) (by simp [results,Tryz.results196,go_sem, *]) rfl ⟨a2,m2,cc2,rfl,hmk,HROW2.out.put d2 d3 _ _,below_put HB2.out (by omega) _ _⟩
end Go.Proofs.YtpnlbjnbgemocaaGreat
/- What Add, Sub and Mul tell, in the words of the integers that they are handed. -/
namespace Go.Proofs.YtpnlbjnbgemocaaGreat
set_option linter.unusedVariables false
set_option linter.unusedSimpArgs false
set_option maxRecDepth 100000
open Go.RowKit Nums
theorem len_sv {s:Bool}{N k:Nat}{Z:Int}(hZ:sv s N=Z)(hk:(limbs Z.natAbs).length≤k):(limbs N).length≤k:=by
  subst hZ;rwa [natAbs_sv] at hk
section
variable {s t:Bool} {a b:Option Addr} {n c m d:Nat} {xs ys:List Nat} {w:World} {X Y:Int}
end
theorem sv_flip (s:Bool)(X:Nat):sv (!s) X=-sv s X:=by cases s <;> simp [sv]
section
variable {s t:Bool} {a b:Option Addr} {n c m d:Nat} {xs ys:List Nat} {w:World} {X Y:Int}
theorem negI (k:Nat)(Z:Int)(h0:Row w a n c xs)(hX:sv s (val xs)=X)(hn:n≤100)(hZ:-X=Z)(hk:(limbs Z.natAbs).length≤k) :
    Calls Tryz.prog 196 #[.agg #[.bool s,.slice a n c]] w (IntK k Z w):=by
  subst hX
  exact negI_any k Z s a n c xs w h0 hn hZ (len_sv (s:=!s) (by rw [sv_flip];exact hZ) hk)
end
end Go.Proofs.YtpnlbjnbgemocaaGreat
/- What Same tells, of any two rows; and the laws' few and same, of any two integers. -/
namespace Go.Proofs.YtpnlbjnbgemocaaGreat
set_option linter.unusedVariables false
set_option linter.unusedSimpArgs false
set_option maxRecDepth 100000
open Go.RowKit Nums
section
variable {s t:Bool} {a b:Option Addr} {n c m d:Nat} {xs ys:List Nat} {w:World}
end
end Go.Proofs.YtpnlbjnbgemocaaGreat
/- What Of tells, the program's and the document's answer's; what the document's answer's Norm tells. -/
namespace Go.Proofs.YtpnlbjnbgemocaaGreat
set_option linter.unusedVariables false
set_option linter.unusedSimpArgs false
set_option maxRecDepth 100000
open Go.RowKit Nums
theorem row_pair (w:World)(o:Obj)(A B:Int)(a b:Nat)(hA:A=(a:Int))(hB:B=(b:Int))(ha:a<4294967296)(hb:b<4294967296) :
    Row ((w.alloc o).alloc (.cells #[.int .u32 A,.int .u32 B] 120)) (some ⟨w.heap.size+1,0,none⟩) 2 2 [a,b]:=by
  subst hA;subst hB
  have hs:Small [a,b]:=by intro x hx;simp at hx;omega
  have h:=(mem_alloc (w.alloc o) [a,b] _ rfl).row0 hs 2 (by simp) (by unfold maxLen;omega)
  simpa [u32] using h
theorem u64_neg {Z:Int}(h0:Z<0)(h1:-9223372036854775808≤Z):IntKind.u64.wrap (-IntKind.u64.wrap Z)=((Z.natAbs:Nat):Int):=by
  rw [IntKind.wrap_u64,IntKind.wrap_u64];omega
theorem pair_val (N:Nat):val [N % 4294967296,N / 4294967296]=N:=by simp [val];omega
set_option maxHeartbeats 1000000 in
theorem ofI_neg (k:Nat)(Z:Int)(w:World)(h0:Z<0)(h1:-9223372036854775808≤Z)(hk:(limbs Z.natAbs).length≤k) :
    Calls Tryz.prog 160 #[.int .i64 Z] w (IntK k Z w):=by
  have hN:Z.natAbs / 4294967296<4294967296:=by omega
  have hL:Z.natAbs % 4294967296<4294967296:=by omega
  have HK:=Lib.hid hk;clear hk
  have E1:Hid (IntKind.u64.wrap (-IntKind.u64.wrap Z) % 4294967296=((Z.natAbs % 4294967296:Nat):Int)):=by show _=_;rw [u64_neg h0 h1];omega
  have E2:Hid (IntKind.u64.wrap (-IntKind.u64.wrap Z) / 4294967296 % 4294967296=((Z.natAbs / 4294967296:Nat):Int)):=by show _=_;rw [u64_neg h0 h1];omega
  have E3:Hid (sv true Z.natAbs=Z):=by show _=_;simp [sv];omega
  have HX:=Lib.hid (box_new w (.bool false) (.slice none 0 0))
  have HN:=Lib.hid hN;clear hN
  have HL:=Lib.hid hL;clear hL
  go_enter Tryz.func160,Tryz.ntmps160
  go_wp2_with fail
  refine(trim_any _ 2 2 [Z.natAbs % 4294967296,Z.natAbs / 4294967296] _ (by exact row_pair w _ _ _ _ _ E1.out E2.out HL.out HN.out) (by omega)).mono ?_
  rw [pair_val]
  rintro e w1 ⟨a',m,rfl,hm,hmn,hrow,hb⟩
  have R1:=Lib.hid hrow;clear hrow
  clear hm
  have X1:=Lib.hid ((HX.out.alloc _).later hb)
  have HB:=Lib.hid (bthen (below_two _ _ _) hb);clear hb
  go_wp2_with fail
  refine(put_told k true _ _ _ _ Z _ R1.out E3.out HK.out).mono ?_
  rintro e w2 ⟨a2,m2,c2,rfl,hmk,hrow,hb⟩
  have R2:=Lib.hid hrow;clear hrow
  obtain⟨d2,d3,g2,g3,k1⟩:=X1.out.later hb
  have HB2:=Lib.hid (bthen HB.out hb);clear hb
  go_wp2
  exact bodyPost_ret (v:=.agg #[.bool (decide (Z<0)),.slice a2 m2 c2]) (by simp [results,Tryz.results160,go_sem, *]) rfl ⟨a2,m2,c2,rfl,hmk,R2.out.put d2 d3 _ _,below_put HB2.out (Nat.le_refl _) _ _⟩
set_option maxHeartbeats 1000000 in
theorem ofI_pos (k:Nat)(Z:Int)(w:World)(h0:0≤Z)(h1:Z<9223372036854775808)(hk:(limbs Z.natAbs).length≤k) :
    Calls Tryz.prog 160 #[.int .i64 Z] w (IntK k Z w):=by
  have hN:Z.natAbs / 4294967296<4294967296:=by omega
  have hL:Z.natAbs % 4294967296<4294967296:=by omega
  have HK:=Lib.hid hk;clear hk
  have E1:Hid (Z % 4294967296=((Z.natAbs % 4294967296:Nat):Int)):=by show _=_;omega
  have E2:Hid (Z / 4294967296=((Z.natAbs / 4294967296:Nat):Int)):=by show _=_;omega
  have E3:Hid (sv false Z.natAbs=Z):=by show _=_;simp [sv];omega
  have hd:decide (Z<0)=false:=by simp;omega
  have HX:=Lib.hid (box_new w (.bool false) (.slice none 0 0))
  have HN:=Lib.hid hN;clear hN
  have HL:=Lib.hid hL;clear hL
  go_enter Tryz.func160,Tryz.ntmps160
  go_wp2_with fail
  refine(trim_any _ 2 2 [Z.natAbs % 4294967296,Z.natAbs / 4294967296] _ (by exact row_pair w _ _ _ _ _ E1.out E2.out HL.out HN.out) (by omega)).mono ?_
  rw [pair_val]
  rintro e w1 ⟨a',m,rfl,hm,hmn,hrow,hb⟩
  have R1:=Lib.hid hrow;clear hrow
  clear hm
  have X1:=Lib.hid ((HX.out.alloc _).later hb)
  have HB:=Lib.hid (bthen (below_two _ _ _) hb);clear hb
  go_wp2_with fail
  refine(put_told k false _ _ _ _ Z _ R1.out E3.out HK.out).mono ?_
  rintro e w2 ⟨a2,m2,c2,rfl,hmk,hrow,hb⟩
  have R2:=Lib.hid hrow;clear hrow
  obtain⟨d2,d3,g2,g3,k1⟩:=X1.out.later hb
  have HB2:=Lib.hid (bthen HB.out hb);clear hb
  go_wp2
  exact bodyPost_ret (v:=.agg #[.bool (decide (Z<0)),.slice a2 m2 c2]) (by simp [results,Tryz.results160,go_sem, *]) rfl ⟨a2,m2,c2,rfl,hmk,R2.out.put d2 d3 _ _,below_put HB2.out (Nat.le_refl _) _ _⟩
theorem ofI (k:Nat)(Z:Int)(w:World)(h0:-9223372036854775808≤Z)(h1:Z<9223372036854775808)(hk:(limbs Z.natAbs).length≤k) :
    Calls Tryz.prog 160 #[.int .i64 Z] w (IntK k Z w):=by
  by_cases h:Z<0
  · exact ofI_neg k Z w h h0 hk
  · exact ofI_pos k Z w (by omega) h1 hk
set_option maxHeartbeats 1000000 in
theorem rnorm_any (k:Nat)(Z:Int)(s:Bool)(a:Option Addr)(n c:Nat)(xs:List Nat)(w:World)(hr:Row w a n c xs)(hn:n≤100)(hZ:sv s (val xs)=Z)(hk:(limbs (val xs)).length≤k) :
    Calls Tryz.prog 91 #[.agg #[.bool s,.slice a n c]] w (IntK k Z w):=by
  have HZ:=Lib.hid hZ
  have HX:=Lib.hid (box_two w (.bool s) (.slice a n c) (.bool false) (.slice none 0 0))
  have HW:=Lib.hid (below_two w (.cells #[.bool s,.slice a n c] 44) (.cells #[.bool false,.slice none 0 0] 44))
  have HR:=Lib.hid (hr.later HW.out);clear hr
  have HK:=Lib.hid hk;clear hk
  have HA:Hid (val xs=Z.natAbs):=by show _=_;rw [←hZ,natAbs_sv]
  by_cases h:s=true∧val xs=0
  · obtain⟨rfl,h0⟩:=h
    have hz:¬ Z<0:=by rw [←hZ,h0];decide
    clear hZ
    have H0:=Lib.hid h0;clear h0
    have hd:decide (Z<0)=false:=by simpa using hz
    clear hz
    go_enter Tryz.func91,Tryz.ntmps91
    go_wp2_with fail
    refine(rtrimN k (val xs) HR.out hn rfl HK.out).mono ?_
    rintro e w1 ⟨a1,m1,c1,rfl,hmk,hrow,hb⟩
    obtain rfl:m1=0:=by rw [←hrow.1,H0.out,limbs_zero];rfl
    have R1:=Lib.hid hrow;clear hrow
    obtain⟨d0,d1,f0,f1,l0⟩:=HX.out.1.later hb
    obtain⟨d2,d3,f2,f3,l1⟩:=HX.out.2.later hb
    have HB:=Lib.hid (bthen HW.out hb);clear hb
    go_wp2
    exact bodyPost_ret (v:=.agg #[.bool (decide (Z<0)),.slice a1 0 c1]) (by simp [results,Tryz.results91,go_sem, *]) rfl ⟨a1,0,c1,rfl,hmk,by rw [←HA.out];exact R1.out.put d2 d3 _ _,below_put HB.out (by omega) _ _⟩
  · have hd:decide (Z<0)=s:=by
      rw [←hZ]
      cases s
      · simp [sv]
      · simp [sv];simp at h;omega
    by_cases hs:s=true
    · subst hs
      have h0:0<val xs:=by simp at h;omega
      have H0:=Lib.hid h0;clear h0 h hZ
      go_enter Tryz.func91,Tryz.ntmps91
      go_wp2_with fail
      refine(rtrimN k (val xs) HR.out hn rfl HK.out).mono ?_
      rintro e w1 ⟨a1,m1,c1,rfl,hmk,hrow,hb⟩
      have hm0:0<m1:=by
        rcases Nat.eq_zero_or_pos m1 with e | e
        · have:=hrow.1;rw [e] at this;have:=length_limbs_zero.1 this;have:=H0.out;omega
        · exact e
      have R1:=Lib.hid hrow;clear hrow
      obtain⟨d0,d1,f0,f1,l0⟩:=HX.out.1.later hb
      obtain⟨d2,d3,f2,f3,l1⟩:=HX.out.2.later hb
      have HB:=Lib.hid (bthen HW.out hb);clear hb
      go_wp2
      exact bodyPost_ret (v:=.agg #[.bool (decide (Z<0)),.slice a1 m1 c1]) (by simp [results,Tryz.results91,go_sem, *]) rfl ⟨a1,m1,c1,rfl,hmk,by rw [←HA.out];exact R1.out.put d2 d3 _ _,below_put HB.out (by omega) _ _⟩
    · obtain rfl:s=false:=by simpa using hs
      clear h hZ hs
      go_enter Tryz.func91,Tryz.ntmps91
      go_wp2_with fail
      refine(rtrimN k (val xs) HR.out hn rfl HK.out).mono ?_
      rintro e w1 ⟨a1,m1,c1,rfl,hmk,hrow,hb⟩
      have R1:=Lib.hid hrow;clear hrow
      obtain⟨d0,d1,f0,f1,l0⟩:=HX.out.1.later hb
      obtain⟨d2,d3,f2,f3,l1⟩:=HX.out.2.later hb
      have HB:=Lib.hid (bthen HW.out hb);clear hb
      go_wp2
      exact bodyPost_ret (v:=.agg #[.bool (decide (Z<0)),.slice a1 m1 c1]) (by simp [results,Tryz.results91,go_sem, *]) rfl ⟨a1,m1,c1,rfl,hmk,by rw [←HA.out];exact R1.out.put d2 d3 _ _,below_put HB.out (by omega) _ _⟩
theorem rnormI (k:Nat)(Z:Int){s:Bool}{a:Option Addr}{n c:Nat}{xs:List Nat}{w:World}(h0:Row w a n c xs)(hX:sv s (val xs)=Z)(hn:n≤100)(hk:(limbs Z.natAbs).length≤k) :
    Calls Tryz.prog 91 #[.agg #[.bool s,.slice a n c]] w (IntK k Z w):=
  rnorm_any k Z s a n c xs w h0 hn hX (by rw [←hX,natAbs_sv] at hk;exact hk)
end Go.Proofs.YtpnlbjnbgemocaaGreat
