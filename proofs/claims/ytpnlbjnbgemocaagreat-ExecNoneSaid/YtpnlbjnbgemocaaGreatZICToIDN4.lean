import Derived.Shelf.Small.Wraps
import Derived.Test.YtpnlbjnbgemocaaGreatZIA
import Derived.Test.YtpnlbjnbgemocaaGreatZRC
import Derived.Test.YtpnlbjnbgemocaaGreatZIB
import Derived.Lib.SmallJoins
import Derived.ProofKit
import Derived.OpenShut
import Derived.ShutString
import Derived.ChangeOld
import Derived.Test.YtpnlbjnbgemocaaGreatZNC
namespace Go.Proofs.YtpnlbjnbgemocaaGreat
set_option linter.unusedVariables false
set_option linter.unusedSimpArgs false
set_option maxRecDepth 100000
open Go.Shelf Go.RowKit Nums
def decI (Z:Int):ByteArray:=if Z<0 then⟨#[45]⟩++decStr Z.natAbs else decStr Z.natAbs
end Go.Proofs.YtpnlbjnbgemocaaGreat
/- What Div tells, in the words of the integers that it is handed. -/
namespace Go.Proofs.YtpnlbjnbgemocaaGreat
set_option linter.unusedVariables false
set_option linter.unusedSimpArgs false
set_option maxRecDepth 100000
open Go.RowKit Nums
theorem fdiv_at {a b q r:Int}(hb:b≠0)(h:r+b*q=a)(hr:(0≤r∧r<b)∨(b<r∧r≤0)):a.fdiv b=q∧a.fmod b=r:=by
  rcases Int.lt_or_gt_of_ne hb with h0 | h0
  · exact(Int.fdiv_fmod_unique' h0).2 ⟨h,by omega,by omega⟩
  · exact(Int.fdiv_fmod_unique h0).2 ⟨h,by omega,by omega⟩
theorem fdiv_same (s:Bool)(A B:Nat)(hB:0<B):(sv s A).fdiv (sv s B)=sv false (A / B)∧(sv s A).fmod (sv s B)=sv s (A % B):=by
  have h:=Nat.div_add_mod A B
  have hm:=Nat.mod_lt A hB
  have hi:(A:Int)=(B:Int)*((A / B:Nat):Int)+((A % B:Nat):Int):=by rw [←Int.natCast_mul,←Int.natCast_add,h]
  cases s
  · refine fdiv_at (by simp [sv];omega) ?_ (Or.inl ⟨by simp only [sv,Bool.false_eq_true,if_false];omega,by simp only [sv,Bool.false_eq_true,if_false];omega⟩)
    simp only [sv,Bool.false_eq_true,if_false];omega
  · refine fdiv_at (by simp [sv];omega) ?_ (Or.inr ⟨by simp only [sv,if_true];omega,by simp only [sv,if_true];omega⟩)
    simp only [sv,Bool.false_eq_true,if_false,if_true,Int.neg_mul];omega
theorem fdiv_even (s:Bool)(A B:Nat)(hB:0<B)(h0:A % B=0):(sv s A).fdiv (sv (!s) B)=sv true (A / B)∧(sv s A).fmod (sv (!s) B)=sv (!s) (A % B):=by
  have h:=Nat.div_add_mod A B
  have hi:(A:Int)=(B:Int)*((A / B:Nat):Int):=by rw [←Int.natCast_mul];omega
  rw [h0]
  cases s
  · refine fdiv_at (by simp [sv];omega) ?_ (Or.inr ⟨by simp [sv];omega,by simp [sv]⟩)
    simp only [sv,Bool.not_false,Bool.false_eq_true,if_false,if_true,Int.neg_mul,Int.mul_neg];omega
  · refine fdiv_at (by simp [sv];omega) ?_ (Or.inl ⟨by simp [sv],by simp [sv];omega⟩)
    simp only [sv,Bool.not_true,Bool.false_eq_true,if_false,if_true,Int.mul_neg];omega
theorem fdiv_odd (s:Bool)(A B:Nat)(hB:0<B)(h0:0<A % B):(sv s A).fdiv (sv (!s) B)=sv true (A / B+1)∧(sv s A).fmod (sv (!s) B)=sv (!s) (B-A % B):=by
  have h:=Nat.div_add_mod A B
  have hm:=Nat.mod_lt A hB
  have hi:(A:Int)=(B:Int)*((A / B:Nat):Int)+((A % B:Nat):Int):=by rw [←Int.natCast_mul,←Int.natCast_add,h]
  have e1:((A / B+1:Nat):Int)=((A / B:Nat):Int)+1:=by omega
  cases s
  · refine fdiv_at (by simp [sv];omega) ?_ (Or.inr ⟨by simp [sv];omega,by simp [sv]⟩)
    simp only [sv,Bool.not_false,Bool.false_eq_true,if_false,if_true,e1,Int.neg_mul,Int.mul_neg,Int.mul_add,Int.mul_one];omega
  · refine fdiv_at (by simp [sv];omega) ?_ (Or.inl ⟨by simp [sv],by simp [sv];omega⟩)
    simp only [sv,Bool.not_true,Bool.false_eq_true,if_false,if_true,e1,Int.mul_neg,Int.mul_add,Int.mul_one];omega
theorem sv_ne {t:Bool}{B:Nat}{Y:Int}(h:sv t B=Y)(hY:Y≠0):0<B:=by
  rcases Nat.eq_zero_or_pos B with e | e
  · exfalso;apply hY;rw [←h,e];cases t <;> rfl
  · exact e
section
variable {s t:Bool} {a b:Option Addr} {n c m d:Nat} {xs ys:List Nat} {w:World} {X Y:Int}
theorem divI (k l:Nat)(Q R:Int)(h0:Row w a n c xs)(h1:Row w b m d ys)(hX:sv s (val xs)=X)(hY:sv t (val ys)=Y)(hn:n≤100)(hm:m≤100)(hY0:Y≠0)(hQ:X.fdiv Y=Q)(hR:X.fmod Y=R)(hk:(limbs Q.natAbs).length≤k)(hl:(limbs R.natAbs).length≤l)(hkb:k≤100) :
    Calls Tryz.prog 133 #[.agg #[.bool s,.slice a n c],.agg #[.bool t,.slice b m d]] w (DivK k l Q R w):=by
  have hB:=sv_ne hY hY0
  subst hX;subst hY;subst hQ;subst hR
  by_cases hst:t=s
  · subst hst
    obtain⟨e1,e2⟩:=fdiv_same t (val xs) (val ys) hB
    exact divI_same k l _ _ t a b n c m d xs ys w h0 h1 hn hm hB e1.symm e2.symm hk hl
  · obtain rfl:t=!s:=by cases s <;> cases t <;> simp at hst ⊢
    rcases Nat.eq_zero_or_pos (val xs % val ys) with h | h
    · obtain⟨e1,e2⟩:=fdiv_even s (val xs) (val ys) hB h
      exact divI_even k l _ _ s a b n c m d xs ys w h0 h1 hn hm hB h e1.symm e2.symm hk hl
    · obtain⟨e1,e2⟩:=fdiv_odd s (val xs) (val ys) hB h
      exact divI_odd k l _ _ s a b n c m d xs ys w h0 h1 hn hm hB hkb h e1.symm e2.symm hk hl
end
end Go.Proofs.YtpnlbjnbgemocaaGreat
/- What awake tells: true. -/
namespace Go.Proofs.YtpnlbjnbgemocaaGreat
set_option linter.unusedVariables false
set_option linter.unusedSimpArgs false
set_option maxRecDepth 100000
open Go.RowKit Nums
end Go.Proofs.YtpnlbjnbgemocaaGreat
/- What all laws of this seat share: integers that came in, their values and lengths; plain facts on lengths and signs. -/
namespace Go.Proofs.YtpnlbjnbgemocaaGreat
set_option linter.unusedVariables false
set_option linter.unusedSimpArgs false
set_option maxRecDepth 100000
open Go.RowKit Nums
theorem lenZ_raw {w:World}{a:Option Addr}{n c k:Nat}{xs:List Nat}{s:Bool}{A:Int}(h:Row w a n c xs)(hn:n≤k)(hA:sv s (val xs)=A):(limbs A.natAbs).length≤k:=by
  subst hA;rw [natAbs_sv];exact row_len' h hn
theorem lenZ_neg {X Z:Int}{k:Nat}(hX:(limbs X.natAbs).length≤k)(hZ:-X=Z):(limbs Z.natAbs).length≤k:=by
  subst hZ;rwa [Int.natAbs_neg]
end Go.Proofs.YtpnlbjnbgemocaaGreat
/- An integer that came in: a side and a row; the laws' few. -/
namespace Go.Proofs.YtpnlbjnbgemocaaGreat
set_option linter.unusedVariables false
set_option linter.unusedSimpArgs false
set_option maxRecDepth 100000
open Go.ChangeShapes Go.WideShapes Go.ChangeAt Go.RowKit Nums Go.Joins
set_option linter.unusedVariables false
end Go.Proofs.YtpnlbjnbgemocaaGreat
namespace Go.Proofs.YtpnlbjnbgemocaaGreat
set_option linter.unusedVariables false
set_option linter.unusedSimpArgs false
set_option maxRecDepth 100000
open Go.RowKit Nums
theorem limbs_one (x:Nat)(h0:0<x)(h:x<4294967296):limbs x=[x]:=by
  rw [limbs_pos (by omega),Nat.mod_eq_of_lt h,Nat.div_eq_of_lt h,limbs_zero]
theorem row_lit (w:World)(X:Int)(x:Nat)(hX:X=(x:Int))(h0:0<x)(h:x<4294967296):Row (w.alloc (.cells #[.int .u32 X] 120)) (some ⟨w.heap.size,0,none⟩) 1 1 (limbs x):=by
  subst hX
  rw [limbs_one x h0 h]
  exact(mem_alloc w [x] _ rfl).row0 (by intro y hy;simp at hy;omega) 1 (by simp) (by unfold maxLen;omega)
end Go.Proofs.YtpnlbjnbgemocaaGreat
namespace Go.Proofs.YtpnlbjnbgemocaaGreat
set_option linter.unusedVariables false
set_option linter.unusedSimpArgs false
set_option maxRecDepth 100000
open Go.RowKit Nums
end Go.Proofs.YtpnlbjnbgemocaaGreat
/- What is kept: boxes, rows, and all that is older. -/
namespace Go.Proofs.YtpnlbjnbgemocaaGreat
set_option linter.unusedVariables false
set_option linter.unusedSimpArgs false
set_option maxRecDepth 100000
open Go.RowKit Nums
section
variable {w W W':World} {bs:List (Nat×Value×Value)} {rs:List (Option Addr×Nat×Nat×List Nat)}
end
theorem keep_six {W:World}{g1 g2 g3 h:Nat}{u1 u2 u3 u4 u5 u6 p q:Value}(H:W.cell? ⟨g1,0,none⟩=some u1∧W.cell? ⟨g1,1,none⟩=some u2∧W.cell? ⟨g2,0,none⟩=some u3∧W.cell? ⟨g2,1,none⟩=some u4∧W.cell? ⟨g3,0,none⟩=some u5∧W.cell? ⟨g3,1,none⟩=some u6)
    (n1:h≠g1) (n2:h≠g2) (n3:h≠g3) :
    ((W.setCell ⟨h,0,none⟩ p).setCell ⟨h,1,none⟩ q).cell? ⟨g1,0,none⟩=some u1∧((W.setCell ⟨h,0,none⟩ p).setCell ⟨h,1,none⟩ q).cell? ⟨g1,1,none⟩=some u2∧((W.setCell ⟨h,0,none⟩ p).setCell ⟨h,1,none⟩ q).cell? ⟨g2,0,none⟩=some u3∧((W.setCell ⟨h,0,none⟩ p).setCell ⟨h,1,none⟩ q).cell? ⟨g2,1,none⟩=some u4∧((W.setCell ⟨h,0,none⟩ p).setCell ⟨h,1,none⟩ q).cell? ⟨g3,0,none⟩=some u5∧((W.setCell ⟨h,0,none⟩ p).setCell ⟨h,1,none⟩ q).cell? ⟨g3,1,none⟩=some u6:=by
  obtain⟨h1,h2,h3,h4,h5,h6⟩:=H
  refine⟨?_, ?_, ?_, ?_, ?_, ?_⟩
  · rw [cell_other (by simp),cell_other (by simp)];exact h1
  · rw [cell_other (by simp),cell_other (by simp)];exact h2
  · rw [cell_other (by simp),cell_other (by simp)];exact h3
  · rw [cell_other (by simp),cell_other (by simp)];exact h4
  · rw [cell_other (by simp),cell_other (by simp)];exact h5
  · rw [cell_other (by simp),cell_other (by simp)];exact h6
end Go.Proofs.YtpnlbjnbgemocaaGreat
namespace Go.Proofs.YtpnlbjnbgemocaaGreat
set_option linter.unusedVariables false
set_option linter.unusedSimpArgs false
set_option maxRecDepth 100000
open Go.RowKit Nums
def IntS (k:Nat)(s:Bool)(Z:Int)(w:World)(e:Ending)(w':World):Prop:=
  ∃ a m c,e=.returned (.agg #[.bool s,.slice a m c])∧m≤k∧Row w' a m c (limbs Z.natAbs)∧Below w.heap.size w w'
theorem rnormS (k:Nat)(Z:Int){s s':Bool}{a:Option Addr}{n c:Nat}{xs:List Nat}{w:World}(h0:Row w a n c xs)(hX:sv s (val xs)=Z)(hn:n≤100)(hk:(limbs Z.natAbs).length≤k)(hs:decide (Z<0)=s') :
    Calls Tryz.prog 91 #[.agg #[.bool s,.slice a n c]] w (IntS k s' Z w):=by
  subst hs;exact rnormI k Z h0 hX hn hk
end Go.Proofs.YtpnlbjnbgemocaaGreat
/- What the document's answer's Add, Sub, Mul, Sign and Cmp tell, in the words of the integers that they are handed. -/
namespace Go.Proofs.YtpnlbjnbgemocaaGreat
set_option linter.unusedVariables false
set_option linter.unusedSimpArgs false
set_option maxRecDepth 100000
open Go.RowKit Nums
section
variable {s t:Bool} {a b:Option Addr} {n c m d:Nat} {xs ys:List Nat} {w:World} {X Y:Int}
end
section
variable {s t:Bool} {a b:Option Addr} {n c m d:Nat} {xs ys:List Nat} {w:World} {X Y:Int}
end
end Go.Proofs.YtpnlbjnbgemocaaGreat
