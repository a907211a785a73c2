import Derived.Test.YtpnlbjnbgemocaaGreatRows
import Derived.WalkKit
import Derived.Lib.Hide
import Derived.WalkSpells
import Derived.WalkLawsBesides
import Derived.Laws.CopyOwn
import Derived.Maps.AppendAt
import Derived.Laws.OwnMore
import Derived.BigRegion
import Derived.Deep.QuietTactic
import Derived.BigQuiet
import Derived.Outline
namespace Go.Proofs.YtpnlbjnbgemocaaGreat.Nums
set_option linter.unusedVariables false
set_option linter.unusedSimpArgs false
def val:List Nat→Nat
  | []=>0
  | x::xs=>x+4294967296*val xs
def limbs (n:Nat):List Nat:=if h:n=0 then [] else n % 4294967296::limbs (n / 4294967296)
termination_by n
decreasing_by omega
def Small (xs:List Nat):Prop:=∀ x∈xs,x<4294967296
def tl:List Nat→Nat
  | []=>0
  | x::xs=>if tl xs=0∧x=0 then 0 else tl xs+1
theorem limbs_zero:limbs 0=[]:=by rw [limbs];simp
theorem limbs_pos {n:Nat}(h:n≠0):limbs n=n % 4294967296::limbs (n / 4294967296):=by
  rw [limbs];simp [h]
theorem val_limbs (n:Nat):val (limbs n)=n:=by
  induction n using Nat.strongRecOn with
  | _ n ih=>
    by_cases h:n=0
    · subst h;rw [limbs_zero];rfl
    · rw [limbs_pos h,val,ih (n / 4294967296) (by omega)];omega
theorem small_limbs (n:Nat):Small (limbs n):=by
  induction n using Nat.strongRecOn with
  | _ n ih=>
    by_cases h:n=0
    · subst h;rw [limbs_zero];intro x hx;cases hx
    · rw [limbs_pos h]
      intro x hx
      rcases List.mem_cons.1 hx with rfl | hx
      · omega
      · exact ih _ (by omega) x hx
theorem small_cons {x:Nat}{xs:List Nat}:Small (x::xs)↔x<4294967296∧Small xs:=by simp [Small]
theorem tl_le (xs:List Nat):tl xs≤xs.length:=by
  induction xs with
  | nil=>simp [tl]
  | cons x xs ih=>simp only [tl,List.length_cons];split <;> omega
theorem val_zero_tl (xs:List Nat):val xs=0↔tl xs=0:=by
  induction xs with
  | nil=>simp [val,tl]
  | cons x xs ih=>
    simp only [val,tl]
    split
    · rename_i h;simp [h.2,ih.2 h.1]
    · rename_i h
      constructor
      · intro e;exfalso;apply h;constructor
        · apply ih.1;omega
        · omega
      · intro e;omega
theorem limbs_val (xs:List Nat)(h:Small xs):limbs (val xs)=xs.take (tl xs):=by
  induction xs with
  | nil=>simp [val,limbs_zero]
  | cons x xs ih=>
    have hs:=small_cons.1 h
    by_cases hz:val (x::xs)=0
    · rw [hz,limbs_zero,(val_zero_tl _).1 hz];simp
    · have ht:tl (x::xs)≠0:=fun e=>hz ((val_zero_tl _).2 e)
      rw [limbs_pos hz]
      have e1:val (x::xs) % 4294967296=x:=by simp only [val];omega
      have e2:val (x::xs) / 4294967296=val xs:=by simp only [val];omega
      have e3:tl (x::xs)=tl xs+1:=by
        simp only [tl] at ht ⊢;split
        · rename_i hh;simp [hh] at ht
        · rfl
      rw [e1,e2,e3,ih hs.2];rfl
theorem tl_unique (xs:List Nat)(k:Nat)(hk:k≤xs.length)(h0:∀ i,k≤i→xs.getD i 0=0)(h1:k=0∨xs.getD (k-1) 0≠0):tl xs=k:=by
  induction xs generalizing k with
  | nil=>simp at hk;simp [tl,hk]
  | cons x xs ih=>
    match k with
    | 0=>
      have ht:tl xs=0:=ih 0 (Nat.zero_le _) (fun i _=>by simpa using h0 (i+1) (Nat.zero_le _)) (Or.inl rfl)
      have hx:x=0:=by simpa using h0 0 (Nat.le_refl _)
      simp [tl,ht,hx]
    | k + 1 =>
      have ht:tl xs=k:=by
        refine ih k (by simp at hk;omega) (fun i hi=>by simpa using h0 (i+1) (by omega)) ?_
        by_cases hk0:k=0
        · exact Or.inl hk0
        · right
          obtain⟨j,rfl⟩:∃ j,k=j+1:=⟨k-1,by omega⟩
          rcases h1 with h1 | h1
          · omega
          · simpa using h1
      simp only [tl,ht]
      split
      · rename_i hh
        obtain⟨rfl,rfl⟩:=hh
        rcases h1 with h1 | h1
        · omega
        · simp at h1
      · rfl
theorem getD_ge (xs:List Nat)(i:Nat)(h:xs.length≤i):xs.getD i 0=0:=by
  simp [List.getElem?_eq_none h]
theorem val_append (xs ys:List Nat):val (xs++ys)=val xs+4294967296 ^ xs.length*val ys:=by
  induction xs with
  | nil=>simp [val]
  | cons x xs ih=>
    simp only [List.cons_append,val,ih,List.length_cons,Nat.pow_succ,Nat.mul_add]
    rw [Nat.mul_comm (4294967296 ^ xs.length) 4294967296,Nat.mul_assoc,Nat.add_assoc]
theorem val_lt (xs:List Nat)(h:Small xs):val xs<4294967296 ^ xs.length:=by
  induction xs with
  | nil=>simp [val]
  | cons x xs ih=>
    have hs:=small_cons.1 h
    have:=ih hs.2
    simp only [val,List.length_cons,Nat.pow_succ]
    omega
theorem take_succ_getD (xs:List Nat)(k:Nat)(h:k<xs.length):xs.take (k+1)=xs.take k++[xs.getD k 0]:=by
  rw [List.take_succ_eq_append_getElem h];simp [List.getElem?_eq_getElem h]
theorem val_take_succ (xs:List Nat)(k:Nat)(h:k<xs.length):val (xs.take (k+1))=val (xs.take k)+4294967296 ^ k*xs.getD k 0:=by
  rw [take_succ_getD xs k h,val_append]
  simp [val,List.length_take,Nat.min_eq_left (Nat.le_of_lt h)]
theorem val_take_next (xs:List Nat)(k:Nat):val (xs.take (k+1))=val (xs.take k)+4294967296 ^ k*xs.getD k 0:=by
  by_cases h:k<xs.length
  · exact val_take_succ xs k h
  · rw [getD_ge xs k (by omega),List.take_of_length_le (by omega),List.take_of_length_le (by omega)];simp
theorem getD_lt (xs:List Nat)(h:Small xs)(i:Nat):xs.getD i 0<4294967296:=by
  by_cases hi:i<xs.length
  · have:xs.getD i 0=xs[i]:=by simp [List.getElem?_eq_getElem hi]
    rw [this];exact h _ (List.getElem_mem hi)
  · rw [getD_ge xs i (by omega)];omega
theorem small_take {xs:List Nat}(h:Small xs)(k:Nat):Small (xs.take k):=fun x hx=>h x (List.mem_of_mem_take hx)
theorem small_set {xs:List Nat}(h:Small xs)(k u:Nat)(hu:u<4294967296):Small (xs.set k u):=by
  intro x hx
  rcases List.mem_or_eq_of_mem_set hx with hx | rfl
  · exact h x hx
  · exact hu
theorem small_append {xs ys:List Nat}(h:Small xs)(h':Small ys):Small (xs++ys):=by
  intro x hx
  rcases List.mem_append.1 hx with hx | hx
  · exact h x hx
  · exact h' x hx
theorem limbs_len (n k:Nat)(h:n<4294967296 ^ k):(limbs n).length≤k:=by
  induction k generalizing n with
  | zero => have : n = 0 := by simp at h; omega
            subst this;simp [limbs_zero]
  | succ k ih=>
    by_cases hz:n=0
    · subst hz;simp [limbs_zero]
    · rw [limbs_pos hz]
      have:n / 4294967296<4294967296 ^ k:=by
        rw [Nat.div_lt_iff_lt_mul (by omega)];rw [Nat.pow_succ] at h;exact h
      have:=ih _ this
      simp;omega
theorem set_take (xs:List Nat)(k u:Nat)(h:k<xs.length):(xs.set k u).take (k+1)=xs.take k++[u]:=by
  rw [take_succ_getD _ _ (by simpa using h),List.take_set]
  have e:(xs.set k u).getD k 0=u:=by simp [h]
  rw [e]
  congr 1
  rw [List.set_eq_of_length_le (by simp;omega)]
theorem val_set_take (xs:List Nat)(k u:Nat)(h:k<xs.length):val ((xs.set k u).take (k+1))=val (xs.take k)+4294967296 ^ k*u:=by
  rw [set_take xs k u h,val_append]
  simp [val,List.length_take,Nat.min_eq_left (Nat.le_of_lt h)]
theorem length_limbs_zero {n:Nat}:(limbs n).length=0↔n=0:=by
  constructor
  · intro h;rw [List.length_eq_zero_iff] at h;have:=val_limbs n;rw [h] at this;exact this.symm
  · rintro rfl;rw [limbs_zero];rfl
theorem tl_limbs (n:Nat):tl (limbs n)=(limbs n).length:=by
  have h:=limbs_val (limbs n) (small_limbs n)
  rw [val_limbs] at h
  have:=congrArg List.length h
  rw [List.length_take] at this
  have:=tl_le (limbs n)
  omega
theorem limbs_inj {m n:Nat}(h:limbs m=limbs n):m=n:=by rw [←val_limbs m,h,val_limbs]
theorem lt_pow_len (n:Nat):n<4294967296 ^ (limbs n).length:=by
  have:=val_lt (limbs n) (small_limbs n)
  rwa [val_limbs] at this
theorem limbs_len_mono {m n:Nat}(h:m≤n):(limbs m).length≤(limbs n).length:=
  limbs_len m _ (Nat.lt_of_le_of_lt h (lt_pow_len n))
theorem lt_of_len {m n:Nat}(h:(limbs m).length<(limbs n).length):m<n:=by
  apply Nat.lt_of_not_le
  intro hle
  have:=limbs_len_mono hle
  omega
theorem lt_at (xs ys:List Nat)(hl:xs.length=ys.length)(hx:Small xs)(hy:Small ys)(k:Nat)(h:∀ j,k<j→xs.getD j 0=ys.getD j 0)(hk:xs.getD k 0<ys.getD k 0):val xs<val ys:=by
  induction xs generalizing ys k with
  | nil=>cases ys with
    | nil=>simp at hk
    | cons y ys=>simp at hl
  | cons x xs ih=>cases ys with
    | nil=>simp at hl
    | cons y ys=>
      have h1:=small_cons.1 hx
      have h2:=small_cons.1 hy
      simp only [val]
      cases k with
      | zero=>
        have:xs=ys:=by
          apply List.ext_getElem (by simpa using hl)
          intro i hi hi'
          have:=h (i+1) (by omega)
          simpa [hi,hi'] using this
        subst this
        simp at hk
        omega
      | succ k=>
        have:=ih ys (by simpa using hl) h1.2 h2.2 k (fun j hj=>by simpa using h (j+1) (by omega)) (by simpa using hk)
        omega
def cmpv (a b:Nat):Int:=if a<b then -1 else if b<a then 1 else 0
theorem limbs_take (xs:List Nat)(h:Small xs):xs.take (tl xs)=limbs (val xs):=(limbs_val xs h).symm
theorem tl_eq (xs:List Nat)(h:Small xs):tl xs=(limbs (val xs)).length:=by
  rw [limbs_val xs h,List.length_take]
  have:=tl_le xs
  omega
def SumAt (P Q:Nat)(zs:List Nat)(k c:Nat):Prop:=val (zs.take k)+4294967296 ^ k*c=val ((limbs P).take k)+val ((limbs Q).take k)
theorem SumAt.step {P Q k c x y u d:Nat}{zs:List Nat}(h:SumAt P Q zs k c)(hk:k<zs.length)(hx:x=(limbs P).getD k 0)(hy:y=(limbs Q).getD k 0)(hu:u+4294967296*d=c+x+y):SumAt P Q (zs.set k u) (k+1) d:=by
  unfold SumAt at *
  rw [val_set_take zs k u hk,val_take_next,val_take_next,←hx,←hy,Nat.pow_succ]
  have e:4294967296 ^ k*(u+4294967296*d)=4294967296 ^ k*(c+x+y):=by rw [hu]
  simp only [Nat.mul_add] at e
  rw [Nat.mul_assoc]
  omega
theorem SumAt.done {P Q k c:Nat}{zs:List Nat}(h:SumAt P Q zs k c)(hk:zs.length=k+1)(hP:(limbs P).length≤k)(hQ:(limbs Q).length≤k):val (zs.set k c)=P+Q:=by
  unfold SumAt at h
  have e:=val_set_take zs k c (by omega)
  rw [List.take_of_length_le (by simp;omega)] at e
  rw [List.take_of_length_le hP,List.take_of_length_le hQ,val_limbs,val_limbs] at h
  omega
def DiffAt (P Q:Nat)(zs:List Nat)(k b:Nat):Prop:=val (zs.take k)+val ((limbs Q).take k)=val ((limbs P).take k)+4294967296 ^ k*b
theorem DiffAt.step {P Q k b x y d b':Nat}{zs:List Nat}(h:DiffAt P Q zs k b)(hk:k<zs.length)(hx:x=(limbs P).getD k 0)(hy:y=(limbs Q).getD k 0)(hd:d+y+b=x+4294967296*b'):DiffAt P Q (zs.set k d) (k+1) b':=by
  unfold DiffAt at *
  rw [val_set_take zs k d hk,val_take_next,val_take_next,←hx,←hy,Nat.pow_succ]
  have e:4294967296 ^ k*(d+y+b)=4294967296 ^ k*(x+4294967296*b'):=by rw [hd]
  simp only [Nat.mul_add] at e
  rw [Nat.mul_assoc]
  omega
theorem DiffAt.done {P Q k b:Nat}{zs:List Nat}(h:DiffAt P Q zs k b)(hs:Small zs)(hk:zs.length=k)(hP:(limbs P).length≤k)(hQ:(limbs Q).length≤k)(hle:Q≤P):val zs=P-Q:=by
  unfold DiffAt at h
  rw [List.take_of_length_le hP,List.take_of_length_le hQ,List.take_of_length_le (by omega),val_limbs,val_limbs] at h
  have hv:=val_lt zs hs
  rw [hk] at hv
  cases b with
  | zero=>simp at h;omega
  | succ b=>
    exfalso
    rw [Nat.mul_add] at h
    omega
end Go.Proofs.YtpnlbjnbgemocaaGreat.Nums
/- Plain facts on products, limb by limb. -/
namespace Go.Proofs.YtpnlbjnbgemocaaGreat.Nums
set_option linter.unusedVariables false
set_option linter.unusedSimpArgs false
end Go.Proofs.YtpnlbjnbgemocaaGreat.Nums
/- Plain facts on a division by one limb. -/
namespace Go.Proofs.YtpnlbjnbgemocaaGreat.Nums
set_option linter.unusedVariables false
set_option linter.unusedSimpArgs false
theorem set_seam (cs rest:List Nat)(k q:Nat)(hk:0<k)(hl:k≤cs.length):(cs.take k++rest).set (k-1) q=cs.take (k-1)++(q::rest):=by
  obtain⟨j,rfl⟩:∃ j,k=j+1:=⟨k-1,by omega⟩
  simp only [Nat.add_sub_cancel]
  rw [take_succ_getD cs j (by omega),List.append_assoc,List.set_append_right _ _ (by simp;omega),List.length_take,Nat.min_eq_left (by omega),Nat.sub_self]
  rfl
theorem getD_seam (cs rest:List Nat)(k:Nat)(hk:0<k)(hl:k≤cs.length):(cs.take k++rest).getD (k-1) 0=cs.getD (k-1) 0:=by
  obtain⟨j,rfl⟩:∃ j,k=j+1:=⟨k-1,by omega⟩
  have h1:j<cs.length:=by omega
  have h2:j<min (j+1) cs.length:=by omega
  simp [List.getElem?_append,h1,h2,List.getElem?_take]
theorem drop_pred (cs:List Nat)(k:Nat)(hk:0<k)(hl:k≤cs.length):cs.drop (k-1)=cs.getD (k-1) 0::cs.drop k:=by
  obtain⟨j,rfl⟩:∃ j,k=j+1:=⟨k-1,by omega⟩
  have h1:j<cs.length:=by omega
  simp only [Nat.add_sub_cancel]
  rw [List.drop_eq_getElem_cons h1]
  simp [h1]
theorem short_step (cs qs:List Nat)(k n d r x t q r':Nat)(hk:0<k)(hkn:k≤n)(hn:n≤cs.length)(h:val ((cs.take n).drop k)=val qs*d+r)(hx:x=cs.getD (k-1) 0)(ht:t=r*4294967296+x)(hq:t=q*d+r') :
    val ((cs.take n).drop (k-1))=val (q::qs)*d+r':=by
  rw [drop_pred (cs.take n) k hk (by simp;omega)]
  have e:(cs.take n).getD (k-1) 0=x:=by
    rw [hx]
    simp [List.getElem?_take,show k-1<n by omega]
  rw [e]
  simp only [val]
  rw [h,Nat.add_mul,Nat.mul_add,Nat.mul_assoc]
  omega
theorem short_room (r x d t:Nat)(hd:0<d)(hr:r<d)(hx:x<4294967296)(ht:t=r*4294967296+x):t / d<4294967296:=by
  rw [Nat.div_lt_iff_lt_mul hd]
  have:(r+1)*4294967296≤d*4294967296:=Nat.mul_le_mul_right _ hr
  rw [Nat.mul_comm 4294967296 d]
  omega
end Go.Proofs.YtpnlbjnbgemocaaGreat.Nums
/- Plain facts on decimal digits. -/
namespace Go.Proofs.YtpnlbjnbgemocaaGreat.Nums
set_option linter.unusedVariables false
set_option linter.unusedSimpArgs false
def dig (n:Nat):List UInt8:=if h:n=0 then [] else UInt8.ofNat (48+n % 10)::dig (n / 10)
termination_by n
decreasing_by omega
theorem dig_zero:dig 0=[]:=by rw [dig];simp
theorem dig_pos {n:Nat}(h:n≠0):dig n=UInt8.ofNat (48+n % 10)::dig (n / 10):=by rw [dig];simp [h]
theorem toNat_dig (n:Nat):(UInt8.ofNat (48+n % 10)).toNat=48+n % 10:=by
  rw [UInt8.toNat_ofNat'];omega
def decStr (n:Nat):ByteArray:=if n=0 then⟨#[48]⟩ else⟨(dig n).reverse.toArray⟩
theorem length_dig (n k:Nat)(h:n<10 ^ k):(dig n).length≤k:=by
  induction k generalizing n with
  | zero => have : n = 0 := by simp at h; omega
            subst this;simp [dig_zero]
  | succ k ih=>
    by_cases hz:n=0
    · subst hz;simp [dig_zero]
    · rw [dig_pos hz]
      have:n / 10<10 ^ k:=by rw [Nat.div_lt_iff_lt_mul (by omega)];rw [Nat.pow_succ] at h;exact h
      have:=ih _ this
      simp;omega
end Go.Proofs.YtpnlbjnbgemocaaGreat.Nums
/- Plain facts on a division of long numbers: the guess, taking off, giving back. -/
namespace Go.Proofs.YtpnlbjnbgemocaaGreat.Nums
set_option linter.unusedVariables false
set_option linter.unusedSimpArgs false
theorem guess_right (A D u v K t:Nat)(hA:u*K≤A)(hA':A<(u+1)*K)(hD:v*K≤D)(hD':D<(v+1)*K)(ht:t*v≤u)(htv:t≤v+1)(hmax:∀ q,q*v≤u→q≤4294967295→q≤t)(hq:A<4294967296*D) :
    A / D≤t∧t≤A / D+1:=by
  have hD0:0<D:=by
    rcases Nat.eq_zero_or_pos D with h | h
    · rw [h] at hq;omega
    · exact h
  constructor
  · apply hmax
    · have h1:A / D*D≤A:=Nat.div_mul_le_self A D
      have h2:A / D*(v*K)≤A / D*D:=Nat.mul_le_mul_left _ hD
      have h3:A / D*v*K<(u+1)*K:=by rw [Nat.mul_assoc];omega
      exact Nat.le_of_lt_succ (Nat.lt_of_mul_lt_mul_right h3)
    · have:A / D<4294967296:=by rw [Nat.div_lt_iff_lt_mul hD0];exact hq
      omega
  · rcases Nat.eq_zero_or_pos t with h0 | h0
    · rw [h0];exact Nat.zero_le _
    · obtain⟨s,rfl⟩:∃ s,t=s+1:=⟨t-1,by omega⟩
      have h1:s*D≤A:=by
        have e1:s*D≤s*((v+1)*K):=Nat.mul_le_mul_left _ (Nat.le_of_lt hD')
        have e2:s*((v+1)*K)=(s*v+s)*K:=by rw [←Nat.mul_assoc,Nat.mul_add,Nat.mul_one]
        have e3:(s*v+s)*K≤u*K:=by
          apply Nat.mul_le_mul_right
          rw [Nat.add_mul,Nat.one_mul] at ht
          omega
        omega
      have h2:s≤A / D:=(Nat.le_div_iff_mul_le hD0).2 h1
      omega
def TakeAt (A D:List Nat)(t:Nat)(zs:List Nat)(k c b:Nat):Prop:=val (zs.take k)+t*val (D.take k)=val (A.take k)+4294967296 ^ k*(b+c)∧∀ j,k≤j→zs.getD j 0=A.getD j 0
theorem TakeAt.step {A D zs:List Nat}{t k c b x y lo c' d b':Nat}(h:TakeAt A D t zs k c b)(hk:k<zs.length)(hx:x=zs.getD k 0)(hy:y=D.getD k 0)(hc:lo+4294967296*c'=c+y*t)(hd:d+lo+b=x+4294967296*b'):TakeAt A D t (zs.set k d) (k+1) c' b':=by
  obtain⟨h1,h2⟩:=h
  refine⟨?_, ?_⟩
  · rw [val_set_take zs k d hk,val_take_next D,val_take_next A,←h2 k (Nat.le_refl _),←hx,←hy,Nat.pow_succ,Nat.mul_assoc,Nat.mul_add t]
    have e:4294967296 ^ k*(d+lo+b+(c+y*t))=4294967296 ^ k*(x+4294967296*b'+(lo+4294967296*c')):=by rw [hd,hc]
    simp only [Nat.mul_add] at e ⊢
    have e2:t*(4294967296 ^ k*y)=4294967296 ^ k*(y*t):=by rw [Nat.mul_comm y t,Nat.mul_left_comm]
    rw [e2]
    simp only [Nat.mul_add] at h1
    omega
  · intro j hj
    rw [←h2 j (by omega)]
    simp [show k≠j by omega]
theorem TakeAt.last {A D zs:List Nat}{t n c b x d b':Nat}(h:TakeAt A D t zs n c b)(hl:zs.length=n+1)(hA:A.length=n+1)(hD:D.length=n)(hx:x=zs.getD n 0)(hd:d+c+b=x+4294967296*b'):val (zs.set n d)+t*val D=val A+4294967296 ^ (n+1)*b':=by
  have h':=h.step (d:=d) (lo:=c) (c':=0) (b':=b') (y:=0) (by omega) hx (by rw [getD_ge D n (by omega)]) (by omega) hd
  have h1:=h'.1
  rw [List.take_of_length_le (by simp;omega),List.take_of_length_le (by omega),List.take_of_length_le (by omega),Nat.add_zero] at h1
  exact h1
def GiveAt (A D:List Nat)(zs:List Nat)(k c:Nat):Prop:=val (zs.take k)+4294967296 ^ k*c=val (A.take k)+val (D.take k)∧∀ j,k≤j→zs.getD j 0=A.getD j 0
theorem GiveAt.step {A D zs:List Nat}{k c x y u c':Nat}(h:GiveAt A D zs k c)(hk:k<zs.length)(hx:x=zs.getD k 0)(hy:y=D.getD k 0)(hu:u+4294967296*c'=x+y+c):GiveAt A D (zs.set k u) (k+1) c':=by
  obtain⟨h1,h2⟩:=h
  refine⟨?_, ?_⟩
  · rw [val_set_take zs k u hk,val_take_next D,val_take_next A,←h2 k (Nat.le_refl _),←hx,←hy,Nat.pow_succ,Nat.mul_assoc]
    have e:4294967296 ^ k*(u+4294967296*c')=4294967296 ^ k*(x+y+c):=by rw [hu]
    simp only [Nat.mul_add] at e
    omega
  · intro j hj
    rw [←h2 j (by omega)]
    simp [show k≠j by omega]
theorem GiveAt.last {A D zs:List Nat}{n c x u c':Nat}(h:GiveAt A D zs n c)(hl:zs.length=n+1)(hA:A.length=n+1)(hD:D.length=n)(hx:x=zs.getD n 0)(hu:u+4294967296*c'=x+c):val (zs.set n u)+4294967296 ^ (n+1)*c'=val A+val D:=by
  have h':=h.step (u:=u) (c':=c') (y:=0) (by omega) hx (by rw [getD_ge D n (by omega)]) (by omega)
  have h1:=h'.1
  rw [List.take_of_length_le (by simp;omega),List.take_of_length_le (by omega),List.take_of_length_le (by omega)] at h1
  exact h1
theorem off_plain {A D V t M b':Nat}(h:V+t*D=A+M*b')(hb:b'=0)(hq:A / D≤t)(hD:0<D):V=A-A / D*D∧t=A / D:=by
  subst hb
  rw [Nat.mul_zero,Nat.add_zero] at h
  have h1:t*D≤A:=by omega
  have h2:t≤A / D:=(Nat.le_div_iff_mul_le hD).2 h1
  have e:t=A / D:=by omega
  subst e
  exact⟨by omega,rfl⟩
theorem off_back {A D V V' t M b' c':Nat}(hV:V<M)(hV':V'<M)(hDM:D≤M)(h:V+t*D=A+M*b')(hb:b'=1)(hg:V'+M*c'=V+D)(hq:t≤A / D+1)(hD:0<D):0<t∧t-1=A / D∧V'=A-A / D*D:=by
  subst hb
  have hlt:A<t*D:=by omega
  have h0:0<t:=by
    rcases Nat.eq_zero_or_pos t with h | h
    · subst h;omega
    · exact h
  have h1:A / D<t:=by rw [Nat.div_lt_iff_lt_mul hD];exact hlt
  have e:t=A / D+1:=by omega
  have h2:A / D*D≤A:=Nat.div_mul_le_self A D
  have h3:t*D=A / D*D+D:=by rw [e,Nat.add_mul,Nat.one_mul]
  refine⟨h0,by omega, ?_⟩
  have h4:A<A / D*D+D:=by omega
  have hc:c'=1:=by
    rcases Nat.lt_or_ge c' 1 with hh | hh
    · have:c'=0:=by omega
      subst this;omega
    · rcases Nat.lt_or_ge 1 c' with hh2 | hh2
      · exfalso
        have:M*2≤M*c':=Nat.mul_le_mul_left _ hh2
        omega
      · omega
  subst hc
  omega
end Go.Proofs.YtpnlbjnbgemocaaGreat.Nums
/- Plain facts on the guess of a quotient's limb. -/
namespace Go.Proofs.YtpnlbjnbgemocaaGreat.Nums
set_option linter.unusedVariables false
set_option linter.unusedSimpArgs false
theorem val_split2 (xs:List Nat)(n:Nat)(hl:xs.length=n+2):val xs=val (xs.take n)+4294967296 ^ n*(xs.getD n 0+4294967296*xs.getD (n+1) 0):=by
  have h1:=val_take_next xs n
  have h2:=val_take_next xs (n+1)
  rw [List.take_of_length_le (by omega),Nat.pow_succ] at h2
  rw [h2,h1,Nat.mul_add,Nat.mul_assoc]
  omega
theorem val_split3 (xs:List Nat)(n:Nat)(hl:xs.length=n+3):val xs=val (xs.take n)+4294967296 ^ n*(xs.getD n 0+4294967296*(xs.getD (n+1) 0+4294967296*xs.getD (n+2) 0)):=by
  have h1:=val_take_next xs n
  have h2:=val_take_next xs (n+1)
  have h3:=val_take_next xs (n+2)
  rw [List.take_of_length_le (by omega),Nat.pow_succ,Nat.pow_succ] at h3
  rw [Nat.pow_succ] at h2
  rw [h3,h2,h1]
  simp only [Nat.mul_add,Nat.mul_assoc]
  omega
theorem low_lt (xs:List Nat)(hs:Small xs)(n:Nat)(hn:n≤xs.length):val (xs.take n)<4294967296 ^ n:=by
  have:=val_lt (xs.take n) (small_take hs n)
  rwa [List.length_take,Nat.min_eq_left hn] at this
def GuessAt (high top y0 x0 t r:Nat):Prop:=t*high+r=top∧∀ q,q*(high*4294967296+y0)≤top*4294967296+x0→q≤4294967295→q≤t
theorem guess_start (high top y0 x0:Nat)(hh:0<high)(hx:x0<4294967296):GuessAt high top y0 x0 (top / high) (top % high):=by
  refine⟨by rw [Nat.mul_comm];exact Nat.div_add_mod top high,fun q hq _=>?_⟩
  rw [Nat.le_div_iff_mul_le hh]
  have h1:q*(high*4294967296+y0)=q*high*4294967296+q*y0:=by rw [Nat.mul_add,Nat.mul_assoc]
  omega
theorem guess_step {high top y0 x0 t r:Nat}(h:GuessAt high top y0 x0 t r)(hc:4294967295<t∨r*4294967296+x0<t*y0):0<t∧GuessAt high top y0 x0 (t-1) (r+high):=by
  obtain⟨h1,h2⟩:=h
  have h0:0<t:=by
    rcases Nat.eq_zero_or_pos t with h | h
    · subst h;omega
    · exact h
  refine⟨h0, ?_,fun q hq hq'=>?_⟩
  · obtain⟨s,rfl⟩:∃ s,t=s+1:=⟨t-1,by omega⟩
    rw [Nat.add_mul,Nat.one_mul] at h1
    simp only [Nat.add_sub_cancel]
    omega
  · have h3:=h2 q hq hq'
    rcases hc with hc | hc
    · omega
    · have:q≠t:=by
        rintro rfl
        have e:q*(high*4294967296+y0)=q*high*4294967296+q*y0:=by rw [Nat.mul_add,Nat.mul_assoc]
        omega
      omega
theorem guess_exit {high top y0 x0 t r:Nat}(h:GuessAt high top y0 x0 t r)(hy:y0<4294967296)(htop:top<(high+1)*4294967296)(hh:0<high)(hc:4294967295<r∨(t≤4294967295∧t*y0≤r*4294967296+x0)):t≤4294967295∧t*(high*4294967296+y0)≤top*4294967296+x0:=by
  obtain⟨h1,_⟩:=h
  have e:t*(high*4294967296+y0)=t*high*4294967296+t*y0:=by rw [Nat.mul_add,Nat.mul_assoc]
  rcases hc with hc | ⟨hc,hc'⟩
  · have ht:t≤4294967295:=by
      rcases Nat.lt_or_ge 4294967295 t with h | h
      · exfalso
        have:4294967296*high≤t*high:=Nat.mul_le_mul_right _ h
        rw [Nat.add_mul] at htop
        omega
      · exact h
    refine⟨ht, ?_⟩
    have:t*y0≤4294967295*4294967295:=Nat.mul_le_mul ht (by omega)
    omega
  · exact⟨hc,by omega⟩
theorem guess_cover {A D u v K t a d:Nat}(ea:A=a+K*u)(ed:D=d+K*v)(la:a<K)(ld:d<K)(hle:t*v≤u)(hv:t≤v+1)(hmax:∀ q,q*v≤u→q≤4294967295→q≤t)(hq:A<4294967296*D):A / D≤t∧t≤A / D+1:=by
  refine guess_right A D u v K t ?_ ?_ ?_ ?_ hle hv hmax hq
  · rw [Nat.mul_comm u];omega
  · rw [Nat.add_mul,Nat.one_mul,Nat.mul_comm u];omega
  · rw [Nat.mul_comm v];omega
  · rw [Nat.add_mul,Nat.one_mul,Nat.mul_comm v];omega
theorem guess_done (A D n t:Nat)(az ds:List Nat)(x2 x1 x0 y1 y0:Nat)(ha:az.length=n+3)(hd:ds.length=n+2)(hsa:Small az)(hsd:Small ds)(hA:A=val az)(hD:D=val ds)
    (hx2:x2=az.getD (n+2) 0) (hx1:x1=az.getD (n+1) 0) (hx0:x0=az.getD n 0) (hy1:y1=ds.getD (n+1) 0) (hy0:y0=ds.getD n 0)
    (hy:0<y1) (hq:A<4294967296*D) (ht:t≤4294967295) (hle:t*(y1*4294967296+y0)≤(x2*4294967296+x1)*4294967296+x0)
    (hmax:∀ q,q*(y1*4294967296+y0)≤(x2*4294967296+x1)*4294967296+x0→q≤4294967295→q≤t):A / D≤t∧t≤A / D+1:=by
  have ea:=val_split3 az n ha
  have ed:=val_split2 ds n hd
  have la:=low_lt az hsa n (by omega)
  have ld:=low_lt ds hsd n (by omega)
  rw [←hx2,←hx1,←hx0,←hA] at ea
  rw [←hy1,←hy0,←hD] at ed
  have eu:x0+4294967296*(x1+4294967296*x2)=(x2*4294967296+x1)*4294967296+x0:=by omega
  have ev:y0+4294967296*y1=y1*4294967296+y0:=by omega
  rw [eu] at ea
  rw [ev] at ed
  have hv:t≤y1*4294967296+y0+1:=by omega
  exact guess_cover ea ed la ld hle hv hmax hq
theorem topN_le (n:Nat)(az ds:List Nat)(ha:az.length=n+1)(hd:ds.length=n)(hn:1≤n)(hsd:Small ds)(hq:val az<4294967296*val ds):az.getD n 0≤ds.getD (n-1) 0:=by
  obtain⟨m,rfl⟩:∃ m,n=m+1:=⟨n-1,by omega⟩
  have h1:=val_take_next az (m+1)
  rw [List.take_of_length_le (by omega)] at h1
  have h2:=val_take_next ds m
  rw [List.take_of_length_le (by omega)] at h2
  have h3:=low_lt ds hsd m (by omega)
  simp only [Nat.add_sub_cancel]
  generalize az.getD (m+1) 0=x at *
  generalize ds.getD m 0=y at *
  have h4:val ds<4294967296 ^ m*(y+1):=by rw [Nat.mul_add];omega
  have h5:4294967296 ^ (m+1)*x<4294967296 ^ (m+1)*(y+1):=by
    have e:4294967296 ^ (m+1)*(y+1)=4294967296*(4294967296 ^ m*(y+1)):=by rw [Nat.pow_succ,Nat.mul_comm (4294967296 ^ m) 4294967296,Nat.mul_assoc]
    rw [e]
    omega
  have:=Nat.lt_of_mul_lt_mul_left h5
  omega
end Go.Proofs.YtpnlbjnbgemocaaGreat.Nums
/- Plain facts on a row that is divided by a power of two where it lies. -/
namespace Go.Proofs.YtpnlbjnbgemocaaGreat.Nums
set_option linter.unusedVariables false
set_option linter.unusedSimpArgs false
theorem shr_core (x W y w0 w1 y1 P Q:Nat)(hPQ:P*Q=4294967296)(hP:0<P)(hx:x<4294967296)(hw0:w0<P)(hW:W=P*w1+w0)(hy:y=P*y1+w0) :
    (x+4294967296*W) / P=(x+4294967296*y) / P % 4294967296+4294967296*w1:=by
  have e1:(x+4294967296*W) / P=x / P+Q*W:=by
    rw [←hPQ,Nat.mul_assoc,Nat.add_mul_div_left _ _ hP]
  have e2:(x+4294967296*y) / P=x / P+Q*y:=by
    rw [←hPQ,Nat.mul_assoc,Nat.add_mul_div_left _ _ hP]
  have hxq:x / P<Q:=by rw [Nat.div_lt_iff_lt_mul hP,Nat.mul_comm,hPQ];exact hx
  have h1:Q*W=4294967296*w1+Q*w0:=by rw [hW,Nat.mul_add,←Nat.mul_assoc,Nat.mul_comm Q P,hPQ]
  have h2:Q*y=4294967296*y1+Q*w0:=by rw [hy,Nat.mul_add,←Nat.mul_assoc,Nat.mul_comm Q P,hPQ]
  have h3:Q*w0+Q≤4294967296:=by
    have:Q*(w0+1)≤Q*P:=Nat.mul_le_mul_left _ hw0
    rw [Nat.mul_comm Q P,hPQ,Nat.mul_add,Nat.mul_one] at this
    exact this
  rw [e1,e2,h1,h2]
  generalize x / P=a at *
  generalize Q * w0=b at *
  omega
theorem shr_limb (x W s:Nat)(hx:x<4294967296)(hs:s≤31):(x+4294967296*W) / 2 ^ s=(x+4294967296*(W % 4294967296)) / 2 ^ s % 4294967296+4294967296*(W / 2 ^ s):=by
  have hP:0<2 ^ s:=Nat.pow_pos (by omega)
  have hPQ:2 ^ s*2 ^ (32-s)=4294967296:=by rw [←Nat.pow_add,show s+(32-s)=32 by omega]
  have hd:W % 4294967296 % 2 ^ s=W % 2 ^ s:=by
    apply Nat.mod_mod_of_dvd
    exact⟨2 ^ (32-s),hPQ.symm⟩
  refine shr_core x W (W % 4294967296) (W % 2 ^ s) (W / 2 ^ s) (W % 4294967296 / 2 ^ s) (2 ^ s) (2 ^ (32-s)) hPQ hP hx (Nat.mod_lt _ hP) (Nat.div_add_mod _ _).symm ?_
  have:=(Nat.div_add_mod (W % 4294967296) (2 ^ s)).symm
  rw [hd] at this
  exact this
theorem val_mod (xs:List Nat)(h:Small xs):val xs % 4294967296=xs.getD 0 0:=by
  cases xs with
  | nil=>rfl
  | cons x xs=>
    have:=(small_cons.1 h).1
    simp only [val,List.getD_cons_zero]
    omega
theorem val_drop (xs:List Nat)(k:Nat)(hk:k<xs.length):val (xs.drop k)=xs.getD k 0+4294967296*val (xs.drop (k+1)):=by
  have:=drop_pred xs (k+1) (by omega) hk
  simp only [Nat.add_sub_cancel] at this
  rw [this]
  rfl
def DownAt (cs:List Nat)(s:Nat)(zs:List Nat)(k:Nat):Prop:=val (zs.take k)+4294967296 ^ k*(val (cs.drop k) / 2 ^ s)=val cs / 2 ^ s∧∀ j,k≤j→zs.getD j 0=cs.getD j 0
theorem DownAt.step {cs zs:List Nat}{s k x y:Nat}(h:DownAt cs s zs k)(hs:s≤31)(hcs:Small cs)(hl:zs.length=cs.length)(hk:k<zs.length)(hx:x=zs.getD k 0)(hy:y=zs.getD (k+1) 0):DownAt cs s (zs.set k ((x+4294967296*y) / 2 ^ s % 4294967296)) (k+1):=by
  obtain⟨h1,h2⟩:=h
  have ex:x=cs.getD k 0:=by rw [hx,h2 k (Nat.le_refl _)]
  have ey:y=val (cs.drop (k+1)) % 4294967296:=by
    rw [val_mod _ (fun z hz=>hcs z (List.mem_of_mem_drop hz)),hy,h2 (k+1) (by omega)]
    simp
  have hxl:x<4294967296:=by rw [ex];exact getD_lt cs hcs k
  refine⟨?_, ?_⟩
  · rw [val_set_take zs k _ hk,←h1,val_drop cs k (by omega),←ex,shr_limb x (val (cs.drop (k+1))) s hxl hs,←ey,Nat.pow_succ,Nat.mul_add,Nat.mul_assoc,Nat.add_assoc]
  · intro j hj
    rw [←h2 j (by omega)]
    simp [show k≠j by omega]
theorem DownAt.done {cs zs:List Nat}{s:Nat}(h:DownAt cs s zs cs.length)(hl:zs.length=cs.length):val zs=val cs / 2 ^ s:=by
  have h1:=h.1
  rw [List.take_of_length_le (by omega),List.drop_length] at h1
  simp [val] at h1
  exact h1
end Go.Proofs.YtpnlbjnbgemocaaGreat.Nums
/- Plain facts on a division limb by limb, of rows that were shifted. -/
namespace Go.Proofs.YtpnlbjnbgemocaaGreat.Nums
set_option linter.unusedVariables false
set_option linter.unusedSimpArgs false
theorem val_cut (xs:List Nat)(n:Nat):val xs=val (xs.take n)+4294967296 ^ (min n xs.length)*val (xs.drop n):=by
  have h:=val_append (xs.take n) (xs.drop n)
  rw [List.take_append_drop,List.length_take] at h
  exact h
theorem val_take_lt (xs:List Nat)(n:Nat)(h:val xs<4294967296 ^ n):val (xs.take n)=val xs∧val (xs.drop n)=0:=by
  by_cases hn:n≤xs.length
  · have h1:=val_cut xs n
    rw [Nat.min_eq_left hn] at h1
    have h2:val (xs.drop n)=0:=by
      rcases Nat.eq_zero_or_pos (val (xs.drop n)) with h2 | h2
      · exact h2
      · exfalso
        have:4294967296 ^ n*1≤4294967296 ^ n*val (xs.drop n):=Nat.mul_le_mul_left _ h2
        omega
    rw [h2] at h1
    exact⟨by omega,h2⟩
  · rw [List.take_of_length_le (by omega),List.drop_eq_nil_of_le (by omega)]
    exact⟨rfl,rfl⟩
theorem norm_divisor (bs ds:List Nat)(n s y:Nat)(hb:bs.length=n+1)(hsb:Small bs)(hy:y=bs.getD n 0)(h1:y*2 ^ s<4294967296)(h2:2147483648≤y*2 ^ s)(hs:s≤31)(hd:ds.length=n+2)(hsd:Small ds)(hv:val ds=val bs*2 ^ s) :
    val (ds.take (n+1))=val bs*2 ^ s∧2147483648≤(ds.take (n+1)).getD n 0∧val bs*2 ^ s<4294967296 ^ (n+1):=by
  have hP:0<2 ^ s:=Nat.pow_pos (by omega)
  have e:=val_take_succ bs n (by omega)
  rw [List.take_of_length_le (by omega),←hy] at e
  have hlow:=val_lt (bs.take n) (small_take hsb n)
  rw [List.length_take,Nat.min_eq_left (by omega)] at hlow
  have hPQ:2 ^ s*2 ^ (32-s)=4294967296:=by rw [←Nat.pow_add,show s+(32-s)=32 by omega]
  have hy1:(y+1)*2 ^ s≤4294967296:=by
    have h3:y<2 ^ (32-s):=by
      apply Nat.lt_of_mul_lt_mul_right (a:=2 ^ s)
      rw [Nat.mul_comm (2 ^ (32-s)),hPQ];exact h1
    have h4:(y+1)*2 ^ s≤2 ^ (32-s)*2 ^ s:=Nat.mul_le_mul_right _ h3
    rw [Nat.mul_comm (2 ^ (32-s)),hPQ] at h4
    exact h4
  have hlt:val bs*2 ^ s<4294967296 ^ (n+1):=by
    have h5:val bs<4294967296 ^ n*(y+1):=by rw [Nat.mul_add];omega
    have h6:val bs*2 ^ s<4294967296 ^ n*(y+1)*2 ^ s:=(Nat.mul_lt_mul_right hP).2 h5
    have h7:4294967296 ^ n*(y+1)*2 ^ s≤4294967296 ^ (n+1):=by
      rw [Nat.mul_assoc,Nat.pow_succ];exact Nat.mul_le_mul_left _ hy1
    omega
  have ht:=val_take_lt ds (n+1) (by rw [hv];exact hlt)
  refine⟨by rw [ht.1,hv], ?_,hlt⟩
  have e2:=val_take_succ (ds.take (n+1)) n (by simp;omega)
  rw [List.take_of_length_le (by rw [List.length_take];exact Nat.min_le_left _ _),ht.1,hv] at e2
  have hlow2:=val_lt ((ds.take (n+1)).take n) (small_take (small_take hsd _) n)
  rw [List.length_take,List.length_take,Nat.min_eq_left (by omega)] at hlow2
  have h8:4294967296 ^ n*2147483648≤val bs*2 ^ s:=by
    have h9:4294967296 ^ n*y*2 ^ s≤val bs*2 ^ s:=Nat.mul_le_mul_right _ (by omega)
    have h10:4294967296 ^ n*2147483648≤4294967296 ^ n*(y*2 ^ s):=Nat.mul_le_mul_left _ h2
    rw [←Nat.mul_assoc] at h10
    omega
  generalize (ds.take (n+1)).getD n 0=z at *
  have h11:4294967296 ^ n*2147483648<4294967296 ^ n*(z+1):=by rw [Nat.mul_add (4294967296 ^ n) z 1];omega
  have:=Nat.lt_of_mul_lt_mul_left h11
  omega
def LongAt (N D:Nat)(cs qs:List Nat)(k:Nat):Prop:=N=val (qs.drop k)*4294967296 ^ k*D+val cs∧val (cs.drop k)<D
theorem LongAt.pre {N D i:Nat}{cs qs:List Nat}(h:LongAt N D cs qs (i+1))(hcs:Small cs)(hi:i<cs.length):val (cs.drop i)<4294967296*D:=by
  have h2:=h.2
  rw [val_drop cs i hi]
  have:=getD_lt cs hcs i
  omega
theorem LongAt.step {N D i n q:Nat}{cs qs us zs:List Nat}(h:LongAt N D cs qs (i+1))(hcs:Small cs)(hi:i+n≤cs.length)(hiq:i<qs.length)(hD:D*4294967296≤4294967296 ^ n)(hn:0<n)
    (hus:us=(cs.drop i).take n) (hq:q=val us / D) (hz:val zs=val us-val us / D*D) (hzl:zs.length=n):LongAt N D (cs.take i++(zs++cs.drop (i+zs.length))) (qs.set i q) i:=by
  have hpre:=h.pre hcs (by omega)
  have hcut:=val_take_lt (cs.drop i) n (by omega)
  rw [←hus,List.drop_drop] at hcut
  have hD0:0<D:=by
    rcases Nat.eq_zero_or_pos D with h' | h'
    · rw [h'] at hpre;omega
    · exact h'
  have hle:val us / D*D≤val us:=Nat.div_mul_le_self _ _
  have e1:=val_cut cs i
  rw [Nat.min_eq_left (by omega),←hcut.1] at e1
  have hdrop:val (cs.drop (i+zs.length))=0:=by rw [hzl];exact hcut.2
  have hti:(cs.take i).length=i:=by simp;omega
  have e2:val (cs.take i++(zs++cs.drop (i+zs.length)))=val (cs.take i)+4294967296 ^ i*val zs:=by
    rw [val_append,hti,val_append,hdrop,Nat.mul_zero,Nat.add_zero]
  have e3:val ((qs.set i q).drop i)=q+4294967296*val (qs.drop (i+1)):=by
    rw [val_drop _ i (by simpa using hiq)]
    have e4:(qs.set i q).getD i 0=q:=by simp [hiq]
    rw [e4,List.drop_set,if_pos (by omega)]
  refine⟨?_, ?_⟩
  · rw [e2,e3,h.1,e1,hz,←hq,Nat.pow_succ]
    have e5:4294967296 ^ i*val us=4294967296 ^ i*(val us-q*D)+4294967296 ^ i*(q*D):=by
      rw [←Nat.mul_add];congr 1;rw [hq];omega
    rw [e5]
    have e6:(q+4294967296*val (qs.drop (i+1)))*4294967296 ^ i*D=4294967296 ^ i*(q*D)+val (qs.drop (i+1))*(4294967296 ^ i*4294967296)*D:=by
      rw [Nat.add_mul,Nat.add_mul]
      congr 1
      · rw [Nat.mul_comm q,Nat.mul_assoc]
      · congr 1
        rw [Nat.mul_comm 4294967296 (val _),Nat.mul_assoc,Nat.mul_comm 4294967296 (4294967296 ^ i)]
    rw [e6]
    omega
  · have e7:(cs.take i++(zs++cs.drop (i+zs.length))).drop i=zs++cs.drop (i+zs.length):=by
      rw [List.drop_append_of_le_length (by omega),List.drop_eq_nil_of_le (by omega),List.nil_append]
    rw [e7,val_append,hdrop,Nat.mul_zero,Nat.add_zero,hz]
    have:=Nat.mod_lt (val us) hD0
    have e8:=Nat.div_add_mod (val us) D
    rw [Nat.mul_comm D] at e8
    omega
theorem LongAt.start {A s D n0 n1:Nat}{cs:List Nat}(hv:val cs=A*2 ^ s)(hl:cs.length=n0+1)(hcs:Small cs)(hA:A<4294967296 ^ n0)(hn:n1≤n0)(hD:4294967296 ^ n1*2 ^ s≤D*4294967296)(hs:s≤31)(h1:1≤n1):LongAt (A*2 ^ s) D cs (List.replicate (n0-n1+1) 0) (n0-n1+1):=by
  refine⟨?_, ?_⟩
  · rw [List.drop_eq_nil_of_le (by simp),hv];simp [val]
  · have h2:=val_cut cs (n0-n1+1)
    rw [Nat.min_eq_left (by omega),hv] at h2
    have hP:0<2 ^ s:=Nat.pow_pos (by omega)
    have h3:A*2 ^ s<4294967296 ^ n0*2 ^ s:=(Nat.mul_lt_mul_right hP).2 hA
    have h4:4294967296 ^ n0*2 ^ s*4294967296=4294967296 ^ (n0-n1+1)*(4294967296 ^ n1*2 ^ s):=by
      rw [←Nat.mul_assoc,←Nat.pow_add,Nat.mul_right_comm,←Nat.pow_succ,show n0-n1+1+n1=n0+1 by omega]
    have h5:4294967296 ^ (n0-n1+1)*(4294967296 ^ n1*2 ^ s)≤4294967296 ^ (n0-n1+1)*D*4294967296:=by
      rw [Nat.mul_assoc (4294967296 ^ (n0-n1+1)) D];exact Nat.mul_le_mul_left _ hD
    have h6:4294967296 ^ n0*2 ^ s≤4294967296 ^ (n0-n1+1)*D:=by
      have:4294967296 ^ n0*2 ^ s*4294967296≤4294967296 ^ (n0-n1+1)*D*4294967296:=by rw [h4];exact h5
      exact Nat.le_of_mul_le_mul_right this (by omega)
    have h7:4294967296 ^ (n0-n1+1)*val (cs.drop (n0-n1+1))<4294967296 ^ (n0-n1+1)*D:=by omega
    exact Nat.lt_of_mul_lt_mul_left h7
theorem LongAt.done {A B s:Nat}{cs qs:List Nat}(h:LongAt (A*2 ^ s) (B*2 ^ s) cs qs 0):val qs=A / B∧val cs / 2 ^ s=A % B:=by
  have hP:0<2 ^ s:=Nat.pow_pos (by omega)
  obtain⟨h1,h2⟩:=h
  simp only [List.drop_zero,Nat.pow_zero,Nat.mul_one] at h1 h2
  have e1:val cs=(A-val qs*B)*2 ^ s:=by
    rw [Nat.sub_mul,h1,Nat.mul_assoc];omega
  have e2:A-val qs*B<B:=by
    rw [e1] at h2
    exact Nat.lt_of_mul_lt_mul_right h2
  have e3:val qs*B≤A:=by
    have:val qs*B*2 ^ s≤A*2 ^ s:=by rw [h1,Nat.mul_assoc];omega
    exact Nat.le_of_mul_le_mul_right this hP
  have e4:A=val qs*B+(A-val qs*B):=by omega
  have hd:val qs=A / B∧A-val qs*B=A % B:=by
    have hB:0<B:=by omega
    have h5:A=B*val qs+(A-val qs*B):=by rw [Nat.mul_comm B];exact e4
    generalize A-val qs * B=r at *
    subst h5
    exact⟨by rw [Nat.mul_add_div hB,Nat.div_eq_of_lt e2];rfl,by rw [Nat.mul_add_mod,Nat.mod_eq_of_lt e2]⟩
  refine⟨hd.1, ?_⟩
  rw [e1,Nat.mul_div_cancel _ hP,hd.2]
end Go.Proofs.YtpnlbjnbgemocaaGreat.Nums
/- Plain facts on rows of bits, the least first. -/
namespace Go.Proofs.YtpnlbjnbgemocaaGreat.Nums
set_option linter.unusedVariables false
set_option linter.unusedSimpArgs false
def bnum (b:Bool):Nat:=if b then 1 else 0
def bval:List Bool→Nat
  | []=>0
  | b::r=>bnum b+2*bval r
def bitsOf (n:Nat):List Bool:=if h:n=0 then [] else(n % 2==1)::bitsOf (n / 2)
termination_by n
decreasing_by omega
def btl:List Bool→Nat
  | []=>0
  | b::r=>if btl r=0∧b=false then 0 else btl r+1
theorem bnum_le (b:Bool):bnum b≤1:=by cases b <;> decide
theorem bits_zero:bitsOf 0=[]:=by rw [bitsOf];simp
theorem bits_pos {n:Nat}(h:n≠0):bitsOf n=(n % 2==1)::bitsOf (n / 2):=by rw [bitsOf];simp [h]
theorem bnum_mod (n:Nat):bnum (n % 2==1)=n % 2:=by
  rcases Nat.mod_two_eq_zero_or_one n with h | h <;> simp [h,bnum]
theorem bval_bits (n:Nat):bval (bitsOf n)=n:=by
  induction n using Nat.strongRecOn with
  | _ n ih=>
    by_cases h:n=0
    · subst h;rw [bits_zero];rfl
    · rw [bits_pos h,bval,ih (n / 2) (by omega),bnum_mod];omega
theorem btl_le (bs:List Bool):btl bs≤bs.length:=by
  induction bs with
  | nil=>simp [btl]
  | cons b r ih=>simp only [btl,List.length_cons];split <;> omega
theorem bval_zero_btl (bs:List Bool):bval bs=0↔btl bs=0:=by
  induction bs with
  | nil=>simp [bval,btl]
  | cons b r ih=>
    simp only [bval,btl]
    split
    · rename_i h;simp [h.2,ih.2 h.1,bnum]
    · rename_i h
      constructor
      · intro e;exfalso;apply h;constructor
        · apply ih.1;omega
        · cases b
          · rfl
          · simp [bnum] at e
      · intro e;omega
theorem bits_bval (bs:List Bool):bitsOf (bval bs)=bs.take (btl bs):=by
  induction bs with
  | nil=>simp [bval,bits_zero]
  | cons b r ih=>
    by_cases hz:bval (b::r)=0
    · rw [hz,bits_zero,(bval_zero_btl _).1 hz];simp
    · have ht:btl (b::r)≠0:=fun e=>hz ((bval_zero_btl _).2 e)
      rw [bits_pos hz]
      have hb:=bnum_le b
      have e1:(bval (b::r) % 2==1)=b:=by
        simp only [bval]
        cases b
        · simp [bnum]
        · simp [bnum]
      have e2:bval (b::r) / 2=bval r:=by simp only [bval];omega
      have e3:btl (b::r)=btl r+1:=by
        simp only [btl] at ht ⊢;split
        · rename_i hh;simp [hh] at ht
        · rfl
      rw [e1,e2,e3,ih];rfl
theorem btl_eq (bs:List Bool):btl bs=(bitsOf (bval bs)).length:=by
  rw [bits_bval,List.length_take]
  have:=btl_le bs
  omega
theorem btl_unique (bs:List Bool)(k:Nat)(hk:k≤bs.length)(h0:∀ i,k≤i→bs.getD i false=false)(h1:k=0∨bs.getD (k-1) false=true):btl bs=k:=by
  induction bs generalizing k with
  | nil=>simp at hk;simp [btl,hk]
  | cons b r ih=>
    match k with
    | 0=>
      have ht:btl r=0:=ih 0 (Nat.zero_le _) (fun i _=>by simpa using h0 (i+1) (Nat.zero_le _)) (Or.inl rfl)
      have hx:b=false:=by simpa using h0 0 (Nat.le_refl _)
      simp [btl,ht,hx]
    | k + 1 =>
      have ht:btl r=k:=by
        refine ih k (by simp at hk;omega) (fun i hi=>by simpa using h0 (i+1) (by omega)) ?_
        by_cases hk0:k=0
        · exact Or.inl hk0
        · right
          obtain⟨j,rfl⟩:∃ j,k=j+1:=⟨k-1,by omega⟩
          rcases h1 with h1 | h1
          · omega
          · simpa using h1
      simp only [btl,ht]
      split
      · rename_i hh
        obtain⟨rfl,rfl⟩:=hh
        rcases h1 with h1 | h1
        · omega
        · simp at h1
      · rfl
theorem bgetD_ge (bs:List Bool)(i:Nat)(h:bs.length≤i):bs.getD i false=false:=by simp [List.getElem?_eq_none h]
theorem bval_append (a b:List Bool):bval (a++b)=bval a+2 ^ a.length*bval b:=by
  induction a with
  | nil=>simp [bval]
  | cons x r ih=>
    simp only [List.cons_append,bval,ih,List.length_cons,Nat.pow_succ,Nat.mul_add]
    rw [Nat.mul_comm (2 ^ r.length) 2,Nat.mul_assoc,Nat.add_assoc]
theorem bval_snoc (a:List Bool)(b:Bool):bval (a++[b])=bval a+2 ^ a.length*bnum b:=by rw [bval_append];simp [bval]
theorem bval_lt (bs:List Bool):bval bs<2 ^ bs.length:=by
  induction bs with
  | nil=>simp [bval]
  | cons b r ih=>
    have:=bnum_le b
    simp only [bval,List.length_cons,Nat.pow_succ]
    omega
theorem bval_take_next (bs:List Bool)(k:Nat):bval (bs.take (k+1))=bval (bs.take k)+2 ^ k*bnum (bs.getD k false):=by
  by_cases h:k<bs.length
  · have e:bs.take (k+1)=bs.take k++[bs.getD k false]:=by
      rw [List.take_succ_eq_append_getElem h];simp [h]
    rw [e,bval_snoc,List.length_take,Nat.min_eq_left (by omega)]
  · rw [bgetD_ge bs k (by omega),List.take_of_length_le (by omega),List.take_of_length_le (by omega)];simp [bnum]
theorem bits_len (n k:Nat)(h:n<2 ^ k):(bitsOf n).length≤k:=by
  induction k generalizing n with
  | zero => have : n = 0 := by simp at h; omega
            subst this;simp [bits_zero]
  | succ k ih=>
    by_cases hz:n=0
    · subst hz;simp [bits_zero]
    · rw [bits_pos hz]
      have:n / 2<2 ^ k:=by rw [Nat.div_lt_iff_lt_mul (by omega)];rw [Nat.pow_succ] at h;exact h
      have:=ih _ this
      simp;omega
theorem blt_at (xs ys:List Bool)(k:Nat)(h:∀ j,k<j→xs.getD j false=ys.getD j false)(hx:xs.getD k false=false)(hy:ys.getD k false=true):bval xs<bval ys:=by
  induction xs generalizing ys k with
  | nil =>
    induction ys generalizing k with
    | nil=>simp at hy
    | cons y ys ihy=>
      simp only [bval]
      cases k with
      | zero=>simp at hy;subst hy;simp [bnum];omega
      | succ k=>
        have:=ihy k (fun j hj=>by simpa using h (j+1) (by omega)) (by simp) (by simpa using hy)
        simp only [bval] at this
        omega
  | cons x xs ih=>cases ys with
    | nil=>simp at hy
    | cons y ys =>
      simp only [bval]
      cases k with
      | zero =>
        simp at hx hy
        subst hx;subst hy
        have e : bval xs = bval ys := by
          clear ih
          induction xs generalizing ys with
          | nil=>
            have:btl ys=0:=btl_unique ys 0 (Nat.zero_le _) (fun i _=>by have:=h (i+1) (by omega);simpa using this.symm) (Or.inl rfl)
            rw [(bval_zero_btl ys).2 this];rfl
          | cons a r ihr=>
            cases ys with
            | nil=>
              have:btl (a::r)=0:=btl_unique (a::r) 0 (Nat.zero_le _) (fun i _=>by have:=h (i+1) (by omega);simpa using this) (Or.inl rfl)
              rw [(bval_zero_btl (a::r)).2 this];rfl
            | cons c s=>
              have e0:a=c:=by have:=h 1 (by omega);simpa using this
              have e1:=ihr s (fun j hj=>by
                have:=h (j+1) (by omega)
                cases j with
                | zero=>omega
                | succ j=>simpa using this)
              simp only [bval,e0,e1]
        rw [e];simp [bnum]
      | succ k=>
        have:=ih ys k (fun j hj=>by simpa using h (j+1) (by omega)) (by simpa using hx) (by simpa using hy)
        have:=bnum_le x
        have:=bnum_le y
        omega
theorem beq_at (xs ys:List Bool)(h:∀ j,xs.getD j false=ys.getD j false):bval xs=bval ys:=by
  induction xs generalizing ys with
  | nil=>
    have:btl ys=0:=btl_unique ys 0 (Nat.zero_le _) (fun i _=>by have:=h i;simpa using this.symm) (Or.inl rfl)
    rw [(bval_zero_btl ys).2 this];rfl
  | cons a r ih=>cases ys with
    | nil=>
      have:btl (a::r)=0:=btl_unique (a::r) 0 (Nat.zero_le _) (fun i _=>by have:=h i;simpa using this) (Or.inl rfl)
      rw [(bval_zero_btl (a::r)).2 this];rfl
    | cons c s=>
      have e0:a=c:=by have:=h 0;simpa using this
      have e1:=ih s (fun j=>by have:=h (j+1);simpa using this)
      simp only [bval,e0,e1]
end Go.Proofs.YtpnlbjnbgemocaaGreat.Nums
namespace Go.Proofs.YtpnlbjnbgemocaaGreat
set_option linter.unusedVariables false
set_option linter.unusedSimpArgs false
set_option maxRecDepth 100000
open Go.RowKit
def IRow (w:World)(B:Nat)(a:Option Addr)(n c:Nat)(xs:List Int):Prop:=
  xs.length=n∧n≤c∧c≤maxLen∧(a=none→c=0)∧∃ b off,(a=some ⟨b,off,none⟩∨n≤0)∧∀ i,i<n→b<B∧w.cell? ⟨b,off+i,none⟩=some (.int .i64 (xs.getD i 0))
def GRow (w:World)(B:Nat)(a:Option Addr)(n c:Nat)(G:List (List Int)):Prop:=
  G.length=n∧n≤c∧c≤maxLen∧∃ b off,(a=some ⟨b,off,none⟩∨n≤0)∧∀ i,i<n→b<B∧∃ A L C,w.cell? ⟨b,off+i,none⟩=some (.slice A L C)∧IRow w B A L C (G.getD i [])
theorem IRow.keep {w w':World}{B:Nat}{a:Option Addr}{n c:Nat}{xs:List Int}(h:IRow w B a n c xs)(hk:∀ p:Addr,p.block<B→w'.cell? p=w.cell? p):IRow w' B a n c xs:=by
  obtain⟨h1,h2,h3,hn,b,off,h6,h7⟩:=h
  exact⟨h1,h2,h3,hn,b,off,h6,fun i hi=>⟨(h7 i hi).1,(hk ⟨b,off+i,none⟩ (h7 i hi).1).trans (h7 i hi).2⟩⟩
theorem IRow.more {w:World}{B B':Nat}{a:Option Addr}{n c:Nat}{xs:List Int}(h:IRow w B a n c xs)(hB:B≤B'):IRow w B' a n c xs:=by
  obtain⟨h1,h2,h3,hn,b,off,h6,h7⟩:=h
  exact⟨h1,h2,h3,hn,b,off,h6,fun i hi=>⟨Nat.lt_of_lt_of_le (h7 i hi).1 hB,(h7 i hi).2⟩⟩
theorem IRow.at_ {w:World}{B:Nat}{a:Option Addr}{n c:Nat}{xs:List Int}(h:IRow w B a n c xs){i:Nat}(hi:i<n) :
    ∃ b off,a=some ⟨b,off,none⟩∧b<B∧w.cell? ⟨b,off+i,none⟩=some (.int .i64 (xs.getD i 0)):=by
  obtain⟨h1,h2,h3,hn,b,off,h6,h7⟩:=h
  exact⟨b,off,h6.resolve_right (by omega),h7 i hi⟩
theorem IRow.len_le {w:World}{B:Nat}{a:Option Addr}{n c:Nat}{xs:List Int}(h:IRow w B a n c xs):n≤maxLen:=Nat.le_trans h.2.1 h.2.2.1
theorem IRow.nil (w:World)(B:Nat):IRow w B none 0 0 []:=
  ⟨rfl,Nat.le_refl _,Nat.zero_le _,(fun _=>rfl),0,0,Or.inr (Nat.le_refl _),fun i hi=>by omega⟩
theorem GRow.keep {w w':World}{B:Nat}{a:Option Addr}{n c:Nat}{G:List (List Int)}(h:GRow w B a n c G)(hk:∀ p:Addr,p.block<B→w'.cell? p=w.cell? p):GRow w' B a n c G:=by
  obtain⟨h1,h2,h3,b,off,h6,h7⟩:=h
  refine⟨h1,h2,h3,b,off,h6,fun i hi=>⟨(h7 i hi).1, ?_⟩⟩
  obtain⟨A,L,C,hc,hr⟩:=(h7 i hi).2
  exact⟨A,L,C,(hk ⟨b,off+i,none⟩ (h7 i hi).1).trans hc,hr.keep hk⟩
theorem GRow.more {w:World}{B B':Nat}{a:Option Addr}{n c:Nat}{G:List (List Int)}(h:GRow w B a n c G)(hB:B≤B'):GRow w B' a n c G:=by
  obtain⟨h1,h2,h3,b,off,h6,h7⟩:=h
  refine⟨h1,h2,h3,b,off,h6,fun i hi=>⟨Nat.lt_of_lt_of_le (h7 i hi).1 hB, ?_⟩⟩
  obtain⟨A,L,C,hc,hr⟩:=(h7 i hi).2
  exact⟨A,L,C,hc,hr.more hB⟩
theorem GRow.at_ {w:World}{B:Nat}{a:Option Addr}{n c:Nat}{G:List (List Int)}(h:GRow w B a n c G){i:Nat}(hi:i<n) :
    ∃ b off A L C,a=some ⟨b,off,none⟩∧b<B∧w.cell? ⟨b,off+i,none⟩=some (.slice A L C)∧IRow w B A L C (G.getD i []):=by
  obtain⟨h1,h2,h3,b,off,h6,h7⟩:=h
  obtain⟨hb,A,L,C,hc,hr⟩:=h7 i hi
  exact⟨b,off,A,L,C,h6.resolve_right (by omega),hb,hc,hr⟩
theorem GRow.len_le {w:World}{B:Nat}{a:Option Addr}{n c:Nat}{G:List (List Int)}(h:GRow w B a n c G):n≤maxLen:=Nat.le_trans h.2.1 h.2.2.1
theorem IRow.below {w w':World}{B:Nat}{a:Option Addr}{n c:Nat}{xs:List Int}(h:IRow w B a n c xs)(hb:Below B w w'):IRow w' B a n c xs:=h.keep fun _ hp=>hb.cell hp
theorem GRow.below {w w':World}{B:Nat}{a:Option Addr}{n c:Nat}{G:List (List Int)}(h:GRow w B a n c G)(hb:Below B w w'):GRow w' B a n c G:=h.keep fun _ hp=>hb.cell hp
structure Only (S:List (Option Nat)) (w w':World):Prop where
  os:w'.os=w.os
  tape:w'.tape=w.tape
  output:w'.output=w.output
  size:w.heap.size≤w'.heap.size
  block:∀ k,k<w.heap.size→some k ∉ S→w'.heap[k]?=w.heap[k]?
theorem Only.refl (S:List (Option Nat))(w:World):Only S w w:=⟨rfl,rfl,rfl,Nat.le_refl _,fun _ _ _=>rfl⟩
theorem Only.trans {S:List (Option Nat)}{a b c:World}(h:Only S a b)(k:Only S b c):Only S a c:=
  ⟨k.os.trans h.os,k.tape.trans h.tape,k.output.trans h.output,Nat.le_trans h.size k.size,fun i hi hne=>(k.block i (Nat.lt_of_lt_of_le hi h.size) hne).trans (h.block i hi hne)⟩
theorem Only.andThen {S S':List (Option Nat)}{a b c:World}(h:Only S a b)(k:Only S' b c)(hs:∀ j,some j∈S'→j<a.heap.size→some j∈S):Only S a c:=
  ⟨k.os.trans h.os,k.tape.trans h.tape,k.output.trans h.output,Nat.le_trans h.size k.size,fun i hi hne=>(k.block i (Nat.lt_of_lt_of_le hi h.size) (fun e=>hne (hs i e hi))).trans (h.block i hi hne)⟩
theorem Only.of_below {S:List (Option Nat)}{a b:World}(h:Below a.heap.size a b):Only S a b:=⟨h.os,h.tape,h.output,h.size,fun i hi _=>h.block i hi⟩
theorem Only.of_grown {S:List (Option Nat)}{a b:World}{row:Option Nat}(h:a.grownBy b row)(hr:row∈S∨row=none):Only S a b:=
  ⟨h.os,h.tape,h.output,h.size,fun i hi hne=>h.block i hi (fun e=>hr.elim (fun q=>hne (e▸q)) (fun q=>by rw [q] at e;cases e))⟩
theorem Only.below {S:List (Option Nat)}{B:Nat}{a b:World}(h:Only S a b)(hB:B≤a.heap.size)(hS:∀ j,some j∈S→B≤j):Below B a b:=
  ⟨h.os,h.tape,h.output,h.size,fun i hi=>h.block i (Nat.lt_of_lt_of_le hi hB) (fun e=>by have:=hS i e;omega)⟩
theorem Only.set {S:List (Option Nat)}{g:Nat}(hg:some g∈S)(o:Nat)(w:World)(u:Value):Only S w (w.setCell ⟨g,o,none⟩ u):=
  ⟨rfl,rfl,rfl,by simp [World.setCell],fun i hi hne=>Below.heap_setCell w _ u i (by rintro rfl;exact hne hg)⟩
theorem Only.alloc {S:List (Option Nat)}{a w:World}(h:Only S a w)(o:Obj):Only S a (w.alloc o):=
  h.trans (Only.of_below ((Below.refl _ _).alloc (Nat.le_refl _) o))
theorem Only.drew {S:List (Option Nat)}{a w:World}(h:Only S a w):Only S a w.drew:=⟨h.os,h.tape,h.output,h.size,h.block⟩
theorem Only.cell {S:List (Option Nat)}{a b:World}(h:Only S a b){p:Addr}(hp:p.block<a.heap.size)(hS:some p.block ∉ S):b.cell? p=a.cell? p:=World.cell?_of_block (w:=a) (h.block p.block hp hS)
theorem Only.weak {S S':List (Option Nat)}{a b:World}(h:Only S a b)(hs:∀ j,some j∈S→some j∈S'):Only S' a b:=⟨h.os,h.tape,h.output,h.size,fun i hi hne=>h.block i hi (fun e=>hne (hs i e))⟩
def IMem (w:World)(g:Nat)(xs:List Int):Prop:=w.heap[g]?=some (.cells (xs.map (Value.int .i64)).toArray 3 (0,0))
def BMem (w:World)(g:Nat)(xs:List Bool):Prop:=w.heap[g]?=some (.cells (xs.map Value.bool).toArray 4 (0,0))
section
variable {w w':World} {g:Nat} {xs:List Int} {bs:List Bool}
theorem IMem.lt (h:IMem w g xs):g<w.heap.size:=(Array.getElem?_eq_some_iff.1 h).1
theorem IMem.cell (h:IMem w g xs)(i:Nat)(hi:i<xs.length):w.cell? ⟨g,i,none⟩=some (.int .i64 (xs.getD i 0)):=by
  rw [cell_of_row w g i _ 3 (0,0) h];simp [hi]
theorem IMem.free (h:IMem w g xs)(i:Nat):w.frozen? ⟨g,i,none⟩=false:=frozen_of_row w g i _ 3 h
theorem IMem.set (h:IMem w g xs)(i:Nat)(u:Int):IMem (w.setCell ⟨g,i,none⟩ (.int .i64 u)) g (xs.set i u):=by
  have:=heap_setCell_same w g i _ 3 (.int .i64 u) h
  unfold IMem
  rw [this]
  congr 2
  rw [List.setIfInBounds_toArray,List.map_set]
theorem IMem.keep (h:IMem w g xs)(e:w'.heap[g]?=w.heap[g]?):IMem w' g xs:=by unfold IMem;rw [e];exact h
theorem IMem.below {B:Nat}(h:IMem w g xs)(hb:Below B w w')(hg:g<B):IMem w' g xs:=h.keep (hb.block g hg)
theorem IMem.only {S:List (Option Nat)}(h:IMem w g xs)(hb:Only S w w')(hg:some g ∉ S):IMem w' g xs:=h.keep (hb.block g h.lt hg)
theorem IMem.alloc (h:IMem w g xs)(o:Obj):IMem (w.alloc o) g xs:=h.keep (Below.heap_alloc w o g h.lt)
theorem IMem.setOther (h:IMem w g xs){p:Addr}(hp:g≠p.block)(u:Value):IMem (w.setCell p u) g xs:=h.keep (Below.heap_setCell w p u g hp)
theorem IMem.irow (h:IMem w g xs){B c:Nat}(hB:g<B)(hc:xs.length≤c)(hm:c≤maxLen):IRow w B (some ⟨g,0,none⟩) xs.length c xs:=
  ⟨rfl,hc,hm,(fun h=>by cases h),g,0,Or.inl rfl,fun i hi=>⟨hB,by rw [Nat.zero_add];exact h.cell i hi⟩⟩
theorem BMem.lt (h:BMem w g bs):g<w.heap.size:=(Array.getElem?_eq_some_iff.1 h).1
theorem BMem.cell (h:BMem w g bs)(i:Nat)(hi:i<bs.length):w.cell? ⟨g,i,none⟩=some (.bool (bs.getD i false)):=by
  rw [cell_of_row w g i _ 4 (0,0) h];simp [hi]
theorem BMem.free (h:BMem w g bs)(i:Nat):w.frozen? ⟨g,i,none⟩=false:=frozen_of_row w g i _ 4 h
theorem BMem.set (h:BMem w g bs)(i:Nat)(u:Bool):BMem (w.setCell ⟨g,i,none⟩ (.bool u)) g (bs.set i u):=by
  have:=heap_setCell_same w g i _ 4 (.bool u) h
  unfold BMem
  rw [this]
  congr 2
  rw [List.setIfInBounds_toArray,List.map_set]
theorem BMem.keep (h:BMem w g bs)(e:w'.heap[g]?=w.heap[g]?):BMem w' g bs:=by unfold BMem;rw [e];exact h
theorem BMem.below {B:Nat}(h:BMem w g bs)(hb:Below B w w')(hg:g<B):BMem w' g bs:=h.keep (hb.block g hg)
theorem BMem.only {S:List (Option Nat)}(h:BMem w g bs)(hb:Only S w w')(hg:some g ∉ S):BMem w' g bs:=h.keep (hb.block g h.lt hg)
theorem BMem.alloc (h:BMem w g bs)(o:Obj):BMem (w.alloc o) g bs:=h.keep (Below.heap_alloc w o g h.lt)
theorem BMem.setOther (h:BMem w g bs){p:Addr}(hp:g≠p.block)(u:Value):BMem (w.setCell p u) g bs:=h.keep (Below.heap_setCell w p u g hp)
end
theorem Tryz.info3:(Tryz.prog.info? 3).map (fun i=>(i.zero,i.size,i.bytes))=some (some (.int .i64 0),1,8):=by kernel_rfl
theorem Tryz.info4:(Tryz.prog.info? 4).map (fun i=>(i.zero,i.size,i.bytes))=some (some (.bool false),1,1):=by kernel_rfl
theorem Tryz.info77:(Tryz.prog.info? 77).map (fun i=>(i.zero,i.size,i.bytes))=some (some (.slice none 0 0),1,24):=by kernel_rfl
theorem makeI {w:World}{ops:Array Oper}{rest:List Oper}{o:Oper}{a:Act}{Q:Exit→Act→World→Prop}
    (hg:o.guard=none) (l:Operand) (hop:o.op=Op.makeSlice 77 l l) (L:Int) (n:Nat) (hl:a.eval l=.int .i64 L) (hL:L=(n:Int)) (hn:n≤1000000000)
    (hK:∀ w',IMem w' w.heap.size (List.replicate n 0)→Below w.heap.size w w'→wpList Tryz.prog ops Q rest (a.put o.dst (.slice (some ⟨w.heap.size,0,none⟩) n n)) w') :
    wpList Tryz.prog ops Q (o::rest) a w:=by
  refine wpList_plain hg fun K hK'=>?_
  obtain⟨i,hi,hz0,hz1,hz2⟩:=info_parts Tryz.info3
  have hr:=run_make (P:=Tryz.prog) w 77 3 i (.int .i64 0) Tryz.underlying77 hi hz0 .i64 .i64 n n (by omega) (Int.le_refl _) (by rw [hz2];omega) (by omega)
  simp only [Int.toNat_natCast] at hr
  subst hL
  unfold Oper.wp
  simp [execOp,hop,hl,hr,Result.andThen]
  refine hK' _ _ (hK _ ?_ ((Below.refl _ _).alloc (Nat.le_refl _) _))
  unfold IMem
  rw [heap_alloc_new]
  congr 2
  rw [hz1,Nat.mul_one]
  apply Array.ext'
  show(madeCells #[Value.int .i64 0] n).toList=_
  rw [toList_madeCells_one]
  simp
theorem makeB {w:World}{ops:Array Oper}{rest:List Oper}{o:Oper}{a:Act}{Q:Exit→Act→World→Prop}
    (hg:o.guard=none) (l:Operand) (hop:o.op=Op.makeSlice 41 l l) (L:Int) (n:Nat) (hl:a.eval l=.int .i64 L) (hL:L=(n:Int)) (hn:n≤1000000000)
    (hK:∀ w',BMem w' w.heap.size (List.replicate n false)→Below w.heap.size w w'→wpList Tryz.prog ops Q rest (a.put o.dst (.slice (some ⟨w.heap.size,0,none⟩) n n)) w') :
    wpList Tryz.prog ops Q (o::rest) a w:=by
  refine wpList_plain hg fun K hK'=>?_
  obtain⟨i,hi,hz0,hz1,hz2⟩:=info_parts Tryz.info4
  have hr:=run_make (P:=Tryz.prog) w 41 4 i (.bool false) Tryz.underlying41 hi hz0 .i64 .i64 n n (by omega) (Int.le_refl _) (by rw [hz2];omega) (by omega)
  simp only [Int.toNat_natCast] at hr
  subst hL
  unfold Oper.wp
  simp [execOp,hop,hl,hr,Result.andThen]
  refine hK' _ _ (hK _ ?_ ((Below.refl _ _).alloc (Nat.le_refl _) _))
  unfold BMem
  rw [heap_alloc_new]
  congr 2
  rw [hz1,Nat.mul_one]
  apply Array.ext'
  show(madeCells #[Value.bool false] n).toList=_
  rw [toList_madeCells_one]
  simp
def Own (w:World)(B:Nat)(v:Value)(xs:List Int):Prop:=w.ownsRow B 3 1 v xs.length (xs.map (Value.int .i64))
theorem Own.len {w:World}{B:Nat}{v:Value}{xs:List Int}(h:Own w B v xs):∃ a c,v=.slice a xs.length c:=by
  rcases h.2 with ⟨rfl,h0⟩ | ⟨g,cap,cur,rfl,_⟩
  · exact⟨none,0,by rw [h0]⟩
  · exact⟨_,cap,rfl⟩
theorem Own.irow {w:World}{B:Nat}{v:Value}{xs:List Int}(h:Own w B v xs):∃ a c,v=.slice a xs.length c∧IRow w w.heap.size a xs.length c xs:=by
  rcases h.2 with ⟨rfl,h0⟩ | ⟨g,cap,cur,rfl,_,hg,hnc,hcm,_⟩
  · refine⟨none,0,by rw [h0],rfl,by omega,Nat.zero_le _,(fun _=>rfl),0,0,Or.inr (by omega),fun i hi=>by omega⟩
  · refine⟨_,cap,rfl,rfl,hnc,hcm,(fun h=>by cases h),g,0,Or.inl rfl,fun i hi=>⟨(Array.getElem?_eq_some_iff.1 hg).1, ?_⟩⟩
    have:=h.cells (g:=g) rfl i (.int .i64 (xs.getD i 0)) (by simp [hi])
    rw [Nat.zero_add]
    have e:(⟨g,0,none⟩:Addr).add i=⟨g,i,none⟩:=by unfold Addr.add;split <;> simp_all
    rw [e] at this
    exact this
theorem Own.keep {w w':World}{B:Nat}{v:Value}{xs:List Int}(h:Own w B v xs)(hk:∀ k,v.ownBlock=some k→w'.heap[k]?=w.heap[k]?):Own w' B v xs:=by
  refine⟨h.1, ?_⟩
  rcases h.2 with h0 | ⟨g,cap,cur,rfl,hb,hg,hr⟩
  · exact Or.inl h0
  · exact Or.inr ⟨g,cap,cur,rfl,hb,(hk g rfl).trans hg,hr⟩
theorem Own.lt {w:World}{B:Nat}{v:Value}{xs:List Int}(h:Own w B v xs){k:Nat}(hk:v.ownBlock=some k):B≤k∧k<w.heap.size:=World.ownsRow.lt h k hk
theorem Own.only {S:List (Option Nat)}{w w':World}{B:Nat}{v:Value}{xs:List Int}(h:Own w B v xs)(hb:Only S w w')(hv:∀ k,v.ownBlock=some k→some k ∉ S):Own w' B v xs:=
  h.keep fun k hk=>hb.block k (h.lt hk).2 (hv k hk)
theorem Own.below {w w':World}{B B':Nat}{v:Value}{xs:List Int}(h:Own w B v xs)(hb:Below B' w w')(hB:w.heap.size≤B'):Own w' B v xs:=
  h.keep fun k hk=>hb.block k (Nat.lt_of_lt_of_le (h.lt hk).2 hB)
theorem Own.more {w:World}{B B':Nat}{v:Value}{xs:List Int}(h:Own w B v xs)(hB:B'≤B):Own w B' v xs:=by
  refine⟨h.1, ?_⟩
  rcases h.2 with h0 | ⟨g,cap,cur,rfl,hb,hr⟩
  · exact Or.inl h0
  · exact Or.inr ⟨g,cap,cur,rfl,Nat.le_trans hB hb,hr⟩
theorem Own.nil (w:World)(B:Nat):Own w B (.slice none 0 0) []:=World.ownsRow_nil w B 3 1
theorem appendI {w:World}{ops:Array Oper}{rest:List Oper}{o:Oper}{a:Act}{Q:Exit→Act→World→Prop}(hgd:o.guard=none)(s x:Operand)(t:TypeId)(ht:Tryz.prog.underlying t=some (.slice 3))
    (hop:o.op=.call { callee:=.builtin .append,args:=#[s,x],argTypes:=#[t,t] })
    (B:Nat) (v:Value) (xs:List Int) (X:Int) (T:TypeId) (hs:a.eval s=v) (hx:a.eval x=.slice (some ⟨w.heap.size,0,none⟩) 1 1) (hown:Own w B v xs) (hB:B≤w.heap.size) (hl:xs.length≤1000000000)
    (hK:∀ v' w',Own w' B v' (xs++[X])→Only [v.ownBlock] w w'→(v'.ownBlock=v.ownBlock∨∃ k,v'.ownBlock=some k∧w.heap.size≤k)→wpList Tryz.prog ops Q rest (a.put o.dst v') w') :
    wpList Tryz.prog ops Q (o::rest) a (w.alloc (.cells #[.int .i64 X] T)):=by
  obtain⟨i0,hi,hz0,hz1,hz2⟩:=info_parts Tryz.info3
  refine wpList_append_own_at _ hgd s x t hop B 3 i0 (.int .i64 0) 1 8 ht hi hz0 hz1 hz2 rfl (by decide) v xs.length (xs.map (Value.int .i64)) hs (World.ownsRow.alloc hown _) ⟨w.heap.size,0,none⟩ 1 1 [.int .i64 X] hx rfl (cell_one_new _ _ _) (by intro u hu;simp at hu;subst hu;rfl) (by unfold maxLen;omega) (by omega) (by simp;omega) ?_
  intro v' w' hown' hgrow _ hat
  refine hK v' w' ?_ ((Only.refl _ w |>.alloc _).trans (Only.of_grown hgrow (Or.inl (by simp)))) ?_
  · unfold Own;simpa using hown'
  · rcases hat with h | h
    · exact Or.inl h
    · exact Or.inr ⟨_,h,by simp⟩
theorem appendH {w:World}{ops:Array Oper}{rest:List Oper}{o:Oper}{a:Act}{Q:Exit→Act→World→Prop}(hgd:o.guard=none)(s x:Operand)(t:TypeId)(ht:Tryz.prog.underlying t=some (.slice 3))
    (hop:o.op=.call { callee:=.builtin .append,args:=#[s,x],argTypes:=#[t,t] })
    (B:Nat) (v:Value) (xs:List Int) (X:Int) (T:TypeId) (H:Nat) (hs:a.eval s=v) (hx:a.eval x=.slice (some ⟨H,0,none⟩) 1 1) (hH:w.heap.size=H) (hown:Own w B v xs) (hB:B≤H) (hl:xs.length≤1000000000)
    (hK:∀ v' w',Own w' B v' (xs++[X])→Only [v.ownBlock] w w'→(v'.ownBlock=v.ownBlock∨∃ k,v'.ownBlock=some k∧H≤k)→wpList Tryz.prog ops Q rest (a.put o.dst v') w') :
    wpList Tryz.prog ops Q (o::rest) a (w.alloc (.cells #[.int .i64 X] T)):=by
  subst hH
  exact appendI hgd s x t ht hop B v xs X T hs hx hown hB hl hK
end Go.Proofs.YtpnlbjnbgemocaaGreat
namespace Go.Proofs.YtpnlbjnbgemocaaGreat
namespace Gr
end Gr
end Go.Proofs.YtpnlbjnbgemocaaGreat
namespace Go.Proofs.YtpnlbjnbgemocaaGreat
namespace Gr
def E (G:List (List Int))(i k:Nat):Prop:=i<G.length∧k<G.length∧(k:Int)∈G.getD i []
theorem nodup_len (n:Nat):∀ l:List Nat,l.Nodup→(∀ x∈l,x<n)→l.length≤n:=by
  induction n with
  | zero=>
    intro l _ h
    cases l with
    | nil=>simp
    | cons a l=>have:=h a (by simp);omega
  | succ n ih=>
    intro l hn h
    have h1:=ih (l.erase n) (hn.erase n) (fun x hx=>by
      have:=(hn.mem_erase_iff).1 hx
      have:=h x this.2
      omega)
    by_cases hm:n∈l
    · rw [List.length_erase_of_mem hm] at h1;omega
    · rw [List.erase_of_not_mem hm] at h1;omega
def ints (l:List Nat):List Int:=l.map (fun n:Nat=>(n:Int))
theorem ints_len (l:List Nat):(ints l).length=l.length:=by simp [ints]
theorem ints_getD (l:List Nat)(q:Nat):(ints l).getD q 0=((l.getD q 0:Nat):Int):=by
  by_cases h:q<l.length <;> simp [ints,h]
theorem ints_append (l m:List Nat):ints (l++m)=ints l++ints m:=by simp [ints]
section
variable {G:List (List Int)} {s:Nat} {F0 F:List Int} {row D:List Nat} {m p:Nat}
end
end Gr
end Go.Proofs.YtpnlbjnbgemocaaGreat
namespace Go.Proofs.YtpnlbjnbgemocaaGreat
namespace Gr
section
variable {G:List (List Int)} {out way asked:List Nat} {ent:List Bool}
end
end Gr
end Go.Proofs.YtpnlbjnbgemocaaGreat
namespace Go.Proofs.YtpnlbjnbgemocaaGreat
namespace Gr
section
variable {T:List (List Int)} {out H:List Nat} {M l:List Int}
end
end Gr
end Go.Proofs.YtpnlbjnbgemocaaGreat
namespace Go.Proofs.YtpnlbjnbgemocaaGreat
namespace Hp
end Hp
end Go.Proofs.YtpnlbjnbgemocaaGreat
