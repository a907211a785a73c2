import Derived.Shelf.Small.Wraps
import Derived.Test.YtkcgikoploohkaaGreatDoorIA
import Derived.Test.YtkcgikoploohkaaGreatDoorRC
import Derived.Test.YtkcgikoploohkaaGreatDoorIB
import Derived.Lib.SmallJoins
import Derived.ProofKit
import Derived.OpenShut
import Derived.ShutString
import Derived.ChangeOld
namespace Go.Proofs.YtkcgikoploohkaaGreatDoor
set_option linter.unusedVariables false
set_option linter.unusedSimpArgs false
set_option maxRecDepth 100000
open Go.Shelf Go.RowKit Nums
def Tryz.lays103_ren : Go.Shelf.Ren := ⟨fun | 103 => 154 | 210 => 190 | 206 => 176 | n => n,fun | 24 => 77 | 3 => 3 | 4 => 4 | 9 => 9 | n => n,fun | n => n⟩
theorem Tryz.lays103 : Go.Proofs.Lays.n103 Tryz.prog Tryz.lays103_ren := {
  mixed := by kernel_rfl
  f103 := Tryz.func154.trans (congrArg some (by kernel_rfl))
  f206 := Tryz.func176.trans (congrArg some (by kernel_rfl))
  f210 := Tryz.func190.trans (congrArg some (by kernel_rfl))
  t3 := Tryz.underlying3
  a3 := Tryz.isAgg3
  z3 := Tryz.sizeOf3
  v3 := Tryz.zeroValue3
  t4 := Tryz.underlying4
  a4 := Tryz.isAgg4
  z4 := Tryz.sizeOf4
  v4 := Tryz.zeroValue4
  t9 := Tryz.underlying9
  a9 := Tryz.isAgg9
  z9 := Tryz.sizeOf9
  v9 := Tryz.zeroValue9
  t24 := Tryz.underlying77
  a24 := Tryz.isAgg77
  z24 := Tryz.sizeOf77
  v24 := Tryz.zeroValue77 }
def Signed (s : ByteArray) (neg : Bool) (t : ByteArray) : Prop := (neg = true∧s.data.toList = 45 :: t.data.toList)∨(neg = false∧s = t∧s.data.toList.head?≠some 45)
theorem signed_any (s : ByteArray) : ∃ neg t,Signed s neg t := by
  cases h : s.data.toList with
  | nil => exact ⟨false,s,Or.inr ⟨rfl,rfl,by rw [h];simp⟩⟩
  | cons c l =>
    by_cases hc : c = 45
    · exact ⟨true,⟨l.toArray⟩,Or.inl ⟨rfl,by rw [h,hc]⟩⟩
    · exact ⟨false,s,Or.inr ⟨rfl,rfl,by rw [h];simpa using hc⟩⟩
theorem Signed.size {s t : ByteArray} {neg : Bool} (h : Signed s neg t) : t.size≤s.size := by
  rcases h with ⟨-,h⟩ | ⟨-,rfl,-⟩
  · have := congrArg List.length h
    have e1 : s.size = s.data.toList.length := Lib.size_eq s
    have e2 : t.size = t.data.toList.length := Lib.size_eq t
    rw [e1,e2,this];simp
  · exact Nat.le_refl _
theorem cut_minus (s t : ByteArray) (neg : Bool) (w : World) (h : Signed s neg t) :
    Calls Tryz.prog 154 #[.string s,.string ⟨#[45]⟩] w fun e w' => e = .returned (.tuple #[.string t,.bool neg])∧w = w' := by
  refine (Any.strings_CutPrefix Tryz.lays103 s ⟨#[45]⟩ w).mono ?_
  rintro e w' ⟨rfl,rfl⟩
  refine ⟨?_,rfl⟩
  rcases h with ⟨rfl,h⟩ | ⟨rfl,rfl,h⟩
  · have e1 : Lib.hasPrefix s.data.toList [45] = true := by rw [h];simp [Lib.hasPrefix]
    have e2 : Lib.trimPrefix s.data.toList [45] = t.data.toList := by rw [h];simp [Lib.trimPrefix,Lib.hasPrefix]
    show Ending.returned (.tuple #[.string ⟨(Lib.trimPrefix s.data.toList [45]).toArray⟩,.bool (Lib.hasPrefix s.data.toList [45])]) = _
    rw [e1,e2]
  · have e1 : Lib.hasPrefix s.data.toList [45] = false := by
      cases hs : s.data.toList with
      | nil => simp [Lib.hasPrefix]
      | cons c l =>
        rw [hs] at h
        simp at h
        have h45 : ((45 : UInt8) == c) = false := by simpa using fun e => h e.symm
        simp [Lib.hasPrefix,List.isPrefixOf,h45]
    have e2 : Lib.trimPrefix s.data.toList [45] = s.data.toList := by simp [Lib.trimPrefix,e1]
    show Ending.returned (.tuple #[.string ⟨(Lib.trimPrefix s.data.toList [45]).toArray⟩,.bool (Lib.hasPrefix s.data.toList [45])]) = _
    rw [e1,e2]
def ParseK (k : Nat) (Z : Int) (w : World) (e : Ending) (w' : World) : Prop :=
  ∃ a m c,e = .returned (.tuple #[.agg #[.bool (decide (Z < 0)),.slice a m c],.int .i64 0])∧m≤k∧Row w' a m c (limbs Z.natAbs)∧Below w.heap.size w w'
def ParseErr (E : Int) (w : World) (e : Ending) (w' : World) : Prop :=
  e = .returned (.tuple #[.agg #[.bool false,.slice none 0 0],.int .i64 E])∧Below w.heap.size w w'
set_option maxHeartbeats 1000000 in
theorem parseI_err (E : Int) (s t : ByteArray) (neg : Bool) (w : World) (h : Signed s neg t) (hE : (E != 0) = true)
    (hp : ∀ w,Calls Tryz.prog 155 #[.string t] w fun e w' => e = .returned (.tuple #[.slice none 0 0,.int .i64 E])∧w = w') :
    Calls Tryz.prog 110 #[.string s] w (ParseErr E w) := by
  have HP := Lib.hid hp;clear hp
  have HE := Lib.hid (below_one w (.cells #[.bool false,.slice none 0 0] 25))
  rcases h with ⟨rfl,h⟩ | ⟨rfl,rfl,h⟩
  · have H : Hid (Signed s true t) := Or.inl ⟨rfl,h⟩
    clear h
    go_enter Tryz.func110,Tryz.ntmps110
    go_wp2_with fail
    refine (cut_minus _ _ _ _ H.out).mono ?_
    rintro e w1 ⟨rfl,rfl⟩
    go_wp2_with fail
    refine (HP.out _).mono ?_
    rintro e w1 ⟨rfl,rfl⟩
    go_wp2
    exact bodyPost_ret (v := .tuple #[.agg #[.bool false,.slice none 0 0],.int .i64 E]) (by simp [results,Tryz.results110,go_sem]) rfl ⟨rfl,HE.out⟩
  · have H : Hid (Signed s false s) := Or.inr ⟨rfl,rfl,h⟩
    clear h
    go_enter Tryz.func110,Tryz.ntmps110
    go_wp2_with fail
    refine (cut_minus _ _ _ _ H.out).mono ?_
    rintro e w1 ⟨rfl,rfl⟩
    go_wp2_with fail
    refine (HP.out _).mono ?_
    rintro e w1 ⟨rfl,rfl⟩
    go_wp2
    exact bodyPost_ret (v := .tuple #[.agg #[.bool false,.slice none 0 0],.int .i64 E]) (by simp [results,Tryz.results110,go_sem]) rfl ⟨rfl,HE.out⟩
theorem parseN (k : Nat) (t : ByteArray) (w : World) (N : Nat) (hs : t.size≤300) (h0 : 0 < t.size) (hd : allDig t) (hN : numOf t.data.toList = N) (hk : (limbs N).length≤k) :
    Calls Tryz.prog 155 #[.string t] w fun e w' => ∃ a m,e = .returned (.tuple #[.slice a m m,.int .i64 0])∧m≤k∧Row w' a m m (limbs N)∧Below w.heap.size w w' := by
  subst hN
  refine (parse_ok t w hs h0 hd).mono ?_
  rintro e w' ⟨a,m,h1,h2,h3,h4⟩
  exact ⟨a,m,h1,by omega,h3,h4⟩
set_option maxHeartbeats 1000000 in
theorem parseI_ok (k : Nat) (Z : Int) (s t : ByteArray) (neg : Bool) (N : Nat) (w : World) (h : Signed s neg t) (hs : t.size≤300) (h0 : 0 < t.size) (hd : allDig t) (hN : numOf t.data.toList = N) (hZ : sv neg N = Z) (hk : (limbs N).length≤k) :
    Calls Tryz.prog 110 #[.string s] w (ParseK k Z w) := by
  have HD := Lib.hid hd;clear hd
  have HN := Lib.hid hN;clear hN
  have HZ := Lib.hid hZ;clear hZ
  have HK := Lib.hid hk;clear hk
  have HX := Lib.hid (box_new w (.bool false) (.slice none 0 0))
  have HW := Lib.hid (below_one w (.cells #[.bool false,.slice none 0 0] 25))
  rcases h with ⟨rfl,h⟩ | ⟨rfl,rfl,h⟩
  · have H : Hid (Signed s true t) := Or.inl ⟨rfl,h⟩
    clear h
    go_enter Tryz.func110,Tryz.ntmps110
    go_wp2_with fail
    refine (cut_minus _ _ _ _ H.out).mono ?_
    rintro e w1 ⟨rfl,rfl⟩
    go_wp2_with fail
    refine (parseN k _ _ N hs h0 HD.out HN.out HK.out).mono ?_
    rintro e w1 ⟨a,m,rfl,hm,hrow,hb⟩
    have R1 := Lib.hid hrow;clear hrow
    have X1 := Lib.hid (HX.out.later hb)
    have HB := Lib.hid (bthen HW.out hb);clear hb
    go_wp2_with fail
    refine (put_told k _ _ _ _ N Z _ R1.out HZ.out HK.out).mono ?_
    rintro e w2 ⟨a2,m2,c2,rfl,hm2,hrow,hb⟩
    have R2 := Lib.hid hrow;clear hrow
    obtain ⟨d0,d1,g0,g1,k0⟩ := X1.out.later hb
    have HB2 := Lib.hid (bthen HB.out hb);clear hb
    go_wp2
    exact bodyPost_ret (v := .tuple #[.agg #[.bool (decide (Z < 0)),.slice a2 m2 c2],.int .i64 0]) (by simp [results,Tryz.results110,go_sem, *]) rfl ⟨a2,m2,c2,rfl,hm2,R2.out.put d0 d1 _ _,below_put HB2.out (Nat.le_refl _) _ _⟩
  · have H : Hid (Signed s false s) := Or.inr ⟨rfl,rfl,h⟩
    clear h
    go_enter Tryz.func110,Tryz.ntmps110
    go_wp2_with fail
    refine (cut_minus _ _ _ _ H.out).mono ?_
    rintro e w1 ⟨rfl,rfl⟩
    go_wp2_with fail
    refine (parseN k _ _ N hs h0 HD.out HN.out HK.out).mono ?_
    rintro e w1 ⟨a,m,rfl,hm,hrow,hb⟩
    have R1 := Lib.hid hrow;clear hrow
    have X1 := Lib.hid (HX.out.later hb)
    have HB := Lib.hid (bthen HW.out hb);clear hb
    go_wp2_with fail
    refine (put_told k _ _ _ _ N Z _ R1.out HZ.out HK.out).mono ?_
    rintro e w2 ⟨a2,m2,c2,rfl,hm2,hrow,hb⟩
    have R2 := Lib.hid hrow;clear hrow
    obtain ⟨d0,d1,g0,g1,k0⟩ := X1.out.later hb
    have HB2 := Lib.hid (bthen HB.out hb);clear hb
    go_wp2
    exact bodyPost_ret (v := .tuple #[.agg #[.bool (decide (Z < 0)),.slice a2 m2 c2],.int .i64 0]) (by simp [results,Tryz.results110,go_sem, *]) rfl ⟨a2,m2,c2,rfl,hm2,R2.out.put d0 d1 _ _,below_put HB2.out (Nat.le_refl _) _ _⟩
def decI (Z : Int) : ByteArray := if Z < 0 then ⟨#[45]⟩ ++ decStr Z.natAbs else decStr Z.natAbs
set_option maxHeartbeats 1000000 in
theorem printI (T : ByteArray) (Z : Int) (s : Bool) (a : Option Addr) (n c : Nat) (xs : List Nat) (w : World) (hr : Row w a n c xs) (hn : n≤12) (hZ : sv s (val xs) = Z) (hT : decI Z = T) (hsz : (decStr (val xs)).size≤1000) :
    Calls Tryz.prog 126 #[.agg #[.bool s,.slice a n c]] w fun e w' => e = .returned (.string T)∧Below w.heap.size w w' := by
  subst hT
  have HX := Lib.hid (box_new w (.bool s) (.slice a n c))
  have HW := Lib.hid (below_one w (.cells #[.bool s,.slice a n c] 25))
  have HR := Lib.hid (hr.later HW.out);clear hr
  have HA : Hid (val xs = Z.natAbs) := by show _ = _;rw [←hZ,natAbs_sv]
  have HZ := Lib.hid hZ;clear hZ
  obtain ⟨T,hT⟩ : ∃ T,decStr (val xs) = T := ⟨_,rfl⟩
  have hsz2 : 1 + T.size≤9223372036854775807 := by rw [←hT];omega
  have HT := Lib.hid hT;clear hT hsz
  by_cases h : Z < 0
  · have hs : sgn Z = -1 := by rw [sgn,if_pos h]
    have HS := Lib.hid hs;clear hs
    have e : decI Z = ⟨#[45]⟩ ++ T := by rw [decI,if_pos h,←HT.out,HA.out]
    rw [e];clear e
    clear h
    go_enter Tryz.func126,Tryz.ntmps126
    go_wp2_with fail
    refine (sign_any Z s a n c xs _ HR.out (by omega) HZ.out).mono ?_
    rw [HS.out]
    rintro e w1 ⟨rfl,hb⟩
    obtain ⟨d0,d1,g0,g1,k0⟩ := HX.out.later hb
    have R1 := Lib.hid (HR.out.later hb)
    have HB := Lib.hid (bthen HW.out hb);clear hb
    go_wp2_with fail
    refine (printN T R1.out hn HT.out).mono ?_
    rintro e w2 ⟨rfl,hb⟩
    have HB2 := Lib.hid (bthen HB.out hb);clear hb
    go_wp2
    go_ret
    exact ⟨rfl,HB2.out⟩
  · obtain ⟨S,hS⟩ : ∃ S,sgn Z = S := ⟨_,rfl⟩
    have hs : 0≤S := by rw [←hS,sgn,if_neg h];split <;> omega
    have HS := Lib.hid hS;clear hS
    have e : decI Z = T := by rw [decI,if_neg h,←HT.out,HA.out]
    rw [e];clear e
    clear h
    go_enter Tryz.func126,Tryz.ntmps126
    go_wp2_with fail
    refine (sign_any Z s a n c xs _ HR.out (by omega) HZ.out).mono ?_
    rw [HS.out]
    rintro e w1 ⟨rfl,hb⟩
    obtain ⟨d0,d1,g0,g1,k0⟩ := HX.out.later hb
    have R1 := Lib.hid (HR.out.later hb)
    have HB := Lib.hid (bthen HW.out hb);clear hb
    go_wp2_with fail
    refine (printN T R1.out hn HT.out).mono ?_
    rintro e w2 ⟨rfl,hb⟩
    have HB2 := Lib.hid (bthen HB.out hb);clear hb
    go_wp2
    go_ret
    exact ⟨rfl,HB2.out⟩
end Go.Proofs.YtkcgikoploohkaaGreatDoor
/- What Div tells, in the words of the integers that it is handed. -/
namespace Go.Proofs.YtkcgikoploohkaaGreatDoor
set_option linter.unusedVariables false
set_option linter.unusedSimpArgs false
set_option maxRecDepth 100000
open Go.RowKit Nums
theorem fdiv_at {a b q r : Int} (hb : b≠0) (h : r + b * q = a) (hr : (0≤r∧r < b)∨(b < r∧r≤0)) : a.fdiv b = q∧a.fmod b = r := by
  rcases Int.lt_or_gt_of_ne hb with h0 | h0
  · exact (Int.fdiv_fmod_unique' h0).2 ⟨h,by omega,by omega⟩
  · exact (Int.fdiv_fmod_unique h0).2 ⟨h,by omega,by omega⟩
theorem fdiv_same (s : Bool) (A B : Nat) (hB : 0 < B) : (sv s A).fdiv (sv s B) = sv false (A / B)∧(sv s A).fmod (sv s B) = sv s (A % B) := by
  have h := Nat.div_add_mod A B
  have hm := Nat.mod_lt A hB
  have hi : (A : Int) = (B : Int) * ((A / B : Nat) : Int) + ((A % B : Nat) : Int) := by rw [←Int.natCast_mul,←Int.natCast_add,h]
  cases s
  · refine fdiv_at (by simp [sv];omega) ?_ (Or.inl ⟨by simp only [sv,Bool.false_eq_true,if_false];omega,by simp only [sv,Bool.false_eq_true,if_false];omega⟩)
    simp only [sv,Bool.false_eq_true,if_false];omega
  · refine fdiv_at (by simp [sv];omega) ?_ (Or.inr ⟨by simp only [sv,if_true];omega,by simp only [sv,if_true];omega⟩)
    simp only [sv,Bool.false_eq_true,if_false,if_true,Int.neg_mul];omega
theorem fdiv_even (s : Bool) (A B : Nat) (hB : 0 < B) (h0 : A % B = 0) : (sv s A).fdiv (sv (!s) B) = sv true (A / B)∧(sv s A).fmod (sv (!s) B) = sv (!s) (A % B) := by
  have h := Nat.div_add_mod A B
  have hi : (A : Int) = (B : Int) * ((A / B : Nat) : Int) := by rw [←Int.natCast_mul];omega
  rw [h0]
  cases s
  · refine fdiv_at (by simp [sv];omega) ?_ (Or.inr ⟨by simp [sv];omega,by simp [sv]⟩)
    simp only [sv,Bool.not_false,Bool.false_eq_true,if_false,if_true,Int.neg_mul,Int.mul_neg];omega
  · refine fdiv_at (by simp [sv];omega) ?_ (Or.inl ⟨by simp [sv],by simp [sv];omega⟩)
    simp only [sv,Bool.not_true,Bool.false_eq_true,if_false,if_true,Int.mul_neg];omega
theorem fdiv_odd (s : Bool) (A B : Nat) (hB : 0 < B) (h0 : 0 < A % B) : (sv s A).fdiv (sv (!s) B) = sv true (A / B + 1)∧(sv s A).fmod (sv (!s) B) = sv (!s) (B - A % B) := by
  have h := Nat.div_add_mod A B
  have hm := Nat.mod_lt A hB
  have hi : (A : Int) = (B : Int) * ((A / B : Nat) : Int) + ((A % B : Nat) : Int) := by rw [←Int.natCast_mul,←Int.natCast_add,h]
  have e1 : ((A / B + 1 : Nat) : Int) = ((A / B : Nat) : Int) + 1 := by omega
  cases s
  · refine fdiv_at (by simp [sv];omega) ?_ (Or.inr ⟨by simp [sv];omega,by simp [sv]⟩)
    simp only [sv,Bool.not_false,Bool.false_eq_true,if_false,if_true,e1,Int.neg_mul,Int.mul_neg,Int.mul_add,Int.mul_one];omega
  · refine fdiv_at (by simp [sv];omega) ?_ (Or.inl ⟨by simp [sv],by simp [sv];omega⟩)
    simp only [sv,Bool.not_true,Bool.false_eq_true,if_false,if_true,e1,Int.mul_neg,Int.mul_add,Int.mul_one];omega
theorem sv_ne {t : Bool} {B : Nat} {Y : Int} (h : sv t B = Y) (hY : Y≠0) : 0 < B := by
  rcases Nat.eq_zero_or_pos B with e | e
  · exfalso;apply hY;rw [←h,e];cases t <;> rfl
  · exact e
section
variable {s t : Bool} {a b : Option Addr} {n c m d : Nat} {xs ys : List Nat} {w : World} {X Y : Int}
theorem divI (k l : Nat) (Q R : Int) (h0 : Row w a n c xs) (h1 : Row w b m d ys) (hX : sv s (val xs) = X) (hY : sv t (val ys) = Y) (hn : n≤100) (hm : m≤100) (hY0 : Y≠0) (hQ : X.fdiv Y = Q) (hR : X.fmod Y = R) (hk : (limbs Q.natAbs).length≤k) (hl : (limbs R.natAbs).length≤l) (hkb : k≤100) :
    Calls Tryz.prog 170 #[.agg #[.bool s,.slice a n c],.agg #[.bool t,.slice b m d]] w (DivK k l Q R w) := by
  have hB := sv_ne hY hY0
  subst hX;subst hY;subst hQ;subst hR
  by_cases hst : t = s
  · subst hst
    obtain ⟨e1,e2⟩ := fdiv_same t (val xs) (val ys) hB
    exact divI_same k l _ _ t a b n c m d xs ys w h0 h1 hn hm hB e1.symm e2.symm hk hl
  · obtain rfl : t = !s := by cases s <;> cases t <;> simp at hst ⊢
    rcases Nat.eq_zero_or_pos (val xs % val ys) with h | h
    · obtain ⟨e1,e2⟩ := fdiv_even s (val xs) (val ys) hB h
      exact divI_even k l _ _ s a b n c m d xs ys w h0 h1 hn hm hB h e1.symm e2.symm hk hl
    · obtain ⟨e1,e2⟩ := fdiv_odd s (val xs) (val ys) hB h
      exact divI_odd k l _ _ s a b n c m d xs ys w h0 h1 hn hm hB hkb h e1.symm e2.symm hk hl
end
end Go.Proofs.YtkcgikoploohkaaGreatDoor
/- What awake tells: true. -/
namespace Go.Proofs.YtkcgikoploohkaaGreatDoor
set_option linter.unusedVariables false
set_option linter.unusedSimpArgs false
set_option maxRecDepth 100000
open Go.RowKit Nums
theorem dec_digit (n : Nat) (c : UInt8) (h0 : 0 < n) (h9 : n < 10) (hc : c = UInt8.ofNat (48 + n)) : decStr n = ⟨#[c]⟩ := by
  subst hc
  rw [decStr,if_neg (by omega),dig_pos (by omega),Nat.div_eq_of_lt h9,dig_zero,Nat.mod_eq_of_lt h9]
  rfl
theorem allDig_of (s : ByteArray) (h : s.data.toList.all (fun c => decide (48≤c.toNat∧c.toNat≤57)) = true) : allDig s := by
  intro i hi
  have := List.all_eq_true.1 h s[i] (by
    have : s[i] = s.data[i] := rfl
    rw [this]
    simp)
  simpa [isDig] using this
end Go.Proofs.YtkcgikoploohkaaGreatDoor
/- What all laws of this seat share: integers that came in, their values and lengths; plain facts on lengths and signs. -/
namespace Go.Proofs.YtkcgikoploohkaaGreatDoor
set_option linter.unusedVariables false
set_option linter.unusedSimpArgs false
set_option maxRecDepth 100000
open Go.RowKit Nums
theorem lenZ_raw {w : World} {a : Option Addr} {n c k : Nat} {xs : List Nat} {s : Bool} {A : Int} (h : Row w a n c xs) (hn : n≤k) (hA : sv s (val xs) = A) : (limbs A.natAbs).length≤k := by
  subst hA;rw [natAbs_sv];exact row_len' h hn
theorem lenZ_add {X Y Z : Int} {k : Nat} (hX : (limbs X.natAbs).length≤k) (hY : (limbs Y.natAbs).length≤k) (hZ : X + Y = Z) : (limbs Z.natAbs).length≤k + 1 := by
  subst hZ
  exact Nat.le_trans (limbs_len_mono (Int.natAbs_add_le X Y)) (len_add hX hY)
theorem lenZ_mul {X Y Z : Int} {k l : Nat} (hX : (limbs X.natAbs).length≤k) (hY : (limbs Y.natAbs).length≤l) (hZ : X * Y = Z) : (limbs Z.natAbs).length≤k + l := by
  subst hZ;rw [Int.natAbs_mul];exact len_mul hX hY
theorem lenZ_le {Z : Int} {k l : Nat} (h : (limbs Z.natAbs).length≤k) (hk : k≤l) : (limbs Z.natAbs).length≤l := Nat.le_trans h hk
end Go.Proofs.YtkcgikoploohkaaGreatDoor
/- An integer that came in: a side and a row; the laws' few. -/
namespace Go.Proofs.YtkcgikoploohkaaGreatDoor
set_option linter.unusedVariables false
set_option linter.unusedSimpArgs false
set_option maxRecDepth 100000
open Go.ChangeShapes Go.WideShapes Go.ChangeAt Go.RowKit Nums Go.Joins
set_option linter.unusedVariables false
end Go.Proofs.YtkcgikoploohkaaGreatDoor
