import Derived.Test.YtkcgikoploohkaaGreatDoorQB
import Derived.Deep.RegionHeld3
namespace Go.Proofs.YtkcgikoploohkaaGreatDoor
set_option linter.unusedVariables false
set_option linter.unusedSimpArgs false
set_option maxRecDepth 100000
open Go.RowKit Nums
theorem raw_parts {N : Int} {D : Nat} {q : Rat} (hD : 0 < D) (h : mkRat N D = q) : ∃ g : Nat,0 < g∧N = q.num * (g : Int)∧D = q.den * g := by
  obtain ⟨f1,f2,f3,f4,f5,-,-⟩ := norm_facts hD h
  refine ⟨Nat.gcd N.natAbs D,f5, ?_, ?_⟩
  · have := Int.mul_fdiv_add_fmod N ((Nat.gcd N.natAbs D : Nat) : Int)
    rw [f1,f2,Int.add_zero,Int.mul_comm] at this
    exact this.symm
  · rw [←f3];exact (Nat.div_mul_cancel (Nat.dvd_of_mod_eq_zero f4)).symm
theorem sgn_mul_pos {Z g : Int} (hg : 0 < g) : sgn (Z * g) = sgn Z := by
  unfold sgn
  rcases Int.lt_trichotomy Z 0 with h | h | h
  · rw [if_pos h,if_pos (Int.mul_neg_of_neg_of_pos h hg)]
  · subst h;simp
  · have := Int.mul_pos h hg
    rw [if_neg (show ¬ Z * g < 0 by omega),if_pos this,if_neg (show ¬ Z < 0 by omega),if_pos h]
theorem sgn_raw {N : Int} {D : Nat} {q : Rat} (hD : 0 < D) (h : mkRat N D = q) : sgn N = sgn q.num := by
  obtain ⟨g,hg,e,-⟩ := raw_parts hD h
  rw [e];exact sgn_mul_pos (by omega)
theorem cmpZ_mul_pos {X Y g : Int} (hg : 0 < g) : cmpZ (X * g) (Y * g) = cmpZ X Y := by
  unfold cmpZ
  simp only [Int.mul_lt_mul_right hg]
def cmpR (p q : Rat) : Int := cmpZ (p.num * q.den) (q.num * p.den)
theorem cmp_raw {N1 N2 : Int} {D1 D2 : Nat} {p q : Rat} (h1 : 0 < D1) (h2 : 0 < D2) (e1 : mkRat N1 D1 = p) (e2 : mkRat N2 D2 = q) : cmpZ (N1 * (D2 : Int)) (N2 * (D1 : Int)) = cmpR p q := by
  obtain ⟨g,hg,a1,a2⟩ := raw_parts h1 e1
  obtain ⟨k,hk,b1,b2⟩ := raw_parts h2 e2
  have hgk : 0 < (g : Int) * (k : Int) := Int.mul_pos (by omega) (by omega)
  rw [a1,a2,b1,b2]
  unfold cmpR
  rw [←cmpZ_mul_pos (X := p.num * q.den) (Y := q.num * p.den) hgk]
  congr 1
  · push_cast;rw [Int.mul_assoc,Int.mul_assoc];congr 1;rw [←Int.mul_assoc,Int.mul_comm (g : Int),Int.mul_assoc]
  · push_cast;rw [Int.mul_assoc,Int.mul_assoc];congr 1;rw [←Int.mul_assoc,Int.mul_comm (k : Int),Int.mul_assoc,Int.mul_comm (k : Int)]
theorem cmpR_lt {p q : Rat} (h : p < q) : cmpR p q = -1 := cmpZ_lt ((Rat.lt_iff p q).1 h)
theorem cmpR_gt {p q : Rat} (h : q < p) : cmpR p q = 1 := cmpZ_gt ((Rat.lt_iff q p).1 h)
theorem cmpR_eq {p q : Rat} (h : p = q) : cmpR p q = 0 := by subst h;exact cmpZ_eq rfl
theorem rat_tri (p q : Rat) : p < q∨p = q∨q < p := by
  by_cases h : p < q
  · exact Or.inl h
  · rw [Rat.not_lt] at h
    by_cases e : p = q
    · exact Or.inr (Or.inl e)
    · exact Or.inr (Or.inr (Rat.lt_iff_le_and_ne.2 ⟨h,fun h' => e h'.symm⟩))
theorem make_div {X Y : Int} (hY : Y≠0) : mkRat (if Y < 0 then -X else X) Y.natAbs = (X : Rat) / (Y : Rat) := by
  rw [←Rat.divInt_eq_div]
  by_cases h : Y < 0
  · rw [if_pos h]
    obtain ⟨k,rfl⟩ : ∃ k : Nat,Y = -(k : Int) := ⟨Y.natAbs,by omega⟩
    rw [Int.natAbs_neg,Int.natAbs_natCast,Rat.divInt_neg',Rat.divInt_ofNat]
  · rw [if_neg h]
    obtain ⟨k,rfl⟩ : ∃ k : Nat,Y = (k : Int) := ⟨Y.natAbs,by omega⟩
    rw [Int.natAbs_natCast,Rat.divInt_ofNat]
end Go.Proofs.YtkcgikoploohkaaGreatDoor
/- What crossed tells. -/
namespace Go.Proofs.YtkcgikoploohkaaGreatDoor
set_option linter.unusedVariables false
set_option linter.unusedSimpArgs false
set_option maxRecDepth 100000
open Go.RowKit Nums
def TwoK (k l : Nat) (P Q : Int) (w : World) (e : Ending) (w' : World) : Prop :=
  ∃ a n c b m d,e = .returned (.tuple #[.agg #[.bool (decide (P < 0)),.slice a n c],.agg #[.bool (decide (Q < 0)),.slice b m d]])∧n≤k∧m≤l∧Row w' a n c (limbs P.natAbs)∧Row w' b m d (limbs Q.natAbs)∧Below w.heap.size w w'
set_option maxHeartbeats 4000000 in
theorem crossR (k l : Nat) (P Q : Int) {s t : Bool} {a b a' b' : Option Addr} {n c m d n' c' m' d' : Nat} {xs ys us vs : List Nat} {w : World} (h0 : Row w a n c xs) (h1 : Row w b m d ys) (h2 : Row w a' n' c' us) (h3 : Row w b' m' d' vs) (hn : n≤100) (hm : m≤100) (hn' : n'≤100) (hm' : m'≤100)
    (hP : sv s (val xs) * (val vs : Int) = P) (hQ : sv t (val us) * (val ys : Int) = Q) (hk : (limbs P.natAbs).length≤k) (hl : (limbs Q.natAbs).length≤l) :
    Calls Tryz.prog 93 #[.agg #[.bool s,.slice a n c,.slice b m d],.agg #[.bool t,.slice a' n' c',.slice b' m' d']] w (TwoK k l P Q w) := by
  have HB := Lib.hid (below_four w (.cells #[.bool s,.slice a n c,.slice b m d] 27) (.cells #[.bool t,.slice a' n' c',.slice b' m' d'] 27) (.cells #[.bool false,.slice none 0 0] 25) (.cells #[.bool false,.slice none 0 0] 25))
  have X0 : Hid (Tri ((((w.alloc (.cells #[.bool s,.slice a n c,.slice b m d] 27)).alloc (.cells #[.bool t,.slice a' n' c',.slice b' m' d'] 27)).alloc (.cells #[.bool false,.slice none 0 0] 25)).alloc (.cells #[.bool false,.slice none 0 0] 25)) (w.heap.size) (.bool s) (.slice a n c) (.slice b m d)) := ((((tri_new _ (.bool s) (.slice a n c) (.slice b m d)).alloc _).alloc _).alloc _)
  have X1 : Hid (Tri ((((w.alloc (.cells #[.bool s,.slice a n c,.slice b m d] 27)).alloc (.cells #[.bool t,.slice a' n' c',.slice b' m' d'] 27)).alloc (.cells #[.bool false,.slice none 0 0] 25)).alloc (.cells #[.bool false,.slice none 0 0] 25)) (w.heap.size + 1) (.bool t) (.slice a' n' c') (.slice b' m' d')) := (((tri_newE (by simp)).alloc _).alloc _)
  have Y0 : Hid (Box ((((w.alloc (.cells #[.bool s,.slice a n c,.slice b m d] 27)).alloc (.cells #[.bool t,.slice a' n' c',.slice b' m' d'] 27)).alloc (.cells #[.bool false,.slice none 0 0] 25)).alloc (.cells #[.bool false,.slice none 0 0] 25)) (w.heap.size + 2) (.bool false) (.slice none 0 0)) := ((box_newE (by simp;try omega)).alloc _)
  have Y1 : Hid (Box ((((w.alloc (.cells #[.bool s,.slice a n c,.slice b m d] 27)).alloc (.cells #[.bool t,.slice a' n' c',.slice b' m' d'] 27)).alloc (.cells #[.bool false,.slice none 0 0] 25)).alloc (.cells #[.bool false,.slice none 0 0] 25)) (w.heap.size + 3) (.bool false) (.slice none 0 0)) := (box_newE (by simp;try omega))
  have R0 := Lib.hid (h0.later HB.out);clear h0
  have R1 := Lib.hid (h1.later HB.out);clear h1
  have R2 := Lib.hid (h2.later HB.out);clear h2
  have R3 := Lib.hid (h3.later HB.out);clear h3
  have HP := Lib.hid hP;clear hP
  have HQ := Lib.hid hQ;clear hQ
  have HK := Lib.hid hk;clear hk
  have HL := Lib.hid hl;clear hl
  go_enter Tryz.func93,Tryz.ntmps93
  go_wp2_with fail
  replace R0 := Lib.hid R0.out.drew
  replace R1 := Lib.hid R1.out.drew
  replace R2 := Lib.hid R2.out.drew
  replace R3 := Lib.hid R3.out.drew
  replace Y0 := Lib.hid Y0.out.drew
  replace Y1 := Lib.hid Y1.out.drew
  replace X0 := Lib.hid X0.out.drew
  replace X1 := Lib.hid X1.out.drew
  replace HB := Lib.hid HB.out.drew
  obtain ⟨kY00,kY01,kY02,kY03,kY04⟩ := Y0.out
  obtain ⟨kY10,kY11,kY12,kY13,kY14⟩ := Y1.out
  obtain ⟨kX00,kX01,kX02,-,-,-,-⟩ := X0.out
  obtain ⟨kX10,kX11,kX12,-,-,-,-⟩ := X1.out
  go_region_held3 (fun w' => w'.cell? ⟨w.heap.size,0,none⟩ = some (.bool s)∧w'.cell? ⟨w.heap.size,1,none⟩ = some (.slice a n c)∧w'.cell? ⟨w.heap.size,2,none⟩ = some (.slice b m d)∧w'.cell? ⟨w.heap.size + 1,0,none⟩ = some (.bool t)∧w'.cell? ⟨w.heap.size + 1,1,none⟩ = some (.slice a' n' c')∧w'.cell? ⟨w.heap.size + 1,2,none⟩ = some (.slice b' m' d'))
    (first | (refine ⟨?_, ?_, ?_, ?_, ?_, ?_⟩ <;> with_reducible assumption) | (go_keep;done) | (refine ⟨?_, ?_, ?_, ?_, ?_, ?_⟩ <;> (repeat rw [cell_other (by first | (simp;done) | (simp;omega))]) <;> with_reducible assumption))
    (first
      | (have mk := G3;clear mk
         go_at_call 136
         refine (mulI l Q R2.out R1.out rfl (show sv false _ = _ from rfl) hn' hm HQ.out HL.out).mono ?_
         rintro e v4 ⟨aq,nq,cq,rfl,bq,hr,hb⟩
         replace R0 := Lib.hid (R0.out.later hb)
         replace R1 := Lib.hid (R1.out.later hb)
         replace R2 := Lib.hid (R2.out.later hb)
         replace R3 := Lib.hid (R3.out.later hb)
         replace RP := Lib.hid (RP.out.later hb)
         replace Y0 := Lib.hid (Y0.out.later hb)
         replace Y1 := Lib.hid (Y1.out.later hb)
         replace X0 := Lib.hid (X0.out.later hb)
         replace X1 := Lib.hid (X1.out.later hb)
         replace HB := Lib.hid (bthen HB.out hb);clear hb
         clear kY00 kY01 kY02 kY03 kY04 kY10 kY11 kY12 kY13 kY14 kX00 kX01 kX02 kX10 kX11 kX12
         obtain ⟨kY00,kY01,kY02,kY03,kY04⟩ := Y0.out
         obtain ⟨kY10,kY11,kY12,kY13,kY14⟩ := Y1.out
         obtain ⟨kX00,kX01,kX02,-,-,-,-⟩ := X0.out
         obtain ⟨kX10,kX11,kX12,-,-,-,-⟩ := X1.out
         have RQ := Lib.hid hr;clear hr
         have G4 : Hid True := trivial)
      | (have mk := G2;clear mk
         go_at_call 137
         refine (asInt_any _ _ _ _).mono ?_
         rintro e v3 ⟨rfl,hb⟩
         replace R0 := Lib.hid (R0.out.later hb)
         replace R1 := Lib.hid (R1.out.later hb)
         replace R2 := Lib.hid (R2.out.later hb)
         replace R3 := Lib.hid (R3.out.later hb)
         replace RP := Lib.hid (RP.out.later hb)
         replace Y0 := Lib.hid (Y0.out.later hb)
         replace Y1 := Lib.hid (Y1.out.later hb)
         replace X0 := Lib.hid (X0.out.later hb)
         replace X1 := Lib.hid (X1.out.later hb)
         replace HB := Lib.hid (bthen HB.out hb);clear hb
         clear kY00 kY01 kY02 kY03 kY04 kY10 kY11 kY12 kY13 kY14 kX00 kX01 kX02 kX10 kX11 kX12
         obtain ⟨kY00,kY01,kY02,kY03,kY04⟩ := Y0.out
         obtain ⟨kY10,kY11,kY12,kY13,kY14⟩ := Y1.out
         obtain ⟨kX00,kX01,kX02,-,-,-,-⟩ := X0.out
         obtain ⟨kX10,kX11,kX12,-,-,-,-⟩ := X1.out
         have G3 : Hid True := trivial)
      | (have mk := G1;clear mk
         go_at_call 136
         refine (mulI k P R0.out R3.out rfl (show sv false _ = _ from rfl) hn hm' HP.out HK.out).mono ?_
         rintro e v2 ⟨ap,np,cp,rfl,bp,hr,hb⟩
         replace R0 := Lib.hid (R0.out.later hb)
         replace R1 := Lib.hid (R1.out.later hb)
         replace R2 := Lib.hid (R2.out.later hb)
         replace R3 := Lib.hid (R3.out.later hb)
         replace Y0 := Lib.hid (Y0.out.later hb)
         replace Y1 := Lib.hid (Y1.out.later hb)
         replace X0 := Lib.hid (X0.out.later hb)
         replace X1 := Lib.hid (X1.out.later hb)
         replace HB := Lib.hid (bthen HB.out hb);clear hb
         clear kY00 kY01 kY02 kY03 kY04 kY10 kY11 kY12 kY13 kY14 kX00 kX01 kX02 kX10 kX11 kX12
         obtain ⟨kY00,kY01,kY02,kY03,kY04⟩ := Y0.out
         obtain ⟨kY10,kY11,kY12,kY13,kY14⟩ := Y1.out
         obtain ⟨kX00,kX01,kX02,-,-,-,-⟩ := X0.out
         obtain ⟨kX10,kX11,kX12,-,-,-,-⟩ := X1.out
         have RP := Lib.hid hr;clear hr
         have G2 : Hid True := trivial)
      | (skip
         go_at_call 137
         refine (asInt_any _ _ _ _).mono ?_
         rintro e v1 ⟨rfl,hb⟩
         replace R0 := Lib.hid (R0.out.later hb)
         replace R1 := Lib.hid (R1.out.later hb)
         replace R2 := Lib.hid (R2.out.later hb)
         replace R3 := Lib.hid (R3.out.later hb)
         replace Y0 := Lib.hid (Y0.out.later hb)
         replace Y1 := Lib.hid (Y1.out.later hb)
         replace X0 := Lib.hid (X0.out.later hb)
         replace X1 := Lib.hid (X1.out.later hb)
         replace HB := Lib.hid (bthen HB.out hb);clear hb
         clear kY00 kY01 kY02 kY03 kY04 kY10 kY11 kY12 kY13 kY14 kX00 kX01 kX02 kX10 kX11 kX12
         obtain ⟨kY00,kY01,kY02,kY03,kY04⟩ := Y0.out
         obtain ⟨kY10,kY11,kY12,kY13,kY14⟩ := Y1.out
         obtain ⟨kX00,kX01,kX02,-,-,-,-⟩ := X0.out
         obtain ⟨kX10,kX11,kX12,-,-,-,-⟩ := X1.out
         have G1 : Hid True := trivial))
  all_goals
    go_wp2
    refine bodyPost_ret (v := .tuple #[.agg #[.bool (decide (P < 0)),.slice ap np cp],.agg #[.bool (decide (Q < 0)),.slice aq nq cq]]) (by simp [results,Tryz.results93,go_sem, *]) rfl ⟨ap,np,cp,aq,nq,cq,rfl,bp,bq, ?_, ?_, ?_⟩
    · repeat' (first | with_reducible exact RP.out | with_reducible refine Row.later ?_ (below_one _ _) | with_reducible refine Row.putB (s := false) (b := none) (m := 0) (d := 0) ?_ ?_ _ _ | with_reducible exact Y0.out | with_reducible exact Y1.out | with_reducible refine box_newE ?_ | with_reducible refine Box.put (u := .bool false) (v := .slice none 0 0) ?_ _ _ | with_reducible refine Box.far ?_ ?_ _ _ | with_reducible refine Box.alloc ?_ _ | omega | (simp;done))
    · repeat' (first | with_reducible exact RQ.out | with_reducible refine Row.later ?_ (below_one _ _) | with_reducible refine Row.putB (s := false) (b := none) (m := 0) (d := 0) ?_ ?_ _ _ | with_reducible exact Y0.out | with_reducible exact Y1.out | with_reducible refine box_newE ?_ | with_reducible refine Box.put (u := .bool false) (v := .slice none 0 0) ?_ _ _ | with_reducible refine Box.far ?_ ?_ _ _ | with_reducible refine Box.alloc ?_ _ | omega | (simp;done))
    · repeat' (first | with_reducible exact HB.out | with_reducible refine Below.alloc ?_ ?_ _ | with_reducible refine below_put ?_ ?_ _ _ | omega | (simp;omega))
end Go.Proofs.YtkcgikoploohkaaGreatDoor
/- What Make and Sign tell. -/
namespace Go.Proofs.YtkcgikoploohkaaGreatDoor
set_option linter.unusedVariables false
set_option linter.unusedSimpArgs false
set_option maxRecDepth 100000
open Go.RowKit Nums
def RatOk (K J : Nat) (q : Rat) (w : World) (e : Ending) (w' : World) : Prop :=
  ∃ a n c b m d,e = .returned (.tuple #[.agg #[.bool (decide (q.num < 0)),.slice a n c,.slice b m d],.int .i64 0])∧n≤K∧m≤J∧Row w' a n c (limbs q.num.natAbs)∧Row w' b m d (limbs q.den)∧Below w.heap.size w w'
def RatErr (E : Int) (w : World) (e : Ending) (w' : World) : Prop :=
  e = .returned (.tuple #[.agg #[.bool false,.slice none 0 0,.slice none 0 0],.int .i64 E])∧Below w.heap.size w w'
theorem field_run (s : Bool) (a b : Option Addr) (n c m d : Nat) (w : World) : Sem.run Tryz.prog (Instr.field 27 (Value.agg #[.bool s,.slice a n c,.slice b m d]) 0) w = Result.ok (Value.agg #[.bool s,.slice a n c]) w := rfl
theorem sv_nat (Y : Int) (t : Bool) (N : Nat) (h : sv t N = Y) : N = Y.natAbs := by rw [←h,natAbs_sv]
set_option maxHeartbeats 4000000 in
theorem makeR_zero (Y : Int) {s t : Bool} {a b : Option Addr} {n c m d : Nat} {xs ys : List Nat} {w : World} (_h0 : Row w a n c xs) (h1 : Row w b m d ys) (hY : sv t (val ys) = Y) (hm : m≤95) (hS : sgn Y = 0) :
    Calls Tryz.prog 149 #[.agg #[.bool s,.slice a n c],.agg #[.bool t,.slice b m d]] w (RatErr 3 w) := by
  have HB := Lib.hid (below_three w (.cells #[.bool s,.slice a n c] 25) (.cells #[.bool t,.slice b m d] 25) (.cells #[.bool false,.slice none 0 0,.slice none 0 0] 27))
  have X0 : Hid (Box (((w.alloc (.cells #[.bool s,.slice a n c] 25)).alloc (.cells #[.bool t,.slice b m d] 25)).alloc (.cells #[.bool false,.slice none 0 0,.slice none 0 0] 27)) (w.heap.size) (.bool s) (.slice a n c)) := (((box_new _ (.bool s) (.slice a n c)).alloc _).alloc _)
  have X1 : Hid (Box (((w.alloc (.cells #[.bool s,.slice a n c] 25)).alloc (.cells #[.bool t,.slice b m d] 25)).alloc (.cells #[.bool false,.slice none 0 0,.slice none 0 0] 27)) (w.heap.size + 1) (.bool t) (.slice b m d)) := ((box_newE (by simp)).alloc _)
  have Z : Hid (Tri (((w.alloc (.cells #[.bool s,.slice a n c] 25)).alloc (.cells #[.bool t,.slice b m d] 25)).alloc (.cells #[.bool false,.slice none 0 0,.slice none 0 0] 27)) (w.heap.size + 2) (.bool false) (.slice none 0 0) (.slice none 0 0)) := (tri_newE (by simp;try omega))
  have R1 := Lib.hid (h1.later HB.out);clear h1
  have HS := Lib.hid hS;clear hS
  have HY := Lib.hid hY;clear hY
  go_enter Tryz.func149,Tryz.ntmps149
  go_wp2_with fail
  refine (signI 0 R1.out HY.out (by omega) HS.out).mono ?_
  rintro e w1 ⟨rfl,hb⟩
  replace R1 := Lib.hid (R1.out.later hb)
  replace X0 := Lib.hid (X0.out.later hb)
  replace X1 := Lib.hid (X1.out.later hb)
  replace Z := Lib.hid (Z.out.later hb)
  replace HB := Lib.hid (bthen HB.out hb)
  clear hb
  obtain ⟨kX00,kX01,kX02,kX03,kX04⟩ := X0.out
  obtain ⟨kX10,kX11,-,-,-⟩ := X1.out
  obtain ⟨kZ0,kZ1,kZ2,kZ3,kZ4,kZ5,kZ6⟩ := Z.out
  go_wp2
  exact bodyPost_ret (v := .tuple #[.agg #[.bool false,.slice none 0 0,.slice none 0 0],.int .i64 3]) (by simp [results,Tryz.results149,go_sem, *]) rfl ⟨rfl,below_put3 HB.out (by omega) _ _ _⟩
set_option maxHeartbeats 4000000 in
theorem makeR_pos (K J : Nat) (q : Rat) (X Y : Int) {s t : Bool} {a b : Option Addr} {n c m d : Nat} {xs ys : List Nat} {w : World} (h0 : Row w a n c xs) (h1 : Row w b m d ys) (hX : sv s (val xs) = X) (hY : sv t (val ys) = Y) (hn : n≤K) (hm : m≤J) (hK : K≤95) (hJ1 : 1≤J) (hJ : J≤95) (hS : sgn Y = 1) (hq : mkRat X Y.natAbs = q) :
    Calls Tryz.prog 149 #[.agg #[.bool s,.slice a n c],.agg #[.bool t,.slice b m d]] w (RatOk K J q w) := by
  have HB := Lib.hid (below_three w (.cells #[.bool s,.slice a n c] 25) (.cells #[.bool t,.slice b m d] 25) (.cells #[.bool false,.slice none 0 0,.slice none 0 0] 27))
  have X0 : Hid (Box (((w.alloc (.cells #[.bool s,.slice a n c] 25)).alloc (.cells #[.bool t,.slice b m d] 25)).alloc (.cells #[.bool false,.slice none 0 0,.slice none 0 0] 27)) (w.heap.size) (.bool s) (.slice a n c)) := (((box_new _ (.bool s) (.slice a n c)).alloc _).alloc _)
  have X1 : Hid (Box (((w.alloc (.cells #[.bool s,.slice a n c] 25)).alloc (.cells #[.bool t,.slice b m d] 25)).alloc (.cells #[.bool false,.slice none 0 0,.slice none 0 0] 27)) (w.heap.size + 1) (.bool t) (.slice b m d)) := ((box_newE (by simp)).alloc _)
  have Z : Hid (Tri (((w.alloc (.cells #[.bool s,.slice a n c] 25)).alloc (.cells #[.bool t,.slice b m d] 25)).alloc (.cells #[.bool false,.slice none 0 0,.slice none 0 0] 27)) (w.heap.size + 2) (.bool false) (.slice none 0 0) (.slice none 0 0)) := (tri_newE (by simp;try omega))
  have R0 := Lib.hid (h0.later HB.out);clear h0
  have R1 := Lib.hid (h1.later HB.out);clear h1
  have HS := Lib.hid hS;clear hS
  have HY := Lib.hid hY;clear hY
  have HX := Lib.hid hX;clear hX
  have HQ := Lib.hid hq;clear hq
  go_enter Tryz.func149,Tryz.ntmps149
  go_wp2_with fail
  refine (signI 1 R1.out HY.out (by omega) HS.out).mono ?_
  rintro e w1 ⟨rfl,hb⟩
  replace R0 := Lib.hid (R0.out.later hb)
  replace R1 := Lib.hid (R1.out.later hb)
  replace X0 := Lib.hid (X0.out.later hb)
  replace X1 := Lib.hid (X1.out.later hb)
  replace Z := Lib.hid (Z.out.later hb)
  replace HB := Lib.hid (bthen HB.out hb)
  clear hb
  obtain ⟨kX00,kX01,kX02,kX03,kX04⟩ := X0.out
  obtain ⟨kX10,kX11,-,-,-⟩ := X1.out
  obtain ⟨kZ0,kZ1,kZ2,kZ3,kZ4,kZ5,kZ6⟩ := Z.out
  go_wp2_with fail
  refine (over_any _ _ _ _ _ _ _ _).mono ?_
  rintro e w2 ⟨rfl,hb⟩
  replace R0 := Lib.hid (R0.out.later hb)
  replace R1 := Lib.hid (R1.out.later hb)
  replace X0 := Lib.hid (X0.out.later hb)
  replace X1 := Lib.hid (X1.out.later hb)
  replace Z := Lib.hid (Z.out.later hb)
  replace HB := Lib.hid (bthen HB.out hb)
  clear hb
  clear kX00 kX01 kX02 kX03 kX04 kX10 kX11 kZ0 kZ1 kZ2 kZ3 kZ4 kZ5 kZ6
  obtain ⟨kX00,kX01,-,-,-⟩ := X0.out
  obtain ⟨kX10,kX11,-,-,-⟩ := X1.out
  obtain ⟨kZ0,kZ1,kZ2,kZ3,kZ4,kZ5,kZ6⟩ := Z.out
  go_wp2_with fail
  refine (normR K J q R0.out R1.out (show mkRat (sv s (val xs)) (val ys) = q by rw [HX.out,sv_nat Y t _ HY.out];exact HQ.out) hn hm hK hJ1 hJ).mono ?_
  rintro e w3 ⟨ar,nr,cr,br,mr,dr,rfl,h2,h3,hr,hr2,hb⟩
  replace R0 := Lib.hid (R0.out.later hb)
  replace R1 := Lib.hid (R1.out.later hb)
  replace X0 := Lib.hid (X0.out.later hb)
  replace X1 := Lib.hid (X1.out.later hb)
  replace Z := Lib.hid (Z.out.later hb)
  replace HB := Lib.hid (bthen HB.out hb)
  clear hb
  clear kX00 kX01 kX10 kX11 kZ0 kZ1 kZ2 kZ3 kZ4 kZ5 kZ6
  have RA := Lib.hid hr;clear hr
  have RB := Lib.hid hr2;clear hr2
  obtain ⟨kX00,kX01,-,-,-⟩ := X0.out
  obtain ⟨kX10,kX11,-,-,-⟩ := X1.out
  obtain ⟨kZ0,kZ1,kZ2,kZ3,kZ4,kZ5,kZ6⟩ := Z.out
  go_wp2
  exact bodyPost_ret (v := .tuple #[.agg #[.bool (decide (q.num < 0)),.slice ar nr cr,.slice br mr dr],.int .i64 0]) (by simp [results,Tryz.results149,go_sem, *]) rfl
    ⟨ar,nr,cr,br,mr,dr,rfl,h2,h3,RA.out.put3 Z.out _ _ _,RB.out.put3 Z.out _ _ _,below_put3 HB.out (by omega) _ _ _⟩
set_option maxHeartbeats 4000000 in
theorem makeR_neg (K J : Nat) (q : Rat) (X Y : Int) {s t : Bool} {a b : Option Addr} {n c m d : Nat} {xs ys : List Nat} {w : World} (h0 : Row w a n c xs) (h1 : Row w b m d ys) (hX : sv s (val xs) = X) (hY : sv t (val ys) = Y) (hn : n≤K) (hm : m≤J) (hK : K≤95) (hJ1 : 1≤J) (hJ : J≤95) (hS : sgn Y = (-1)) (hq : mkRat (-X) Y.natAbs = q) :
    Calls Tryz.prog 149 #[.agg #[.bool s,.slice a n c],.agg #[.bool t,.slice b m d]] w (RatOk K J q w) := by
  have HB := Lib.hid (below_three w (.cells #[.bool s,.slice a n c] 25) (.cells #[.bool t,.slice b m d] 25) (.cells #[.bool false,.slice none 0 0,.slice none 0 0] 27))
  have X0 : Hid (Box (((w.alloc (.cells #[.bool s,.slice a n c] 25)).alloc (.cells #[.bool t,.slice b m d] 25)).alloc (.cells #[.bool false,.slice none 0 0,.slice none 0 0] 27)) (w.heap.size) (.bool s) (.slice a n c)) := (((box_new _ (.bool s) (.slice a n c)).alloc _).alloc _)
  have X1 : Hid (Box (((w.alloc (.cells #[.bool s,.slice a n c] 25)).alloc (.cells #[.bool t,.slice b m d] 25)).alloc (.cells #[.bool false,.slice none 0 0,.slice none 0 0] 27)) (w.heap.size + 1) (.bool t) (.slice b m d)) := ((box_newE (by simp)).alloc _)
  have Z : Hid (Tri (((w.alloc (.cells #[.bool s,.slice a n c] 25)).alloc (.cells #[.bool t,.slice b m d] 25)).alloc (.cells #[.bool false,.slice none 0 0,.slice none 0 0] 27)) (w.heap.size + 2) (.bool false) (.slice none 0 0) (.slice none 0 0)) := (tri_newE (by simp;try omega))
  have R0 := Lib.hid (h0.later HB.out);clear h0
  have R1 := Lib.hid (h1.later HB.out);clear h1
  have HS := Lib.hid hS;clear hS
  have HY := Lib.hid hY;clear hY
  have HX := Lib.hid hX;clear hX
  have HQ := Lib.hid hq;clear hq
  go_enter Tryz.func149,Tryz.ntmps149
  go_wp2_with fail
  refine (signI (-1) R1.out HY.out (by omega) HS.out).mono ?_
  rintro e w1 ⟨rfl,hb⟩
  replace R0 := Lib.hid (R0.out.later hb)
  replace R1 := Lib.hid (R1.out.later hb)
  replace X0 := Lib.hid (X0.out.later hb)
  replace X1 := Lib.hid (X1.out.later hb)
  replace Z := Lib.hid (Z.out.later hb)
  replace HB := Lib.hid (bthen HB.out hb)
  clear hb
  obtain ⟨kX00,kX01,kX02,kX03,kX04⟩ := X0.out
  obtain ⟨kX10,kX11,-,-,-⟩ := X1.out
  obtain ⟨kZ0,kZ1,kZ2,kZ3,kZ4,kZ5,kZ6⟩ := Z.out
  obtain ⟨M,hM⟩ : ∃ M,-X = M := ⟨_,rfl⟩
  have L0 := Lib.hid (show (limbs M.natAbs).length≤K by have := lenZ_raw R0.out hn HX.out;rw [←hM];rwa [Int.natAbs_neg])
  have HM := Lib.hid hM;clear hM
  go_wp2_with fail
  refine (negI K M R0.out HX.out (by omega) HM.out L0.out).mono ?_
  rintro e w2 ⟨an,nn,cn,rfl,bn,hr,hb⟩
  replace R0 := Lib.hid (R0.out.later hb)
  replace R1 := Lib.hid (R1.out.later hb)
  replace X0 := Lib.hid (X0.out.later hb)
  replace X1 := Lib.hid (X1.out.later hb)
  replace Z := Lib.hid (Z.out.later hb)
  replace HB := Lib.hid (bthen HB.out hb)
  clear hb
  clear kX00 kX01 kX02 kX03 kX04 kX10 kX11 kZ0 kZ1 kZ2 kZ3 kZ4 kZ5 kZ6
  have RN := Lib.hid hr;clear hr
  obtain ⟨kX00,kX01,kX02,kX03,kX04⟩ := X0.out
  obtain ⟨kX10,kX11,-,-,-⟩ := X1.out
  obtain ⟨kZ0,kZ1,kZ2,kZ3,kZ4,kZ5,kZ6⟩ := Z.out
  clear R0
  have X0' := Lib.hid X0.out
  replace RN := Lib.hid (RN.out.put X0'.out.1 X0'.out.2.1 (.bool (decide (M < 0))) (.slice an nn cn))
  replace R1 := Lib.hid (R1.out.put X0'.out.1 X0'.out.2.1 (.bool (decide (M < 0))) (.slice an nn cn))
  replace X0 := Lib.hid (X0.out.put (.bool (decide (M < 0))) (.slice an nn cn))
  replace X1 := Lib.hid (X1.out.far (g' := w.heap.size) (by omega) (.bool (decide (M < 0))) (.slice an nn cn))
  replace Z := Lib.hid (Z.out.far2 (g' := w.heap.size) (by omega) (.bool (decide (M < 0))) (.slice an nn cn))
  replace HB := Lib.hid (below_put (g := w.heap.size) HB.out (by omega) (.bool (decide (M < 0))) (.slice an nn cn))
  clear X0'
  go_wp2_with fail
  refine (over_any _ _ _ _ _ _ _ _).mono ?_
  rintro e w3 ⟨rfl,hb⟩
  replace RN := Lib.hid (RN.out.later hb)
  replace R1 := Lib.hid (R1.out.later hb)
  replace X0 := Lib.hid (X0.out.later hb)
  replace X1 := Lib.hid (X1.out.later hb)
  replace Z := Lib.hid (Z.out.later hb)
  replace HB := Lib.hid (bthen HB.out hb)
  clear hb
  clear kX00 kX01 kX02 kX03 kX04 kX10 kX11 kZ0 kZ1 kZ2 kZ3 kZ4 kZ5 kZ6
  obtain ⟨kX00,kX01,-,-,-⟩ := X0.out
  obtain ⟨kX10,kX11,-,-,-⟩ := X1.out
  obtain ⟨kZ0,kZ1,kZ2,kZ3,kZ4,kZ5,kZ6⟩ := Z.out
  go_wp2_with fail
  refine (normR K J q RN.out R1.out (show mkRat (sv (decide (M < 0)) (val (limbs M.natAbs))) (val ys) = q by rw [sv_limbs,sv_nat Y t _ HY.out,←HM.out];exact HQ.out) bn hm hK hJ1 hJ).mono ?_
  rintro e w4 ⟨ar,nr,cr,br,mr,dr,rfl,h2,h3,hr,hr2,hb⟩
  replace RN := Lib.hid (RN.out.later hb)
  replace R1 := Lib.hid (R1.out.later hb)
  replace X0 := Lib.hid (X0.out.later hb)
  replace X1 := Lib.hid (X1.out.later hb)
  replace Z := Lib.hid (Z.out.later hb)
  replace HB := Lib.hid (bthen HB.out hb)
  clear hb
  clear kX00 kX01 kX10 kX11 kZ0 kZ1 kZ2 kZ3 kZ4 kZ5 kZ6
  have RA := Lib.hid hr;clear hr
  have RB := Lib.hid hr2;clear hr2
  obtain ⟨kX00,kX01,-,-,-⟩ := X0.out
  obtain ⟨kX10,kX11,-,-,-⟩ := X1.out
  obtain ⟨kZ0,kZ1,kZ2,kZ3,kZ4,kZ5,kZ6⟩ := Z.out
  go_wp2
  exact bodyPost_ret (v := .tuple #[.agg #[.bool (decide (q.num < 0)),.slice ar nr cr,.slice br mr dr],.int .i64 0]) (by simp [results,Tryz.results149,go_sem, *]) rfl
    ⟨ar,nr,cr,br,mr,dr,rfl,h2,h3,RA.out.put3 Z.out _ _ _,RB.out.put3 Z.out _ _ _,below_put3 HB.out (by omega) _ _ _⟩
theorem makeR (K J : Nat) (q : Rat) (X Y : Int) {s t : Bool} {a b : Option Addr} {n c m d : Nat} {xs ys : List Nat} {w : World} (h0 : Row w a n c xs) (h1 : Row w b m d ys) (hX : sv s (val xs) = X) (hY : sv t (val ys) = Y) (hn : n≤K) (hm : m≤J) (hK : K≤95) (hJ1 : 1≤J) (hJ : J≤95) (hY0 : Y≠0) (hq : (X : Rat) / (Y : Rat) = q) :
    Calls Tryz.prog 149 #[.agg #[.bool s,.slice a n c],.agg #[.bool t,.slice b m d]] w (RatOk K J q w) := by
  have h := make_div (X := X) hY0
  rw [hq] at h
  by_cases hc : Y < 0
  · rw [if_pos hc] at h
    exact makeR_neg K J q X Y h0 h1 hX hY hn hm hK hJ1 hJ (by rw [sgn,if_pos hc]) h
  · rw [if_neg hc] at h
    exact makeR_pos K J q X Y h0 h1 hX hY hn hm hK hJ1 hJ (by rw [sgn,if_neg hc,if_pos (by omega)]) h
set_option maxHeartbeats 4000000 in
theorem signR (T : Int) (q : Rat) {s : Bool} {a b : Option Addr} {n c m d : Nat} {xs ys : List Nat} {w : World} (h0 : Row w a n c xs) (h1 : Row w b m d ys) (hq : mkRat (sv s (val xs)) (val ys) = q) (hn : n≤95) (hm : m≤95) (hT : sgn q.num = T) :
    Calls Tryz.prog 52 #[.agg #[.bool s,.slice a n c,.slice b m d]] w fun e w' => e = .returned (.int .i64 T)∧Below w.heap.size w w' := by
  have HB := Lib.hid (below_one w (.cells #[.bool s,.slice a n c,.slice b m d] 27))
  have X0 : Hid (Tri (w.alloc (.cells #[.bool s,.slice a n c,.slice b m d] 27)) (w.heap.size) (.bool s) (.slice a n c) (.slice b m d)) := (tri_new _ (.bool s) (.slice a n c) (.slice b m d))
  have R0 := Lib.hid (h0.later HB.out);clear h0
  have R1 := Lib.hid (h1.later HB.out);clear h1
  have HQ := Lib.hid hq;clear hq
  have HT := Lib.hid hT;clear hT
  go_enter Tryz.func52,Tryz.ntmps52
  go_wp2_with fail
  refine (saidR 95 95 q R0.out R1.out HQ.out hn hm (by omega) (by omega)).mono ?_
  rintro e w1 ⟨s1,a1,n1,c1,b1,m1,d1,us,vs,rfl,hn1,hm1,hr0,hr1,hq1,hv,hb⟩
  replace X0 := Lib.hid (X0.out.later hb)
  replace HB := Lib.hid (bthen HB.out hb)
  clear hb
  clear R0 R1 HQ
  obtain ⟨kX00,kX01,kX02,-,-,-,-⟩ := X0.out
  have R0 := Lib.hid hr0;clear hr0
  clear hr1
  have HS := Lib.hid (show sgn (sv s1 (val us)) = T by rw [sgn_raw hv hq1];exact HT.out)
  clear hq1 hv
  go_wp2_with fail
  rw [field_run]
  go_wp2_with fail
  refine (signI T R0.out rfl (by omega) HS.out).mono ?_
  rintro e w2 ⟨rfl,hb⟩
  replace R0 := Lib.hid (R0.out.later hb)
  replace X0 := Lib.hid (X0.out.later hb)
  replace HB := Lib.hid (bthen HB.out hb)
  clear hb
  clear kX00 kX01 kX02
  obtain ⟨kX00,kX01,kX02,-,-,-,-⟩ := X0.out
  go_wp2
  go_ret
  exact ⟨rfl,HB.out⟩
end Go.Proofs.YtkcgikoploohkaaGreatDoor
/- What Cmp, flip, Neg and Mul tell. -/
namespace Go.Proofs.YtkcgikoploohkaaGreatDoor
set_option linter.unusedVariables false
set_option linter.unusedSimpArgs false
set_option maxRecDepth 100000
open Go.RowKit Nums
theorem lenN_raw {w : World} {a : Option Addr} {n c k : Nat} {xs : List Nat} (h : Row w a n c xs) (hn : n≤k) : (limbs ((val xs : Nat) : Int).natAbs).length≤k := by
  rw [Int.natAbs_natCast];exact row_len' h hn
set_option maxHeartbeats 4000000 in
theorem cmpRat (T : Int) (p q : Rat) {s t : Bool} {a b a' b' : Option Addr} {n c m d n' c' m' d' : Nat} {xs ys us vs : List Nat} {w : World} (h0 : Row w a n c xs) (h1 : Row w b m d ys) (h2 : Row w a' n' c' us) (h3 : Row w b' m' d' vs) (hp : mkRat (sv s (val xs)) (val ys) = p) (hq : mkRat (sv t (val us)) (val vs) = q) (hn : n≤45) (hm : m≤45) (hn' : n'≤45) (hm' : m'≤45) (hT : cmpR p q = T) :
    Calls Tryz.prog 54 #[.agg #[.bool s,.slice a n c,.slice b m d],.agg #[.bool t,.slice a' n' c',.slice b' m' d']] w fun e w' => e = .returned (.int .i64 T)∧Below w.heap.size w w' := by
  have HB := Lib.hid (below_two w (.cells #[.bool s,.slice a n c,.slice b m d] 27) (.cells #[.bool t,.slice a' n' c',.slice b' m' d'] 27))
  have X0 : Hid (Tri ((w.alloc (.cells #[.bool s,.slice a n c,.slice b m d] 27)).alloc (.cells #[.bool t,.slice a' n' c',.slice b' m' d'] 27)) (w.heap.size) (.bool s) (.slice a n c) (.slice b m d)) := ((tri_new _ (.bool s) (.slice a n c) (.slice b m d)).alloc _)
  have X1 : Hid (Tri ((w.alloc (.cells #[.bool s,.slice a n c,.slice b m d] 27)).alloc (.cells #[.bool t,.slice a' n' c',.slice b' m' d'] 27)) (w.heap.size + 1) (.bool t) (.slice a' n' c') (.slice b' m' d')) := (tri_newE (by simp))
  have R0 := Lib.hid (h0.later HB.out);clear h0
  have R1 := Lib.hid (h1.later HB.out);clear h1
  have R2 := Lib.hid (h2.later HB.out);clear h2
  have R3 := Lib.hid (h3.later HB.out);clear h3
  have Hp := Lib.hid hp;clear hp
  have Hq := Lib.hid hq;clear hq
  have HT := Lib.hid hT;clear hT
  go_enter Tryz.func54,Tryz.ntmps54
  go_wp2_with fail
  replace R0 := Lib.hid R0.out.drew
  replace R1 := Lib.hid R1.out.drew
  replace R2 := Lib.hid R2.out.drew
  replace R3 := Lib.hid R3.out.drew
  replace X0 := Lib.hid X0.out.drew
  replace X1 := Lib.hid X1.out.drew
  replace HB := Lib.hid HB.out.drew
  obtain ⟨kX00,kX01,kX02,-,-,-,-⟩ := X0.out
  obtain ⟨kX10,kX11,kX12,-,-,-,-⟩ := X1.out
  go_region_held3 (fun w' => w'.cell? ⟨w.heap.size,0,none⟩ = some (.bool s)∧w'.cell? ⟨w.heap.size,1,none⟩ = some (.slice a n c)∧w'.cell? ⟨w.heap.size,2,none⟩ = some (.slice b m d)∧w'.cell? ⟨w.heap.size + 1,0,none⟩ = some (.bool t)∧w'.cell? ⟨w.heap.size + 1,1,none⟩ = some (.slice a' n' c')∧w'.cell? ⟨w.heap.size + 1,2,none⟩ = some (.slice b' m' d'))
    (first | (refine ⟨?_, ?_, ?_, ?_, ?_, ?_⟩ <;> with_reducible assumption) | (go_keep;done) | (refine ⟨?_, ?_, ?_, ?_, ?_, ?_⟩ <;> (repeat rw [cell_other (by first | (simp;done) | (simp;omega))]) <;> with_reducible assumption))
    (first
      | (have mk := G3;clear mk
         go_at_call 92
         refine (cmpI T RP.out RQ.out (sv_limbs _) (sv_limbs _) (by omega) (by omega) HT2.out).mono ?_
         rintro e v4 ⟨rfl,hb⟩
         replace RN1 := Lib.hid (RN1.out.later hb)
         replace RD1 := Lib.hid (RD1.out.later hb)
         replace RN2 := Lib.hid (RN2.out.later hb)
         replace RD2 := Lib.hid (RD2.out.later hb)
         replace RP := Lib.hid (RP.out.later hb)
         replace RQ := Lib.hid (RQ.out.later hb)
         replace X0 := Lib.hid (X0.out.later hb)
         replace X1 := Lib.hid (X1.out.later hb)
         replace HB := Lib.hid (bthen HB.out hb);clear hb
         clear kX00 kX01 kX02 kX10 kX11 kX12
         obtain ⟨kX00,kX01,kX02,-,-,-,-⟩ := X0.out
         obtain ⟨kX10,kX11,kX12,-,-,-,-⟩ := X1.out
         have G4 : Hid True := trivial)
      | (have mk := G2;clear mk
         go_at_call 93
         obtain ⟨P,hP⟩ : ∃ P,sv s1 (val us1) * (val vs2 : Int) = P := ⟨_,rfl⟩
         obtain ⟨Q,hQ⟩ : ∃ Q,sv s2 (val us2) * (val vs1 : Int) = Q := ⟨_,rfl⟩
         have LP := Lib.hid (lenZ_mul (lenZ_raw RN1.out hn1 rfl) (lenN_raw RD2.out hm2) hP)
         have LQ := Lib.hid (lenZ_mul (lenZ_raw RN2.out hn2 rfl) (lenN_raw RD1.out hm1) hQ)
         have HP := Lib.hid hP;clear hP
         have HQ := Lib.hid hQ;clear hQ
         have HT2 := Lib.hid (show cmpZ P Q = T by rw [←HP.out,←HQ.out,cmp_raw HV1.out HV2.out HQ1.out HQ2.out];exact HT.out)
         refine (crossR (45 + 45) (45 + 45) P Q RN1.out RD1.out RN2.out RD2.out (by omega) (by omega) (by omega) (by omega) HP.out HQ.out LP.out LQ.out).mono ?_
         rintro e v3 ⟨ap,np,cp,aq,nq,cq,rfl,hnp,hnq,hr,hr2,hb⟩
         replace RN1 := Lib.hid (RN1.out.later hb)
         replace RD1 := Lib.hid (RD1.out.later hb)
         replace RN2 := Lib.hid (RN2.out.later hb)
         replace RD2 := Lib.hid (RD2.out.later hb)
         replace X0 := Lib.hid (X0.out.later hb)
         replace X1 := Lib.hid (X1.out.later hb)
         replace HB := Lib.hid (bthen HB.out hb);clear hb
         clear kX00 kX01 kX02 kX10 kX11 kX12
         obtain ⟨kX00,kX01,kX02,-,-,-,-⟩ := X0.out
         obtain ⟨kX10,kX11,kX12,-,-,-,-⟩ := X1.out
         have RP := Lib.hid hr;clear hr
         have RQ := Lib.hid hr2;clear hr2
         have G3 : Hid True := trivial)
      | (have mk := G1;clear mk
         go_at_call 89
         refine (saidR 45 45 q R2.out R3.out Hq.out hn' hm' (by omega) (by omega)).mono ?_
         rintro e v2 ⟨s2,a2,n2,c2,b2,m2,d2,us2,vs2,rfl,hn2,hm2,hr0,hr1,hq1,hv1,hb⟩
         clear R2
         clear R3
         replace RN1 := Lib.hid (RN1.out.later hb)
         replace RD1 := Lib.hid (RD1.out.later hb)
         replace X0 := Lib.hid (X0.out.later hb)
         replace X1 := Lib.hid (X1.out.later hb)
         replace HB := Lib.hid (bthen HB.out hb);clear hb
         clear kX00 kX01 kX02 kX10 kX11 kX12
         obtain ⟨kX00,kX01,kX02,-,-,-,-⟩ := X0.out
         obtain ⟨kX10,kX11,kX12,-,-,-,-⟩ := X1.out
         have RN2 := Lib.hid hr0;clear hr0
         have RD2 := Lib.hid hr1;clear hr1
         have HQ2 := Lib.hid hq1;clear hq1
         have HV2 := Lib.hid hv1;clear hv1
         have G2 : Hid True := trivial)
      | (skip
         go_at_call 89
         refine (saidR 45 45 p R0.out R1.out Hp.out hn hm (by omega) (by omega)).mono ?_
         rintro e v1 ⟨s1,a1,n1,c1,b1,m1,d1,us1,vs1,rfl,hn1,hm1,hr0,hr1,hq1,hv1,hb⟩
         clear R0
         clear R1
         replace R2 := Lib.hid (R2.out.later hb)
         replace R3 := Lib.hid (R3.out.later hb)
         replace X0 := Lib.hid (X0.out.later hb)
         replace X1 := Lib.hid (X1.out.later hb)
         replace HB := Lib.hid (bthen HB.out hb);clear hb
         clear kX00 kX01 kX02 kX10 kX11 kX12
         obtain ⟨kX00,kX01,kX02,-,-,-,-⟩ := X0.out
         obtain ⟨kX10,kX11,kX12,-,-,-,-⟩ := X1.out
         have RN1 := Lib.hid hr0;clear hr0
         have RD1 := Lib.hid hr1;clear hr1
         have HQ1 := Lib.hid hq1;clear hq1
         have HV1 := Lib.hid hv1;clear hv1
         have G1 : Hid True := trivial))
  go_wp2
  go_ret
  exact ⟨rfl,HB.out⟩
end Go.Proofs.YtkcgikoploohkaaGreatDoor
