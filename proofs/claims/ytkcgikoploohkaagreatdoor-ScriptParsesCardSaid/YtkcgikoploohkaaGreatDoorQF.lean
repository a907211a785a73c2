import Derived.Test.YtkcgikoploohkaaGreatDoorQE
import Derived.Deep.DeepCutAuto
import Derived.Deep.RegionHeld3
namespace Go.Proofs.YtkcgikoploohkaaGreatDoor
set_option linter.unusedVariables false
set_option linter.unusedSimpArgs false
set_option maxRecDepth 100000
open Go.RowKit Nums
theorem ratRes_sink {E : Int} {P : Shape} {w : World} {e : Ending} {w' : World} {s : Bool} {a b : Option Addr} {n c m d : Nat} {xs ys : List Nat} (he : e = .returned (.tuple #[.agg #[.bool s,.slice a n c,.slice b m d],.int .i64 E])) (hp : P s n m xs ys) (h1 : Row w' a n c xs) (h2 : Row w' b m d ys) (hb : Below w.heap.size w w') : RatRes E P w e w' := ⟨s,a,n,c,b,m,d,xs,ys,he,hp,h1,h2,hb⟩
set_option maxHeartbeats 4000000 in
theorem parse_int (K J : Nat) (Z0 : Int) (s : ByteArray) (w : World) (hn1 : (47 : UInt8) ∉ s.data.toList) (hn2 : (46 : UInt8) ∉ s.data.toList) (hJ : 1≤J) (hq : ∀ w,Calls Tryz.prog 110 #[.string s] w (ParseK K Z0 w)) :
    Calls Tryz.prog 63 #[.string s] w (RatRes 0 (ToldAs K J (Z0 : Rat)) w) := by
  have HQ := Lib.hid hq;clear hq
  have HN1 := Lib.hid hn1;clear hn1
  have HN2 := Lib.hid hn2;clear hn2
  have HB := Lib.hid (below_four w (.cells #[.string s] 9) (.cells #[.bool false,.slice none 0 0,.slice none 0 0] 27) (.cells #[.string s] 9) (.cells #[.string ⟨#[]⟩] 9))
  have U1 : Hid (Uno ((((w.alloc (.cells #[.string s] 9)).alloc (.cells #[.bool false,.slice none 0 0,.slice none 0 0] 27)).alloc (.cells #[.string s] 9)).alloc (.cells #[.string ⟨#[]⟩] 9)) w.heap.size (.string s)) := (((uno_new w _ _).alloc _).alloc _).alloc _
  have Z : Hid (Tri ((((w.alloc (.cells #[.string s] 9)).alloc (.cells #[.bool false,.slice none 0 0,.slice none 0 0] 27)).alloc (.cells #[.string s] 9)).alloc (.cells #[.string ⟨#[]⟩] 9)) (w.heap.size + 1) (.bool false) (.slice none 0 0) (.slice none 0 0)) := ((tri_newE (by simp)).alloc _).alloc _
  have U2 : Hid (Uno ((((w.alloc (.cells #[.string s] 9)).alloc (.cells #[.bool false,.slice none 0 0,.slice none 0 0] 27)).alloc (.cells #[.string s] 9)).alloc (.cells #[.string ⟨#[]⟩] 9)) (w.heap.size + 1 + 1) (.string s)) := (uno_newE (by simp)).alloc _
  have U3 : Hid (Uno ((((w.alloc (.cells #[.string s] 9)).alloc (.cells #[.bool false,.slice none 0 0,.slice none 0 0] 27)).alloc (.cells #[.string s] 9)).alloc (.cells #[.string ⟨#[]⟩] 9)) (w.heap.size + 1 + 1 + 1) (.string ⟨#[]⟩)) := uno_newE (by simp)
  go_enter Tryz.func63,Tryz.ntmps63
  go_wp2_with fail
  refine (closure_any false s (s) (⟨#[]⟩) s (⟨#[]⟩) 47 w.heap.size (w.heap.size + 1 + 1) (w.heap.size + 1 + 1 + 1) _ U1.out U2.out U3.out (by omega) (fun w => cut_miss s 47 w HN1.out)).mono ?_
  rintro e w1' ⟨rfl,w1,hb,rfl⟩
  replace U1 := Lib.hid (((U1.out.later hb).far (g' := w.heap.size + 1 + 1) (o := 0) (by omega) (.string (s))).far (g' := w.heap.size + 1 + 1 + 1) (o := 0) (by omega) (.string (⟨#[]⟩)))
  replace Z := Lib.hid (((Z.out.later hb).farS (g' := w.heap.size + 1 + 1) (o := 0) (by omega) (.string (s))).farS (g' := w.heap.size + 1 + 1 + 1) (o := 0) (by omega) (.string (⟨#[]⟩)))
  replace U2 := Lib.hid (((U2.out.later hb).put (.string (s))).far (g' := w.heap.size + 1 + 1 + 1) (o := 0) (by omega) (.string (⟨#[]⟩)))
  replace U3 := Lib.hid (((U3.out.later hb).far (g' := w.heap.size + 1 + 1) (o := 0) (by omega) (.string (s))).put (.string (⟨#[]⟩)))
  replace HB := Lib.hid (((bthen HB.out hb).setCell (p := ⟨w.heap.size + 1 + 1,0,none⟩) (by simp;omega) (.string (s))).setCell (p := ⟨w.heap.size + 1 + 1 + 1,0,none⟩) (by simp;omega) (.string (⟨#[]⟩)))
  clear hb
  obtain ⟨k1,k2,k3⟩ := U1.out
  obtain ⟨k4,k5,k6⟩ := U2.out
  obtain ⟨k7,k8,k9⟩ := U3.out
  go_wp2_with fail
  clear k1 k2 k3 k4 k5 k6 k7 k8 k9
  refine (closure_any false s (s) (⟨#[]⟩) s (⟨#[]⟩) 46 w.heap.size (w.heap.size + 1 + 1) (w.heap.size + 1 + 1 + 1) _ U1.out U2.out U3.out (by omega) (fun w => cut_miss s 46 w HN2.out)).mono ?_
  rintro e w2' ⟨rfl,w2,hb,rfl⟩
  replace U1 := Lib.hid (((U1.out.later hb).far (g' := w.heap.size + 1 + 1) (o := 0) (by omega) (.string (s))).far (g' := w.heap.size + 1 + 1 + 1) (o := 0) (by omega) (.string (⟨#[]⟩)))
  replace Z := Lib.hid (((Z.out.later hb).farS (g' := w.heap.size + 1 + 1) (o := 0) (by omega) (.string (s))).farS (g' := w.heap.size + 1 + 1 + 1) (o := 0) (by omega) (.string (⟨#[]⟩)))
  replace U2 := Lib.hid (((U2.out.later hb).put (.string (s))).far (g' := w.heap.size + 1 + 1 + 1) (o := 0) (by omega) (.string (⟨#[]⟩)))
  replace U3 := Lib.hid (((U3.out.later hb).far (g' := w.heap.size + 1 + 1) (o := 0) (by omega) (.string (s))).put (.string (⟨#[]⟩)))
  replace HB := Lib.hid (((bthen HB.out hb).setCell (p := ⟨w.heap.size + 1 + 1,0,none⟩) (by simp;omega) (.string (s))).setCell (p := ⟨w.heap.size + 1 + 1 + 1,0,none⟩) (by simp;omega) (.string (⟨#[]⟩)))
  clear hb
  obtain ⟨k1,k2,k3⟩ := U1.out
  obtain ⟨k4,k5,k6⟩ := U2.out
  obtain ⟨k7,k8,k9⟩ := U3.out
  go_wp2_with fail
  refine (HQ.out _).mono ?_
  rintro e w5 ⟨a,n,c,rfl,hn,hr,hb⟩
  have b1 := below_one w5 (.cells #[.bool (decide (Z0 < 0)),.slice a n c] 25)
  have b2 := below_one (w5.alloc (.cells #[.bool (decide (Z0 < 0)),.slice a n c] 25)) (.cells #[.int .u32 1] 89)
  have RL := Lib.hid (row_lit (w5.alloc (.cells #[.bool (decide (Z0 < 0)),.slice a n c] 25)) 1 1 rfl (by omega) (by omega))
  have RA := Lib.hid ((hr.later b1).later b2);clear hr
  replace Z := Lib.hid (((Z.out.later hb).later b1).later b2)
  replace HB := Lib.hid (bthen (bthen (bthen HB.out hb) b1) b2)
  clear hb b1 b2 k1 k2 k3 k4 k5 k6 k7 k8 k9
  rw [show (w5.alloc (.cells #[.bool (decide (Z0 < 0)),.slice a n c] 25)).heap.size = w5.heap.size + 1 from by simp] at RL
  go_wp2_with fail
  refine (over_any _ _ _ _ _ _ _ _).mono ?_
  rintro e w6 ⟨rfl,hb⟩
  replace RA := Lib.hid (RA.out.later hb)
  replace RL := Lib.hid (RL.out.later hb)
  replace Z := Lib.hid (Z.out.later hb)
  replace HB := Lib.hid (bthen HB.out hb)
  clear hb
  obtain ⟨z0,z1,z2,z3,z4,z5,z6⟩ := Z.out
  go_wp2
  exact bodyPost_ret (v := .tuple #[.agg #[.bool (decide (Z0 < 0)),.slice a n c,.slice (some ⟨w5.heap.size + 1,0,none⟩) 1 1],.int .i64 0]) (by simp [results,Tryz.results63,go_sem, *]) rfl
    (ratRes_sink rfl ⟨by rw [Rat.num_intCast],hn,hJ,by rw [Rat.num_intCast],by rw [Rat.den_intCast]⟩ (RA.out.put3 Z.out _ _ _) (RL.out.put3 Z.out _ _ _) (below_put3 HB.out (by omega) _ _ _))
set_option maxHeartbeats 4000000 in
theorem parse_int_err (E : Int) (s : ByteArray) (w : World) (hn1 : (47 : UInt8) ∉ s.data.toList) (hn2 : (46 : UInt8) ∉ s.data.toList) (hE : (E != 0) = true) (hq : ∀ w,Calls Tryz.prog 110 #[.string s] w (AnyI E w)) :
    Calls Tryz.prog 63 #[.string s] w (RatRes E NoneAs w) := by
  have HQ := Lib.hid hq;clear hq
  have HN1 := Lib.hid hn1;clear hn1
  have HN2 := Lib.hid hn2;clear hn2
  have HB := Lib.hid (below_four w (.cells #[.string s] 9) (.cells #[.bool false,.slice none 0 0,.slice none 0 0] 27) (.cells #[.string s] 9) (.cells #[.string ⟨#[]⟩] 9))
  have U1 : Hid (Uno ((((w.alloc (.cells #[.string s] 9)).alloc (.cells #[.bool false,.slice none 0 0,.slice none 0 0] 27)).alloc (.cells #[.string s] 9)).alloc (.cells #[.string ⟨#[]⟩] 9)) w.heap.size (.string s)) := (((uno_new w _ _).alloc _).alloc _).alloc _
  have Z : Hid (Tri ((((w.alloc (.cells #[.string s] 9)).alloc (.cells #[.bool false,.slice none 0 0,.slice none 0 0] 27)).alloc (.cells #[.string s] 9)).alloc (.cells #[.string ⟨#[]⟩] 9)) (w.heap.size + 1) (.bool false) (.slice none 0 0) (.slice none 0 0)) := ((tri_newE (by simp)).alloc _).alloc _
  have U2 : Hid (Uno ((((w.alloc (.cells #[.string s] 9)).alloc (.cells #[.bool false,.slice none 0 0,.slice none 0 0] 27)).alloc (.cells #[.string s] 9)).alloc (.cells #[.string ⟨#[]⟩] 9)) (w.heap.size + 1 + 1) (.string s)) := (uno_newE (by simp)).alloc _
  have U3 : Hid (Uno ((((w.alloc (.cells #[.string s] 9)).alloc (.cells #[.bool false,.slice none 0 0,.slice none 0 0] 27)).alloc (.cells #[.string s] 9)).alloc (.cells #[.string ⟨#[]⟩] 9)) (w.heap.size + 1 + 1 + 1) (.string ⟨#[]⟩)) := uno_newE (by simp)
  go_enter Tryz.func63,Tryz.ntmps63
  go_wp2_with fail
  refine (closure_any false s (s) (⟨#[]⟩) s (⟨#[]⟩) 47 w.heap.size (w.heap.size + 1 + 1) (w.heap.size + 1 + 1 + 1) _ U1.out U2.out U3.out (by omega) (fun w => cut_miss s 47 w HN1.out)).mono ?_
  rintro e w1' ⟨rfl,w1,hb,rfl⟩
  replace U1 := Lib.hid (((U1.out.later hb).far (g' := w.heap.size + 1 + 1) (o := 0) (by omega) (.string (s))).far (g' := w.heap.size + 1 + 1 + 1) (o := 0) (by omega) (.string (⟨#[]⟩)))
  replace Z := Lib.hid (((Z.out.later hb).farS (g' := w.heap.size + 1 + 1) (o := 0) (by omega) (.string (s))).farS (g' := w.heap.size + 1 + 1 + 1) (o := 0) (by omega) (.string (⟨#[]⟩)))
  replace U2 := Lib.hid (((U2.out.later hb).put (.string (s))).far (g' := w.heap.size + 1 + 1 + 1) (o := 0) (by omega) (.string (⟨#[]⟩)))
  replace U3 := Lib.hid (((U3.out.later hb).far (g' := w.heap.size + 1 + 1) (o := 0) (by omega) (.string (s))).put (.string (⟨#[]⟩)))
  replace HB := Lib.hid (((bthen HB.out hb).setCell (p := ⟨w.heap.size + 1 + 1,0,none⟩) (by simp;omega) (.string (s))).setCell (p := ⟨w.heap.size + 1 + 1 + 1,0,none⟩) (by simp;omega) (.string (⟨#[]⟩)))
  clear hb
  obtain ⟨k1,k2,k3⟩ := U1.out
  obtain ⟨k4,k5,k6⟩ := U2.out
  obtain ⟨k7,k8,k9⟩ := U3.out
  go_wp2_with fail
  clear k1 k2 k3 k4 k5 k6 k7 k8 k9
  refine (closure_any false s (s) (⟨#[]⟩) s (⟨#[]⟩) 46 w.heap.size (w.heap.size + 1 + 1) (w.heap.size + 1 + 1 + 1) _ U1.out U2.out U3.out (by omega) (fun w => cut_miss s 46 w HN2.out)).mono ?_
  rintro e w2' ⟨rfl,w2,hb,rfl⟩
  replace U1 := Lib.hid (((U1.out.later hb).far (g' := w.heap.size + 1 + 1) (o := 0) (by omega) (.string (s))).far (g' := w.heap.size + 1 + 1 + 1) (o := 0) (by omega) (.string (⟨#[]⟩)))
  replace Z := Lib.hid (((Z.out.later hb).farS (g' := w.heap.size + 1 + 1) (o := 0) (by omega) (.string (s))).farS (g' := w.heap.size + 1 + 1 + 1) (o := 0) (by omega) (.string (⟨#[]⟩)))
  replace U2 := Lib.hid (((U2.out.later hb).put (.string (s))).far (g' := w.heap.size + 1 + 1 + 1) (o := 0) (by omega) (.string (⟨#[]⟩)))
  replace U3 := Lib.hid (((U3.out.later hb).far (g' := w.heap.size + 1 + 1) (o := 0) (by omega) (.string (s))).put (.string (⟨#[]⟩)))
  replace HB := Lib.hid (((bthen HB.out hb).setCell (p := ⟨w.heap.size + 1 + 1,0,none⟩) (by simp;omega) (.string (s))).setCell (p := ⟨w.heap.size + 1 + 1 + 1,0,none⟩) (by simp;omega) (.string (⟨#[]⟩)))
  clear hb
  obtain ⟨k1,k2,k3⟩ := U1.out
  obtain ⟨k4,k5,k6⟩ := U2.out
  obtain ⟨k7,k8,k9⟩ := U3.out
  go_wp2_with fail
  refine (HQ.out _).mono ?_
  rintro e w5 ⟨s1,a,n,c,rfl,hb⟩
  have b1 := below_one w5 (.cells #[.bool s1,.slice a n c] 25)
  replace Z := Lib.hid ((Z.out.later hb).later b1)
  replace HB := Lib.hid (bthen (bthen HB.out hb) b1)
  clear hb b1 k1 k2 k3 k4 k5 k6 k7 k8 k9
  obtain ⟨z0,z1,z2,z3,z4,z5,z6⟩ := Z.out
  go_wp2
  exact bodyPost_ret (v := .tuple #[.agg #[.bool false,.slice none 0 0,.slice none 0 0],.int .i64 E]) (by simp [results,Tryz.results63,go_sem, *]) rfl
    (ratRes_err ⟨rfl,below_put3 HB.out (by omega) _ _ _⟩)
set_option maxHeartbeats 4000000 in
theorem quot_err (G : Int) (h t : ByteArray) (w : World) (hG : (G != 0) = true) (hq : ∀ w,Calls Tryz.prog 148 #[.string h,.string t] w (PartsErr G w)) :
    Calls Tryz.prog 108 #[.string h,.string t] w (RatErr G w) := by
  have HB := Lib.hid (below_one w (.cells #[.bool false,.slice none 0 0,.slice none 0 0] 27))
  have Z : Hid (Tri (w.alloc (.cells #[.bool false,.slice none 0 0,.slice none 0 0] 27)) (w.heap.size) (.bool false) (.slice none 0 0) (.slice none 0 0)) := (tri_new _ (.bool false) (.slice none 0 0) (.slice none 0 0))
  have HQ := Lib.hid hq;clear hq
  go_enter Tryz.func108,Tryz.ntmps108
  go_wp2_with fail
  refine (HQ.out _).mono ?_
  rintro e w1 ⟨rfl,hb⟩
  replace Z := Lib.hid (Z.out.later hb)
  replace HB := Lib.hid (bthen HB.out hb)
  clear hb
  have hb1 := below_one w1 (.cells #[.bool false,.slice none 0 0] 25)
  replace Z := Lib.hid (Z.out.later hb1)
  replace HB := Lib.hid (bthen HB.out hb1)
  clear hb1
  obtain ⟨kZ0,kZ1,kZ2,kZ3,kZ4,kZ5,kZ6⟩ := Z.out
  go_wp2
  exact bodyPost_ret (v := .tuple #[.agg #[.bool false,.slice none 0 0,.slice none 0 0],.int .i64 G]) (by simp [results,Tryz.results108,go_sem, *]) rfl ⟨rfl,below_put3 HB.out (by omega) _ _ _⟩
set_option maxHeartbeats 4000000 in
theorem decimal_err (G : Int) (h t : ByteArray) (w : World) (hG : (G != 0) = true) (hq : ∀ w,Calls Tryz.prog 148 #[.string h,.string t] w (PartsErr G w)) :
    Calls Tryz.prog 109 #[.string h,.string t] w (RatErr G w) := by
  have HB := Lib.hid (below_one w (.cells #[.bool false,.slice none 0 0,.slice none 0 0] 27))
  have Z : Hid (Tri (w.alloc (.cells #[.bool false,.slice none 0 0,.slice none 0 0] 27)) (w.heap.size) (.bool false) (.slice none 0 0) (.slice none 0 0)) := (tri_new _ (.bool false) (.slice none 0 0) (.slice none 0 0))
  have HQ := Lib.hid hq;clear hq
  go_enter Tryz.func109,Tryz.ntmps109
  go_wp2_with fail
  refine (HQ.out _).mono ?_
  rintro e w1 ⟨rfl,hb⟩
  replace Z := Lib.hid (Z.out.later hb)
  replace HB := Lib.hid (bthen HB.out hb)
  clear hb
  have hb1 := below_one w1 (.cells #[.bool false,.slice none 0 0] 25)
  replace Z := Lib.hid (Z.out.later hb1)
  replace HB := Lib.hid (bthen HB.out hb1)
  clear hb1
  obtain ⟨kZ0,kZ1,kZ2,kZ3,kZ4,kZ5,kZ6⟩ := Z.out
  go_wp2
  exact bodyPost_ret (v := .tuple #[.agg #[.bool false,.slice none 0 0,.slice none 0 0],.int .i64 G]) (by simp [results,Tryz.results109,go_sem, *]) rfl ⟨rfl,below_put3 HB.out (by omega) _ _ _⟩
end Go.Proofs.YtkcgikoploohkaaGreatDoor
/- What parseQuotient tells. -/
namespace Go.Proofs.YtkcgikoploohkaaGreatDoor
set_option linter.unusedVariables false
set_option linter.unusedSimpArgs false
set_option maxRecDepth 100000
open Go.RowKit Nums
set_option maxHeartbeats 8000000 in
theorem quot_ok (K J : Nat) (q : Rat) (X : Int) (N : Nat) (h t : ByteArray) (w : World) (hK : K≤95) (hJ1 : 1≤J) (hJ : J≤95) (hN : 0 < N) (hr : mkRat X N = q) (hq : ∀ w,Calls Tryz.prog 148 #[.string h,.string t] w (PartsK K J X N w)) :
    Calls Tryz.prog 108 #[.string h,.string t] w (RatOk K J q w) := by
  have HB := Lib.hid (below_one w (.cells #[.bool false,.slice none 0 0,.slice none 0 0] 27))
  have Z : Hid (Tri (w.alloc (.cells #[.bool false,.slice none 0 0,.slice none 0 0] 27)) (w.heap.size) (.bool false) (.slice none 0 0) (.slice none 0 0)) := (tri_new _ (.bool false) (.slice none 0 0) (.slice none 0 0))
  have HQ := Lib.hid hq;clear hq
  have HN := Lib.hid (show ((N : Nat) : Int)≠0 by omega)
  have HR := Lib.hid (show (X : Rat) / (((N : Nat) : Int) : Rat) = q by rw [←Rat.divInt_eq_div,Rat.divInt_ofNat];exact hr)
  clear hr hN
  have HV := Lib.hid (show sv false (val (limbs N)) = ((N : Nat) : Int) by rw [val_limbs];rfl)
  go_enter Tryz.func108,Tryz.ntmps108
  go_wp2_with fail
  refine (HQ.out _).mono ?_
  rintro e w1 ⟨a,n,c,b,m,d,rfl,hn,hm,hr1,hr2,hb⟩
  replace Z := Lib.hid (Z.out.later hb)
  replace HB := Lib.hid (bthen HB.out hb)
  clear hb
  have hb1 := below_one w1 (.cells #[.bool (decide (X < 0)),.slice a n c] 25)
  have XN : Hid (Box _ w1.heap.size (.bool (decide (X < 0))) (.slice a n c)) := box_new w1 (.bool (decide (X < 0))) (.slice a n c)
  have RN := Lib.hid (hr1.later hb1)
  have RD := Lib.hid (hr2.later hb1)
  clear hr1 hr2
  have lw : w.heap.size < w1.heap.size := by have := Z.out.2.2.2.2.2.2;simpa using this
  replace Z := Lib.hid (Z.out.later hb1)
  replace HB := Lib.hid (bthen HB.out hb1)
  clear hb1
  go_wp2_with fail
  obtain ⟨W,hW⟩ : ∃ W,(w1.alloc (.cells #[.bool (decide (X < 0)),.slice a n c] 25)) = W := ⟨_,rfl⟩
  rw [hW] at RN RD XN Z HB ⊢
  have lW : w1.heap.size < W.heap.size := XN.out.2.2.2.2
  clear hW
  obtain ⟨kXN0,kXN1,-,-,-⟩ := XN.out
  go_upto_region 4 with fail
  go_cut [8,9] (fun s8 s9 wx => ∃ (g9 : Nat) (ar : Option Addr) (nr cr : Nat) (br : Option Addr) (mr dr : Nat),s9 = .pointer (some ⟨g9,0,none⟩)∧s8 = .int .i64 0∧Hid (w.heap.size < g9∧nr≤K∧mr≤J∧Tri wx g9 (.bool (decide (q.num < 0))) (.slice ar nr cr) (.slice br mr dr)∧Row wx ar nr cr (limbs q.num.natAbs)∧Row wx br mr dr (limbs q.den)∧Tri wx w.heap.size (.bool false) (.slice none 0 0) (.slice none 0 0)∧Below w.heap.size w wx))
  case first =>
    go_region_held3 (fun w' => w'.cell? ⟨w1.heap.size,0,none⟩ = some (.bool (decide (X < 0)))∧w'.cell? ⟨w1.heap.size,1,none⟩ = some (.slice a n c))
      (first | (refine ⟨?_, ?_⟩ <;> with_reducible assumption) | (go_keep;done) | (refine ⟨?_, ?_⟩ <;> (repeat rw [cell_other (by first | (simp;done) | (simp;omega))]) <;> with_reducible assumption))
      (first
          | (go_at_call 149
             refine (makeR K J q X ((N : Nat) : Int) (RN.out.later (by first | exact Below.refl _ _ | exact (Below.refl _ _).drew | exact below_one _ _ | exact (below_one _ _).drew | exact below_two _ _ _ | exact (below_two _ _ _).drew)) (RD.out.later (by first | exact Below.refl _ _ | exact (Below.refl _ _).drew | exact below_one _ _ | exact (below_one _ _).drew | exact below_two _ _ _ | exact (below_two _ _ _).drew)) (sv_limbs _) HV.out hn hm hK hJ1 hJ HN.out HR.out).mono ?_
             rintro e v2 ⟨ar,nr,cr,br,mr,dr,rfl,h2,h3,hr,hr2,hb⟩
             have hbb : Below v1.heap.size v1 v2 := bthen (by first | exact Below.refl _ _ | exact (Below.refl _ _).drew | exact below_one _ _ | exact (below_one _ _).drew | exact below_two _ _ _ | exact (below_two _ _ _).drew) hb
             replace RN := Lib.hid (RN.out.later hbb)
             replace RD := Lib.hid (RD.out.later hbb)
             replace XN := Lib.hid (XN.out.later hbb)
             replace Z := Lib.hid (Z.out.later hbb)
             replace HB := Lib.hid (bthen HB.out hbb)
             (first | (replace Y0 := Lib.hid (Y0.out.later hbb);clear kY00 kY01 kY02 kY03 kY04 kY05 kY06;obtain ⟨kY00,kY01,kY02,kY03,kY04,kY05,kY06⟩ := Y0.out) | skip)
             (first | (have U0 : Hid (Tri v2 v1.heap.size (.bool false) (.slice none 0 0) (.slice none 0 0)) := (tri_new v1 (.bool false) (.slice none 0 0) (.slice none 0 0)).later hb;obtain ⟨kU00,kU01,kU02,kU03,kU04,kU05,kU06⟩ := U0.out) | skip)
             have RA := Lib.hid hr;clear hr
             have RB := Lib.hid hr2;clear hr2
             have l2 : v1.heap.size≤v2.heap.size := hbb.size
             clear hb hbb
             clear kXN0 kXN1
             obtain ⟨kXN0,kXN1,-,-,-⟩ := XN.out)
          | (go_at_call 137
             refine (asInt_any _ _ _ _).mono ?_
             rintro e v1 ⟨rfl,hb⟩
             have hbb : Below W.heap.size W v1 := bthen (by first | exact Below.refl _ _ | exact (Below.refl _ _).drew | exact below_one _ _ | exact (below_one _ _).drew | exact below_two _ _ _ | exact (below_two _ _ _).drew) hb
             replace RN := Lib.hid (RN.out.later hbb)
             replace RD := Lib.hid (RD.out.later hbb)
             replace XN := Lib.hid (XN.out.later hbb)
             replace Z := Lib.hid (Z.out.later hbb)
             replace HB := Lib.hid (bthen HB.out hbb)
             (first | (have Y0 : Hid (Tri v1 W.heap.size (.bool false) (.slice none 0 0) (.slice none 0 0)) := (tri_new W (.bool false) (.slice none 0 0) (.slice none 0 0)).drew.later hb;obtain ⟨kY00,kY01,kY02,kY03,kY04,kY05,kY06⟩ := Y0.out) | skip)
             have l1 : W.heap.size≤v1.heap.size := hbb.size
             clear hb hbb
             clear kXN0 kXN1
             obtain ⟨kXN0,kXN1,-,-,-⟩ := XN.out))
    all_goals
      go_wp2_with fail
      go_meet
      refine ⟨_,ar,nr,cr,br,mr,dr,rfl,rfl, ?_,h2,h3, ?_, ?_, ?_, ?_, ?_⟩
      · repeat' (first | omega)
      · repeat' (first | with_reducible exact Y0.out | with_reducible exact U0.out | with_reducible exact Z.out | with_reducible refine tri_newE ?_ | with_reducible refine Tri.put (u := .bool false) (v := .slice none 0 0) (x := .slice none 0 0) ?_ _ _ _ | with_reducible refine Tri.far ?_ ?_ _ _ _ | with_reducible refine Tri.alloc ?_ _ | omega | (simp;done))
      · repeat' (first | with_reducible exact RA.out | with_reducible refine Row.later ?_ (below_one _ _) | with_reducible refine Row.put3 (s := false) (a1 := none) (n1 := 0) (c1 := 0) (a2 := none) (n2 := 0) (c2 := 0) ?_ ?_ _ _ _ | with_reducible exact Y0.out | with_reducible exact U0.out | with_reducible exact Z.out | with_reducible refine tri_newE ?_ | with_reducible refine Tri.put (u := .bool false) (v := .slice none 0 0) (x := .slice none 0 0) ?_ _ _ _ | with_reducible refine Tri.far ?_ ?_ _ _ _ | with_reducible refine Tri.alloc ?_ _ | omega | (simp;done))
      · repeat' (first | with_reducible exact RB.out | with_reducible refine Row.later ?_ (below_one _ _) | with_reducible refine Row.put3 (s := false) (a1 := none) (n1 := 0) (c1 := 0) (a2 := none) (n2 := 0) (c2 := 0) ?_ ?_ _ _ _ | with_reducible exact Y0.out | with_reducible exact U0.out | with_reducible exact Z.out | with_reducible refine tri_newE ?_ | with_reducible refine Tri.put (u := .bool false) (v := .slice none 0 0) (x := .slice none 0 0) ?_ _ _ _ | with_reducible refine Tri.far ?_ ?_ _ _ _ | with_reducible refine Tri.alloc ?_ _ | omega | (simp;done))
      · repeat' (first | with_reducible exact Y0.out | with_reducible exact U0.out | with_reducible exact Z.out | with_reducible refine tri_newE ?_ | with_reducible refine Tri.put (u := .bool false) (v := .slice none 0 0) (x := .slice none 0 0) ?_ _ _ _ | with_reducible refine Tri.far ?_ ?_ _ _ _ | with_reducible refine Tri.alloc ?_ _ | omega | (simp;done))
      · repeat' (first | with_reducible exact HB.out | with_reducible refine Below.alloc ?_ ?_ _ | with_reducible refine below_put3 ?_ ?_ _ _ _ | omega | (simp;omega))
  case rest =>
    obtain ⟨g9,ar,nr,cr,br,mr,dr,rfl,rfl,hm2⟩ := hcut
    clear RN RD XN Z HB kXN0 kXN1
    obtain ⟨lg,h2,h3,x9,ra,rb,z,hb⟩ := hm2.out
    clear hm2
    have X9 := Lib.hid x9
    have RA := Lib.hid ra
    have RB := Lib.hid rb
    have Z := Lib.hid z
    have HB := Lib.hid hb
    clear x9 ra rb z hb
    obtain ⟨z0,z1,z2,z3,z4,z5,z6⟩ := Z.out
    obtain ⟨y0,y1,y2,-,-,-,-⟩ := X9.out
    go_wp2
    exact bodyPost_ret (v := .tuple #[.agg #[.bool (decide (q.num < 0)),.slice ar nr cr,.slice br mr dr],.int .i64 0]) (by simp [results,Tryz.results108,go_sem, *]) rfl
      ⟨ar,nr,cr,br,mr,dr,rfl,h2,h3,RA.out.put3 Z.out _ _ _,RB.out.put3 Z.out _ _ _,below_put3 HB.out (Nat.le_refl _) _ _ _⟩
set_option maxHeartbeats 8000000 in
theorem quot_zero (X : Int) (h t : ByteArray) (w : World) (hq : ∀ w,Calls Tryz.prog 148 #[.string h,.string t] w (PartsK 60 60 X 0 w)) :
    Calls Tryz.prog 108 #[.string h,.string t] w (RatErr 4 w) := by
  have HB := Lib.hid (below_one w (.cells #[.bool false,.slice none 0 0,.slice none 0 0] 27))
  have Z : Hid (Tri (w.alloc (.cells #[.bool false,.slice none 0 0,.slice none 0 0] 27)) (w.heap.size) (.bool false) (.slice none 0 0) (.slice none 0 0)) := (tri_new _ (.bool false) (.slice none 0 0) (.slice none 0 0))
  have HQ := Lib.hid hq;clear hq
  obtain ⟨N,hN0⟩ : ∃ N : Nat,N = 0 := ⟨_,rfl⟩
  rw [←hN0] at HQ
  have HS := Lib.hid (show sgn ((N : Nat) : Int) = 0 by rw [hN0];rfl)
  clear hN0
  have HV := Lib.hid (show sv false (val (limbs N)) = ((N : Nat) : Int) by rw [val_limbs];rfl)
  go_enter Tryz.func108,Tryz.ntmps108
  go_wp2_with fail
  refine (HQ.out _).mono ?_
  rintro e w1 ⟨a,n,c,b,m,d,rfl,hn,hm,hr1,hr2,hb⟩
  replace Z := Lib.hid (Z.out.later hb)
  replace HB := Lib.hid (bthen HB.out hb)
  clear hb
  have hb1 := below_one w1 (.cells #[.bool (decide (X < 0)),.slice a n c] 25)
  have XN : Hid (Box _ w1.heap.size (.bool (decide (X < 0))) (.slice a n c)) := box_new w1 (.bool (decide (X < 0))) (.slice a n c)
  have RN := Lib.hid (hr1.later hb1)
  have RD := Lib.hid (hr2.later hb1)
  clear hr1 hr2
  have lw : w.heap.size < w1.heap.size := by have := Z.out.2.2.2.2.2.2;simpa using this
  replace Z := Lib.hid (Z.out.later hb1)
  replace HB := Lib.hid (bthen HB.out hb1)
  clear hb1
  go_wp2_with fail
  obtain ⟨W,hW⟩ : ∃ W,(w1.alloc (.cells #[.bool (decide (X < 0)),.slice a n c] 25)) = W := ⟨_,rfl⟩
  rw [hW] at RN RD XN Z HB ⊢
  have lW : w1.heap.size < W.heap.size := XN.out.2.2.2.2
  clear hW
  obtain ⟨kXN0,kXN1,-,-,-⟩ := XN.out
  go_upto_region 4 with fail
  go_cut [8,9] (fun s8 s9 wx => ∃ g9 : Nat,s9 = .pointer (some ⟨g9,0,none⟩)∧s8 = .int .i64 3∧Hid (Tri wx w.heap.size (.bool false) (.slice none 0 0) (.slice none 0 0)∧Below w.heap.size w wx))
  case first =>
    go_region_held3 (fun w' => w'.cell? ⟨w1.heap.size,0,none⟩ = some (.bool (decide (X < 0)))∧w'.cell? ⟨w1.heap.size,1,none⟩ = some (.slice a n c))
      (first | (refine ⟨?_, ?_⟩ <;> with_reducible assumption) | (go_keep;done) | (refine ⟨?_, ?_⟩ <;> (repeat rw [cell_other (by first | (simp;done) | (simp;omega))]) <;> with_reducible assumption))
      (first
          | (go_at_call 149
             refine (makeR_zero ((N : Nat) : Int) (RN.out.later (by first | exact Below.refl _ _ | exact (Below.refl _ _).drew | exact below_one _ _ | exact (below_one _ _).drew | exact below_two _ _ _ | exact (below_two _ _ _).drew)) (RD.out.later (by first | exact Below.refl _ _ | exact (Below.refl _ _).drew | exact below_one _ _ | exact (below_one _ _).drew | exact below_two _ _ _ | exact (below_two _ _ _).drew)) HV.out (by omega) HS.out).mono ?_
             rintro e v2 ⟨rfl,hb⟩
             have hbb : Below v1.heap.size v1 v2 := bthen (by first | exact Below.refl _ _ | exact (Below.refl _ _).drew | exact below_one _ _ | exact (below_one _ _).drew | exact below_two _ _ _ | exact (below_two _ _ _).drew) hb
             replace RN := Lib.hid (RN.out.later hbb)
             replace RD := Lib.hid (RD.out.later hbb)
             replace XN := Lib.hid (XN.out.later hbb)
             replace Z := Lib.hid (Z.out.later hbb)
             replace HB := Lib.hid (bthen HB.out hbb)
             (first | (replace Y0 := Lib.hid (Y0.out.later hbb);clear kY00 kY01 kY02 kY03 kY04 kY05 kY06;obtain ⟨kY00,kY01,kY02,kY03,kY04,kY05,kY06⟩ := Y0.out) | skip)
             (first | (have U0 : Hid (Tri v2 v1.heap.size (.bool false) (.slice none 0 0) (.slice none 0 0)) := (tri_new v1 (.bool false) (.slice none 0 0) (.slice none 0 0)).later hb;obtain ⟨kU00,kU01,kU02,kU03,kU04,kU05,kU06⟩ := U0.out) | skip)
             have l2 : v1.heap.size≤v2.heap.size := hbb.size
             clear hb hbb
             clear kXN0 kXN1
             obtain ⟨kXN0,kXN1,-,-,-⟩ := XN.out)
          | (go_at_call 137
             refine (asInt_any _ _ _ _).mono ?_
             rintro e v1 ⟨rfl,hb⟩
             have hbb : Below W.heap.size W v1 := bthen (by first | exact Below.refl _ _ | exact (Below.refl _ _).drew | exact below_one _ _ | exact (below_one _ _).drew | exact below_two _ _ _ | exact (below_two _ _ _).drew) hb
             replace RN := Lib.hid (RN.out.later hbb)
             replace RD := Lib.hid (RD.out.later hbb)
             replace XN := Lib.hid (XN.out.later hbb)
             replace Z := Lib.hid (Z.out.later hbb)
             replace HB := Lib.hid (bthen HB.out hbb)
             (first | (have Y0 : Hid (Tri v1 W.heap.size (.bool false) (.slice none 0 0) (.slice none 0 0)) := (tri_new W (.bool false) (.slice none 0 0) (.slice none 0 0)).drew.later hb;obtain ⟨kY00,kY01,kY02,kY03,kY04,kY05,kY06⟩ := Y0.out) | skip)
             have l1 : W.heap.size≤v1.heap.size := hbb.size
             clear hb hbb
             clear kXN0 kXN1
             obtain ⟨kXN0,kXN1,-,-,-⟩ := XN.out))
    all_goals
      go_wp2_with fail
      go_meet
      refine ⟨_,rfl,rfl, ?_, ?_⟩
      · repeat' (first | with_reducible exact Z.out | with_reducible refine Tri.far ?_ ?_ _ _ _ | with_reducible refine Tri.alloc ?_ _ | omega | (simp;done))
      · repeat' (first | with_reducible exact HB.out | with_reducible refine Below.alloc ?_ ?_ _ | with_reducible refine below_put3 ?_ ?_ _ _ _ | omega | (simp;omega))
  case rest =>
    obtain ⟨g9,rfl,rfl,hm⟩ := hcut
    clear RN RD XN Z HB kXN0 kXN1
    have Z := Lib.hid hm.out.1
    have HB := Lib.hid hm.out.2
    clear hm
    obtain ⟨z0,z1,z2,z3,z4,z5,z6⟩ := Z.out
    go_wp2
    exact bodyPost_ret (v := .tuple #[.agg #[.bool false,.slice none 0 0,.slice none 0 0],.int .i64 4]) (by simp [results,Tryz.results108,go_sem, *]) rfl ⟨rfl,below_put3 HB.out (Nat.le_refl _) _ _ _⟩
end Go.Proofs.YtkcgikoploohkaaGreatDoor
/- What parseDecimal tells. -/
namespace Go.Proofs.YtkcgikoploohkaaGreatDoor
set_option linter.unusedVariables false
set_option linter.unusedSimpArgs false
set_option maxRecDepth 100000
open Go.RowKit Nums
theorem signed_prefix {s t : ByteArray} {neg : Bool} (h : Signed s neg t) : Lib.hasPrefix s.data.toList [45] = neg := by
  rcases h with ⟨rfl,h⟩ | ⟨rfl,rfl,h⟩
  · rw [h];simp [Lib.hasPrefix]
  · cases hl : s.data.toList with
    | nil => rfl
    | cons c l =>
      rw [hl] at h
      have hc : c≠45 := by simpa using h
      simp [Lib.hasPrefix,List.isPrefixOf]
      exact fun e => hc e.symm
theorem prefix_call (s t : ByteArray) (neg : Bool) (w : World) (h : Signed s neg t) : Calls Tryz.prog 151 #[.string s,.string ⟨#[45]⟩] w fun e w' => e = .returned (.bool neg)∧w' = w := by
  refine (Tryz.strings_HasPrefix s ⟨#[45]⟩ w).mono ?_
  rintro e w' ⟨rfl,rfl⟩
  exact ⟨by rw [←signed_prefix h],rfl⟩
set_option maxHeartbeats 8000000 in
theorem decimal_ok (K : Nat) (q : Rat) (neg : Bool) (N D : Nat) (h u t : ByteArray) (w : World) (hs : Signed h neg u) (h1 : 1≤t.size) (h3 : t.size≤300) (hk6 : t.size≤6 * K) (hK : K≤95) (hK1 : 1≤K)
    (hM : (limbs (N * 10 ^ t.size + D)).length≤K) (hr : mkRat (sv neg (N * 10 ^ t.size + D)) (10 ^ t.size) = q) (hq : ∀ w,Calls Tryz.prog 148 #[.string h,.string t] w (PartsK K K (sv neg N) D w)) :
    Calls Tryz.prog 109 #[.string h,.string t] w (RatOk K K q w) := by
  have HX := Lib.hid (show (sv neg N).natAbs = N from natAbs_sv neg N)
  obtain ⟨X,hX⟩ : ∃ X,sv neg N = X := ⟨_,rfl⟩
  obtain ⟨P,hP⟩ : ∃ P,10 ^ t.size = P := ⟨_,rfl⟩
  rw [hX] at HX hq
  rw [hP] at hM hr
  obtain ⟨M0,hM0⟩ : ∃ M0,N * P = M0 := ⟨_,rfl⟩
  rw [hM0] at hM hr
  obtain ⟨M,hMM⟩ : ∃ M,M0 + D = M := ⟨_,rfl⟩
  rw [hMM] at hM hr
  have LM := Lib.hid hM;clear hM
  have LM0 := Lib.hid (show (limbs M0).length≤K from Nat.le_trans (limbs_len_mono (by omega)) LM.out)
  have HM0 := Lib.hid hM0;clear hM0
  have HMM := Lib.hid hMM;clear hMM
  have HR := Lib.hid hr;clear hr
  have HP := Lib.hid hP;clear hP
  have HS := Lib.hid hs;clear hs
  clear hX
  have HQ := Lib.hid hq;clear hq
  obtain ⟨T,hT⟩ : ∃ T : Nat,t.size = T := ⟨_,rfl⟩
  rw [hT] at h1 h3 hk6 HP
  have HT := Lib.hid hT;clear hT
  have HB := Lib.hid (below_one w (.cells #[.bool false,.slice none 0 0,.slice none 0 0] 27))
  have Z : Hid (Tri (w.alloc (.cells #[.bool false,.slice none 0 0,.slice none 0 0] 27)) (w.heap.size) (.bool false) (.slice none 0 0) (.slice none 0 0)) := (tri_new _ (.bool false) (.slice none 0 0) (.slice none 0 0))
  go_enter Tryz.func109,Tryz.ntmps109
  go_wp2_with fail
  refine (HQ.out _).mono ?_
  rintro e w1 ⟨a,n,c,b,m,d,rfl,hn,hm,hr1,hr2,hb⟩
  replace Z := Lib.hid (Z.out.later hb)
  replace HB := Lib.hid (bthen HB.out hb)
  clear hb
  have hb1 := below_one w1 (.cells #[.bool (decide (X < 0)),.slice a n c] 25)
  have XN : Hid (Box _ w1.heap.size (.bool (decide (X < 0))) (.slice a n c)) := box_new w1 (.bool (decide (X < 0))) (.slice a n c)
  rw [HX.out] at hr1
  have RN := Lib.hid (hr1.later hb1)
  have RD := Lib.hid (hr2.later hb1)
  clear hr1 hr2
  have lw : w.heap.size < w1.heap.size := by have := Z.out.2.2.2.2.2.2;simpa using this
  replace Z := Lib.hid (Z.out.later hb1)
  replace HB := Lib.hid (bthen HB.out hb1)
  clear hb1
  go_wp2_with fail
  rw [HT.out]
  refine (powR K T _ h1 h3 hk6 (by omega)).mono ?_
  rintro e w2 ⟨ap,np,rfl,hnp,hr,hb⟩
  replace RN := Lib.hid (RN.out.later hb)
  replace RD := Lib.hid (RD.out.later hb)
  replace XN := Lib.hid (XN.out.later hb)
  replace Z := Lib.hid (Z.out.later hb)
  replace HB := Lib.hid (bthen HB.out hb)
  clear hb
  rw [HP.out] at hr
  have RP := Lib.hid hr;clear hr
  obtain ⟨kXN0,kXN1,kXN2,kXN3,kXN4⟩ := XN.out
  go_wp2_with fail
  refine (prefix_call h u neg _ HS.out).mono ?_
  rintro e w3 ⟨rfl,hw⟩
  obtain rfl := hw
  replace RN := Lib.hid (RN.out.set XN.out.1 (by intro x;simp) (.bool neg))
  replace RD := Lib.hid (RD.out.set XN.out.1 (by intro x;simp) (.bool neg))
  replace RP := Lib.hid (RP.out.set XN.out.1 (by intro x;simp) (.bool neg))
  replace Z := Lib.hid (Z.out.farS (g' := w1.heap.size) (o := 0) (by omega) (.bool neg))
  replace XN := Lib.hid (XN.out.set0 (.bool neg))
  replace HB := Lib.hid (HB.out.setCell (p := ⟨w1.heap.size,0,none⟩) (by simp;omega) (.bool neg))
  go_wp2_with fail
  refine (mulN K M0 RN.out RP.out (val_limbs _) (val_limbs _) (by omega) (by omega) HM0.out LM0.out).mono ?_
  rintro e w4 ⟨am,nm,rfl,hnm,hr,hb⟩
  clear RN
  replace RD := Lib.hid (RD.out.later hb)
  replace RP := Lib.hid (RP.out.later hb)
  replace XN := Lib.hid (XN.out.later hb)
  replace Z := Lib.hid (Z.out.later hb)
  replace HB := Lib.hid (bthen HB.out hb)
  clear hb
  clear kXN0 kXN1 kXN2 kXN3 kXN4
  have RM0 := Lib.hid hr;clear hr
  obtain ⟨kXN0,kXN1,kXN2,kXN3,kXN4⟩ := XN.out
  go_wp2_with fail
  refine (addN K M RM0.out RD.out (val_limbs _) (val_limbs _) (by omega) (by omega) HMM.out LM.out).mono ?_
  rintro e w5 ⟨as2,ns,rfl,hns,hr,hb⟩
  clear RM0
  clear RD
  replace RP := Lib.hid (RP.out.later hb)
  replace XN := Lib.hid (XN.out.later hb)
  replace Z := Lib.hid (Z.out.later hb)
  replace HB := Lib.hid (bthen HB.out hb)
  clear hb
  clear kXN0 kXN1 kXN2 kXN3 kXN4
  have RM := Lib.hid hr;clear hr
  obtain ⟨kXN0,kXN1,kXN2,kXN3,kXN4⟩ := XN.out
  replace RM := Lib.hid (RM.out.set XN.out.2.1 (by intro x;simp) (.slice as2 ns ns))
  replace RP := Lib.hid (RP.out.set XN.out.2.1 (by intro x;simp) (.slice as2 ns ns))
  replace Z := Lib.hid (Z.out.farS (g' := w1.heap.size) (o := 1) (by omega) (.slice as2 ns ns))
  replace XN := Lib.hid (XN.out.set1 (.slice as2 ns ns))
  replace HB := Lib.hid (HB.out.setCell (p := ⟨w1.heap.size,1,none⟩) (by simp;omega) (.slice as2 ns ns))
  go_wp2_with fail
  refine (over_any _ _ _ _ _ _ _ _).mono ?_
  rintro e w6 ⟨rfl,hb⟩
  replace RP := Lib.hid (RP.out.later hb)
  replace RM := Lib.hid (RM.out.later hb)
  replace XN := Lib.hid (XN.out.later hb)
  replace Z := Lib.hid (Z.out.later hb)
  replace HB := Lib.hid (bthen HB.out hb)
  clear hb
  clear kXN0 kXN1 kXN2 kXN3 kXN4
  go_wp2_with fail
  refine (normR K K q RM.out RP.out (by rw [val_limbs,val_limbs];exact HR.out) (by omega) (by omega) hK hK1 hK).mono ?_
  rintro e w7 ⟨ar,nr,cr,br,mr,dr,rfl,h5,h6,hr,hr2,hb⟩
  replace RP := Lib.hid (RP.out.later hb)
  replace RM := Lib.hid (RM.out.later hb)
  replace XN := Lib.hid (XN.out.later hb)
  replace Z := Lib.hid (Z.out.later hb)
  replace HB := Lib.hid (bthen HB.out hb)
  clear hb
  have RA := Lib.hid hr;clear hr
  have RB := Lib.hid hr2;clear hr2
  obtain ⟨kZ0,kZ1,kZ2,kZ3,kZ4,kZ5,kZ6⟩ := Z.out
  go_wp2
  exact bodyPost_ret (v := .tuple #[.agg #[.bool (decide (q.num < 0)),.slice ar nr cr,.slice br mr dr],.int .i64 0]) (by simp [results,Tryz.results109,go_sem, *]) rfl
    ⟨ar,nr,cr,br,mr,dr,rfl,h5,h6,RA.out.put3 Z.out _ _ _,RB.out.put3 Z.out _ _ _,below_put3 HB.out (by omega) _ _ _⟩
end Go.Proofs.YtkcgikoploohkaaGreatDoor
