import Derived.Test.YtkcgikoploohkaaGreatDoorIA
import Derived.Test.YtkcgikoploohkaaGreatDoorIC
namespace Go.Proofs.YtkcgikoploohkaaGreatDoor
set_option linter.unusedVariables false
set_option linter.unusedSimpArgs false
set_option maxRecDepth 100000
open Go.RowKit Nums
def IntS (k : Nat) (s : Bool) (Z : Int) (w : World) (e : Ending) (w' : World) : Prop :=
  ∃ a m c,e = .returned (.agg #[.bool s,.slice a m c])∧m≤k∧Row w' a m c (limbs Z.natAbs)∧Below w.heap.size w w'
theorem rnormS (k : Nat) (Z : Int) {s s' : Bool} {a : Option Addr} {n c : Nat} {xs : List Nat} {w : World} (h0 : Row w a n c xs) (hX : sv s (val xs) = Z) (hn : n≤100) (hk : (limbs Z.natAbs).length≤k) (hs : decide (Z < 0) = s') :
    Calls Tryz.prog 97 #[.agg #[.bool s,.slice a n c]] w (IntS k s' Z w) := by
  subst hs;exact rnormI k Z h0 hX hn hk
set_option maxRecDepth 100000 in
set_option maxHeartbeats 4000000 in
theorem raddI_same (k : Nat) (X Y Z : Int) (s t : Bool) (s' : Bool) (hs : decide (X < 0) = s') (ht : decide (Y < 0) = s') (a b : Option Addr) (n c m d : Nat) (xs ys : List Nat) (w : World) (h0 : Row w a n c xs) (h1 : Row w b m d ys) (hn : n≤70) (hm : m≤70) (hX : sv s (val xs) = X) (hY : sv t (val ys) = Y) (hZ : sv s' (X.natAbs + Y.natAbs) = Z) (hk : (limbs Z.natAbs).length≤k) (hkb : k≤100) :
    Calls Tryz.prog 138 #[.agg #[.bool s,.slice a n c],.agg #[.bool t,.slice b m d]] w (IntK k Z w) := by
  have HX3 := Lib.hid (box_three w (.bool s) (.slice a n c) (.bool t) (.slice b m d) (.bool false) (.slice none 0 0))
  have XA := Lib.hid HX3.out.1
  have XB := Lib.hid HX3.out.2.1
  have XC := Lib.hid HX3.out.2.2
  clear HX3
  have HB := Lib.hid (below_three w (.cells #[.bool s,.slice a n c] 25) (.cells #[.bool t,.slice b m d] 25) (.cells #[.bool false,.slice none 0 0] 25))
  have LX : Hid ((limbs X.natAbs).length≤70) := lenZ_raw h0 hn hX
  have LY : Hid ((limbs Y.natAbs).length≤70) := lenZ_raw h1 hm hY
  have RA := Lib.hid (h0.later HB.out);clear h0
  have RB := Lib.hid (h1.later HB.out);clear h1
  have HX := Lib.hid hX;clear hX
  have HY := Lib.hid hY;clear hY
  have HM := Lib.hid (len_sv hZ hk)
  have HZ : Hid (sv s' (val (limbs (X.natAbs + Y.natAbs))) = Z) := by show _ = _;rw [val_limbs];exact hZ
  clear hZ
  have HK := Lib.hid hk;clear hk
  have HS := Lib.hid hs;clear hs
  have HT := Lib.hid ht;clear ht
  go_enter Tryz.func138,Tryz.ntmps138
  go_wp2_with fail
  refine (rnormS 70 X RA.out HX.out (by omega) LX.out HS.out).mono ?_
  rintro e w1 ⟨a1,m1,c1,rfl,hm1,hrow,hb⟩
  replace RA := Lib.hid hrow;clear hrow
  replace RB := Lib.hid (RB.out.later hb)
  replace XA := Lib.hid (XA.out.later hb)
  replace XB := Lib.hid (XB.out.later hb)
  replace XC := Lib.hid (XC.out.later hb)
  replace HB := Lib.hid (bthen HB.out hb);clear hb
  obtain ⟨k0,k1,k2,k3,k4⟩ := XA.out
  replace RA := Lib.hid (RA.out.put k0 k1 (.bool s') (.slice a1 m1 c1))
  replace RB := Lib.hid (RB.out.put k0 k1 (.bool s') (.slice a1 m1 c1))
  replace XA := Lib.hid (XA.out.put (.bool s') (.slice a1 m1 c1))
  replace XB := Lib.hid (XB.out.far (g' := w.heap.size) (by omega) (.bool s') (.slice a1 m1 c1))
  replace XC := Lib.hid (XC.out.far (g' := w.heap.size) (by omega) (.bool s') (.slice a1 m1 c1))
  replace HB := Lib.hid (below_put HB.out (Nat.le_refl _) (.bool s') (.slice a1 m1 c1))
  obtain ⟨j0,j1,j2,j3,j4⟩ := XB.out
  go_wp2_with fail
  refine (rnormS 70 Y RB.out HY.out (by omega) LY.out HT.out).mono ?_
  rintro e w2 ⟨a2,m2,c2,rfl,hm2,hrow,hb⟩
  clear k0 k1 k2 k3 k4 j0 j1 j2 j3 j4
  replace RB := Lib.hid hrow;clear hrow
  replace RA := Lib.hid (RA.out.later hb)
  replace XA := Lib.hid (XA.out.later hb)
  replace XB := Lib.hid (XB.out.later hb)
  replace XC := Lib.hid (XC.out.later hb)
  replace HB := Lib.hid (bthen HB.out hb);clear hb
  obtain ⟨j0,j1,j2,j3,j4⟩ := XB.out
  replace RA := Lib.hid (RA.out.put j0 j1 (.bool s') (.slice a2 m2 c2))
  replace RB := Lib.hid (RB.out.put j0 j1 (.bool s') (.slice a2 m2 c2))
  replace XA := Lib.hid (XA.out.far (g' := w.heap.size + 1) (by omega) (.bool s') (.slice a2 m2 c2))
  replace XB := Lib.hid (XB.out.put (.bool s') (.slice a2 m2 c2))
  replace XC := Lib.hid (XC.out.far (g' := w.heap.size + 1) (by omega) (.bool s') (.slice a2 m2 c2))
  replace HB := Lib.hid (below_put HB.out (Nat.le_succ _) (.bool s') (.slice a2 m2 c2))
  obtain ⟨k0,k1,k2,k3,k4⟩ := XA.out
  go_wp2_with fail
  clear j0 j1 j2 j3 j4 k0 k1 k2 k3 k4
  replace RA := Lib.hid RA.out.drew
  replace RB := Lib.hid RB.out.drew
  replace XA := Lib.hid XA.out.drew
  replace XB := Lib.hid XB.out.drew
  replace XC := Lib.hid XC.out.drew
  replace HB := Lib.hid HB.out.drew
  obtain ⟨k0,k1,k2,k3,k4⟩ := XA.out
  obtain ⟨j0,j1,j2,j3,j4⟩ := XB.out
  go_region_held3 (fun w' => w'.cell? ⟨w.heap.size,0,none⟩ = some (.bool s')∧w'.cell? ⟨w.heap.size,1,none⟩ = some (.slice a1 m1 c1)∧w'.cell? ⟨w.heap.size + 1,0,none⟩ = some (.bool s')∧w'.cell? ⟨w.heap.size + 1,1,none⟩ = some (.slice a2 m2 c2))
    (first | (refine ⟨?_, ?_, ?_, ?_⟩ <;> assumption) | exact keep_four XA.out XB.out | (go_keep;done))
    (first
      | (go_at_call 73
         refine (raddN k (X.natAbs + Y.natAbs) RA.out RB.out (val_limbs _) (val_limbs _) (by omega) (by omega) rfl HM.out).mono ?_
         rintro e w4 ⟨a4,m4,c4,rfl,hm4,hrow,hb⟩
         have RS := Lib.hid hrow;clear hrow
         clear k0 k1 k2 k3 k4 j0 j1 j2 j3 j4
         replace XA := Lib.hid (XA.out.later hb)
         replace XB := Lib.hid (XB.out.later hb)
         replace XC := Lib.hid (XC.out.later hb)
         replace HB := Lib.hid (bthen HB.out hb);clear hb
         obtain ⟨k0,k1,k2,k3,k4⟩ := XA.out
         obtain ⟨j0,j1,j2,j3,j4⟩ := XB.out)
      | (go_at_call 97
         refine (rnormI k Z RS.out HZ.out (by omega) HK.out).mono ?_
         rintro e w5 ⟨a5,m5,c5,rfl,hm5,hrow,hb⟩
         have RZ := Lib.hid hrow;clear hrow
         clear k0 k1 k2 k3 k4 j0 j1 j2 j3 j4
         replace XA := Lib.hid (XA.out.later hb)
         replace XB := Lib.hid (XB.out.later hb)
         replace XC := Lib.hid (XC.out.later hb)
         replace HB := Lib.hid (bthen HB.out hb);clear hb
         obtain ⟨k0,k1,k2,k3,k4⟩ := XA.out
         obtain ⟨j0,j1,j2,j3,j4⟩ := XB.out
         obtain ⟨q0,q1,q2,q3,q4⟩ := XC.out))
  go_wp2
  exact bodyPost_ret (v := .agg #[.bool (decide (Z < 0)),.slice a5 m5 c5]) (by simp [results,Tryz.results138,go_sem, *]) rfl ⟨a5,m5,c5,rfl,hm5,RZ.out.put q0 q1 _ _,below_put HB.out (by omega) _ _⟩
set_option maxRecDepth 100000 in
set_option maxHeartbeats 4000000 in
theorem raddI_ge (k : Nat) (X Y Z : Int) (s t : Bool) (s' t' : Bool) (hs : decide (X < 0) = s') (ht : decide (Y < 0) = t') (hst : (s' == t') = false) (hle : Y.natAbs≤X.natAbs) (a b : Option Addr) (n c m d : Nat) (xs ys : List Nat) (w : World) (h0 : Row w a n c xs) (h1 : Row w b m d ys) (hn : n≤70) (hm : m≤70) (hX : sv s (val xs) = X) (hY : sv t (val ys) = Y) (hZ : sv s' (X.natAbs - Y.natAbs) = Z) (hk : (limbs Z.natAbs).length≤k) (hkb : k≤100) :
    Calls Tryz.prog 138 #[.agg #[.bool s,.slice a n c],.agg #[.bool t,.slice b m d]] w (IntK k Z w) := by
  have HX3 := Lib.hid (box_three w (.bool s) (.slice a n c) (.bool t) (.slice b m d) (.bool false) (.slice none 0 0))
  have XA := Lib.hid HX3.out.1
  have XB := Lib.hid HX3.out.2.1
  have XC := Lib.hid HX3.out.2.2
  clear HX3
  have HB := Lib.hid (below_three w (.cells #[.bool s,.slice a n c] 25) (.cells #[.bool t,.slice b m d] 25) (.cells #[.bool false,.slice none 0 0] 25))
  have LX : Hid ((limbs X.natAbs).length≤70) := lenZ_raw h0 hn hX
  have LY : Hid ((limbs Y.natAbs).length≤70) := lenZ_raw h1 hm hY
  have RA := Lib.hid (h0.later HB.out);clear h0
  have RB := Lib.hid (h1.later HB.out);clear h1
  have HX := Lib.hid hX;clear hX
  have HY := Lib.hid hY;clear hY
  have HM := Lib.hid (len_sv hZ hk)
  have HZ : Hid (sv s' (val (limbs (X.natAbs - Y.natAbs))) = Z) := by show _ = _;rw [val_limbs];exact hZ
  clear hZ
  have HK := Lib.hid hk;clear hk
  have HS := Lib.hid hs;clear hs
  have HT := Lib.hid ht;clear ht
  obtain ⟨V,hV⟩ : ∃ V,cmpv (val (limbs X.natAbs)) (val (limbs Y.natAbs)) = V := ⟨_,rfl⟩
  have hv : 0≤V := by rw [←hV,val_limbs,val_limbs];unfold cmpv;rw [if_neg (by omega)];split <;> omega
  have HV := Lib.hid hV;clear hV
  have HLE := Lib.hid hle;clear hle
  go_enter Tryz.func138,Tryz.ntmps138
  go_wp2_with fail
  refine (rnormS 70 X RA.out HX.out (by omega) LX.out HS.out).mono ?_
  rintro e w1 ⟨a1,m1,c1,rfl,hm1,hrow,hb⟩
  replace RA := Lib.hid hrow;clear hrow
  replace RB := Lib.hid (RB.out.later hb)
  replace XA := Lib.hid (XA.out.later hb)
  replace XB := Lib.hid (XB.out.later hb)
  replace XC := Lib.hid (XC.out.later hb)
  replace HB := Lib.hid (bthen HB.out hb);clear hb
  obtain ⟨k0,k1,k2,k3,k4⟩ := XA.out
  replace RA := Lib.hid (RA.out.put k0 k1 (.bool s') (.slice a1 m1 c1))
  replace RB := Lib.hid (RB.out.put k0 k1 (.bool s') (.slice a1 m1 c1))
  replace XA := Lib.hid (XA.out.put (.bool s') (.slice a1 m1 c1))
  replace XB := Lib.hid (XB.out.far (g' := w.heap.size) (by omega) (.bool s') (.slice a1 m1 c1))
  replace XC := Lib.hid (XC.out.far (g' := w.heap.size) (by omega) (.bool s') (.slice a1 m1 c1))
  replace HB := Lib.hid (below_put HB.out (Nat.le_refl _) (.bool s') (.slice a1 m1 c1))
  obtain ⟨j0,j1,j2,j3,j4⟩ := XB.out
  go_wp2_with fail
  refine (rnormS 70 Y RB.out HY.out (by omega) LY.out HT.out).mono ?_
  rintro e w2 ⟨a2,m2,c2,rfl,hm2,hrow,hb⟩
  clear k0 k1 k2 k3 k4 j0 j1 j2 j3 j4
  replace RB := Lib.hid hrow;clear hrow
  replace RA := Lib.hid (RA.out.later hb)
  replace XA := Lib.hid (XA.out.later hb)
  replace XB := Lib.hid (XB.out.later hb)
  replace XC := Lib.hid (XC.out.later hb)
  replace HB := Lib.hid (bthen HB.out hb);clear hb
  obtain ⟨j0,j1,j2,j3,j4⟩ := XB.out
  replace RA := Lib.hid (RA.out.put j0 j1 (.bool t') (.slice a2 m2 c2))
  replace RB := Lib.hid (RB.out.put j0 j1 (.bool t') (.slice a2 m2 c2))
  replace XA := Lib.hid (XA.out.far (g' := w.heap.size + 1) (by omega) (.bool t') (.slice a2 m2 c2))
  replace XB := Lib.hid (XB.out.put (.bool t') (.slice a2 m2 c2))
  replace XC := Lib.hid (XC.out.far (g' := w.heap.size + 1) (by omega) (.bool t') (.slice a2 m2 c2))
  replace HB := Lib.hid (below_put HB.out (Nat.le_succ _) (.bool t') (.slice a2 m2 c2))
  obtain ⟨k0,k1,k2,k3,k4⟩ := XA.out
  go_wp2_with fail
  refine (rcmpN V RA.out RB.out (by omega) (by omega) HV.out).mono ?_
  rintro e w3 ⟨rfl,hb⟩
  clear j0 j1 j2 j3 j4 k0 k1 k2 k3 k4
  replace RA := Lib.hid (RA.out.later hb)
  replace RB := Lib.hid (RB.out.later hb)
  replace XA := Lib.hid (XA.out.later hb)
  replace XB := Lib.hid (XB.out.later hb)
  replace XC := Lib.hid (XC.out.later hb)
  replace HB := Lib.hid (bthen HB.out hb);clear hb
  obtain ⟨k0,k1,k2,k3,k4⟩ := XA.out
  obtain ⟨j0,j1,j2,j3,j4⟩ := XB.out
  go_wp2_with fail
  refine (rsubN k (X.natAbs - Y.natAbs) RA.out RB.out (val_limbs _) (val_limbs _) (by omega) (by omega) HLE.out rfl HM.out).mono ?_
  rintro e w4 ⟨a4,m4,c4,rfl,hm4,hrow,hb⟩
  have RS := Lib.hid hrow;clear hrow
  clear k0 k1 k2 k3 k4 j0 j1 j2 j3 j4
  replace XA := Lib.hid (XA.out.later hb)
  replace XB := Lib.hid (XB.out.later hb)
  replace XC := Lib.hid (XC.out.later hb)
  replace HB := Lib.hid (bthen HB.out hb);clear hb
  obtain ⟨k0,k1,k2,k3,k4⟩ := XA.out
  obtain ⟨j0,j1,j2,j3,j4⟩ := XB.out
  go_wp2_with fail
  refine (rnormI k Z RS.out HZ.out (by omega) HK.out).mono ?_
  rintro e w5 ⟨a5,m5,c5,rfl,hm5,hrow,hb⟩
  have RZ := Lib.hid hrow;clear hrow
  clear k0 k1 k2 k3 k4 j0 j1 j2 j3 j4
  obtain ⟨q0,q1,q2,q3,q4⟩ := XC.out.later hb
  replace HB := Lib.hid (bthen HB.out hb);clear hb
  go_wp2
  exact bodyPost_ret (v := .agg #[.bool (decide (Z < 0)),.slice a5 m5 c5]) (by simp [results,Tryz.results138,go_sem, *]) rfl ⟨a5,m5,c5,rfl,hm5,RZ.out.put q0 q1 _ _,below_put HB.out (by omega) _ _⟩
set_option maxRecDepth 100000 in
set_option maxHeartbeats 4000000 in
theorem raddI_lt (k : Nat) (X Y Z : Int) (s t : Bool) (s' t' : Bool) (hs : decide (X < 0) = s') (ht : decide (Y < 0) = t') (hst : (s' == t') = false) (hlt : X.natAbs < Y.natAbs) (a b : Option Addr) (n c m d : Nat) (xs ys : List Nat) (w : World) (h0 : Row w a n c xs) (h1 : Row w b m d ys) (hn : n≤70) (hm : m≤70) (hX : sv s (val xs) = X) (hY : sv t (val ys) = Y) (hZ : sv t' (Y.natAbs - X.natAbs) = Z) (hk : (limbs Z.natAbs).length≤k) (hkb : k≤100) :
    Calls Tryz.prog 138 #[.agg #[.bool s,.slice a n c],.agg #[.bool t,.slice b m d]] w (IntK k Z w) := by
  have HX3 := Lib.hid (box_three w (.bool s) (.slice a n c) (.bool t) (.slice b m d) (.bool false) (.slice none 0 0))
  have XA := Lib.hid HX3.out.1
  have XB := Lib.hid HX3.out.2.1
  have XC := Lib.hid HX3.out.2.2
  clear HX3
  have HB := Lib.hid (below_three w (.cells #[.bool s,.slice a n c] 25) (.cells #[.bool t,.slice b m d] 25) (.cells #[.bool false,.slice none 0 0] 25))
  have LX : Hid ((limbs X.natAbs).length≤70) := lenZ_raw h0 hn hX
  have LY : Hid ((limbs Y.natAbs).length≤70) := lenZ_raw h1 hm hY
  have RA := Lib.hid (h0.later HB.out);clear h0
  have RB := Lib.hid (h1.later HB.out);clear h1
  have HX := Lib.hid hX;clear hX
  have HY := Lib.hid hY;clear hY
  have HM := Lib.hid (len_sv hZ hk)
  have HZ : Hid (sv t' (val (limbs (Y.natAbs - X.natAbs))) = Z) := by show _ = _;rw [val_limbs];exact hZ
  clear hZ
  have HK := Lib.hid hk;clear hk
  have HS := Lib.hid hs;clear hs
  have HT := Lib.hid ht;clear ht
  obtain ⟨V,hV⟩ : ∃ V,cmpv (val (limbs X.natAbs)) (val (limbs Y.natAbs)) = V := ⟨_,rfl⟩
  have hv : V < 0 := by rw [←hV,val_limbs,val_limbs,cmpv_lt hlt];decide
  have HV := Lib.hid hV;clear hV
  have HLE := Lib.hid (Nat.le_of_lt hlt);clear hlt
  go_enter Tryz.func138,Tryz.ntmps138
  go_wp2_with fail
  refine (rnormS 70 X RA.out HX.out (by omega) LX.out HS.out).mono ?_
  rintro e w1 ⟨a1,m1,c1,rfl,hm1,hrow,hb⟩
  replace RA := Lib.hid hrow;clear hrow
  replace RB := Lib.hid (RB.out.later hb)
  replace XA := Lib.hid (XA.out.later hb)
  replace XB := Lib.hid (XB.out.later hb)
  replace XC := Lib.hid (XC.out.later hb)
  replace HB := Lib.hid (bthen HB.out hb);clear hb
  obtain ⟨k0,k1,k2,k3,k4⟩ := XA.out
  replace RA := Lib.hid (RA.out.put k0 k1 (.bool s') (.slice a1 m1 c1))
  replace RB := Lib.hid (RB.out.put k0 k1 (.bool s') (.slice a1 m1 c1))
  replace XA := Lib.hid (XA.out.put (.bool s') (.slice a1 m1 c1))
  replace XB := Lib.hid (XB.out.far (g' := w.heap.size) (by omega) (.bool s') (.slice a1 m1 c1))
  replace XC := Lib.hid (XC.out.far (g' := w.heap.size) (by omega) (.bool s') (.slice a1 m1 c1))
  replace HB := Lib.hid (below_put HB.out (Nat.le_refl _) (.bool s') (.slice a1 m1 c1))
  obtain ⟨j0,j1,j2,j3,j4⟩ := XB.out
  go_wp2_with fail
  refine (rnormS 70 Y RB.out HY.out (by omega) LY.out HT.out).mono ?_
  rintro e w2 ⟨a2,m2,c2,rfl,hm2,hrow,hb⟩
  clear k0 k1 k2 k3 k4 j0 j1 j2 j3 j4
  replace RB := Lib.hid hrow;clear hrow
  replace RA := Lib.hid (RA.out.later hb)
  replace XA := Lib.hid (XA.out.later hb)
  replace XB := Lib.hid (XB.out.later hb)
  replace XC := Lib.hid (XC.out.later hb)
  replace HB := Lib.hid (bthen HB.out hb);clear hb
  obtain ⟨j0,j1,j2,j3,j4⟩ := XB.out
  replace RA := Lib.hid (RA.out.put j0 j1 (.bool t') (.slice a2 m2 c2))
  replace RB := Lib.hid (RB.out.put j0 j1 (.bool t') (.slice a2 m2 c2))
  replace XA := Lib.hid (XA.out.far (g' := w.heap.size + 1) (by omega) (.bool t') (.slice a2 m2 c2))
  replace XB := Lib.hid (XB.out.put (.bool t') (.slice a2 m2 c2))
  replace XC := Lib.hid (XC.out.far (g' := w.heap.size + 1) (by omega) (.bool t') (.slice a2 m2 c2))
  replace HB := Lib.hid (below_put HB.out (Nat.le_succ _) (.bool t') (.slice a2 m2 c2))
  obtain ⟨k0,k1,k2,k3,k4⟩ := XA.out
  go_wp2_with fail
  refine (rcmpN V RA.out RB.out (by omega) (by omega) HV.out).mono ?_
  rintro e w3 ⟨rfl,hb⟩
  clear j0 j1 j2 j3 j4 k0 k1 k2 k3 k4
  replace RA := Lib.hid (RA.out.later hb)
  replace RB := Lib.hid (RB.out.later hb)
  replace XA := Lib.hid (XA.out.later hb)
  replace XB := Lib.hid (XB.out.later hb)
  replace XC := Lib.hid (XC.out.later hb)
  replace HB := Lib.hid (bthen HB.out hb);clear hb
  obtain ⟨k0,k1,k2,k3,k4⟩ := XA.out
  obtain ⟨j0,j1,j2,j3,j4⟩ := XB.out
  go_wp2_with fail
  refine (rsubN k (Y.natAbs - X.natAbs) RB.out RA.out (val_limbs _) (val_limbs _) (by omega) (by omega) HLE.out rfl HM.out).mono ?_
  rintro e w4 ⟨a4,m4,c4,rfl,hm4,hrow,hb⟩
  have RS := Lib.hid hrow;clear hrow
  clear k0 k1 k2 k3 k4 j0 j1 j2 j3 j4
  replace XA := Lib.hid (XA.out.later hb)
  replace XB := Lib.hid (XB.out.later hb)
  replace XC := Lib.hid (XC.out.later hb)
  replace HB := Lib.hid (bthen HB.out hb);clear hb
  obtain ⟨k0,k1,k2,k3,k4⟩ := XA.out
  obtain ⟨j0,j1,j2,j3,j4⟩ := XB.out
  go_wp2_with fail
  refine (rnormI k Z RS.out HZ.out (by omega) HK.out).mono ?_
  rintro e w5 ⟨a5,m5,c5,rfl,hm5,hrow,hb⟩
  have RZ := Lib.hid hrow;clear hrow
  clear k0 k1 k2 k3 k4 j0 j1 j2 j3 j4
  obtain ⟨q0,q1,q2,q3,q4⟩ := XC.out.later hb
  replace HB := Lib.hid (bthen HB.out hb);clear hb
  go_wp2
  exact bodyPost_ret (v := .agg #[.bool (decide (Z < 0)),.slice a5 m5 c5]) (by simp [results,Tryz.results138,go_sem, *]) rfl ⟨a5,m5,c5,rfl,hm5,RZ.out.put q0 q1 _ _,below_put HB.out (by omega) _ _⟩
end Go.Proofs.YtkcgikoploohkaaGreatDoor
/- What the document's answer's Add, Sub, Mul, Sign and Cmp tell, in the words of the integers that they are handed. -/
namespace Go.Proofs.YtkcgikoploohkaaGreatDoor
set_option linter.unusedVariables false
set_option linter.unusedSimpArgs false
set_option maxRecDepth 100000
open Go.RowKit Nums
section
variable {s t : Bool} {a b : Option Addr} {n c m d : Nat} {xs ys : List Nat} {w : World} {X Y : Int}
theorem raddI (k : Nat) (Z : Int) (h0 : Row w a n c xs) (h1 : Row w b m d ys) (hX : sv s (val xs) = X) (hY : sv t (val ys) = Y) (hn : n≤70) (hm : m≤70) (hZ : X + Y = Z) (hk : (limbs Z.natAbs).length≤k) (hkb : k≤100) :
    Calls Tryz.prog 138 #[.agg #[.bool s,.slice a n c],.agg #[.bool t,.slice b m d]] w (IntK k Z w) := by
  by_cases hx : X < 0 <;> by_cases hy : Y < 0
  · exact raddI_same k X Y Z s t true (by simpa using hx) (by simpa using hy) a b n c m d xs ys w h0 h1 hn hm hX hY (by simp [sv];omega) hk hkb
  · rcases Nat.lt_or_ge X.natAbs Y.natAbs with h | h
    · exact raddI_lt k X Y Z s t true false (by simpa using hx) (by simpa using hy) rfl h a b n c m d xs ys w h0 h1 hn hm hX hY (by simp [sv];omega) hk hkb
    · exact raddI_ge k X Y Z s t true false (by simpa using hx) (by simpa using hy) rfl h a b n c m d xs ys w h0 h1 hn hm hX hY (by simp [sv];omega) hk hkb
  · rcases Nat.lt_or_ge X.natAbs Y.natAbs with h | h
    · exact raddI_lt k X Y Z s t false true (by simpa using hx) (by simpa using hy) rfl h a b n c m d xs ys w h0 h1 hn hm hX hY (by simp [sv];omega) hk hkb
    · exact raddI_ge k X Y Z s t false true (by simpa using hx) (by simpa using hy) rfl h a b n c m d xs ys w h0 h1 hn hm hX hY (by simp [sv];omega) hk hkb
  · exact raddI_same k X Y Z s t false (by simpa using hx) (by simpa using hy) a b n c m d xs ys w h0 h1 hn hm hX hY (by simp [sv];omega) hk hkb
end
set_option maxHeartbeats 2000000 in
theorem rmulI_any (k : Nat) (Z : Int) (s t : Bool) (a b : Option Addr) (n c m d : Nat) (xs ys : List Nat) (w : World) (h0 : Row w a n c xs) (h1 : Row w b m d ys) (hn : n≤70) (hm : m≤70) (hZ : sv s (val xs) * sv t (val ys) = Z) (hk : (limbs Z.natAbs).length≤k) (hkb : k≤100) :
    Calls Tryz.prog 139 #[.agg #[.bool s,.slice a n c],.agg #[.bool t,.slice b m d]] w (IntK k Z w) := by
  have HX := Lib.hid (box_three w (.bool s) (.slice a n c) (.bool t) (.slice b m d) (.bool false) (.slice none 0 0))
  have HW := Lib.hid (below_three w (.cells #[.bool s,.slice a n c] 25) (.cells #[.bool t,.slice b m d] 25) (.cells #[.bool false,.slice none 0 0] 25)).drew
  have H0 := Lib.hid (h0.later HW.out);clear h0
  have H1 := Lib.hid (h1.later HW.out);clear h1
  have hZ' : sv (s != t) (val xs * val ys) = Z := by rw [sv_mul];exact hZ
  have HM := Lib.hid (len_sv hZ' hk)
  have HK := Lib.hid hk;clear hk
  have HZ : Hid (sv (s != t) (val (limbs (val xs * val ys))) = Z) := by show _ = _;rw [val_limbs];exact hZ'
  clear hZ' hZ
  go_enter Tryz.func139,Tryz.ntmps139
  go_wp2_with fail
  go_region_held3 (fun w' => w'.cell? ⟨w.heap.size,0,none⟩ = some (.bool s)∧w'.cell? ⟨w.heap.size,1,none⟩ = some (.slice a n c)∧w'.cell? ⟨w.heap.size + 1,0,none⟩ = some (.bool t)∧w'.cell? ⟨w.heap.size + 1,1,none⟩ = some (.slice b m d))
    (first | exact keep_four ⟨d0,d1,g0,g1,k0⟩ ⟨d2,d3,g2,g3,k1⟩ | (go_keep;done))
    (first
      | (go_at_call 72
         refine (rmulN k (val xs * val ys) H0.out H1.out rfl rfl (by omega) (by omega) rfl HM.out).mono ?_
         rintro e w1 ⟨a1,m1,e1,rfl,hmk1,hrow,hb⟩
         have R1 := Lib.hid hrow;clear hrow
         obtain ⟨c0,c1,f0,f1,l0⟩ := HX.out.1.drew.later hb
         obtain ⟨c2,c3,f2,f3,l1⟩ := HX.out.2.1.drew.later hb
         obtain ⟨c4,c5,f4,f5,l2⟩ := HX.out.2.2.drew.later hb
         have HB := Lib.hid (bthen HW.out hb);clear hb)
      | (go_at_call 97
         refine (rnormI k Z (s := (s != t)) R1.out HZ.out (by omega) HK.out).mono ?_
         rintro e w2 ⟨a2,m2,cc2,rfl,hmk,hrow,hb⟩
         have R2 := Lib.hid hrow;clear hrow
         obtain ⟨d0,d1,g0,g1,k0⟩ := Box.later ⟨c0,c1,f0,f1,l0⟩ hb
         obtain ⟨d2,d3,g2,g3,k1⟩ := Box.later ⟨c2,c3,f2,f3,l1⟩ hb
         obtain ⟨d4,d5,g4,g5,k2⟩ := Box.later ⟨c4,c5,f4,f5,l2⟩ hb
         have HB2 := Lib.hid (bthen HB.out hb);clear hb))
  go_wp2
  exact bodyPost_ret (v := .agg #[.bool (decide (Z < 0)),.slice a2 m2 cc2]) (by simp [results,Tryz.results139,go_sem, *]) rfl ⟨a2,m2,cc2,rfl,hmk,R2.out.put d4 d5 _ _,below_put HB2.out (by omega) _ _⟩
section
variable {s t : Bool} {a b : Option Addr} {n c m d : Nat} {xs ys : List Nat} {w : World} {X Y : Int}
theorem rmulI (k : Nat) (Z : Int) (h0 : Row w a n c xs) (h1 : Row w b m d ys) (hX : sv s (val xs) = X) (hY : sv t (val ys) = Y) (hn : n≤70) (hm : m≤70) (hZ : X * Y = Z) (hk : (limbs Z.natAbs).length≤k) (hkb : k≤100) :
    Calls Tryz.prog 139 #[.agg #[.bool s,.slice a n c],.agg #[.bool t,.slice b m d]] w (IntK k Z w) := by
  subst hX;subst hY;exact rmulI_any k Z s t a b n c m d xs ys w h0 h1 hn hm hZ hk hkb
end
end Go.Proofs.YtkcgikoploohkaaGreatDoor
