import Derived.Test.YtkcgikoploohkaaGreatDoorZScAToScZ
namespace Go.Proofs.YtkcgikoploohkaaGreatDoor
set_option linter.unusedVariables false
set_option linter.unusedSimpArgs false
set_option maxRecDepth 100000
open Go.RowKit Go.Shelf Nums
theorem told_is {K J : Nat} {q : Rat} {r : RV} {xs ys : List Nat} {w : World} (h : ToldAs K J q r.s r.n r.m xs ys) (h1 : Row w r.a r.n r.c xs) (h2 : Row w r.b r.m r.d ys) : r.Is r.n r.m q w∧r.Fit q := by
  obtain ⟨e1,-,-,e2,e3⟩ := h
  subst e2;subst e3
  refine ⟨⟨_,_,h1,h2, ?_,Nat.le_refl _,Nat.le_refl _⟩,h1.1.symm,h2.1.symm⟩
  rw [e1];exact rat_limbs q
def numO (q : Rat) : Option Rat := if shortT (ratStr q) = true then some q else none
set_option maxHeartbeats 4000000 in
theorem number_yes (s : ByteArray) (q : Rat) (K J : Nat) (hp : ∀ w,Calls Tryz.prog 63 #[.string s] w (RatRes 0 (ToldAs K J q) w)) (hz : (ratStr q).size≤1000000)
    (hP : ∀ (r : RV) W,r.Is r.n r.m q W→r.Fit q→Calls Tryz.prog 80 #[.agg #[.bool r.s,.slice r.a r.n r.c,.slice r.b r.m r.d]] W fun e w' => e = .returned (.string (ratStr q))∧Below W.heap.size W w') : NumT s (numO q) := by
  intro w hg
  have HZ := Lib.hid hz
  have HP := Lib.hid hP
  have HQ := Lib.hid hp
  have HG := Lib.hid hg
  have HK := Lib.hid (Blk.new w 27 #[.bool false,.slice none 0 0,.slice none 0 0])
  have HB := Lib.hid (below_one w (.cells #[.bool false,.slice none 0 0,.slice none 0 0] 27))
  clear hz hP hp hg
  go_enter Tryz.func26,Tryz.ntmps26
  go_wp2_with (first
    | (go_at_call 44;(with_reducible refine (numberText_g (ratStr q) (r := ⟨rs,ra,rn,rc,rb,rm,rd⟩) (HG.out.later (bthen HB2.out (below_one _ _))) HZ.out ?_).mono ?_);(intro W hW;exact HP.out ⟨rs,ra,rn,rc,rb,rm,rd⟩ W ((HR.out.1.later (below_one _ _)).later hW) HR.out.2);rintro e w4 ⟨rfl,hb⟩;have hb1 := bthen (below_one w2 (.cells #[.bool rs,.slice ra rn rc,.slice rb rm rd] 27)) hb;have HR4 := Lib.hid (HR.out.1.later hb1);have HK4 := Lib.hid (HK2.out.later hb1);have HT4 := Lib.hid ((Blk.new w2 27 #[.bool rs,.slice ra rn rc,.slice rb rm rd]).later hb);have HB4 := Lib.hid (bthen HB2.out hb1);obtain ⟨t0,t1,t2,-,-,-,-⟩ := HT4.out.tri;obtain ⟨k0,k1,k2,k3,k4,k5,k6⟩ := HK4.out.tri;clear hb hb1)
    | (go_at_call 63;refine (HQ.out _).mono ?_;rintro e w2 ⟨rs,ra,rn,rc,rb,rm,rd,xs,ys,rfl,ht,h1,h2,hb⟩;have HR := Lib.hid (told_is (r := ⟨rs,ra,rn,rc,rb,rm,rd⟩) ht h1 h2);have HK2 := Lib.hid (HK.out.later hb);have HB2 := Lib.hid (bthen HB.out hb);clear ht h1 h2 hb))
  refine bodyPost_ret (v := .tuple #[.agg #[.bool rs,.slice ra rn rc,.slice rb rm rd],.bool (shortT (ratStr q))]) (by simp [results,Tryz.results26,go_sem, *]) rfl ⟨⟨rs,ra,rn,rc,rb,rm,rd⟩,shortT (ratStr q),q,rfl,HR4.out.put3 (t := ⟨false,none,0,0,none,0,0⟩) HK4.out _ _ _, ?_,below_put3 HB4.out (Nat.le_refl _) _ _ _⟩
  unfold NumOk numO
  split
  · exact ⟨rfl,HR.out.2⟩
  · rfl
set_option maxHeartbeats 4000000 in
theorem number_bad (s : ByteArray) (E : Int) (hE : (E != 0) = true) (hp : ∀ w,Calls Tryz.prog 63 #[.string s] w (RatRes E NoneAs w)) : NumT s none := by
  intro w hg
  have HQ := Lib.hid hp
  have HK := Lib.hid (Blk.new w 27 #[.bool false,.slice none 0 0,.slice none 0 0])
  have HB := Lib.hid (below_one w (.cells #[.bool false,.slice none 0 0,.slice none 0 0] 27))
  clear hp hg
  go_enter Tryz.func26,Tryz.ntmps26
  go_wp2_with (go_at_call 63;refine (HQ.out _).mono ?_;rintro e w2 ⟨rs,ra,rn,rc,rb,rm,rd,xs,ys,rfl,ht,h1,h2,hb⟩;have HK2 := Lib.hid (HK.out.later (bthen hb (below_one w2 (.cells #[.bool rs,.slice ra rn rc,.slice rb rm rd] 27))));have HB2 := Lib.hid (bthen HB.out (bthen hb (below_one w2 (.cells #[.bool rs,.slice ra rn rc,.slice rb rm rd] 27))));obtain ⟨k0,k1,k2,k3,k4,k5,k6⟩ := HK2.out.tri;clear ht h1 h2 hb)
  exact bodyPost_ret (v := .tuple #[.agg #[.bool false,.slice none 0 0,.slice none 0 0],.bool false]) (by simp [results,Tryz.results26,go_sem, *]) rfl ⟨rv0,false,0,rfl,rv0_is _,rfl,below_put3 HB2.out (Nat.le_refl _) _ _ _⟩
theorem print_fit {q : Rat} (h1 : (limbs q.num.natAbs).length≤12) (h2 : (limbs q.den).length≤12) (r : RV) (W : World) (h : r.Is r.n r.m q W) (hf : r.Fit q) : Calls Tryz.prog 80 #[.agg #[.bool r.s,.slice r.a r.n r.c,.slice r.b r.m r.d]] W fun e w' => e = .returned (.string (ratStr q))∧Below W.heap.size W w' := by
  obtain ⟨xs,ys,g1,g2,g3,-,-⟩ := h
  exact printR (ratStr q) q g1 g2 g3 (by rw [hf.1];exact h1) (by rw [hf.2];exact h2) rfl
theorem number_small (s : ByteArray) (q : Rat) (K J : Nat) (hp : ∀ w,Calls Tryz.prog 63 #[.string s] w (RatRes 0 (ToldAs K J q) w)) (h1 : (limbs q.num.natAbs).length≤12) (h2 : (limbs q.den).length≤12) : NumT s (some q) := by
  have hs := ratStr_size h1 h2
  have := number_yes s q K J hp (by omega) (print_fit h1 h2)
  unfold numO at this
  rwa [if_pos (shortT_small (by omega))] at this
end Go.Proofs.YtkcgikoploohkaaGreatDoor
namespace Go.Proofs.YtkcgikoploohkaaGreatDoor
set_option linter.unusedVariables false
set_option linter.unusedSimpArgs false
set_option maxRecDepth 100000
open Go.RowKit Go.Shelf Nums
theorem printNX {a0 : Option Addr} {n0 c0 : Nat} {xs : List Nat} {w : World} (T : ByteArray) (h0 : Row w a0 n0 c0 xs) (hn : n0≤90) (hT : decStr (val xs) = T) :
    Calls Tryz.prog 127 #[.slice a0 n0 c0] w fun e w' => e = .returned (.string T)∧Below w.heap.size w w' := by
  subst hT
  exact print_any a0 n0 c0 xs w h0 (by omega)
theorem dec_lenX {N k : Nat} (h : (limbs N).length≤90) (hk : 900≤k) : (decStr N).size≤k := by
  refine size_dec_le N k (by omega) (Nat.lt_of_lt_of_le (Nat.lt_of_lt_of_le (lt_pow_len N) (Nat.pow_le_pow_right (by omega) h)) ?_)
  have hk' : 10 * 90≤k := by omega
  have h3 : ∀ (X m : Nat),m≤k→X≤10 ^ m→X≤10 ^ k := fun X m hm hx => Nat.le_trans hx (Nat.pow_le_pow_right (by decide) hm)
  have h2 : (4294967296 : Nat) ^ 90≤(10 ^ 10) ^ 90 := Nat.pow_le_pow_left (by omega) _
  rw [←Nat.pow_mul] at h2
  exact h3 _ _ hk' h2
theorem decI_lenX {Z : Int} (h : (limbs Z.natAbs).length≤90) : (decI Z).size≤901 := by
  have := dec_lenX (k := 900) h (by omega)
  unfold decI;split
  · rw [ByteArray.size_append];show 1 + _≤_;omega
  · omega
set_option maxHeartbeats 1000000 in
theorem printIX (T : ByteArray) (Z : Int) (s : Bool) (a : Option Addr) (n c : Nat) (xs : List Nat) (w : World) (hr : Row w a n c xs) (hn : n≤90) (hZ : sv s (val xs) = Z) (hT : decI Z = T) (hsz : (decStr (val xs)).size≤1000) :
    Calls Tryz.prog 126 #[.agg #[.bool s,.slice a n c]] w fun e w' => e = .returned (.string T)∧Below w.heap.size w w' := by
  subst hT
  have HX := Lib.hid (box_new w (.bool s) (.slice a n c))
  have HW := Lib.hid (below_one w (.cells #[.bool s,.slice a n c] 25))
  have HR := Lib.hid (hr.later HW.out);clear hr
  have HA : Hid (val xs = Z.natAbs) := by show _ = _;rw [←hZ,natAbs_sv]
  have HZ := Lib.hid hZ;clear hZ
  obtain ⟨T,hT⟩ : ∃ T,decStr (val xs) = T := ⟨_,rfl⟩
  have hsz2 : 1 + T.size≤9223372036854775807 := by rw [←hT];omega
  have HT := Lib.hid hT;clear hT hsz
  by_cases h : Z < 0
  · have hs : sgn Z = -1 := by rw [sgn,if_pos h]
    have HS := Lib.hid hs;clear hs
    have e : decI Z = ⟨#[45]⟩ ++ T := by rw [decI,if_pos h,←HT.out,HA.out]
    rw [e];clear e
    clear h
    go_enter Tryz.func126,Tryz.ntmps126
    go_wp2_with fail
    refine (sign_any Z s a n c xs _ HR.out (by omega) HZ.out).mono ?_
    rw [HS.out]
    rintro e w1 ⟨rfl,hb⟩
    obtain ⟨d0,d1,g0,g1,k0⟩ := HX.out.later hb
    have R1 := Lib.hid (HR.out.later hb)
    have HB := Lib.hid (bthen HW.out hb);clear hb
    go_wp2_with fail
    refine (printNX T R1.out hn HT.out).mono ?_
    rintro e w2 ⟨rfl,hb⟩
    have HB2 := Lib.hid (bthen HB.out hb);clear hb
    go_wp2
    go_ret
    exact ⟨rfl,HB2.out⟩
  · obtain ⟨S,hS⟩ : ∃ S,sgn Z = S := ⟨_,rfl⟩
    have hs : 0≤S := by rw [←hS,sgn,if_neg h];split <;> omega
    have HS := Lib.hid hS;clear hS
    have e : decI Z = T := by rw [decI,if_neg h,←HT.out,HA.out]
    rw [e];clear e
    clear h
    go_enter Tryz.func126,Tryz.ntmps126
    go_wp2_with fail
    refine (sign_any Z s a n c xs _ HR.out (by omega) HZ.out).mono ?_
    rw [HS.out]
    rintro e w1 ⟨rfl,hb⟩
    obtain ⟨d0,d1,g0,g1,k0⟩ := HX.out.later hb
    have R1 := Lib.hid (HR.out.later hb)
    have HB := Lib.hid (bthen HW.out hb);clear hb
    go_wp2_with fail
    refine (printNX T R1.out hn HT.out).mono ?_
    rintro e w2 ⟨rfl,hb⟩
    have HB2 := Lib.hid (bthen HB.out hb);clear hb
    go_wp2
    go_ret
    exact ⟨rfl,HB2.out⟩
set_option maxHeartbeats 4000000 in
theorem printR_oneX (T : ByteArray) (q : Rat) {s : Bool} {a b : Option Addr} {n c m d : Nat} {xs ys : List Nat} {w : World} (h0 : Row w a n c xs) (h1 : Row w b m d ys) (hq : mkRat (sv s (val xs)) (val ys) = q) (hn : n≤90) (hm : m≤90) (hD : q.den = 1) (hT : ratStr q = T) :
    Calls Tryz.prog 80 #[.agg #[.bool s,.slice a n c,.slice b m d]] w fun e w' => e = .returned (.string T)∧Below w.heap.size w w' := by
  have HB := Lib.hid (below_one w (.cells #[.bool s,.slice a n c,.slice b m d] 27))
  have X0 : Hid (Tri (w.alloc (.cells #[.bool s,.slice a n c,.slice b m d] 27)) (w.heap.size) (.bool s) (.slice a n c) (.slice b m d)) := (tri_new _ (.bool s) (.slice a n c) (.slice b m d))
  have R0 := Lib.hid (h0.later HB.out);clear h0
  have R1 := Lib.hid (h1.later HB.out);clear h1
  have HQ := Lib.hid hq;clear hq
  go_enter Tryz.func80,Tryz.ntmps80
  go_wp2_with fail
  refine (normR 90 90 q R0.out R1.out HQ.out hn hm (by omega) (by omega) (by omega)).mono ?_
  rintro e w1 ⟨ar,nr,cr,br,mr,dr,rfl,h2,h3,hr,hr2,hb⟩
  replace X0 := Lib.hid (X0.out.later hb)
  replace HB := Lib.hid (bthen HB.out hb)
  clear hb
  have RA := Lib.hid hr;clear hr
  have RB := Lib.hid hr2;clear hr2 R0 R1 HQ
  obtain ⟨kX00,kX01,kX02,kX03,kX04,kX05,kX06⟩ := X0.out
  have X0' := Lib.hid X0.out
  replace RA := Lib.hid (RA.out.put3 X0'.out (.bool (decide (q.num < 0))) (.slice ar nr cr) (.slice br mr dr))
  replace RB := Lib.hid (RB.out.put3 X0'.out (.bool (decide (q.num < 0))) (.slice ar nr cr) (.slice br mr dr))
  replace X0 := Lib.hid (X0.out.put (.bool (decide (q.num < 0))) (.slice ar nr cr) (.slice br mr dr))
  replace HB := Lib.hid (below_put3 (g := w.heap.size) HB.out (by omega) (.bool (decide (q.num < 0))) (.slice ar nr cr) (.slice br mr dr))
  clear X0'
  obtain ⟨U,hU⟩ : ∃ U,decI q.num = U := ⟨_,rfl⟩
  obtain ⟨V,hV⟩ : ∃ V,decStr q.den = V := ⟨_,rfl⟩
  have lU : U.size≤901 := by rw [←hU];exact decI_lenX (by rw [RA.out.1];omega)
  have lV : V.size≤900 := by rw [←hV];exact dec_lenX (by rw [RB.out.1];omega) (by omega)
  have LQ := Lib.hid (show (decStr (val (limbs q.num.natAbs))).size≤1000 by rw [val_limbs];exact dec_lenX (by rw [RA.out.1];omega) (by omega))
  have hV1 : V = ⟨#[49]⟩ := by rw [←hV,hD];exact decStr_one
  have hTU : T = U := by rw [←hT,←hU,ratStr,if_pos hD]
  subst hV1;subst hTU
  have HV := Lib.hid (show decStr (val (limbs q.den)) = ⟨#[49]⟩ by rw [val_limbs];exact hV)
  have HU := Lib.hid hU;clear hU hV hT hD
  go_wp2_with fail
  refine (printIX T q.num _ _ _ _ _ _ RA.out h2 (sv_limbs _) HU.out LQ.out).mono ?_
  rintro e w2 ⟨rfl,hb⟩
  replace RA := Lib.hid (RA.out.later hb)
  replace RB := Lib.hid (RB.out.later hb)
  replace X0 := Lib.hid (X0.out.later hb)
  replace HB := Lib.hid (bthen HB.out hb)
  clear hb
  clear kX00 kX01 kX02 kX03 kX04 kX05 kX06
  obtain ⟨kX00,kX01,kX02,-,-,-,-⟩ := X0.out
  go_wp2_with fail
  refine (printNX ⟨#[49]⟩ RB.out h3 HV.out).mono ?_
  rintro e w3 ⟨rfl,hb⟩
  replace RA := Lib.hid (RA.out.later hb)
  replace RB := Lib.hid (RB.out.later hb)
  replace X0 := Lib.hid (X0.out.later hb)
  replace HB := Lib.hid (bthen HB.out hb)
  clear hb
  clear kX00 kX01 kX02
  obtain ⟨kX00,kX01,kX02,-,-,-,-⟩ := X0.out
  go_wp2
  go_ret
  exact ⟨rfl,HB.out⟩
set_option maxHeartbeats 4000000 in
theorem printR_twoX (T : ByteArray) (q : Rat) {s : Bool} {a b : Option Addr} {n c m d : Nat} {xs ys : List Nat} {w : World} (h0 : Row w a n c xs) (h1 : Row w b m d ys) (hq : mkRat (sv s (val xs)) (val ys) = q) (hn : n≤90) (hm : m≤90) (hD : q.den≠1) (hT : ratStr q = T) :
    Calls Tryz.prog 80 #[.agg #[.bool s,.slice a n c,.slice b m d]] w fun e w' => e = .returned (.string T)∧Below w.heap.size w w' := by
  have HB := Lib.hid (below_one w (.cells #[.bool s,.slice a n c,.slice b m d] 27))
  have X0 : Hid (Tri (w.alloc (.cells #[.bool s,.slice a n c,.slice b m d] 27)) (w.heap.size) (.bool s) (.slice a n c) (.slice b m d)) := (tri_new _ (.bool s) (.slice a n c) (.slice b m d))
  have R0 := Lib.hid (h0.later HB.out);clear h0
  have R1 := Lib.hid (h1.later HB.out);clear h1
  have HQ := Lib.hid hq;clear hq
  go_enter Tryz.func80,Tryz.ntmps80
  go_wp2_with fail
  refine (normR 90 90 q R0.out R1.out HQ.out hn hm (by omega) (by omega) (by omega)).mono ?_
  rintro e w1 ⟨ar,nr,cr,br,mr,dr,rfl,h2,h3,hr,hr2,hb⟩
  replace X0 := Lib.hid (X0.out.later hb)
  replace HB := Lib.hid (bthen HB.out hb)
  clear hb
  have RA := Lib.hid hr;clear hr
  have RB := Lib.hid hr2;clear hr2 R0 R1 HQ
  obtain ⟨kX00,kX01,kX02,kX03,kX04,kX05,kX06⟩ := X0.out
  have X0' := Lib.hid X0.out
  replace RA := Lib.hid (RA.out.put3 X0'.out (.bool (decide (q.num < 0))) (.slice ar nr cr) (.slice br mr dr))
  replace RB := Lib.hid (RB.out.put3 X0'.out (.bool (decide (q.num < 0))) (.slice ar nr cr) (.slice br mr dr))
  replace X0 := Lib.hid (X0.out.put (.bool (decide (q.num < 0))) (.slice ar nr cr) (.slice br mr dr))
  replace HB := Lib.hid (below_put3 (g := w.heap.size) HB.out (by omega) (.bool (decide (q.num < 0))) (.slice ar nr cr) (.slice br mr dr))
  clear X0'
  obtain ⟨U,hU⟩ : ∃ U,decI q.num = U := ⟨_,rfl⟩
  obtain ⟨V,hV⟩ : ∃ V,decStr q.den = V := ⟨_,rfl⟩
  have lU : U.size≤901 := by rw [←hU];exact decI_lenX (by rw [RA.out.1];omega)
  have lV : V.size≤900 := by rw [←hV];exact dec_lenX (by rw [RB.out.1];omega) (by omega)
  have LQ := Lib.hid (show (decStr (val (limbs q.num.natAbs))).size≤1000 by rw [val_limbs];exact dec_lenX (by rw [RA.out.1];omega) (by omega))
  have hTU : T = U ++ (⟨#[47]⟩ ++ V) := by rw [←hT,←hU,←hV,ratStr,if_neg hD]
  have hne : V≠⟨#[49]⟩ := by intro h;rw [h,←decStr_one] at hV;exact hD (decStr_inj hV)
  have hvl := toList_ne hne
  have hv1 : (V.toList == [49]) = false := by rw [beq_eq_false_iff_ne];exact hvl
  have hv2 : (V.toList != [49]) = true := by rw [bne_iff_ne];exact hvl
  have hv3 : ([49] == V.toList) = false := by rw [beq_eq_false_iff_ne];exact fun h => hvl h.symm
  have hv4 : ([49] != V.toList) = true := by rw [bne_iff_ne];exact fun h => hvl h.symm
  clear hvl
  have HTU := Lib.hid hTU;clear hTU hne
  have s1 : 1 + V.size≤9223372036854775807 := by omega
  have s2 : U.size + (1 + V.size)≤9223372036854775807 := by omega
  have HV := Lib.hid (show decStr (val (limbs q.den)) = V by rw [val_limbs];exact hV)
  have HU := Lib.hid hU;clear hU hV hT hD
  go_wp2_with fail
  refine (printIX U q.num _ _ _ _ _ _ RA.out h2 (sv_limbs _) HU.out LQ.out).mono ?_
  rintro e w2 ⟨rfl,hb⟩
  replace RA := Lib.hid (RA.out.later hb)
  replace RB := Lib.hid (RB.out.later hb)
  replace X0 := Lib.hid (X0.out.later hb)
  replace HB := Lib.hid (bthen HB.out hb)
  clear hb
  clear kX00 kX01 kX02 kX03 kX04 kX05 kX06
  obtain ⟨kX00,kX01,kX02,-,-,-,-⟩ := X0.out
  go_wp2_with fail
  refine (printNX V RB.out h3 HV.out).mono ?_
  rintro e w3 ⟨rfl,hb⟩
  replace RA := Lib.hid (RA.out.later hb)
  replace RB := Lib.hid (RB.out.later hb)
  replace X0 := Lib.hid (X0.out.later hb)
  replace HB := Lib.hid (bthen HB.out hb)
  clear hb
  clear kX00 kX01 kX02
  obtain ⟨kX00,kX01,kX02,-,-,-,-⟩ := X0.out
  go_wp2
  go_ret
  exact ⟨by rw [HTU.out];rfl,HB.out⟩
theorem printRX (T : ByteArray) (q : Rat) {s : Bool} {a b : Option Addr} {n c m d : Nat} {xs ys : List Nat} {w : World} (h0 : Row w a n c xs) (h1 : Row w b m d ys) (hq : mkRat (sv s (val xs)) (val ys) = q) (hn : n≤90) (hm : m≤90) (hT : ratStr q = T) :
    Calls Tryz.prog 80 #[.agg #[.bool s,.slice a n c,.slice b m d]] w fun e w' => e = .returned (.string T)∧Below w.heap.size w w' := by
  by_cases h : q.den = 1
  · exact printR_oneX T q h0 h1 hq hn hm h hT
  · exact printR_twoX T q h0 h1 hq hn hm h hT
theorem print_fitX {q : Rat} (h1 : (limbs q.num.natAbs).length≤90) (h2 : (limbs q.den).length≤90) (r : RV) (W : World) (h : r.Is r.n r.m q W) (hf : r.Fit q) : Calls Tryz.prog 80 #[.agg #[.bool r.s,.slice r.a r.n r.c,.slice r.b r.m r.d]] W fun e w' => e = .returned (.string (ratStr q))∧Below W.heap.size W w' := by
  obtain ⟨xs,ys,g1,g2,g3,-,-⟩ := h
  exact printRX (ratStr q) q g1 g2 g3 (by rw [hf.1];exact h1) (by rw [hf.2];exact h2) rfl
theorem ratStr_sizeX {q : Rat} (h1 : (limbs q.num.natAbs).length≤90) (h2 : (limbs q.den).length≤90) : (ratStr q).size≤1802 := by
  have e1 := decI_lenX h1
  have e2 := dec_lenX h2 (Nat.le_refl 900)
  have s2 : (⟨#[47]⟩ : ByteArray).size = 1 := rfl
  unfold ratStr
  split
  · omega
  · simp only [ByteArray.size_append,s2];omega
theorem number_is (s : ByteArray) (q : Rat) (K J : Nat) (hp : ∀ w,Calls Tryz.prog 63 #[.string s] w (RatRes 0 (ToldAs K J q) w)) (h1 : (limbs q.num.natAbs).length≤90) (h2 : (limbs q.den).length≤90) : NumT s (numO q) :=
  number_yes s q K J hp (by have := ratStr_sizeX h1 h2;omega) (print_fitX h1 h2)
end Go.Proofs.YtkcgikoploohkaaGreatDoor
namespace Go.Proofs.YtkcgikoploohkaaGreatDoor
set_option linter.unusedVariables false
set_option linter.unusedSimpArgs false
set_option maxRecDepth 100000
open Go.RowKit Go.Shelf Nums
theorem calls_ex {P : Program} {f : FuncId} {args : Array Value} {w : World} {R : Ending→World→Prop} (h : Calls P f args w R) : ∃ e w',R e w' := by
  obtain ⟨e,w',_,hr,_⟩ := h [];exact ⟨e,w',hr⟩
theorem pow_room9 (n m : Nat) (h0 : 0 < m) (h : n≤9 * m) : (10 : Nat) ^ n < 4294967296 ^ m := by
  have h1 : (10 : Nat) ^ n≤10 ^ (9 * m) := Nat.pow_le_pow_right (by omega) h
  rw [Nat.pow_mul] at h1
  exact Nat.lt_of_le_of_lt h1 (Nat.pow_lt_pow_left (by omega) (by omega))
theorem signed_sizeP {s u : ByteArray} {neg : Bool} (h : Signed s neg u) : u.size≤s.size := by
  rcases h with ⟨-,e⟩ | ⟨-,e,-⟩
  · have := congrArg List.length e
    rw [List.length_cons,←Lib.size_eq s,←Lib.size_eq u] at this
    omega
  · subst e;exact Nat.le_refl _
theorem dig_cases (u : ByteArray) : (0 < u.size∧allDig u∧u.size≤300)∨(allDig u∧300 < u.size)∨(u.size = 0∨¬ allDig u) := by
  by_cases hd : allDig u
  · rcases Nat.eq_zero_or_pos u.size with h | h
    · exact .inr (.inr (.inl h))
    · rcases Nat.lt_or_ge 300 u.size with g | g
      · exact .inr (.inl ⟨hd,g⟩)
      · exact .inl ⟨h,hd,g⟩
  · exact .inr (.inr (.inr hd))
theorem int_cases (h u : ByteArray) (neg : Bool) (HS : Signed h neg u) (hs : u.size≤1000000) :
    (0 < u.size∧allDig u∧u.size≤300)∨(∀ w,Calls Tryz.prog 110 #[.string h] w (AnyI 2 w))∨∀ w,Calls Tryz.prog 110 #[.string h] w (AnyI 4 w) := by
  rcases dig_cases u with h1 | ⟨h1,h2⟩ | h1
  · exact .inl h1
  · exact .inr (.inl fun w => (parseI_err 2 h u neg w HS (by decide) (fun w => parse_long u w (by omega) h1 h2)).mono fun _ _ h => ⟨_,_,_,_,h.1,h.2⟩)
  · exact .inr (.inr fun w => (parseI_err 4 h u neg w HS (by decide) (fun w => parse_bad u w (by omega) h1)).mono fun _ _ h => ⟨_,_,_,_,h.1,h.2⟩)
theorem nat_cases (t : ByteArray) (hs : t.size≤1000000) :
    (0 < t.size∧allDig t∧t.size≤300)∨(∀ w,Calls Tryz.prog 155 #[.string t] w (AnyN 2 w))∨∀ w,Calls Tryz.prog 155 #[.string t] w (AnyN 4 w) := by
  rcases dig_cases t with h1 | ⟨h1,h2⟩ | h1
  · exact .inl h1
  · exact .inr (.inl fun w => (parse_long t w (by omega) h1 h2).mono (by rintro e w' ⟨rfl,rfl⟩;exact ⟨_,_,_,rfl,Below.refl _ _⟩))
  · exact .inr (.inr fun w => (parse_bad t w (by omega) h1).mono (by rintro e w' ⟨rfl,rfl⟩;exact ⟨_,_,_,rfl,Below.refl _ _⟩))
theorem parts_cases (h t u : ByteArray) (neg : Bool) (HS : Signed h neg u) (hs : u.size≤1000000) (ht : t.size≤1000000) :
    ((0 < u.size∧allDig u∧u.size≤300)∧(0 < t.size∧allDig t∧t.size≤300))∨∃ G : Int,(G != 0) = true∧∀ w,Calls Tryz.prog 148 #[.string h,.string t] w (PartsErr G w) := by
  have good : (0 < u.size∧allDig u∧u.size≤300)→∀ w,Calls Tryz.prog 110 #[.string h] w (AnyI 0 w) := fun ⟨a,b,c⟩ w =>
    (int_call 50 neg h u HS a c b (by omega) (by omega) w).mono fun _ _ ⟨_,_,_,he,_,_,hb⟩ => ⟨_,_,_,_,he,hb⟩
  have goodN : (0 < t.size∧allDig t∧t.size≤300)→∀ w,Calls Tryz.prog 155 #[.string t] w (AnyN 0 w) := fun ⟨a,b,c⟩ w =>
    (nat_call 50 t a c b (by omega) (by omega) w).mono fun _ _ ⟨_,_,he,_,_,hb⟩ => ⟨_,_,_,he,hb⟩
  rcases int_cases h u neg HS hs with a | a | a <;> rcases nat_cases t ht with b | b | b
  · exact .inl ⟨a,b⟩
  · exact .inr ⟨2,by decide,fun w => parts_long2 0 h t w (good a) b (by decide) (by decide)⟩
  · exact .inr ⟨4,by decide,fun w => parts_form2 0 h t w (good a) b (by decide)⟩
  · exact .inr ⟨2,by decide,fun w => parts_long1 0 h t w a (goodN b) (by decide)⟩
  · exact .inr ⟨2,by decide,fun w => parts_long1 2 h t w a b (by decide)⟩
  · exact .inr ⟨4,by decide,fun w => parts_form2 2 h t w a b (by decide)⟩
  · exact .inr ⟨4,by decide,fun w => parts_form1 0 h t w a (goodN b)⟩
  · exact .inr ⟨4,by decide,fun w => parts_form1 2 h t w a b⟩
  · exact .inr ⟨4,by decide,fun w => parts_form1 4 h t w a b⟩
def ParsesTo (s : ByteArray) : Prop := (∃ q : Rat,∀ w,Calls Tryz.prog 63 #[.string s] w (RatRes 0 (ToldAs 67 67 q) w))∨∃ E : Int,(E != 0) = true∧∀ w,Calls Tryz.prog 63 #[.string s] w (RatRes E NoneAs w)
theorem told_more {K : Nat} {q : Rat} {w : World} {e : Ending} {w' : World} (hK : K≤67) (h : RatRes 0 (ToldAs K K q) w e w') : RatRes 0 (ToldAs 67 67 q) w e w' := by
  obtain ⟨s,a,n,c,b,m,d,xs,ys,he,⟨e1,e2,e3,e4,e5⟩,h1,h2,hb⟩ := h
  exact ⟨s,a,n,c,b,m,d,xs,ys,he,⟨e1,by omega,by omega,e4,e5⟩,h1,h2,hb⟩
theorem parse_any (s : ByteArray) (hs : s.size≤1000000) : ParsesTo s := by
  rcases splits_any s 47 with n1 | ⟨h,t,H⟩
  · rcases splits_any s 46 with n2 | ⟨h,t,H⟩
    · obtain ⟨neg,u,HS⟩ := signed_any s
      have hu := signed_sizeP HS
      rcases int_cases s u neg HS (by omega) with ⟨a,b,c⟩ | a | a
      · exact .inl ⟨_,fun w => (parse_int 50 50 _ s w n1 n2 (by omega) (int_call 50 neg s u HS a c b (by omega) (by omega))).mono fun _ _ => told_more (by omega)⟩
      · exact .inr ⟨2,by decide,fun w => parse_int_err 2 s w n1 n2 (by decide) a⟩
      · exact .inr ⟨4,by decide,fun w => parse_int_err 4 s w n1 n2 (by decide) a⟩
    · obtain ⟨neg,u,HS⟩ := signed_any h
      have hu := signed_sizeP HS
      have hz := H.size
      rcases parts_cases h t u neg HS (by omega) (by omega) with ⟨⟨a,b,c⟩,a',b',c'⟩ | ⟨G,hG,hp⟩
      · refine .inl ⟨_,fun w => parse_point 0 _ s h t w n1 H hs (fun w => (decimal_ok 67 _ neg _ _ h u t w HS a' c' (by omega) (by omega) (by omega) ?_ rfl
          (fun w => parts_ok 67 67 _ _ h t w (int_call 67 neg h u HS a c b (by omega) (by omega)) (nat_call 67 t a' c' b' (by omega) (by omega)))).mono fun _ _ h => ratRes_ok h)⟩
        apply limbs_len
        refine Nat.lt_trans ?_ (pow_room9 (u.size + t.size) 67 (by omega) (by omega))
        have h1 := digs_pow b
        have h2 := digs_pow b'
        rw [Nat.pow_add]
        have : (numOf u.data.toList + 1) * 10 ^ t.size≤10 ^ u.size * 10 ^ t.size := Nat.mul_le_mul_right _ h1
        rw [Nat.add_mul] at this
        omega
      · exact .inr ⟨G,hG,fun w => parse_point G _ s h t w n1 H hs (fun w => (decimal_err G h t w hG hp).mono fun _ _ h => ratRes_err h)⟩
  · obtain ⟨neg,u,HS⟩ := signed_any h
    have hu := signed_sizeP HS
    have hz := H.size
    rcases parts_cases h t u neg HS (by omega) (by omega) with ⟨⟨a,b,c⟩,a',b',c'⟩ | ⟨G,hG,hp⟩
    · rcases Nat.eq_zero_or_pos (numOf t.data.toList) with hN | hN
      · exact .inr ⟨4,by decide,fun w => parseQ_zero s h t u neg w H HS a c b a' c' b' hN⟩
      · exact .inl ⟨_,fun w => (parseQ_ok 50 _ s h t u neg w H HS a c b a' c' b' (by omega) (by omega) (by omega) (by omega) hN rfl).mono fun _ _ => told_more (by omega)⟩
    · exact .inr ⟨G,hG,fun w => parse_slash G _ s h t w H hs (fun w => (quot_err G h t w hG hp).mono fun _ _ h => ratRes_err h)⟩
theorem num_any (s : ByteArray) (hs : s.size≤1000000) : ∃ o,NumT s o := by
  by_cases hw : ∃ w : World,Gl w
  · obtain ⟨w,_⟩ := hw
    rcases parse_any s hs with ⟨q,h⟩ | ⟨E,hE,h⟩
    · obtain ⟨e,w',_,_,_,_,_,_,_,_,_,_,⟨_,l1,l2,l3,l4⟩,r1,r2,_⟩ := calls_ex (h w)
      exact ⟨_,number_is s q 67 67 h (by rw [←l3,r1.1];omega) (by rw [←l4,r2.1];omega)⟩
    · exact ⟨_,number_bad s E hE h⟩
  · exact ⟨none,fun w hg => absurd ⟨w,hg⟩ hw⟩
theorem calls_agree {P : Program} {f : FuncId} {args : Array Value} {w : World} {R R' : Value→World→Prop}
    (h : Calls P f args w fun | .returned v,w' => R v w' | _,_ => False) (h' : Calls P f args w fun | .returned v,w' => R' v w' | _,_ => False) (hi : P.inits.idxOf? f = none) :
    ∃ v w',R v w'∧R' v w' := by
  obtain ⟨n,v,w1,e1,r1⟩ := h.done hi
  obtain ⟨m,v',w2,e2,r2⟩ := h'.done hi
  have a := runN_ended e1 m
  have b := runN_ended e2 n
  rw [Nat.add_comm,a] at b
  injection b with ho hw
  injection ho with hv
  subst hv hw
  exact ⟨_,_,r1,r2⟩
theorem row_same {w : World} {a : Option Addr} {n c : Nat} {xs ys : List Nat} (h : Row w a n c xs) (g : Row w a n c ys) : xs = ys := by
  obtain ⟨h1,-,-,-,-,b,off,h2,h3⟩ := h
  obtain ⟨g1,-,-,-,-,b',off',g2,g3⟩ := g
  apply List.ext_getElem (by omega)
  intro i hi hi'
  obtain ⟨-,k⟩ := h3 i (by omega)
  obtain ⟨-,k'⟩ := g3 i (by omega)
  have e1 := h2.resolve_right (by omega)
  have e2 := g2.resolve_right (by omega)
  rw [e1] at e2
  injection e2 with e2
  injection e2 with e3 e4
  subst e3;subst e4
  rw [k] at k'
  injection k' with k'
  injection k' with _ k'
  rw [List.getD_eq_getElem?_getD,List.getD_eq_getElem?_getD,List.getElem?_eq_getElem hi,List.getElem?_eq_getElem hi'] at k'
  exact Int.ofNat.inj k'
theorem num_one {s : ByteArray} {o o' : Option Rat} {w : World} (hg : Gl w) (h : NumT s o) (h' : NumT s o') : o = o' := by
  have k : ∀ {o},NumT s o→Calls Tryz.prog 26 #[.string s] w fun | .returned v,w' => NumRes o w (.returned v) w' | _,_ => False := fun h => (h w hg).mono fun e w' hr => by
    obtain ⟨r,b,q,rfl,h1⟩ := hr
    exact ⟨r,b,q,rfl,h1⟩
  obtain ⟨v,w',⟨r,b,q,e1,h1,h2,-⟩,⟨r',b',q',e2,h3,h4,-⟩⟩ := calls_agree (k h) (k h') (by kernel_rfl)
  rw [e1] at e2
  simp only [Ending.returned.injEq,Value.tuple.injEq,Array.mk.injEq,List.cons.injEq,Value.agg.injEq,Value.bool.injEq,Value.slice.injEq,and_true] at e2
  obtain ⟨⟨a1,⟨a2,a3,a4⟩,a5,a6,a7⟩,a8⟩ := e2
  subst a8
  obtain ⟨s1,n1,n2,n3,n4,n5,n6⟩ := r
  obtain ⟨s2,m1,m2,m3,m4,m5,m6⟩ := r'
  dsimp only at a1 a2 a3 a4 a5 a6 a7 h1 h3
  subst a1;subst a2;subst a3;subst a4;subst a5;subst a6;subst a7
  obtain ⟨xs,ys,x1,x2,x3,-,-⟩ := h1
  obtain ⟨us,vs,y1,y2,y3,-,-⟩ := h3
  rw [row_same x1 y1,row_same x2 y2,y3] at x3
  subst x3
  cases b
  · exact (show o = none from h2).trans (show o' = none from h4).symm
  · exact (show o = some q'∧_ from h2).1.trans (show o' = some q'∧_ from h4).1.symm
open Classical in
noncomputable def numS (s : ByteArray) : Option Rat := if h : ∃ o,NumT s o then h.choose else none
theorem numS_is {s : ByteArray} (hs : s.size≤1000000) : NumT s (numS s) := by
  unfold numS
  rw [dif_pos (num_any s hs)]
  exact (num_any s hs).choose_spec
theorem numS_eq {s : ByteArray} {o : Option Rat} {w : World} (hg : Gl w) (h : NumT s o) : numS s = o := by
  have : ∃ o,NumT s o := ⟨o,h⟩
  unfold numS
  rw [dif_pos this]
  exact num_one hg this.choose_spec h
end Go.Proofs.YtkcgikoploohkaaGreatDoor
