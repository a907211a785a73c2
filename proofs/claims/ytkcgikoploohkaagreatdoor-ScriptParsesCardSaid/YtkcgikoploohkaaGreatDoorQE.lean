import Derived.Test.YtkcgikoploohkaaGreatDoorQC
import Derived.Deep.DeepCutAuto
import Derived.Deep.RegionHeld3
import Derived.RegionTactic
import Derived.ChangeAlike
import Derived.Test.YtkcgikoploohkaaGreatDoorQA
namespace Go.Proofs.YtkcgikoploohkaaGreatDoor
set_option linter.unusedVariables false
set_option linter.unusedSimpArgs false
set_option maxRecDepth 100000
open Go.RowKit Nums
end Go.Proofs.YtkcgikoploohkaaGreatDoor
/- What Floor, Whole and Print tell. -/
namespace Go.Proofs.YtkcgikoploohkaaGreatDoor
set_option linter.unusedVariables false
set_option linter.unusedSimpArgs false
set_option maxRecDepth 100000
open Go.RowKit Nums
theorem numOf_lt (l : List UInt8) (h : Digs l) : numOf l < 10 ^ l.length := by
  rw [←dval_reverse]
  have hd : Digs l.reverse := fun c hc => h c (List.mem_reverse.1 hc)
  have hl : l.reverse.length = l.length := by simp
  rw [←hl]
  generalize l.reverse = r at hd
  induction r with
  | nil => simp [dval]
  | cons c r ih =>
    have h2 := digs_cons.1 hd
    have := ih h2.2
    simp only [dval,List.length_cons,Nat.pow_succ]
    omega
theorem pow_room (n m : Nat) (h0 : 0 < m) (h : n≤6 * m) : (10 : Nat) ^ n < 4294967296 ^ m := by
  have h1 : (10 : Nat) ^ n≤10 ^ (6 * m) := Nat.pow_le_pow_right (by omega) h
  rw [Nat.pow_mul] at h1
  exact Nat.lt_of_le_of_lt h1 (Nat.pow_lt_pow_left (by omega) (by omega))
theorem len_numOf (s : ByteArray) (k : Nat) (hd : allDig s) (hk : 0 < k) (hl : s.size≤6 * k) : (limbs (numOf s.data.toList)).length≤k := by
  apply limbs_len
  have h1 := numOf_lt _ (digs_list s hd)
  have h2 : s.data.toList.length≤6 * k := by simpa using hl
  have h3 := pow_room s.data.toList.length k hk h2
  exact Nat.lt_trans h1 h3
theorem dec_len {N k : Nat} (h : (limbs N).length≤12) (hk : 116≤k) : (decStr N).size≤k := by
  refine size_dec_le N k (by omega) (Nat.lt_of_lt_of_le (Nat.lt_of_lt_of_le (lt_pow_len N) (Nat.pow_le_pow_right (by omega) h)) ?_)
  exact Nat.le_trans (by decide) (Nat.pow_le_pow_right (by omega) hk)
theorem decI_len {Z : Int} (h : (limbs Z.natAbs).length≤12) : (decI Z).size≤117 := by
  have := dec_len (k := 116) h (by omega)
  unfold decI;split
  · rw [ByteArray.size_append];show 1 + _≤_;omega
  · omega
def ratStr (q : Rat) : ByteArray := if q.den = 1 then decI q.num else decI q.num ++ (⟨#[47]⟩ ++ decStr q.den)
theorem decStr_one : decStr 1 = ⟨#[49]⟩ := dec_digit 1 49 (by omega) (by omega) rfl
theorem toList_ne {V : ByteArray} (h : V≠⟨#[49]⟩) : V.toList≠[49] := by
  intro e
  apply h
  rw [Lib.toList_data] at e
  cases V with
  | mk d => exact congrArg ByteArray.mk (Array.toList_inj.1 e)
theorem decStr_inj {m n : Nat} (h : decStr m = decStr n) : m = n := by
  rw [←numOf_dec m,h,numOf_dec]
set_option maxHeartbeats 4000000 in
theorem printR_one (T : ByteArray) (q : Rat) {s : Bool} {a b : Option Addr} {n c m d : Nat} {xs ys : List Nat} {w : World} (h0 : Row w a n c xs) (h1 : Row w b m d ys) (hq : mkRat (sv s (val xs)) (val ys) = q) (hn : n≤12) (hm : m≤12) (hD : q.den = 1) (hT : ratStr q = T) :
    Calls Tryz.prog 80 #[.agg #[.bool s,.slice a n c,.slice b m d]] w fun e w' => e = .returned (.string T)∧Below w.heap.size w w' := by
  have HB := Lib.hid (below_one w (.cells #[.bool s,.slice a n c,.slice b m d] 27))
  have X0 : Hid (Tri (w.alloc (.cells #[.bool s,.slice a n c,.slice b m d] 27)) (w.heap.size) (.bool s) (.slice a n c) (.slice b m d)) := (tri_new _ (.bool s) (.slice a n c) (.slice b m d))
  have R0 := Lib.hid (h0.later HB.out);clear h0
  have R1 := Lib.hid (h1.later HB.out);clear h1
  have HQ := Lib.hid hq;clear hq
  go_enter Tryz.func80,Tryz.ntmps80
  go_wp2_with fail
  refine (normR 12 12 q R0.out R1.out HQ.out hn hm (by omega) (by omega) (by omega)).mono ?_
  rintro e w1 ⟨ar,nr,cr,br,mr,dr,rfl,h2,h3,hr,hr2,hb⟩
  replace X0 := Lib.hid (X0.out.later hb)
  replace HB := Lib.hid (bthen HB.out hb)
  clear hb
  have RA := Lib.hid hr;clear hr
  have RB := Lib.hid hr2;clear hr2 R0 R1 HQ
  obtain ⟨kX00,kX01,kX02,kX03,kX04,kX05,kX06⟩ := X0.out
  have X0' := Lib.hid X0.out
  replace RA := Lib.hid (RA.out.put3 X0'.out (.bool (decide (q.num < 0))) (.slice ar nr cr) (.slice br mr dr))
  replace RB := Lib.hid (RB.out.put3 X0'.out (.bool (decide (q.num < 0))) (.slice ar nr cr) (.slice br mr dr))
  replace X0 := Lib.hid (X0.out.put (.bool (decide (q.num < 0))) (.slice ar nr cr) (.slice br mr dr))
  replace HB := Lib.hid (below_put3 (g := w.heap.size) HB.out (by omega) (.bool (decide (q.num < 0))) (.slice ar nr cr) (.slice br mr dr))
  clear X0'
  obtain ⟨U,hU⟩ : ∃ U,decI q.num = U := ⟨_,rfl⟩
  obtain ⟨V,hV⟩ : ∃ V,decStr q.den = V := ⟨_,rfl⟩
  have lU : U.size≤117 := by rw [←hU];exact decI_len (by rw [RA.out.1];omega)
  have lV : V.size≤116 := by rw [←hV];exact dec_len (by rw [RB.out.1];omega) (by omega)
  have LQ := Lib.hid (show (decStr (val (limbs q.num.natAbs))).size≤1000 by rw [val_limbs];exact dec_len (by rw [RA.out.1];omega) (by omega))
  have hV1 : V = ⟨#[49]⟩ := by rw [←hV,hD];exact decStr_one
  have hTU : T = U := by rw [←hT,←hU,ratStr,if_pos hD]
  subst hV1;subst hTU
  have HV := Lib.hid (show decStr (val (limbs q.den)) = ⟨#[49]⟩ by rw [val_limbs];exact hV)
  have HU := Lib.hid hU;clear hU hV hT hD
  go_wp2_with fail
  refine (printI T q.num _ _ _ _ _ _ RA.out h2 (sv_limbs _) HU.out LQ.out).mono ?_
  rintro e w2 ⟨rfl,hb⟩
  replace RA := Lib.hid (RA.out.later hb)
  replace RB := Lib.hid (RB.out.later hb)
  replace X0 := Lib.hid (X0.out.later hb)
  replace HB := Lib.hid (bthen HB.out hb)
  clear hb
  clear kX00 kX01 kX02 kX03 kX04 kX05 kX06
  obtain ⟨kX00,kX01,kX02,-,-,-,-⟩ := X0.out
  go_wp2_with fail
  refine (printN ⟨#[49]⟩ RB.out h3 HV.out).mono ?_
  rintro e w3 ⟨rfl,hb⟩
  replace RA := Lib.hid (RA.out.later hb)
  replace RB := Lib.hid (RB.out.later hb)
  replace X0 := Lib.hid (X0.out.later hb)
  replace HB := Lib.hid (bthen HB.out hb)
  clear hb
  clear kX00 kX01 kX02
  obtain ⟨kX00,kX01,kX02,-,-,-,-⟩ := X0.out
  go_wp2
  go_ret
  exact ⟨rfl,HB.out⟩
set_option maxHeartbeats 4000000 in
theorem printR_two (T : ByteArray) (q : Rat) {s : Bool} {a b : Option Addr} {n c m d : Nat} {xs ys : List Nat} {w : World} (h0 : Row w a n c xs) (h1 : Row w b m d ys) (hq : mkRat (sv s (val xs)) (val ys) = q) (hn : n≤12) (hm : m≤12) (hD : q.den≠1) (hT : ratStr q = T) :
    Calls Tryz.prog 80 #[.agg #[.bool s,.slice a n c,.slice b m d]] w fun e w' => e = .returned (.string T)∧Below w.heap.size w w' := by
  have HB := Lib.hid (below_one w (.cells #[.bool s,.slice a n c,.slice b m d] 27))
  have X0 : Hid (Tri (w.alloc (.cells #[.bool s,.slice a n c,.slice b m d] 27)) (w.heap.size) (.bool s) (.slice a n c) (.slice b m d)) := (tri_new _ (.bool s) (.slice a n c) (.slice b m d))
  have R0 := Lib.hid (h0.later HB.out);clear h0
  have R1 := Lib.hid (h1.later HB.out);clear h1
  have HQ := Lib.hid hq;clear hq
  go_enter Tryz.func80,Tryz.ntmps80
  go_wp2_with fail
  refine (normR 12 12 q R0.out R1.out HQ.out hn hm (by omega) (by omega) (by omega)).mono ?_
  rintro e w1 ⟨ar,nr,cr,br,mr,dr,rfl,h2,h3,hr,hr2,hb⟩
  replace X0 := Lib.hid (X0.out.later hb)
  replace HB := Lib.hid (bthen HB.out hb)
  clear hb
  have RA := Lib.hid hr;clear hr
  have RB := Lib.hid hr2;clear hr2 R0 R1 HQ
  obtain ⟨kX00,kX01,kX02,kX03,kX04,kX05,kX06⟩ := X0.out
  have X0' := Lib.hid X0.out
  replace RA := Lib.hid (RA.out.put3 X0'.out (.bool (decide (q.num < 0))) (.slice ar nr cr) (.slice br mr dr))
  replace RB := Lib.hid (RB.out.put3 X0'.out (.bool (decide (q.num < 0))) (.slice ar nr cr) (.slice br mr dr))
  replace X0 := Lib.hid (X0.out.put (.bool (decide (q.num < 0))) (.slice ar nr cr) (.slice br mr dr))
  replace HB := Lib.hid (below_put3 (g := w.heap.size) HB.out (by omega) (.bool (decide (q.num < 0))) (.slice ar nr cr) (.slice br mr dr))
  clear X0'
  obtain ⟨U,hU⟩ : ∃ U,decI q.num = U := ⟨_,rfl⟩
  obtain ⟨V,hV⟩ : ∃ V,decStr q.den = V := ⟨_,rfl⟩
  have lU : U.size≤117 := by rw [←hU];exact decI_len (by rw [RA.out.1];omega)
  have lV : V.size≤116 := by rw [←hV];exact dec_len (by rw [RB.out.1];omega) (by omega)
  have LQ := Lib.hid (show (decStr (val (limbs q.num.natAbs))).size≤1000 by rw [val_limbs];exact dec_len (by rw [RA.out.1];omega) (by omega))
  have hTU : T = U ++ (⟨#[47]⟩ ++ V) := by rw [←hT,←hU,←hV,ratStr,if_neg hD]
  have hne : V≠⟨#[49]⟩ := by intro h;rw [h,←decStr_one] at hV;exact hD (decStr_inj hV)
  have hvl := toList_ne hne
  have hv1 : (V.toList == [49]) = false := by rw [beq_eq_false_iff_ne];exact hvl
  have hv2 : (V.toList != [49]) = true := by rw [bne_iff_ne];exact hvl
  have hv3 : ([49] == V.toList) = false := by rw [beq_eq_false_iff_ne];exact fun h => hvl h.symm
  have hv4 : ([49] != V.toList) = true := by rw [bne_iff_ne];exact fun h => hvl h.symm
  clear hvl
  have HTU := Lib.hid hTU;clear hTU hne
  have s1 : 1 + V.size≤9223372036854775807 := by omega
  have s2 : U.size + (1 + V.size)≤9223372036854775807 := by omega
  have HV := Lib.hid (show decStr (val (limbs q.den)) = V by rw [val_limbs];exact hV)
  have HU := Lib.hid hU;clear hU hV hT hD
  go_wp2_with fail
  refine (printI U q.num _ _ _ _ _ _ RA.out h2 (sv_limbs _) HU.out LQ.out).mono ?_
  rintro e w2 ⟨rfl,hb⟩
  replace RA := Lib.hid (RA.out.later hb)
  replace RB := Lib.hid (RB.out.later hb)
  replace X0 := Lib.hid (X0.out.later hb)
  replace HB := Lib.hid (bthen HB.out hb)
  clear hb
  clear kX00 kX01 kX02 kX03 kX04 kX05 kX06
  obtain ⟨kX00,kX01,kX02,-,-,-,-⟩ := X0.out
  go_wp2_with fail
  refine (printN V RB.out h3 HV.out).mono ?_
  rintro e w3 ⟨rfl,hb⟩
  replace RA := Lib.hid (RA.out.later hb)
  replace RB := Lib.hid (RB.out.later hb)
  replace X0 := Lib.hid (X0.out.later hb)
  replace HB := Lib.hid (bthen HB.out hb)
  clear hb
  clear kX00 kX01 kX02
  obtain ⟨kX00,kX01,kX02,-,-,-,-⟩ := X0.out
  go_wp2
  go_ret
  exact ⟨by rw [HTU.out];rfl,HB.out⟩
theorem printR (T : ByteArray) (q : Rat) {s : Bool} {a b : Option Addr} {n c m d : Nat} {xs ys : List Nat} {w : World} (h0 : Row w a n c xs) (h1 : Row w b m d ys) (hq : mkRat (sv s (val xs)) (val ys) = q) (hn : n≤12) (hm : m≤12) (hT : ratStr q = T) :
    Calls Tryz.prog 80 #[.agg #[.bool s,.slice a n c,.slice b m d]] w fun e w' => e = .returned (.string T)∧Below w.heap.size w w' := by
  by_cases h : q.den = 1
  · exact printR_one T q h0 h1 hq hn hm h hT
  · exact printR_two T q h0 h1 hq hn hm h hT
end Go.Proofs.YtkcgikoploohkaaGreatDoor
/- What parseParts tells. -/
namespace Go.Proofs.YtkcgikoploohkaaGreatDoor
set_option linter.unusedVariables false
set_option linter.unusedSimpArgs false
set_option maxRecDepth 100000
open Go.RowKit Nums
theorem index_run0 (w : World) : Sem.run Tryz.prog (Instr.index 186 (Value.agg #[.int .i64 4,.int .i64 2]) (.int .i64 0)) w = Result.ok (Value.int .i64 4) w := rfl
theorem index_run1 (w : World) : Sem.run Tryz.prog (Instr.index 186 (Value.agg #[.int .i64 4,.int .i64 2]) (.int .i64 1)) w = Result.ok (Value.int .i64 2) w := rfl
def AnyI (E : Int) (w : World) (e : Ending) (w' : World) : Prop := ∃ s a n c,e = .returned (.tuple #[.agg #[.bool s,.slice a n c],.int .i64 E])∧Below w.heap.size w w'
def AnyN (F : Int) (w : World) (e : Ending) (w' : World) : Prop := ∃ a n c,e = .returned (.tuple #[.slice a n c,.int .i64 F])∧Below w.heap.size w w'
def ParseNK (k N : Nat) (w : World) (e : Ending) (w' : World) : Prop := ∃ a m,e = .returned (.tuple #[.slice a m m,.int .i64 0])∧m≤k∧Row w' a m m (limbs N)∧Below w.heap.size w w'
def PartsK (k j : Nat) (Z : Int) (N : Nat) (w : World) (e : Ending) (w' : World) : Prop :=
  ∃ a n c b m d,e = .returned (.tuple #[.agg #[.bool (decide (Z < 0)),.slice a n c],.slice b m d,.int .i64 0])∧n≤k∧m≤j∧Row w' a n c (limbs Z.natAbs)∧Row w' b m d (limbs N)∧Below w.heap.size w w'
def PartsErr (G : Int) (w : World) (e : Ending) (w' : World) : Prop := e = .returned (.tuple #[.agg #[.bool false,.slice none 0 0],.slice none 0 0,.int .i64 G])∧Below w.heap.size w w'
set_option maxHeartbeats 4000000 in
theorem parts_ok (k j : Nat) (Z : Int) (N : Nat) (h t : ByteArray) (w : World) (hH : ∀ w,Calls Tryz.prog 110 #[.string h] w (ParseK k Z w)) (hT : ∀ w,Calls Tryz.prog 155 #[.string t] w (ParseNK j N w)) :
    Calls Tryz.prog 148 #[.string h,.string t] w (PartsK k j Z N w) := by
  have HB := Lib.hid (below_one w (.cells #[.bool false,.slice none 0 0] 25))
  have Z0 : Hid (Box (w.alloc (.cells #[.bool false,.slice none 0 0] 25)) (w.heap.size) (.bool false) (.slice none 0 0)) := (box_new _ (.bool false) (.slice none 0 0))
  have HH := Lib.hid hH;clear hH
  have HT := Lib.hid hT;clear hT
  go_enter Tryz.func148,Tryz.ntmps148
  go_wp2_with fail
  refine (HH.out _).mono ?_
  rintro e w1 ⟨a,n,c,rfl,hn,hr,hb⟩
  replace Z0 := Lib.hid (Z0.out.later hb)
  replace HB := Lib.hid (bthen HB.out hb)
  clear hb
  have hb1 := below_one w1 (.cells #[.bool (decide (Z < 0)),.slice a n c] 25)
  have XN := Lib.hid (box_new w1 (.bool (decide (Z < 0))) (.slice a n c))
  have RN := Lib.hid (hr.later hb1);clear hr
  replace Z0 := Lib.hid (Z0.out.later hb1)
  replace HB := Lib.hid (bthen HB.out hb1)
  clear hb1
  go_wp2_with fail
  refine (HT.out _).mono ?_
  rintro e w2 ⟨b,m,rfl,hm,hr,hb⟩
  replace RN := Lib.hid (RN.out.later hb)
  replace Z0 := Lib.hid (Z0.out.later hb)
  replace XN := Lib.hid (XN.out.later hb)
  replace HB := Lib.hid (bthen HB.out hb)
  clear hb
  have RT := Lib.hid hr;clear hr
  obtain ⟨kZ00,kZ01,kZ02,kZ03,kZ04⟩ := Z0.out
  obtain ⟨kXN0,kXN1,-,-,-⟩ := XN.out
  go_wp2
  go_loop [12,24] (fun _ i => ∃ k : Nat,k≤2∧i = .int .i64 (k : Int)) (fun _ i => (2 - intOf i).toNat)
  case atStart => exact ⟨0,by omega,rfl⟩
  case round =>
    obtain ⟨k,hk,rfl⟩ := hrel
    rcases (show k = 0∨k = 1∨k = 2 by omega) with rfl | rfl | rfl
    · go_wp2
      rw [index_run0]
      go_wp2
      go_round
      case rel => exact ⟨1,by omega,rfl⟩
      case measure => simp [intOf]
    · go_wp2
      rw [index_run1]
      go_wp2
      go_round
      case rel => exact ⟨2,by omega,rfl⟩
      case measure => simp [intOf]
    · go_wp2
      exact bodyPost_ret (v := .tuple #[.agg #[.bool (decide (Z < 0)),.slice a n c],.slice b m m,.int .i64 0]) (by simp [results,Tryz.results148,go_sem, *]) rfl ⟨a,n,c,b,m,m,rfl,hn,hm,RN.out.putB Z0.out _ _,RT.out.putB Z0.out _ _,below_put HB.out (by omega) _ _⟩
set_option maxHeartbeats 4000000 in
theorem parts_form1 (F : Int) (h t : ByteArray) (w : World) (hH : ∀ w,Calls Tryz.prog 110 #[.string h] w (AnyI 4 w)) (hT : ∀ w,Calls Tryz.prog 155 #[.string t] w (AnyN F w))  :
    Calls Tryz.prog 148 #[.string h,.string t] w (PartsErr 4 w) := by
  have HB := Lib.hid (below_one w (.cells #[.bool false,.slice none 0 0] 25))
  have Z0 : Hid (Box (w.alloc (.cells #[.bool false,.slice none 0 0] 25)) (w.heap.size) (.bool false) (.slice none 0 0)) := (box_new _ (.bool false) (.slice none 0 0))
  have HH := Lib.hid hH;clear hH
  have HT := Lib.hid hT;clear hT
  go_enter Tryz.func148,Tryz.ntmps148
  go_wp2_with fail
  refine (HH.out _).mono ?_
  rintro e w1 ⟨s,a,n,c,rfl,hb⟩
  replace Z0 := Lib.hid (Z0.out.later hb)
  replace HB := Lib.hid (bthen HB.out hb)
  clear hb
  have hb1 := below_one w1 (.cells #[.bool s,.slice a n c] 25)
  replace Z0 := Lib.hid (Z0.out.later hb1)
  replace HB := Lib.hid (bthen HB.out hb1)
  clear hb1
  go_wp2_with fail
  refine (HT.out _).mono ?_
  rintro e w2 ⟨b,m,d,rfl,hb⟩
  replace Z0 := Lib.hid (Z0.out.later hb)
  replace HB := Lib.hid (bthen HB.out hb)
  clear hb
  obtain ⟨kZ00,kZ01,kZ02,kZ03,kZ04⟩ := Z0.out
  go_wp2
  go_loop [12,24] (fun _ i => ∃ k : Nat,k≤0∧i = .int .i64 (k : Int)) (fun _ i => (2 - intOf i).toNat)
  case atStart => exact ⟨0,by omega,rfl⟩
  case round =>
    obtain ⟨k,hk,rfl⟩ := hrel
    obtain rfl : k = 0 := by omega
    go_wp2
    rw [index_run0]
    go_wp2
    exact bodyPost_ret (v := .tuple #[.agg #[.bool false,.slice none 0 0],.slice none 0 0,.int .i64 4]) (by simp [results,Tryz.results148,go_sem, *]) rfl ⟨rfl,below_put HB.out (by omega) _ _⟩
set_option maxHeartbeats 4000000 in
theorem parts_form2 (E : Int) (h t : ByteArray) (w : World) (hH : ∀ w,Calls Tryz.prog 110 #[.string h] w (AnyI E w)) (hT : ∀ w,Calls Tryz.prog 155 #[.string t] w (AnyN 4 w)) (h1 : (E == 4) = false) :
    Calls Tryz.prog 148 #[.string h,.string t] w (PartsErr 4 w) := by
  have HB := Lib.hid (below_one w (.cells #[.bool false,.slice none 0 0] 25))
  have Z0 : Hid (Box (w.alloc (.cells #[.bool false,.slice none 0 0] 25)) (w.heap.size) (.bool false) (.slice none 0 0)) := (box_new _ (.bool false) (.slice none 0 0))
  have HH := Lib.hid hH;clear hH
  have HT := Lib.hid hT;clear hT
  go_enter Tryz.func148,Tryz.ntmps148
  go_wp2_with fail
  refine (HH.out _).mono ?_
  rintro e w1 ⟨s,a,n,c,rfl,hb⟩
  replace Z0 := Lib.hid (Z0.out.later hb)
  replace HB := Lib.hid (bthen HB.out hb)
  clear hb
  have hb1 := below_one w1 (.cells #[.bool s,.slice a n c] 25)
  replace Z0 := Lib.hid (Z0.out.later hb1)
  replace HB := Lib.hid (bthen HB.out hb1)
  clear hb1
  go_wp2_with fail
  refine (HT.out _).mono ?_
  rintro e w2 ⟨b,m,d,rfl,hb⟩
  replace Z0 := Lib.hid (Z0.out.later hb)
  replace HB := Lib.hid (bthen HB.out hb)
  clear hb
  obtain ⟨kZ00,kZ01,kZ02,kZ03,kZ04⟩ := Z0.out
  go_wp2
  go_loop [12,24] (fun _ i => ∃ k : Nat,k≤0∧i = .int .i64 (k : Int)) (fun _ i => (2 - intOf i).toNat)
  case atStart => exact ⟨0,by omega,rfl⟩
  case round =>
    obtain ⟨k,hk,rfl⟩ := hrel
    obtain rfl : k = 0 := by omega
    go_wp2
    rw [index_run0]
    go_wp2
    exact bodyPost_ret (v := .tuple #[.agg #[.bool false,.slice none 0 0],.slice none 0 0,.int .i64 4]) (by simp [results,Tryz.results148,go_sem, *]) rfl ⟨rfl,below_put HB.out (by omega) _ _⟩
set_option maxHeartbeats 4000000 in
theorem parts_long1 (F : Int) (h t : ByteArray) (w : World) (hH : ∀ w,Calls Tryz.prog 110 #[.string h] w (AnyI 2 w)) (hT : ∀ w,Calls Tryz.prog 155 #[.string t] w (AnyN F w)) (h1 : (F == 4) = false) :
    Calls Tryz.prog 148 #[.string h,.string t] w (PartsErr 2 w) := by
  have HB := Lib.hid (below_one w (.cells #[.bool false,.slice none 0 0] 25))
  have Z0 : Hid (Box (w.alloc (.cells #[.bool false,.slice none 0 0] 25)) (w.heap.size) (.bool false) (.slice none 0 0)) := (box_new _ (.bool false) (.slice none 0 0))
  have HH := Lib.hid hH;clear hH
  have HT := Lib.hid hT;clear hT
  go_enter Tryz.func148,Tryz.ntmps148
  go_wp2_with fail
  refine (HH.out _).mono ?_
  rintro e w1 ⟨s,a,n,c,rfl,hb⟩
  replace Z0 := Lib.hid (Z0.out.later hb)
  replace HB := Lib.hid (bthen HB.out hb)
  clear hb
  have hb1 := below_one w1 (.cells #[.bool s,.slice a n c] 25)
  replace Z0 := Lib.hid (Z0.out.later hb1)
  replace HB := Lib.hid (bthen HB.out hb1)
  clear hb1
  go_wp2_with fail
  refine (HT.out _).mono ?_
  rintro e w2 ⟨b,m,d,rfl,hb⟩
  replace Z0 := Lib.hid (Z0.out.later hb)
  replace HB := Lib.hid (bthen HB.out hb)
  clear hb
  obtain ⟨kZ00,kZ01,kZ02,kZ03,kZ04⟩ := Z0.out
  go_wp2
  go_loop [12,24] (fun _ i => ∃ k : Nat,k≤1∧i = .int .i64 (k : Int)) (fun _ i => (2 - intOf i).toNat)
  case atStart => exact ⟨0,by omega,rfl⟩
  case round =>
    obtain ⟨k,hk,rfl⟩ := hrel
    rcases (show k = 0∨k = 1 by omega) with rfl | rfl
    · go_wp2
      rw [index_run0]
      go_wp2
      go_round
      case rel => exact ⟨1,by omega,rfl⟩
      case measure => simp [intOf]
    · go_wp2
      rw [index_run1]
      go_wp2
      exact bodyPost_ret (v := .tuple #[.agg #[.bool false,.slice none 0 0],.slice none 0 0,.int .i64 2]) (by simp [results,Tryz.results148,go_sem, *]) rfl ⟨rfl,below_put HB.out (by omega) _ _⟩
set_option maxHeartbeats 4000000 in
theorem parts_long2 (E : Int) (h t : ByteArray) (w : World) (hH : ∀ w,Calls Tryz.prog 110 #[.string h] w (AnyI E w)) (hT : ∀ w,Calls Tryz.prog 155 #[.string t] w (AnyN 2 w)) (h1 : (E == 4) = false) (h2 : (E == 2) = false) :
    Calls Tryz.prog 148 #[.string h,.string t] w (PartsErr 2 w) := by
  have HB := Lib.hid (below_one w (.cells #[.bool false,.slice none 0 0] 25))
  have Z0 : Hid (Box (w.alloc (.cells #[.bool false,.slice none 0 0] 25)) (w.heap.size) (.bool false) (.slice none 0 0)) := (box_new _ (.bool false) (.slice none 0 0))
  have HH := Lib.hid hH;clear hH
  have HT := Lib.hid hT;clear hT
  go_enter Tryz.func148,Tryz.ntmps148
  go_wp2_with fail
  refine (HH.out _).mono ?_
  rintro e w1 ⟨s,a,n,c,rfl,hb⟩
  replace Z0 := Lib.hid (Z0.out.later hb)
  replace HB := Lib.hid (bthen HB.out hb)
  clear hb
  have hb1 := below_one w1 (.cells #[.bool s,.slice a n c] 25)
  replace Z0 := Lib.hid (Z0.out.later hb1)
  replace HB := Lib.hid (bthen HB.out hb1)
  clear hb1
  go_wp2_with fail
  refine (HT.out _).mono ?_
  rintro e w2 ⟨b,m,d,rfl,hb⟩
  replace Z0 := Lib.hid (Z0.out.later hb)
  replace HB := Lib.hid (bthen HB.out hb)
  clear hb
  obtain ⟨kZ00,kZ01,kZ02,kZ03,kZ04⟩ := Z0.out
  go_wp2
  go_loop [12,24] (fun _ i => ∃ k : Nat,k≤1∧i = .int .i64 (k : Int)) (fun _ i => (2 - intOf i).toNat)
  case atStart => exact ⟨0,by omega,rfl⟩
  case round =>
    obtain ⟨k,hk,rfl⟩ := hrel
    rcases (show k = 0∨k = 1 by omega) with rfl | rfl
    · go_wp2
      rw [index_run0]
      go_wp2
      go_round
      case rel => exact ⟨1,by omega,rfl⟩
      case measure => simp [intOf]
    · go_wp2
      rw [index_run1]
      go_wp2
      exact bodyPost_ret (v := .tuple #[.agg #[.bool false,.slice none 0 0],.slice none 0 0,.int .i64 2]) (by simp [results,Tryz.results148,go_sem, *]) rfl ⟨rfl,below_put HB.out (by omega) _ _⟩
end Go.Proofs.YtkcgikoploohkaaGreatDoor
/- What strings.Cut tells of a text and one byte; powers of ten. -/
namespace Go.Proofs.YtkcgikoploohkaaGreatDoor
set_option linter.unusedVariables false
set_option linter.unusedSimpArgs false
set_option maxRecDepth 100000
open Go.RowKit Nums
def Split (s : ByteArray) (c : UInt8) (h t : ByteArray) : Prop := s.data.toList = h.data.toList ++ c :: t.data.toList∧c ∉ h.data.toList
theorem splits_any (s : ByteArray) (c : UInt8) : c ∉ s.data.toList∨∃ h t,Split s c h t := by
  have key : ∀ l : List UInt8,c ∉ l∨∃ h t : List UInt8,l = h ++ c :: t∧c ∉ h := by
    intro l
    induction l with
    | nil => exact Or.inl (by simp)
    | cons x l ih =>
      by_cases e : c = x
      · exact Or.inr ⟨[],l,by simp [e],by simp⟩
      · rcases ih with ih | ⟨h,t,h1,h2⟩
        · exact Or.inl (by simp [e,ih])
        · exact Or.inr ⟨x :: h,t,by simp [h1],by simp [e,h2]⟩
  rcases key s.data.toList with h | ⟨h,t,h1,h2⟩
  · exact Or.inl h
  · exact Or.inr ⟨⟨h.toArray⟩,⟨t.toArray⟩,by simpa using h1,by simpa using h2⟩
theorem indexByte_miss {l : List UInt8} {c : UInt8} (h : c ∉ l) : Lib.indexByte l c = -1 := by
  induction l with
  | nil => rfl
  | cons x l ih =>
    simp only [List.mem_cons,not_or] at h
    rw [Lib.indexByte,ih h.2]
    have hx : (x == c) = false := by rw [beq_eq_false_iff_ne];exact fun e => h.1 e.symm
    rw [hx]
    rfl
theorem indexByte_hit {h t : List UInt8} {c : UInt8} (hc : c ∉ h) : Lib.indexByte (h ++ c :: t) c = (h.length : Int) := by
  induction h with
  | nil => simp [Lib.indexByte]
  | cons x l ih =>
    simp only [List.mem_cons,not_or] at hc
    have e := ih hc.2
    rw [List.cons_append,Lib.indexByte,e]
    have hx : (x == c) = false := by rw [beq_eq_false_iff_ne];exact fun e => hc.1 e.symm
    have hl : ((l.length : Int) == -1) = false := by rw [beq_eq_false_iff_ne];omega
    rw [hx,hl]
    simp
theorem Split.size {s h t : ByteArray} {c : UInt8} (H : Split s c h t) : s.size = h.size + 1 + t.size := by
  have := congrArg List.length H.1
  rw [List.length_append,List.length_cons] at this
  rw [Lib.size_eq s,Lib.size_eq h,Lib.size_eq t];omega
theorem Split.head {s h t : ByteArray} {c : UInt8} (H : Split s c h t) : s.extract 0 h.size = h := by
  apply ByteArray.ext;apply Array.toList_inj.1
  rw [ByteArray.data_extract,Array.toList_extract,H.1,Lib.size_eq h]
  simp
theorem Split.tail {s h t : ByteArray} {c : UInt8} (H : Split s c h t) : s.extract (h.size + 1) s.size = t := by
  apply ByteArray.ext;apply Array.toList_inj.1
  rw [H.size,ByteArray.data_extract,Array.toList_extract,H.1,List.extract_eq_take_drop,show h.data.toList ++ c :: t.data.toList = (h.data.toList ++ [c]) ++ t.data.toList by simp,List.drop_left' (by rw [Lib.size_eq h];simp)]
  exact List.take_of_length_le (by rw [Lib.size_eq t];omega)
set_option maxHeartbeats 2000000 in
theorem cutS_miss (s : ByteArray) (c : UInt8) (w : World) (hc : c ∉ s.data.toList) :
    Calls Tryz.prog 61 #[.string s,.string ⟨#[c]⟩] w fun e w' => e = .returned (.tuple #[.string s,.string ⟨#[]⟩,.bool false])∧Below w.heap.size w w' := by
  have HI := Lib.hid (indexByte_miss hc);clear hc
  go_enter Tryz.func61,Tryz.ntmps61
  go_wp2_with fail
  refine (Tryz.stringslite_Index_one s c _).mono ?_
  rw [HI.out]
  rintro e w' ⟨rfl,rfl⟩
  go_wp2
  go_ret3
  exact ⟨rfl,Below.refl _ _⟩
set_option maxHeartbeats 2000000 in
theorem cutS_hit (s h t : ByteArray) (c : UInt8) (w : World) (H : Split s c h t) (hs : s.size≤1000000) :
    Calls Tryz.prog 61 #[.string s,.string ⟨#[c]⟩] w fun e w' => e = .returned (.tuple #[.string h,.string t,.bool true])∧Below w.heap.size w w' := by
  have HI := Lib.hid (show Lib.indexByte s.data.toList c = ((h.size : Nat) : Int) by rw [H.1,indexByte_hit H.2,Lib.size_eq h])
  have H1 := Lib.hid H.head
  have H2 := Lib.hid H.tail
  obtain ⟨i,hi⟩ : ∃ i,h.size = i := ⟨_,rfl⟩
  have hz := H.size
  rw [hi] at hz
  have hle : i + 1≤s.size := by omega
  have hle2 : (i : Int) + 1≤(s.size : Int) := by omega
  have hle3 : (i : Int)≤(s.size : Int) := by omega
  clear hz H
  have HI2 := Lib.hid hi;clear hi
  go_enter Tryz.func61,Tryz.ntmps61
  go_wp2_with fail
  refine (Tryz.stringslite_Index_one s c _).mono ?_
  rw [HI.out,HI2.out]
  rintro e w' ⟨rfl,rfl⟩
  rw [HI2.out] at H1 H2
  go_wp2_with fail
  go_region
  go_wp2
  go_ret3
  exact ⟨by rw [H1.out,H2.out];rfl,(Below.refl _ _).drew⟩
theorem cut_miss (s : ByteArray) (c : UInt8) (w : World) (hc : c ∉ s.data.toList) :
    Calls Tryz.prog 21 #[.string s,.string ⟨#[c]⟩] w fun e w' => e = .returned (.tuple #[.string s,.string ⟨#[]⟩,.bool false])∧Below w.heap.size w w' := by
  have HI := Lib.hid hc;clear hc
  go_enter Tryz.func21,Tryz.ntmps21
  go_wp2_with fail
  refine (cutS_miss s c _ HI.out).mono ?_
  rintro e w' ⟨rfl,hb⟩
  have HB := Lib.hid hb;clear hb
  go_wp2
  go_ret3
  exact ⟨rfl,HB.out⟩
theorem cut_hit (s h t : ByteArray) (c : UInt8) (w : World) (H : Split s c h t) (hs : s.size≤1000000) :
    Calls Tryz.prog 21 #[.string s,.string ⟨#[c]⟩] w fun e w' => e = .returned (.tuple #[.string h,.string t,.bool true])∧Below w.heap.size w w' := by
  have HI := Lib.hid H;clear H
  go_enter Tryz.func21,Tryz.ntmps21
  go_wp2_with fail
  refine (cutS_hit s h t c _ HI.out hs).mono ?_
  rintro e w' ⟨rfl,hb⟩
  have HB := Lib.hid hb;clear hb
  go_wp2
  go_ret3
  exact ⟨rfl,HB.out⟩
def nines (n : Nat) : ByteArray := ⟨(Lib.repeatL [57] n).toArray⟩
theorem nines_list (n : Nat) : (nines n).data.toList = List.replicate n 57 := by
  show (Lib.repeatL [57] n).toArray.toList = _
  have := Lib.repeatL_replicate 57 1 n
  rw [Nat.mul_one] at this
  simpa using this
theorem nines_size (n : Nat) : (nines n).size = n := by rw [Lib.size_eq,nines_list];simp
theorem nines_dig (n : Nat) : allDig (nines n) := by
  apply allDig_of
  rw [nines_list]
  simp
theorem nines_num (n : Nat) : numOf (List.replicate n 57) + 1 = 10 ^ n := by
  induction n with
  | zero => rfl
  | succ n ih =>
    rw [List.replicate_succ',numOf_snoc,Nat.pow_succ]
    have : (57 : UInt8).toNat - 48 = 9 := by decide
    omega
theorem nines_call (n : Nat) (w : World) (hn : n≤300) : Calls Tryz.prog 189 #[.string ⟨#[57]⟩,.int .i64 (n : Int)] w fun e w' => e = .returned (.string (nines n))∧Below w.heap.size w w' :=
  Tryz.strings_Repeat ⟨#[57]⟩ n w (by omega) (by show 1 * n≤_;omega)
set_option maxHeartbeats 2000000 in
theorem powR (k n : Nat) (w : World) (h1 : 1≤n) (hn : n≤300) (hk : n≤6 * k) (hkb : k≤100) :
    Calls Tryz.prog 150 #[.int .i64 (n : Int)] w (NumK k (10 ^ n) w) := by
  obtain ⟨P,hP⟩ : ∃ P,10 ^ n = P := ⟨_,rfl⟩
  have HN := Lib.hid (nines_num n)
  have LP := Lib.hid (show (limbs P).length≤k by rw [←hP];exact limbs_len _ _ (pow_room n k (by omega) hk))
  rw [hP] at HN ⊢
  obtain ⟨Q,hQ⟩ : ∃ Q,numOf (List.replicate n 57) = Q := ⟨_,rfl⟩
  rw [hQ] at HN
  have LQ := Lib.hid (show (limbs Q).length≤k from Nat.le_trans (limbs_len_mono (by have := HN.out;omega)) LP.out)
  have HQ := Lib.hid (show numOf (nines n).data.toList = Q by rw [nines_list];exact hQ)
  have HD := Lib.hid (nines_dig n)
  have HS := Lib.hid (nines_size n)
  clear hQ
  have HP := Lib.hid hP;clear hP
  go_enter Tryz.func150,Tryz.ntmps150
  go_wp2_with fail
  refine (nines_call n _ hn).mono ?_
  rintro e w1 ⟨rfl,hb⟩
  have HB := Lib.hid hb;clear hb
  go_wp2_with fail
  refine (parseN k (nines n) _ Q (by rw [HS.out];exact hn) (by rw [HS.out];exact h1) HD.out HQ.out LQ.out).mono ?_
  rintro e w2 ⟨a,m,rfl,hm,hr,hb⟩
  have RL := Lib.hid (row_lit w2 1 1 rfl (by omega) (by omega))
  have b1 := below_one w2 (.cells #[.int .u32 1] 89)
  replace HB := Lib.hid (bthen (bthen HB.out hb) b1)
  have R0 := Lib.hid (hr.later b1);clear hr hb b1
  go_wp2_with fail
  refine (addN k P R0.out RL.out (val_limbs _) (val_limbs _) (by omega) (by omega) HN.out LP.out).mono ?_
  rintro e w3 ⟨a3,m3,rfl,hm3,hr,hb⟩
  have R3 := Lib.hid hr;clear hr
  replace HB := Lib.hid (bthen HB.out hb);clear hb
  go_wp2
  go_ret
  exact ⟨a3,m3,rfl,hm3,R3.out,HB.out⟩
end Go.Proofs.YtkcgikoploohkaaGreatDoor
/- What the closure of Parse cuts; Parse of a text with / or a point, out of what its parts tell. -/
namespace Go.Proofs.YtkcgikoploohkaaGreatDoor
set_option linter.unusedVariables false
set_option linter.unusedSimpArgs false
set_option maxRecDepth 100000
open Go.RowKit Nums
def Uno (w : World) (g : Nat) (v : Value) : Prop := w.cell? ⟨g,0,none⟩ = some v∧w.frozen? ⟨g,0,none⟩ = false∧g < w.heap.size
theorem Uno.later {g : Nat} {w w' : World} {v : Value} (h : Uno w g v) (hb : Below w.heap.size w w') : Uno w' g v :=
  ⟨(hb.cell (p := ⟨g,0,none⟩) h.2.2).trans h.1,(hb.frozen (p := ⟨g,0,none⟩) h.2.2).trans h.2.1,Nat.lt_of_lt_of_le h.2.2 hb.size⟩
theorem uno_new (w : World) (v : Value) (t : Nat) : Uno (w.alloc (.cells #[v] t)) w.heap.size v := by
  have h := heap_alloc_new w (.cells #[v] t)
  refine ⟨?_, ?_,by simp⟩
  · rw [cell_of_row _ _ _ #[v] t (0,0) h];rfl
  · exact frozen_of_row _ _ _ #[v] t h
theorem uno_newE {w : World} {g : Nat} {v : Value} {t : Nat} (h : g = w.heap.size) : Uno (w.alloc (.cells #[v] t)) g v := h ▸ uno_new w v t
theorem Uno.alloc {g : Nat} {w : World} {v : Value} (h : Uno w g v) (o : Obj) : Uno (w.alloc o) g v := h.later (below_one w o)
theorem Uno.put {w : World} {g : Nat} {v : Value} (h : Uno w g v) (p : Value) : Uno (w.setCell ⟨g,0,none⟩ p) g p := ⟨cell_here h.1,by simpa using h.2.1,by simpa using h.2.2⟩
theorem Uno.far {w : World} {g g' o : Nat} {v : Value} (h : Uno w g v) (hg : g'≠g) (p : Value) : Uno (w.setCell ⟨g',o,none⟩ p) g v :=
  ⟨by rw [cell_other (by simp [hg.symm])];exact h.1,by simpa using h.2.1,by simpa using h.2.2⟩
theorem Tri.farS {w : World} {g g' o : Nat} {u v x : Value} (h : Tri w g u v x) (hg : g'≠g) (p : Value) : Tri (w.setCell ⟨g',o,none⟩ p) g u v x := by
  obtain ⟨h0,h1,h2,h3,h4,h5,h6⟩ := h
  exact ⟨by rw [cell_other (by simp [hg.symm])];exact h0,by rw [cell_other (by simp [hg.symm])];exact h1,by rw [cell_other (by simp [hg.symm])];exact h2,by simpa using h3,by simpa using h4,by simpa using h5,by simpa using h6⟩
theorem Box.set0 {w : World} {g : Nat} {u v : Value} (h : Box w g u v) (p : Value) : Box (w.setCell ⟨g,0,none⟩ p) g p v := by
  obtain ⟨h0,h1,h2,h3,h4⟩ := h
  exact ⟨cell_here h0,by rw [cell_other (by simp)];exact h1,by simpa using h2,by simpa using h3,by simpa using h4⟩
theorem Box.set1 {w : World} {g : Nat} {u v : Value} (h : Box w g u v) (p : Value) : Box (w.setCell ⟨g,1,none⟩ p) g u p := by
  obtain ⟨h0,h1,h2,h3,h4⟩ := h
  exact ⟨by rw [cell_other (by simp)];exact h0,cell_here h1,by simpa using h2,by simpa using h3,by simpa using h4⟩
def Shape := Bool→Nat→Nat→List Nat→List Nat→Prop
def RatRes (E : Int) (P : Shape) (w : World) (e : Ending) (w' : World) : Prop :=
  ∃ s a n c b m d xs ys,e = .returned (.tuple #[.agg #[.bool s,.slice a n c,.slice b m d],.int .i64 E])∧P s n m xs ys∧Row w' a n c xs∧Row w' b m d ys∧Below w.heap.size w w'
def ToldAs (K J : Nat) (q : Rat) : Shape := fun s n m xs ys => s = decide (q.num < 0)∧n≤K∧m≤J∧xs = limbs q.num.natAbs∧ys = limbs q.den
def NoneAs : Shape := fun s n m xs ys => s = false∧n = 0∧m = 0∧xs = []∧ys = []
theorem ratRes_ok {K J : Nat} {q : Rat} {w : World} {e : Ending} {w' : World} (h : RatOk K J q w e w') : RatRes 0 (ToldAs K J q) w e w' := by
  obtain ⟨a,n,c,b,m,d,rfl,hn,hm,h1,h2,hb⟩ := h
  exact ⟨_,a,n,c,b,m,d,_,_,rfl,⟨rfl,hn,hm,rfl,rfl⟩,h1,h2,hb⟩
theorem ratRes_err {E : Int} {w : World} {e : Ending} {w' : World} (h : RatErr E w e w') : RatRes E NoneAs w e w' := by
  obtain ⟨rfl,hb⟩ := h
  exact ⟨_,_,_,_,_,_,_,_,_,rfl,⟨rfl,rfl,rfl,rfl,rfl⟩,row_nil _,row_nil _,hb⟩
def CutsTo (g2 g3 : Nat) (f : Bool) (h t : ByteArray) (w : World) (e : Ending) (w' : World) : Prop :=
  e = .returned (.bool f)∧∃ W,Below w.heap.size w W∧w' = (W.setCell ⟨g2,0,none⟩ (.string h)).setCell ⟨g3,0,none⟩ (.string t)
set_option maxHeartbeats 2000000 in
theorem closure_any (f : Bool) (s h t x y : ByteArray) (c : UInt8) (g1 g2 g3 : Nat) (w : World) (h1 : Uno w g1 (.string s)) (h2 : Uno w g2 (.string x)) (h3 : Uno w g3 (.string y)) (n23 : g2≠g3)
    (hc : ∀ w,Calls Tryz.prog 21 #[.string s,.string ⟨#[c]⟩] w fun e w' => e = .returned (.tuple #[.string h,.string t,.bool f])∧Below w.heap.size w w') :
    Calls Tryz.prog 107 #[.string ⟨#[c]⟩,.pointer (some ⟨g1,0,none⟩),.pointer (some ⟨g2,0,none⟩),.pointer (some ⟨g3,0,none⟩)] w (CutsTo g2 g3 f h t w) := by
  have HC := Lib.hid hc;clear hc
  have H2 := Lib.hid h2
  have H3 := Lib.hid h3
  have n32 := n23.symm
  obtain ⟨k1,-,-⟩ := h1
  clear h2 h3
  go_enter Tryz.func107,Tryz.ntmps107
  go_wp2_with fail
  refine (HC.out _).mono ?_
  rintro e w1 ⟨rfl,hb⟩
  clear k1
  obtain ⟨a1,a2,a3⟩ := H2.out.later hb
  obtain ⟨b1,b2,b3⟩ := H3.out.later hb
  have HB := Lib.hid hb;clear hb
  go_wp2
  go_ret
  exact ⟨rfl,w1,HB.out,rfl⟩
set_option maxHeartbeats 4000000 in
theorem parse_slash (E : Int) (P : Shape) (s h t : ByteArray) (w : World) (H : Split s 47 h t) (hs : s.size≤1000000) (hq : ∀ w,Calls Tryz.prog 108 #[.string h,.string t] w (RatRes E P w)) :
    Calls Tryz.prog 63 #[.string s] w (RatRes E P w) := by
  have HQ := Lib.hid hq;clear hq
  have HH := Lib.hid H;clear H
  have HB := Lib.hid (below_four w (.cells #[.string s] 9) (.cells #[.bool false,.slice none 0 0,.slice none 0 0] 27) (.cells #[.string s] 9) (.cells #[.string ⟨#[]⟩] 9))
  have U1 : Hid (Uno ((((w.alloc (.cells #[.string s] 9)).alloc (.cells #[.bool false,.slice none 0 0,.slice none 0 0] 27)).alloc (.cells #[.string s] 9)).alloc (.cells #[.string ⟨#[]⟩] 9)) w.heap.size (.string s)) := (((uno_new w _ _).alloc _).alloc _).alloc _
  have Z : Hid (Tri ((((w.alloc (.cells #[.string s] 9)).alloc (.cells #[.bool false,.slice none 0 0,.slice none 0 0] 27)).alloc (.cells #[.string s] 9)).alloc (.cells #[.string ⟨#[]⟩] 9)) (w.heap.size + 1) (.bool false) (.slice none 0 0) (.slice none 0 0)) := ((tri_newE (by simp)).alloc _).alloc _
  have U2 : Hid (Uno ((((w.alloc (.cells #[.string s] 9)).alloc (.cells #[.bool false,.slice none 0 0,.slice none 0 0] 27)).alloc (.cells #[.string s] 9)).alloc (.cells #[.string ⟨#[]⟩] 9)) (w.heap.size + 1 + 1) (.string s)) := (uno_newE (by simp)).alloc _
  have U3 : Hid (Uno ((((w.alloc (.cells #[.string s] 9)).alloc (.cells #[.bool false,.slice none 0 0,.slice none 0 0] 27)).alloc (.cells #[.string s] 9)).alloc (.cells #[.string ⟨#[]⟩] 9)) (w.heap.size + 1 + 1 + 1) (.string ⟨#[]⟩)) := uno_newE (by simp)
  go_enter Tryz.func63,Tryz.ntmps63
  go_wp2_with fail
  refine (closure_any true s (h) (t) (s) (⟨#[]⟩) 47 w.heap.size (w.heap.size + 1 + 1) (w.heap.size + 1 + 1 + 1) _ U1.out U2.out U3.out (by omega) (fun w => cut_hit s h t 47 w HH.out hs)).mono ?_
  rintro e w1' ⟨rfl,w1,hb,rfl⟩
  replace U1 := Lib.hid (((U1.out.later hb).far (g' := w.heap.size + 1 + 1) (o := 0) (by omega) (.string (h))).far (g' := w.heap.size + 1 + 1 + 1) (o := 0) (by omega) (.string (t)))
  replace Z := Lib.hid (((Z.out.later hb).farS (g' := w.heap.size + 1 + 1) (o := 0) (by omega) (.string (h))).farS (g' := w.heap.size + 1 + 1 + 1) (o := 0) (by omega) (.string (t)))
  replace U2 := Lib.hid (((U2.out.later hb).put (.string (h))).far (g' := w.heap.size + 1 + 1 + 1) (o := 0) (by omega) (.string (t)))
  replace U3 := Lib.hid (((U3.out.later hb).far (g' := w.heap.size + 1 + 1) (o := 0) (by omega) (.string (h))).put (.string (t)))
  replace HB := Lib.hid (((bthen HB.out hb).setCell (p := ⟨w.heap.size + 1 + 1,0,none⟩) (by simp;omega) (.string (h))).setCell (p := ⟨w.heap.size + 1 + 1 + 1,0,none⟩) (by simp;omega) (.string (t)))
  clear hb
  obtain ⟨k1,k2,k3⟩ := U1.out
  obtain ⟨k4,k5,k6⟩ := U2.out
  obtain ⟨k7,k8,k9⟩ := U3.out
  go_wp2_with fail
  refine (HQ.out _).mono ?_
  rintro e w5 ⟨s',a,n,c,b,m,d,xs,ys,rfl,hp,hr1,hr2,hb⟩
  have RA := Lib.hid hr1;clear hr1
  have RB := Lib.hid hr2;clear hr2
  have HP := Lib.hid hp;clear hp
  replace Z := Lib.hid (Z.out.later hb)
  replace HB := Lib.hid (bthen HB.out hb)
  clear hb k1 k2 k3 k4 k5 k6 k7 k8 k9
  obtain ⟨z0,z1,z2,z3,z4,z5,z6⟩ := Z.out
  go_wp2
  exact bodyPost_ret (v := .tuple #[.agg #[.bool s',.slice a n c,.slice b m d],.int .i64 E]) (by simp [results,Tryz.results63,go_sem, *]) rfl ⟨s',a,n,c,b,m,d,xs,ys,rfl,HP.out,RA.out.put3 Z.out _ _ _,RB.out.put3 Z.out _ _ _,below_put3 HB.out (by omega) _ _ _⟩
set_option maxHeartbeats 4000000 in
theorem parse_point (E : Int) (P : Shape) (s h t : ByteArray) (w : World) (hno : (47 : UInt8) ∉ s.data.toList) (H : Split s 46 h t) (hs : s.size≤1000000) (hq : ∀ w,Calls Tryz.prog 109 #[.string h,.string t] w (RatRes E P w)) :
    Calls Tryz.prog 63 #[.string s] w (RatRes E P w) := by
  have HQ := Lib.hid hq;clear hq
  have HH := Lib.hid H;clear H
  have HN := Lib.hid hno;clear hno
  have HB := Lib.hid (below_four w (.cells #[.string s] 9) (.cells #[.bool false,.slice none 0 0,.slice none 0 0] 27) (.cells #[.string s] 9) (.cells #[.string ⟨#[]⟩] 9))
  have U1 : Hid (Uno ((((w.alloc (.cells #[.string s] 9)).alloc (.cells #[.bool false,.slice none 0 0,.slice none 0 0] 27)).alloc (.cells #[.string s] 9)).alloc (.cells #[.string ⟨#[]⟩] 9)) w.heap.size (.string s)) := (((uno_new w _ _).alloc _).alloc _).alloc _
  have Z : Hid (Tri ((((w.alloc (.cells #[.string s] 9)).alloc (.cells #[.bool false,.slice none 0 0,.slice none 0 0] 27)).alloc (.cells #[.string s] 9)).alloc (.cells #[.string ⟨#[]⟩] 9)) (w.heap.size + 1) (.bool false) (.slice none 0 0) (.slice none 0 0)) := ((tri_newE (by simp)).alloc _).alloc _
  have U2 : Hid (Uno ((((w.alloc (.cells #[.string s] 9)).alloc (.cells #[.bool false,.slice none 0 0,.slice none 0 0] 27)).alloc (.cells #[.string s] 9)).alloc (.cells #[.string ⟨#[]⟩] 9)) (w.heap.size + 1 + 1) (.string s)) := (uno_newE (by simp)).alloc _
  have U3 : Hid (Uno ((((w.alloc (.cells #[.string s] 9)).alloc (.cells #[.bool false,.slice none 0 0,.slice none 0 0] 27)).alloc (.cells #[.string s] 9)).alloc (.cells #[.string ⟨#[]⟩] 9)) (w.heap.size + 1 + 1 + 1) (.string ⟨#[]⟩)) := uno_newE (by simp)
  go_enter Tryz.func63,Tryz.ntmps63
  go_wp2_with fail
  refine (closure_any false s (s) (⟨#[]⟩) (s) (⟨#[]⟩) 47 w.heap.size (w.heap.size + 1 + 1) (w.heap.size + 1 + 1 + 1) _ U1.out U2.out U3.out (by omega) (fun w => cut_miss s 47 w HN.out)).mono ?_
  rintro e w1' ⟨rfl,w1,hb,rfl⟩
  replace U1 := Lib.hid (((U1.out.later hb).far (g' := w.heap.size + 1 + 1) (o := 0) (by omega) (.string (s))).far (g' := w.heap.size + 1 + 1 + 1) (o := 0) (by omega) (.string (⟨#[]⟩)))
  replace Z := Lib.hid (((Z.out.later hb).farS (g' := w.heap.size + 1 + 1) (o := 0) (by omega) (.string (s))).farS (g' := w.heap.size + 1 + 1 + 1) (o := 0) (by omega) (.string (⟨#[]⟩)))
  replace U2 := Lib.hid (((U2.out.later hb).put (.string (s))).far (g' := w.heap.size + 1 + 1 + 1) (o := 0) (by omega) (.string (⟨#[]⟩)))
  replace U3 := Lib.hid (((U3.out.later hb).far (g' := w.heap.size + 1 + 1) (o := 0) (by omega) (.string (s))).put (.string (⟨#[]⟩)))
  replace HB := Lib.hid (((bthen HB.out hb).setCell (p := ⟨w.heap.size + 1 + 1,0,none⟩) (by simp;omega) (.string (s))).setCell (p := ⟨w.heap.size + 1 + 1 + 1,0,none⟩) (by simp;omega) (.string (⟨#[]⟩)))
  clear hb
  obtain ⟨k1,k2,k3⟩ := U1.out
  obtain ⟨k4,k5,k6⟩ := U2.out
  obtain ⟨k7,k8,k9⟩ := U3.out
  go_wp2_with fail
  clear k1 k2 k3 k4 k5 k6 k7 k8 k9
  refine (closure_any true s (h) (t) (s) (⟨#[]⟩) 46 w.heap.size (w.heap.size + 1 + 1) (w.heap.size + 1 + 1 + 1) _ U1.out U2.out U3.out (by omega) (fun w => cut_hit s h t 46 w HH.out hs)).mono ?_
  rintro e w2' ⟨rfl,w2,hb,rfl⟩
  replace U1 := Lib.hid (((U1.out.later hb).far (g' := w.heap.size + 1 + 1) (o := 0) (by omega) (.string (h))).far (g' := w.heap.size + 1 + 1 + 1) (o := 0) (by omega) (.string (t)))
  replace Z := Lib.hid (((Z.out.later hb).farS (g' := w.heap.size + 1 + 1) (o := 0) (by omega) (.string (h))).farS (g' := w.heap.size + 1 + 1 + 1) (o := 0) (by omega) (.string (t)))
  replace U2 := Lib.hid (((U2.out.later hb).put (.string (h))).far (g' := w.heap.size + 1 + 1 + 1) (o := 0) (by omega) (.string (t)))
  replace U3 := Lib.hid (((U3.out.later hb).far (g' := w.heap.size + 1 + 1) (o := 0) (by omega) (.string (h))).put (.string (t)))
  replace HB := Lib.hid (((bthen HB.out hb).setCell (p := ⟨w.heap.size + 1 + 1,0,none⟩) (by simp;omega) (.string (h))).setCell (p := ⟨w.heap.size + 1 + 1 + 1,0,none⟩) (by simp;omega) (.string (t)))
  clear hb
  obtain ⟨k1,k2,k3⟩ := U1.out
  obtain ⟨k4,k5,k6⟩ := U2.out
  obtain ⟨k7,k8,k9⟩ := U3.out
  go_wp2_with fail
  refine (HQ.out _).mono ?_
  rintro e w5 ⟨s',a,n,c,b,m,d,xs,ys,rfl,hp,hr1,hr2,hb⟩
  have RA := Lib.hid hr1;clear hr1
  have RB := Lib.hid hr2;clear hr2
  have HP := Lib.hid hp;clear hp
  replace Z := Lib.hid (Z.out.later hb)
  replace HB := Lib.hid (bthen HB.out hb)
  clear hb k1 k2 k3 k4 k5 k6 k7 k8 k9
  obtain ⟨z0,z1,z2,z3,z4,z5,z6⟩ := Z.out
  go_wp2
  exact bodyPost_ret (v := .tuple #[.agg #[.bool s',.slice a n c,.slice b m d],.int .i64 E]) (by simp [results,Tryz.results63,go_sem, *]) rfl ⟨s',a,n,c,b,m,d,xs,ys,rfl,HP.out,RA.out.put3 Z.out _ _ _,RB.out.put3 Z.out _ _ _,below_put3 HB.out (by omega) _ _ _⟩
end Go.Proofs.YtkcgikoploohkaaGreatDoor
