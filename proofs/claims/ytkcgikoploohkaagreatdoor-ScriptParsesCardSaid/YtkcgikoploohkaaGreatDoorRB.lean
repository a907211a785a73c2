import Derived.Test.YtkcgikoploohkaaGreatDoorRA
import Derived.Test.YtkcgikoploohkaaGreatDoorND
import Derived.Lib.ItoaNum
import Derived.Laws.AppendOwnNone
namespace Go.Proofs.YtkcgikoploohkaaGreatDoor
set_option linter.unusedVariables false
set_option linter.unusedSimpArgs false
set_option maxRecDepth 100000
open Go.RowKit Nums
theorem append_copy {w0 : World} {ops : Array Oper} {rest : List Oper} {o : Oper} {a : Act} {Q : Exit→Act→World→Prop} (hgd : o.guard = none) (s x : Operand)
    (ho : o.op = .call { callee := .builtin .append,args := #[s,x],argTypes := #[23,23] }) (b off k c : Nat) (xs : List Nat) (hs : a.eval s = .slice (some ⟨w0.heap.size,0,none⟩) 0 0) (hx : a.eval x = .slice (some ⟨b,off,none⟩) k c)
    (hcells : ∀ i,i < k→b < w0.heap.size∧w0.cell? ⟨b,off + i,none⟩ = some (.int .u32 (xs.getD i 0 : Nat))) (hk : k≤xs.length) (hn : k≤1000000000)
    (hK : ∀ v' w',Own w' w0.heap.size v' (xs.take k)→Below w0.heap.size w0 w'→wpList Tryz.prog ops Q rest (a.put o.dst v') w') :
    wpList Tryz.prog ops Q (o :: rest) a (w0.alloc (.cells #[] 89)) := by
  obtain ⟨i0,hi,hz0,hz1,hz2⟩ := info_parts Tryz.info89
  have hown : (w0.alloc (.cells #[] 89)).ownsRow w0.heap.size 89 1 (.slice (some ⟨w0.heap.size,0,none⟩) 0 0) 0 [] := World.ownsRow_lit (base := w0.heap.size) (e := 89) (size := 1) w0 #[] 0 (Nat.le_refl _) (Nat.zero_le _) (by simp)
  have hl : (xs.take k).length = k := by simp;omega
  refine wpList_append_own (w0.alloc (.cells #[] 89)) hgd s x 23 ho w0.heap.size 89 i0 (.int .u32 0) 1 4 Tryz.underlying23 hi hz0 hz1 hz2 rfl (by decide) _ 0 [] hs hown ⟨b,off,none⟩ k c ((xs.take k).map u32) hx ?_ ?_ ?_ ?_ ?_ ?_ ?_
  · simp;omega
  · intro j u hj
    have hjk : j < k := by
      have := (List.getElem?_eq_some_iff.1 hj).1
      simp at this;omega
    have e : (⟨b,off,none⟩ : Addr).add j = ⟨b,off + j,none⟩ := by unfold Addr.add;split <;> simp_all
    have hjx : j < xs.length := by omega
    have h2 := (Below.refl w0.heap.size w0).alloc (Nat.le_refl _) (.cells #[] 89)
    rw [e,h2.cell (p := ⟨b,off + j,none⟩) (hcells j hjk).1,(hcells j hjk).2,←hj]
    simp [List.getElem?_take,hjk,hjx,u32]
  · intro u hu;obtain ⟨y,_,rfl⟩ := List.mem_map.1 hu;rfl
  · unfold maxLen;omega
  · omega
  · simp
  · intro v' w' h1 h2 _
    refine hK v' w' ?_ ?_
    · unfold Own;rw [hl];simpa using h1
    · exact ((Below.refl _ w0).alloc (Nat.le_refl _) _).grown h2 (by simp) (fun k hk => by simp [Value.ownBlock] at hk;omega)
theorem numC_own {w0 w : World} {v : Value} {cs : List Nat} {N : Nat} (h : Own w w0.heap.size v cs) (he : cs = limbs N) (hb : Below w0.heap.size w0 w) : NumC N w0 (.returned v) w := by
  have hs : Small cs := by rw [he];exact small_limbs N
  obtain ⟨a,c,rfl,hr⟩ := row_ownv h hs
  rw [he] at hr ⊢
  exact ⟨a,_,c,rfl,rfl,hr,hb⟩
theorem numC_zero {w0 : World} {N : Nat} (h : N = 0) : NumC N w0 (.returned (.slice (some ⟨w0.heap.size,0,none⟩) 0 0)) (w0.alloc (.cells #[] 89)) := by
  subst h
  refine ⟨some ⟨w0.heap.size,0,none⟩,0,0,rfl,by rw [limbs_zero];rfl, ?_,(Below.refl _ _).alloc (Nat.le_refl _) _⟩
  rw [limbs_zero]
  exact ⟨rfl,Nat.le_refl _,Nat.zero_le _,by simp,(fun x hx => by cases hx),0,0,Or.inr (Nat.le_refl _),fun i hi => by omega⟩
set_option maxHeartbeats 2000000 in
theorem rtrim_any (a : Option Addr) (n c : Nat) (xs : List Nat) (w : World) (hr : Row w a n c xs) (hn : n≤100000000) :
    Calls Tryz.prog 98 #[.slice a n c] w (NumC (val xs) w) := by
  have hr0 := hr
  obtain ⟨hl,hnc,hcm,hnone,hsm,b,off,hor,hc⟩ := hr
  have HR := Lib.hid hr0;clear hr0
  have H1 := Lib.hid hl;clear hl
  have hK : ∀ k : Nat,k≤n→(∀ i,k≤i→xs.getD i 0 = 0)→(k = 0∨xs.getD (k - 1) 0≠0)→k = tl xs := fun k h1 h2 h3 => (tl_unique xs k (by rw [H1.out];exact h1) h2 h3).symm
  have hZ : ∀ i,n≤i→xs.getD i 0 = 0 := fun i hi => getD_ge xs i (by rw [H1.out];exact hi)
  have HK := Lib.hid hK;clear hK
  have HZ := Lib.hid hZ;clear hZ
  have HC := Lib.hid hc;clear hc
  have HN := Lib.hid hnone;clear hnone
  unfold maxLen at hcm
  rcases (show _∨Hid _ from hor) with rfl | hor
  all_goals
    go_enter Tryz.func98,Tryz.ntmps98
    go_wp2
    go_loop [3] (fun t => ∃ k : Nat,k≤n∧t = .int .i64 k∧Hid (∀ i,k≤i→xs.getD i 0 = 0)) (fun t => (intOf t).toNat)
    case atStart => exact ⟨n,Nat.le_refl _,rfl,HZ⟩
    case round =>
      obtain ⟨k,hk,rfl,hz⟩ := hrel
      by_cases hk0 : 0 < k
      · first
        | (exfalso;have := hor.out;omega)
        | (have hcell := (HC.out (k - 1) (by omega)).2
           have e : ((k : Int) - 1).toNat = k - 1 := by omega
           obtain ⟨x,hxe⟩ : ∃ x,x = xs.getD (k - 1) 0 := ⟨_,rfl⟩
           rw [←hxe] at hcell
           have HX := Lib.hid hxe;clear hxe
           by_cases hx : x = 0
           · have hx' : ((x : Int) == 0) = true := by rw [beq_iff_eq];omega
             have HXZ := Lib.hid hx;clear hx
             go_wp2
             go_round
             case rel => exact ⟨k - 1,by omega,by go_num,fun i hi => if h : i = k - 1 then by rw [h,←HX.out];exact HXZ.out else hz.out i (by omega)⟩
             case measure => simp [intOf];omega
           · have hx' : ((x : Int) == 0) = false := by rw [beq_eq_false_iff_ne];omega
             have HXZ := Lib.hid hx;clear hx
             have HE : Hid (k = tl xs) := HK.out k hk hz.out (Or.inr (by rw [←HX.out];exact HXZ.out))
             have HLX : Hid (xs.take k = limbs (val xs)) := by rw [HE.out];exact limbs_take xs hsm
             have HKL : Hid (k≤xs.length) := by rw [H1.out];exact hk
             go_wp2_with (at_builtin;refine append_copy rfl _ _ rfl b off k c xs rfl rfl (fun i hi => HC.out i (by omega)) HKL.out (by omega) ?_)
             intro v' w' hown hb
             have HOW := Lib.hid hown;clear hown
             go_wp2
             go_ret
             exact numC_own HOW.out HLX.out hb)
      · obtain rfl : k = 0 := by omega
        have HE : Hid (val xs = 0) := (val_zero_tl xs).2 (HK.out 0 hk hz.out (Or.inl rfl)).symm
        first
        | (rcases a with _ | x
           · have hc0 : c = 0 := HN.out rfl
             subst hc0
             go_wp2
             go_ret
             exact numC_zero HE.out
           · go_wp2
             go_ret
             exact numC_zero HE.out)
        | (go_wp2
           go_ret
           exact numC_zero HE.out)
theorem rtrim_pair (w : World) (A B : Int) (a b : Nat) (hA : A = (a : Int)) (hB : B = (b : Int)) (ha : a < 4294967296) (hb : b < 4294967296) :
    Calls Tryz.prog 98 #[.slice (some ⟨w.heap.size,0,none⟩) 2 2] (w.alloc (.cells #[.int .u32 A,.int .u32 B] 89)) (NumC (a + 4294967296 * b) w) := by
  subst hA;subst hB
  have hs : Small [a,b] := by intro x hx;simp at hx;omega
  have hr := (mem_alloc w [a,b] _ rfl).row0 hs 2 (by simp) (by unfold maxLen;omega)
  have hbel : Below w.heap.size w (w.alloc (.cells #[.int .u32 (a : Int),.int .u32 (b : Int)] 89)) := (Below.refl _ _).alloc (Nat.le_refl _) _
  refine (rtrim_any _ 2 2 [a,b] _ hr (by omega)).mono ?_
  rintro e w' ⟨a',m,c,rfl,hm,hrow,hb⟩
  have e : val [a,b] = a + 4294967296 * b := by simp [val]
  rw [e] at hm hrow
  exact ⟨a',m,c,rfl,hm,hrow,hbel.trans (hb.mono hbel.size)⟩
set_option maxHeartbeats 1000000 in
theorem rlimbs_any (X : Int) (x : Nat) (w : World) (hX : X = (x : Int)) (hx : x < 18446744073709551616) :
    Calls Tryz.prog 114 #[.int .u64 X] w (NumC x w) := by
  subst hX
  have h1 : x / 4294967296 < 4294967296 := by omega
  obtain ⟨lo,hlo⟩ : ∃ lo,lo = x % 4294967296 := ⟨_,rfl⟩
  obtain ⟨hi,hhi⟩ : ∃ hi,hi = x / 4294967296 := ⟨_,rfl⟩
  have hloI : (x : Int) % 4294967296 = (lo : Int) := by omega
  have hhiI : (x : Int) / 4294967296 = (hi : Int) := by omega
  have hl : lo < 4294967296 := by omega
  have hh : hi < 4294967296 := by omega
  have hs : lo + 4294967296 * hi = x := by omega
  have HLO := Lib.hid hloI;clear hloI hlo
  have HHI := Lib.hid hhiI;clear hhiI hhi
  have HS := Lib.hid hs;clear hs
  go_enter Tryz.func114,Tryz.ntmps114
  go_wp2_with fail
  refine (rtrim_pair w _ _ lo hi HLO.out (by first | exact HHI.out | (rw [HHI.out];omega)) hl hh).mono ?_
  rw [HS.out]
  rintro e w' ⟨a',m,c,rfl,hm,hrow,hb⟩
  have HM := Lib.hid hm;clear hm
  have HROW := Lib.hid hrow;clear hrow
  have HB := Lib.hid hb;clear hb
  go_wp2
  go_ret
  exact ⟨a',m,c,rfl,HM.out,HROW.out,HB.out⟩
def ShortPost (xs : List Nat) (w : World) (e : Ending) (w' : World) : Prop := (∃ (u : Nat) (p : Bool),e = .returned (.tuple #[.int .u64 (u : Int),.bool p])∧u < 4294967296∧(p = true→u = val xs))∧w = w'
set_option maxHeartbeats 1000000 in
theorem short_any (a : Option Addr) (n c : Nat) (xs : List Nat) (w : World) (hr : Row w a n c xs) (hn : n≤100000000) :
    Calls Tryz.prog 115 #[.slice a n c] w (ShortPost xs w) := by
  obtain ⟨hl,-,-,-,hs,b,off,hor,hc⟩ := hr
  have HL := Lib.hid hl;clear hl
  have HC := Lib.hid hc;clear hc
  rcases (show _∨Hid _ from hor) with rfl | hor
  all_goals
    by_cases h0 : 0 < n
    · first
      | (exfalso;have := hor.out;omega)
      | (have hcell := (HC.out 0 h0).2
         rw [Nat.add_zero] at hcell
         have hx := getD_lt xs hs 0
         obtain ⟨x,hxe⟩ : ∃ x,x = xs.getD 0 0 := ⟨_,rfl⟩
         rw [←hxe] at hcell hx
         have HX := Lib.hid hxe;clear hxe
         have hz : ((n : Int) == 0) = false := by rw [beq_eq_false_iff_ne];omega
         go_enter Tryz.func115,Tryz.ntmps115
         go_wp2
         go_ret2
         refine ⟨⟨x,(n : Int) == 1,rfl,hx,fun h => ?_⟩,rfl⟩
         have h1 : n = 1 := by have := beq_iff_eq.1 h;omega
         have h2 := HL.out
         rw [h1] at h2
         match xs,h2 with
         | [y],_ => rw [HX.out];simp [val])
    · obtain rfl : n = 0 := by omega
      have hxs : xs = [] := List.length_eq_zero_iff.1 HL.out
      go_enter Tryz.func115,Tryz.ntmps115
      go_wp2
      go_ret2
      exact ⟨⟨0,true,rfl,by omega,fun _ => by first | rfl | (rw [hxs];rfl)⟩,rfl⟩
end Go.Proofs.YtkcgikoploohkaaGreatDoor
/- What the document's answer's Add, Sub, Cmp, Bits tell. -/
namespace Go.Proofs.YtkcgikoploohkaaGreatDoor
set_option linter.unusedVariables false
set_option linter.unusedSimpArgs false
set_option maxRecDepth 100000
open Go.RowKit Nums
theorem bits_le {w : World} {a : Option Addr} {n c : Nat} {xs : List Nat} (h : Row w a n c xs) : (bitsOf (val xs)).length≤32 * n := by
  apply bits_len
  have := val_lt xs h.2.2.2.2.1
  rw [h.1,pow32] at this
  exact this
theorem bits_mono {a b : Nat} (h : a≤b) : (bitsOf a).length≤(bitsOf b).length := by
  apply bits_len
  have h1 := bval_lt (bitsOf b)
  rw [bval_bits] at h1
  omega
theorem bits_add {a b k : Nat} (ha : (bitsOf a).length≤k) (hb : (bitsOf b).length≤k) : (bitsOf (a + b)).length≤k + 1 := by
  apply bits_len
  have h1 := bval_lt (bitsOf a)
  have h2 := bval_lt (bitsOf b)
  rw [bval_bits] at h1 h2
  have h3 := Nat.pow_le_pow_right (n := 2) (by omega) ha
  have h4 := Nat.pow_le_pow_right (n := 2) (by omega) hb
  rw [Nat.pow_succ]
  omega
set_option maxHeartbeats 2000000 in
theorem rsub_ge (a b : Option Addr) (n c m d : Nat) (xs ys : List Nat) (w : World) (h0 : Row w a n c xs) (h1 : Row w b m d ys) (hn : n≤1000) (hm : m≤1000) (hge : val ys≤val xs) :
    Calls Tryz.prog 184 #[.slice a n c,.slice b m d] w fun e w' => ∃ a' m c,e = .returned (.tuple #[.slice a' m c,.int .i64 0])∧m = (limbs (val xs - val ys)).length∧Row w' a' m c (limbs (val xs - val ys))∧Below w.heap.size w w' := by
  have LX := Lib.hid (bits_le h0)
  have LY := Lib.hid (bits_le h1)
  have H0 := Lib.hid h0;clear h0
  have H1 := Lib.hid h1;clear h1
  have HL := Lib.hid hge;clear hge
  have HC : Hid (∃ r : Int,cmpv (val xs) (val ys) = r∧0≤r) := ⟨_,rfl,by rw [cmpv,if_neg (by have := HL.out;omega)];split <;> omega⟩
  go_enter Tryz.func184,Tryz.ntmps184
  go_wp2_with fail
  refine (of_any a n c xs w H0.out (by omega)).mono ?_
  rintro e w1 ⟨va,ma,ca,rfl,hma,hra,hb1⟩
  have HMA := Lib.hid hma
  have hmab : ma≤32000 := by have := LX.out;omega
  have HRA := Lib.hid hra;clear hra hma
  have HB1 := Lib.hid hb1;clear hb1
  go_wp2_with fail
  refine (of_any b m d ys w1 (row_below (Nat.le_refl _) HB1.out H1.out) (by omega)).mono ?_
  rintro e w2 ⟨vb,mb,cb,rfl,hmb,hrb,hb2⟩
  have HMB := Lib.hid hmb
  have hmbb : mb≤32000 := by have := LY.out;omega
  have HRB := Lib.hid hrb;clear hrb hmb
  replace HRA := Lib.hid (brow_below (Nat.le_refl _) hb2 HRA.out)
  have HB2 := Lib.hid (HB1.out.trans (hb2.mono HB1.out.size));clear hb2
  obtain ⟨r,hr,hr0⟩ := HC.out
  have HR := Lib.hid hr;clear hr
  go_wp2_with fail
  refine (bcmp_any va vb ma ca mb cb _ _ w2 HRA.out HRB.out (by omega) (by omega)).mono ?_
  rw [bval_bits,bval_bits,HR.out]
  rintro e w' ⟨rfl,rfl⟩
  go_wp2_with fail
  refine (bsub_any va vb ma ca mb cb _ _ w2 HRA.out HRB.out (by omega) (by rw [HMA.out,HMB.out];exact bits_mono HL.out) (by rw [bval_bits,bval_bits];exact HL.out)).mono ?_
  rw [bval_bits,bval_bits]
  rintro e w3 ⟨vs,ms,cs,rfl,hms,hrs,hb3⟩
  have hmsb : ms≤32000 := by have h1 := bits_mono (Nat.sub_le (val xs) (val ys));have h2 := LX.out;omega
  have HRS := Lib.hid hrs;clear hrs hms
  have HB3 := Lib.hid (HB2.out.trans (hb3.mono HB2.out.size));clear hb3
  go_wp2_with fail
  refine (limbs_any vs ms cs _ w3 HRS.out (by omega)).mono ?_
  rw [bval_bits]
  rintro e w4 ⟨vt,mt,ct,rfl,hmt,hrt,hb4⟩
  have HMT := Lib.hid hmt;clear hmt
  have HRT := Lib.hid hrt;clear hrt
  have HB4 := Lib.hid (HB3.out.trans (hb4.mono HB3.out.size));clear hb4
  go_wp2
  go_ret2
  exact ⟨vt,mt,ct,rfl,HMT.out,HRT.out,HB4.out⟩
set_option maxHeartbeats 2000000 in
theorem rcmp_any (a b : Option Addr) (n c m d : Nat) (xs ys : List Nat) (w : World) (h0 : Row w a n c xs) (h1 : Row w b m d ys) (hn : n≤1000) (hm : m≤1000) :
    Calls Tryz.prog 183 #[.slice a n c,.slice b m d] w (CmpPost (val xs) (val ys) w) := by
  have LX := Lib.hid (bits_le h0)
  have LY := Lib.hid (bits_le h1)
  have H0 := Lib.hid h0;clear h0
  have H1 := Lib.hid h1;clear h1
  go_enter Tryz.func183,Tryz.ntmps183
  go_wp2_with fail
  refine (of_any a n c xs w H0.out (by omega)).mono ?_
  rintro e w1 ⟨va,ma,ca,rfl,hma,hra,hb1⟩
  have hmab : ma≤32000 := by have := LX.out;omega
  have HRA := Lib.hid hra;clear hra hma
  have HB1 := Lib.hid hb1;clear hb1
  go_wp2_with fail
  refine (of_any b m d ys w1 (row_below (Nat.le_refl _) HB1.out H1.out) (by omega)).mono ?_
  rintro e w2 ⟨vb,mb,cb,rfl,hmb,hrb,hb2⟩
  have hmbb : mb≤32000 := by have := LY.out;omega
  have HRB := Lib.hid hrb;clear hrb hmb
  replace HRA := Lib.hid (brow_below (Nat.le_refl _) hb2 HRA.out)
  have HB2 := Lib.hid (HB1.out.trans (hb2.mono HB1.out.size));clear hb2
  go_wp2_with fail
  refine (bcmp_any va vb ma ca mb cb _ _ w2 HRA.out HRB.out (by omega) (by omega)).mono ?_
  rw [bval_bits,bval_bits]
  rintro e w' ⟨rfl,rfl⟩
  go_wp2
  go_ret
  exact ⟨rfl,HB2.out⟩
set_option maxHeartbeats 2000000 in
theorem radd_any (a b : Option Addr) (n c m d : Nat) (xs ys : List Nat) (w : World) (h0 : Row w a n c xs) (h1 : Row w b m d ys) (hn : n≤1000) (hm : m≤1000) :
    Calls Tryz.prog 73 #[.slice a n c,.slice b m d] w (NumC (val xs + val ys) w) := by
  have LX := Lib.hid (bits_le h0)
  have LY := Lib.hid (bits_le h1)
  have H0 := Lib.hid h0;clear h0
  have H1 := Lib.hid h1;clear h1
  go_enter Tryz.func73,Tryz.ntmps73
  go_wp2_with fail
  refine (short_any a n c xs w H0.out (by omega)).mono ?_
  rintro e w' ⟨⟨u,p,rfl,hu,hp⟩,rfl⟩
  have HP := Lib.hid hp;clear hp
  go_wp2_with fail
  refine (short_any b m d ys w H1.out (by omega)).mono ?_
  rintro e w' ⟨⟨v,q,rfl,hv,hq⟩,rfl⟩
  have HQ := Lib.hid hq;clear hq
  by_cases hpq : p = true∧q = true
  · obtain ⟨rfl,rfl⟩ := hpq
    have HU := Lib.hid (HP.out rfl)
    have HV := Lib.hid (HQ.out rfl)
    go_wp2_with fail
    refine (rlimbs_any _ (u + v) w (by omega) (by omega)).mono ?_
    rw [HU.out,HV.out]
    rintro e w4 ⟨vt,mt,ct,rfl,hmt,hrt,hb4⟩
    have HMT := Lib.hid hmt;clear hmt
    have HRT := Lib.hid hrt;clear hrt
    have HB4 := Lib.hid hb4;clear hb4
    go_wp2
    go_ret
    exact ⟨vt,mt,ct,rfl,HMT.out,HRT.out,HB4.out⟩
  · have hpq2 : p = false∨(p = true∧q = false) := by
      cases p <;> cases q <;> simp at hpq ⊢
    clear hpq
    rcases hpq2 with rfl | ⟨rfl,rfl⟩
    all_goals
      go_wp2_with fail
      refine (of_any a n c xs w H0.out (by omega)).mono ?_
      rintro e w1 ⟨va,ma,ca,rfl,hma,hra,hb1⟩
      have HMA := Lib.hid hma
      have hmab : ma≤32000 := by have := LX.out;omega
      have HRA := Lib.hid hra;clear hra hma
      have HB1 := Lib.hid hb1;clear hb1
      go_wp2_with fail
      refine (of_any b m d ys w1 (row_below (Nat.le_refl _) HB1.out H1.out) (by omega)).mono ?_
      rintro e w2 ⟨vb,mb,cb,rfl,hmb,hrb,hb2⟩
      have HMB := Lib.hid hmb
      have hmbb : mb≤32000 := by have := LY.out;omega
      have HRB := Lib.hid hrb;clear hrb hmb
      replace HRA := Lib.hid (brow_below (Nat.le_refl _) hb2 HRA.out)
      have HB2 := Lib.hid (HB1.out.trans (hb2.mono HB1.out.size));clear hb2
      go_wp2_with fail
      refine (badd_any va vb ma ca mb cb _ _ w2 HRA.out HRB.out (by omega) (by omega)).mono ?_
      rw [bval_bits,bval_bits]
      rintro e w3 ⟨vs,ms,cs,rfl,hms,hrs,hb3⟩
      have hmsb : ms≤32001 := by rw [hms];exact bits_add (by rw [←HMA.out];exact hmab) (by rw [←HMB.out];exact hmbb)
      have HRS := Lib.hid hrs;clear hrs hms
      have HB3 := Lib.hid (HB2.out.trans (hb3.mono HB2.out.size));clear hb3
      go_wp2_with fail
      refine (limbs_any vs ms cs _ w3 HRS.out (by omega)).mono ?_
      rw [bval_bits]
      rintro e w4 ⟨vt,mt,ct,rfl,hmt,hrt,hb4⟩
      have HMT := Lib.hid hmt;clear hmt
      have HRT := Lib.hid hrt;clear hrt
      have HB4 := Lib.hid (HB3.out.trans (hb4.mono HB3.out.size));clear hb4
      go_wp2
      go_ret
      exact ⟨vt,mt,ct,rfl,HMT.out,HRT.out,HB4.out⟩
end Go.Proofs.YtkcgikoploohkaaGreatDoor
/- What the document's answer's Mul tells; what Bits tells. -/
namespace Go.Proofs.YtkcgikoploohkaaGreatDoor
set_option linter.unusedVariables false
set_option linter.unusedSimpArgs false
set_option maxRecDepth 100000
open Go.RowKit Nums
theorem append_front {w0 : World} {ops : Array Oper} {rest : List Oper} {o : Oper} {a : Act} {Q : Exit→Act→World→Prop} (hgd : o.guard = none) (s x : Operand)
    (ho : o.op = .call { callee := .builtin .append,args := #[s,x],argTypes := #[132,132] }) (ao : Option Addr) (mo co : Nat) (bs : List Bool) (hs : a.eval s = .slice (some ⟨w0.heap.size,0,none⟩) 1 1) (hx : a.eval x = .slice ao mo co)
    (hrow : BRow w0 ao mo co bs) (hn : mo≤1000000000)
    (hK : ∀ v' w',OwnB w' w0.heap.size v' (false :: bs)→Below w0.heap.size w0 w'→wpList Tryz.prog ops Q rest (a.put o.dst v') w') :
    wpList Tryz.prog ops Q (o :: rest) a (w0.alloc (.cells #[.bool false] 4)) := by
  obtain ⟨i0,hi,hz0,hz1,hz2⟩ := info_parts Tryz.info4
  have hown : (w0.alloc (.cells #[.bool false] 4)).ownsRow w0.heap.size 4 1 (.slice (some ⟨w0.heap.size,0,none⟩) 1 1) 1 [.bool false] := World.ownsRow_lit (base := w0.heap.size) (e := 4) (size := 1) w0 #[.bool false] 1 (Nat.le_refl _) (by unfold maxLen;omega) (by simp)
  obtain ⟨hl,hnc,hcm,hnone,b,off,hor,hc⟩ := hrow
  have h2 := (Below.refl w0.heap.size w0).alloc (Nat.le_refl _) (.cells #[.bool false] 4)
  cases ao with
  | none =>
    have hc0 := hnone rfl
    have hm0 : mo = 0 := by omega
    subst hc0;subst hm0
    have hbs : bs = [] := List.length_eq_zero_iff.1 hl
    subst hbs
    exact wpList_append_own_none hgd s x 132 ho w0.heap.size 4 i0 1 Tryz.underlying132 hi _ 1 [.bool false] hs hown hx (hK _ _ hown h2)
  | some ad =>
    refine wpList_append_own (w0.alloc (.cells #[.bool false] 4)) hgd s x 132 ho w0.heap.size 4 i0 (.bool false) 1 1 Tryz.underlying132 hi hz0 hz1 hz2 rfl (by decide) _ 1 [.bool false] hs hown ad mo co (bs.map Value.bool) hx ?_ ?_ ?_ ?_ ?_ ?_ ?_
    · simp;omega
    · intro j u hj
      have hjk : j < mo := by
        have := (List.getElem?_eq_some_iff.1 hj).1
        simp at this;omega
      rcases hor with h | h
      · obtain rfl : ad = ⟨b,off,none⟩ := by injection h
        have e : (⟨b,off,none⟩ : Addr).add j = ⟨b,off + j,none⟩ := by unfold Addr.add;split <;> simp_all
        have hjx : j < bs.length := by omega
        rw [e,h2.cell (p := ⟨b,off + j,none⟩) (hc j hjk).1,(hc j hjk).2,←hj]
        simp [hjx]
      · omega
    · intro u hu;obtain ⟨y,_,rfl⟩ := List.mem_map.1 hu;rfl
    · unfold maxLen;omega
    · omega
    · simp
    · intro v' w' h1 h3 _
      refine hK v' w' ?_ ?_
      · unfold OwnB
        have e : (false :: bs).length = 1 + mo := by simp [hl];omega
        rw [e]
        exact h1
      · exact h2.grown h3 (by simp) (fun k hk => by simp [Value.ownBlock] at hk;omega)
theorem bval_drop (ys : List Bool) (k : Nat) (hk : 0 < k) (hl : k≤ys.length) : bval (ys.drop (k - 1)) = bnum (ys.getD (k - 1) false) + 2 * bval (ys.drop k) := by
  obtain ⟨j,rfl⟩ : ∃ j,k = j + 1 := ⟨k - 1,by omega⟩
  have h1 : j < ys.length := by omega
  simp only [Nat.add_sub_cancel]
  rw [List.drop_eq_getElem_cons h1]
  simp only [bval]
  simp [h1]
theorem mul_bits (X Y j : Nat) : (bitsOf (X * bval ((bitsOf Y).drop j))).length≤(bitsOf X).length + (bitsOf Y).length := by
  apply bits_len
  have h1 := bval_lt (bitsOf X)
  rw [bval_bits] at h1
  have h2 := bval_lt ((bitsOf Y).drop j)
  have h3 : 2 ^ ((bitsOf Y).drop j).length≤2 ^ (bitsOf Y).length := Nat.pow_le_pow_right (by omega) (by rw [List.length_drop];omega)
  rw [Nat.pow_add]
  exact Nat.mul_lt_mul'' h1 (Nat.lt_of_lt_of_le h2 h3)
set_option maxHeartbeats 4000000 in
theorem rmul_any (a b : Option Addr) (n c m d : Nat) (xs ys : List Nat) (w : World) (h0 : Row w a n c xs) (h1 : Row w b m d ys) (hn : n≤1000) (hm : m≤1000) :
    Calls Tryz.prog 72 #[.slice a n c,.slice b m d] w (NumC (val xs * val ys) w) := by
  have LX := Lib.hid (bits_le h0)
  have LY := Lib.hid (bits_le h1)
  have H0 := Lib.hid h0;clear h0
  have H1 := Lib.hid h1;clear h1
  go_enter Tryz.func72,Tryz.ntmps72
  go_wp2_with fail
  refine (short_any a n c xs w H0.out (by omega)).mono ?_
  rintro e w' ⟨⟨u,p,rfl,hu,hp⟩,rfl⟩
  have HP := Lib.hid hp;clear hp
  go_wp2_with fail
  refine (short_any b m d ys w H1.out (by omega)).mono ?_
  rintro e w' ⟨⟨v,q,rfl,hv,hq⟩,rfl⟩
  have HQ := Lib.hid hq;clear hq
  by_cases hpq : p = true∧q = true
  · obtain ⟨rfl,rfl⟩ := hpq
    have HU := Lib.hid (HP.out rfl)
    have HV := Lib.hid (HQ.out rfl)
    have hroom := mul_room 0 u v 0 (by omega) hu hv (by omega)
    have hr1 : (u : Int) * (v : Int)≤18446744065119617025 := by have := hroom.1;rw [←Int.natCast_mul];omega
    have hr0 : 0≤(u : Int) * (v : Int) := by rw [←Int.natCast_mul];omega
    have HR := Lib.hid hroom.1;clear hroom
    go_wp2_with fail
    refine (rlimbs_any _ (u * v) w (by simp) (by have := HR.out;omega)).mono ?_
    rw [HU.out,HV.out]
    rintro e w4 ⟨vt,mt,ct,rfl,hmt,hrt,hb4⟩
    have HMT := Lib.hid hmt;clear hmt
    have HRT := Lib.hid hrt;clear hrt
    have HB4 := Lib.hid hb4;clear hb4
    go_wp2
    go_ret
    exact ⟨vt,mt,ct,rfl,HMT.out,HRT.out,HB4.out⟩
  · have hpq2 : p = false∨(p = true∧q = false) := by
      cases p <;> cases q <;> simp at hpq ⊢
    clear hpq
    obtain ⟨X,hX⟩ : ∃ X,X = val xs := ⟨_,rfl⟩
    obtain ⟨Y,hY⟩ : ∃ Y,Y = val ys := ⟨_,rfl⟩
    have HXY : Hid (X * Y = val xs * val ys) := by rw [hX,hY];exact rfl
    rw [←hX] at LX
    rw [←hY] at LY
    have VX := Lib.hid hX;clear hX
    have VY := Lib.hid hY;clear hY
    rcases hpq2 with rfl | ⟨rfl,rfl⟩
    all_goals
      go_wp2_with fail
      refine (of_any a n c xs w H0.out (by omega)).mono ?_
      rw [←VX.out]
      rintro e w1 ⟨va,ma,ca,rfl,hma,hra,hb1⟩
      have HMA := Lib.hid hma
      have hmab : ma≤32000 := by have := LX.out;omega
      have HRA := Lib.hid hra;clear hra hma
      have HB1 := Lib.hid hb1;clear hb1
      go_wp2_with fail
      refine (of_any b m d ys w1 (row_below (Nat.le_refl _) HB1.out H1.out) (by omega)).mono ?_
      rw [←VY.out]
      rintro e w2 ⟨vb,mb,cb,rfl,hmb,hrb,hb2⟩
      have HMB := Lib.hid hmb
      have hmbb : mb≤32000 := by have := LY.out;omega
      have HRB := Lib.hid hrb;clear hrb hmb
      replace HRA := Lib.hid (brow_below (Nat.le_refl _) hb2 HRA.out)
      have HB2 := Lib.hid (HB1.out.trans (hb2.mono HB1.out.size));clear hb2
      obtain ⟨hlb,-,-,-,b0,o0,hor0,hc0⟩ := HRB.out
      have HLB := Lib.hid hlb;clear hlb
      have HCB := Lib.hid hc0;clear hc0
      rcases (show _∨Hid _ from hor0) with rfl | hor0
      all_goals
        go_wp2
        go_loopw [11,12] (fun v t wr => ∃ (k : Nat) (ao : Option Addr) (mo co : Nat) (bs : List Bool),k≤mb∧t = .int .i64 ((k : Int) - 1)∧v = .slice ao mo co∧mo + k≤ma + mb + mb∧Hid (BRow wr ao mo co bs∧bval bs = X * bval ((bitsOf Y).drop k))∧Below w2.heap.size w2 wr) (fun _ t _ => (intOf t + 1).toNat)
        case atStart => exact ⟨mb,none,0,0,[],Nat.le_refl _,rfl,rfl,by omega,⟨brow_nil _,by rw [List.drop_eq_nil_of_le (by rw [HLB.out];exact Nat.le_refl _)];simp [bval]⟩,Below.refl _ _⟩
        case round =>
          obtain ⟨k,ao,mo,co,bs,hk,rfl,rfl,hmo,HZ,hbr⟩ := hrel
          by_cases hk0 : 0 < k
          · first
            | (exfalso;have := hor0.out;omega)
            | (go_wp2_with (at_builtin;refine append_front rfl _ _ rfl ao mo co bs rfl rfl HZ.out.1 (by omega) ?_)
               intro v' w5 hown' hb5
               obtain ⟨a5,c5,hve,hrow5,-⟩ := brow_own hown'
               have HLBS : Hid (bs.length = mo) := HZ.out.1.1
               have hl5 : (false :: bs).length = mo + 1 := by rw [List.length_cons,HLBS.out]
               rw [hl5] at hve hrow5
               subst hve
               have HR5 := Lib.hid hrow5;clear hrow5 hown' hl5
               have hv5 : bval (false :: bs) = 2 * (X * bval ((bitsOf Y).drop k)) := by simp only [bval,HZ.out.2];simp [bnum]
               have HV5 := Lib.hid hv5;clear hv5
               have HB5 := Lib.hid (hbr.trans (hb5.mono hbr.size));clear hb5
               have hs0 := HCB.out (k - 1) (by omega)
               have hcell : w5.cell? ⟨b0,o0 + (k - 1),none⟩ = some (.bool ((bitsOf Y).getD (k - 1) false)) := by rw [HB5.out.cell (p := ⟨b0,o0 + (k - 1),none⟩) hs0.1];exact hs0.2
               clear hs0
               have HDR := Lib.hid (bval_drop (bitsOf Y) k hk0 (by rw [HLB.out];exact hk))
               obtain ⟨y,hy⟩ : ∃ y,y = (bitsOf Y).getD (k - 1) false := ⟨_,rfl⟩
               rw [←hy] at hcell HDR
               clear hy
               have e : ((k : Int) - 1).toNat = k - 1 := by omega
               cases y
               · have HNEW : Hid (bval (false :: bs) = X * bval ((bitsOf Y).drop (k - 1))) := by
                   rw [HV5.out,HDR.out]
                   have e0 : bnum false = 0 := rfl
                   rw [e0,Nat.zero_add,Nat.mul_left_comm];exact rfl
                 go_wp2
                 go_roundw
                 case rel => exact ⟨k - 1,a5,mo + 1,c5,false :: bs,by omega,by go_num,rfl,by omega,⟨HR5.out,HNEW.out⟩,HB5.out⟩
                 case measure => simp [intOf];omega
               · have HNEW : Hid (bval (false :: bs) + X = X * bval ((bitsOf Y).drop (k - 1))) := by
                   rw [HV5.out,HDR.out]
                   have e0 : bnum true = 1 := rfl
                   rw [e0,Nat.mul_add,Nat.mul_one,Nat.mul_left_comm X 2,Nat.add_comm];exact rfl
                 have HRA5 := Lib.hid (brow_below (Nat.le_refl _) HB5.out HRA.out)
                 go_wp2_with fail
                 refine (badd_any a5 va (mo + 1) c5 ma ca _ _ w5 HR5.out HRA5.out (by omega) (by omega)).mono ?_
                 rw [bval_bits,HNEW.out]
                 rintro e6 w6 ⟨v6,m6,c6,rfl,hm6,hr6,hb6⟩
                 have hm6b : m6 + (k - 1)≤ma + mb + mb := by
                   have h1 : m6≤ma + mb := by
                     rw [hm6,HMA.out,HMB.out]
                     exact mul_bits X Y (k - 1)
                   omega
                 have HR6 := Lib.hid hr6;clear hr6 hm6
                 have HB6 := Lib.hid (HB5.out.trans (hb6.mono HB5.out.size));clear hb6
                 go_wp2
                 go_roundw
                 case rel => exact ⟨k - 1,v6,m6,c6,_,by omega,by go_num,rfl,hm6b,⟨HR6.out,bval_bits _⟩,HB6.out⟩
                 case measure => simp [intOf];omega)
          · obtain rfl : k = 0 := by omega
            have HF : Hid (bval bs = X * Y) := by rw [HZ.out.2,List.drop_zero,bval_bits];exact rfl
            go_wp2_with fail
            refine (limbs_any ao mo co bs wr HZ.out.1 (by omega)).mono ?_
            rw [HF.out,HXY.out]
            rintro e w4 ⟨vt,mt,ct,rfl,hmt,hrt,hb4⟩
            have HMT := Lib.hid hmt;clear hmt
            have HRT := Lib.hid hrt;clear hrt
            have HB4 := Lib.hid ((HB2.out.trans (hbr.mono HB2.out.size)).trans (hb4.mono (Nat.le_trans HB2.out.size hbr.size)));clear hb4
            go_wp2
            go_ret
            exact ⟨vt,mt,ct,rfl,HMT.out,HRT.out,HB4.out⟩
theorem len_bits32 (x : Nat) (h0 : 0 < x) (hx : x < 4294967296) : 1≤Lib.bitLen x∧Lib.bitLen x≤32∧2 ^ (Lib.bitLen x - 1)≤x∧x < 2 ^ Lib.bitLen x := by
  have h := Lib.bitLenAux_bounds 64 x (by omega) (by omega)
  have h2 := Lib.bitLen_le x 32 (by omega) hx
  exact ⟨h.1,h2,h.2.1,h.2.2⟩
theorem bits_top (N m y : Nat) (hl : (limbs N).length = m + 1) (hy : y = (limbs N).getD m 0) (hy0 : 0 < y) : (bitsOf N).length = m * 32 + Lib.bitLen y := by
  have hyl : y < 4294967296 := by rw [hy];exact getD_lt _ (small_limbs N) m
  obtain ⟨h1,h2,h3,h4⟩ := len_bits32 y hy0 hyl
  have e := val_take_succ (limbs N) m (by omega)
  rw [List.take_of_length_le (by omega),←hy,val_limbs] at e
  have hlow := val_lt ((limbs N).take m) (small_take (small_limbs N) m)
  rw [List.length_take,Nat.min_eq_left (by omega)] at hlow
  rw [pow32] at e hlow
  have hup : N < 2 ^ (m * 32 + Lib.bitLen y) := by
    have h5 : 2 ^ (32 * m) * (y + 1)≤2 ^ (32 * m) * 2 ^ Lib.bitLen y := Nat.mul_le_mul_left _ h4
    rw [←Nat.pow_add,Nat.mul_add] at h5
    rw [show m * 32 + Lib.bitLen y = 32 * m + Lib.bitLen y by omega]
    omega
  have hlo : 2 ^ (m * 32 + Lib.bitLen y - 1)≤N := by
    have h5 : 2 ^ (32 * m) * 2 ^ (Lib.bitLen y - 1)≤2 ^ (32 * m) * y := Nat.mul_le_mul_left _ h3
    rw [←Nat.pow_add] at h5
    rw [show m * 32 + Lib.bitLen y - 1 = 32 * m + (Lib.bitLen y - 1) by omega]
    omega
  have h6 := bits_len N _ hup
  have h7 := bval_lt (bitsOf N)
  rw [bval_bits] at h7
  have h8 : 2 ^ (m * 32 + Lib.bitLen y - 1) < 2 ^ (bitsOf N).length := by omega
  have h9 := (Nat.pow_lt_pow_iff_right (a := 2) (by omega)).1 h8
  omega
set_option maxHeartbeats 1000000 in
theorem bits_any (a : Option Addr) (n c : Nat) (xs : List Nat) (w : World) (h0 : Row w a n c xs) (hn : n≤100000000) :
    Calls Tryz.prog 131 #[.slice a n c] w fun e w' => e = .returned (.int .i64 ((bitsOf (val xs)).length : Nat))∧w = w' := by
  have H0 := Lib.hid h0;clear h0
  go_enter Tryz.func131,Tryz.ntmps131
  go_wp2_with fail
  refine (cut_num a n c xs w H0.out (by omega)).mono ?_
  rintro e w' ⟨p,mp,rfl,hm0,hmn0,hrow0,-,rfl⟩
  obtain ⟨N,hN⟩ : ∃ N,N = val xs := ⟨_,rfl⟩
  rw [←hN] at hm0 hrow0
  have HN := Lib.hid hN;clear hN
  have HL := Lib.hid hm0;clear hm0
  rcases (by omega : mp = 0∨0 < mp) with rfl | hpos
  · have HZ : Hid ((bitsOf N).length = 0) := by rw [length_limbs_zero.1 HL.out.symm,bits_zero];exact rfl
    go_wp2
    go_ret
    exact ⟨by rw [←HN.out,HZ.out];exact rfl,rfl⟩
  · obtain ⟨m,rfl⟩ : ∃ m,mp = m + 1 := ⟨mp - 1,by omega⟩
    obtain ⟨-,-,-,-,-,b0,o0,hor0,hc0⟩ := hrow0
    rcases hor0 with rfl | hor0
    case inr => omega
    have hcell := (hc0 m (by omega)).2
    clear hc0
    have hyl := getD_lt (limbs N) (small_limbs N) m
    have hy0 : (limbs N).getD m 0≠0 := by
      intro h
      have e := val_take_succ (limbs N) m (by rw [←HL.out];omega)
      rw [h,List.take_of_length_le (by rw [←HL.out];exact Nat.le_refl _),val_limbs] at e
      have h2 := val_lt ((limbs N).take m) (small_take (small_limbs N) _)
      rw [List.length_take,Nat.min_eq_left (by rw [←HL.out];omega)] at h2
      have h3 := limbs_len N m (by omega)
      have := HL.out
      omega
    obtain ⟨y,hy⟩ : ∃ y,y = (limbs N).getD m 0 := ⟨_,rfl⟩
    rw [←hy] at hcell hyl hy0
    have HT := Lib.hid (bits_top N m y HL.out.symm hy (by omega))
    clear hy
    have hbl : Lib.bitLen y≤32 := (len_bits32 y (by omega) hyl).2.1
    obtain ⟨t,ht⟩ : ∃ t,t = Lib.bitLen y := ⟨_,rfl⟩
    rw [←ht] at hbl HT
    have hmz : (((m : Int) + 1) == 0) = false := by rw [beq_eq_false_iff_ne];omega
    have HLEN : Hid (∀ wx,Calls Tryz.prog 181 #[.int .u32 (y : Int)] wx fun e w' => e = .returned (.int .i64 (t : Int))∧wx = w') := by
      intro wx
      refine (Tryz.bits_Len32 (y : Int) wx (by omega) (by omega)).mono ?_
      rintro e w' ⟨rfl,rfl⟩
      exact ⟨by rw [Int.toNat_natCast,ht],rfl⟩
    clear ht hy0
    go_wp2_with fail
    refine (HLEN.out _).mono ?_
    rintro e w' ⟨rfl,rfl⟩
    go_wp2
    go_ret
    refine ⟨congrArg Ending.returned (congrArg (Value.int .i64) ?_),rfl⟩
    rw [←HN.out,HT.out]
    show ((m : Int) * 32 + (t : Int)) = _
    omega
end Go.Proofs.YtkcgikoploohkaaGreatDoor
/- The calls of the document's answer in the words of the numbers that they are handed. -/
namespace Go.Proofs.YtkcgikoploohkaaGreatDoor
set_option linter.unusedVariables false
set_option linter.unusedSimpArgs false
set_option maxRecDepth 100000
open Go.RowKit Nums
section
variable {w : World} {a b : Option Addr} {n c m d : Nat} {xs ys : List Nat} {X Y N k : Nat}
def NumCK (k N : Nat) (w : World) (e : Ending) (w' : World) : Prop := ∃ a' m c,e = .returned (.slice a' m c)∧m≤k∧Row w' a' m c (limbs N)∧Below w.heap.size w w'
theorem numCK {e : Ending} {w' : World} (h : NumC N w e w') (hk : (limbs N).length≤k) : NumCK k N w e w' := by
  obtain ⟨a',m,c,h1,h2,h3,h4⟩ := h
  exact ⟨a',m,c,h1,by omega,h3,h4⟩
theorem raddN (k N : Nat) (h0 : Row w a n c xs) (h1 : Row w b m d ys) (hX : val xs = X) (hY : val ys = Y) (hn : n≤100) (hm : m≤100) (hN : X + Y = N) (hk : (limbs N).length≤k) : Calls Tryz.prog 73 #[.slice a n c,.slice b m d] w (NumCK k N w) := by
  subst hX;subst hY;subst hN
  exact (radd_any a b n c m d xs ys w h0 h1 (by omega) (by omega)).mono fun e w' h => numCK h hk
theorem rmulN (k N : Nat) (h0 : Row w a n c xs) (h1 : Row w b m d ys) (hX : val xs = X) (hY : val ys = Y) (hn : n≤100) (hm : m≤100) (hN : X * Y = N) (hk : (limbs N).length≤k) : Calls Tryz.prog 72 #[.slice a n c,.slice b m d] w (NumCK k N w) := by
  subst hX;subst hY;subst hN
  exact (rmul_any a b n c m d xs ys w h0 h1 (by omega) (by omega)).mono fun e w' h => numCK h hk
theorem rtrimN (k N : Nat) (h0 : Row w a n c xs) (hn : n≤100) (hN : val xs = N) (hk : (limbs N).length≤k) : Calls Tryz.prog 98 #[.slice a n c] w (NumCK k N w) := by
  subst hN
  exact (rtrim_any a n c xs w h0 (by omega)).mono fun e w' h => numCK h hk
theorem rsubN (k N : Nat) (h0 : Row w a n c xs) (h1 : Row w b m d ys) (hX : val xs = X) (hY : val ys = Y) (hn : n≤100) (hm : m≤100) (hle : Y≤X) (hN : X - Y = N) (hk : (limbs N).length≤k) : Calls Tryz.prog 184 #[.slice a n c,.slice b m d] w fun e w' => ∃ a' m c,e = .returned (.tuple #[.slice a' m c,.int .i64 0])∧m≤k∧Row w' a' m c (limbs N)∧Below w.heap.size w w' := by
  subst hX;subst hY;subst hN
  refine (rsub_ge a b n c m d xs ys w h0 h1 (by omega) (by omega) hle).mono ?_
  rintro e w' ⟨a',m,c,h1,h2,h3,h4⟩
  exact ⟨a',m,c,h1,by omega,h3,h4⟩
theorem cmpN (R : Int) (h0 : Row w a n c xs) (h1 : Row w b m d ys) (hn : n≤100) (hm : m≤100) (hR : cmpv (val xs) (val ys) = R) : Calls Tryz.prog 135 #[.slice a n c,.slice b m d] w fun e w' => e = .returned (.int .i64 R)∧Below w.heap.size w w' := by
  subst hR
  exact cmp_any a b n c m d xs ys w h0 h1 (by omega) (by omega)
theorem rcmpN (R : Int) (h0 : Row w a n c xs) (h1 : Row w b m d ys) (hn : n≤100) (hm : m≤100) (hR : cmpv (val xs) (val ys) = R) : Calls Tryz.prog 183 #[.slice a n c,.slice b m d] w fun e w' => e = .returned (.int .i64 R)∧Below w.heap.size w w' := by
  subst hR
  exact rcmp_any a b n c m d xs ys w h0 h1 (by omega) (by omega)
theorem bitsN (T : Nat) (h0 : Row w a n c xs) (hn : n≤100) (hT : (bitsOf (val xs)).length = T) : Calls Tryz.prog 131 #[.slice a n c] w fun e w' => e = .returned (.int .i64 (T : Int))∧Below w.heap.size w w' := by
  subst hT
  exact (bits_any a n c xs w h0 (by omega)).mono fun e w' ⟨h1,h2⟩ => ⟨h1,by subst h2;exact Below.refl _ _⟩
end
end Go.Proofs.YtkcgikoploohkaaGreatDoor
