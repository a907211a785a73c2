import Derived.Test.YtkcgikoploohkaaGreatDoorNB
import Derived.Test.YtkcgikoploohkaaGreatDoorNA
import Derived.Deep.LoopGhost
import Derived.BigRegion
namespace Go.Proofs.YtkcgikoploohkaaGreatDoor
set_option linter.unusedVariables false
set_option linter.unusedSimpArgs false
set_option maxRecDepth 100000
open Go.RowKit Nums
theorem or_limbs (r x : Nat) (hr : r < 4294967296) (hx : x < 4294967296) : bits BinOp.or IntKind.u64 ((r : Int) * 4294967296) (x : Int) = ((r * 4294967296 + x : Nat) : Int) := by
  have e : ((r : Int) * 4294967296) = ((r * 4294967296 : Nat) : Int) := by simp
  rw [e,u64_or_nat _ _ (by omega) (by omega),nat_join 32 (r * 4294967296) x (by omega) (by omega)]
theorem grown_set {w wr : World} {g : Nat} (h : w.grownBy wr (some g)) (i : Nat) (u : Value) : w.grownBy (wr.setCell ⟨g,i,none⟩ u) (some g) :=
  ⟨h.os,h.tape,h.output,by simpa [World.setCell] using h.size,fun k hk hne => by rw [Below.heap_setCell _ _ _ _ (fun e => hne (by simp [e]))];exact h.block k hk hne⟩
theorem grown_refl (w : World) (row : Option Nat) : w.grownBy w row := ⟨rfl,rfl,rfl,Nat.le_refl _,fun _ _ _ => rfl⟩
set_option maxHeartbeats 1000000 in
theorem shrink_any (g n c : Nat) (cs : List Nat) (w : World) (D : Int) (d : Nat) (hD : D = (d : Int)) (hd : 0 < d) (hdl : d < 4294967296) (hm : Mem w g cs) (hs : Small cs) (hn : n≤cs.length) (hn1 : n≤1000000000) :
    Calls Tryz.prog 173 #[.slice (some ⟨g,0,none⟩) n c,.int .u32 D] w fun e w' => (∃ qs : List Nat,∃ r : Nat,e = .returned (.int .u32 (r : Nat))∧qs.length = n∧Small qs∧r < d∧val (cs.take n) = val qs * d + r∧Mem w' g (qs ++ cs.drop n))∧w.grownBy w' (some g) := by
  subst hD
  have HM := Lib.hid hm;clear hm
  have hdi : (0 : Int) < (d : Int) := by omega
  have hdi1 : (1 : Int)≤(d : Int) := by omega
  go_enter Tryz.func173,Tryz.ntmps173
  go_wp2
  go_loopw [5,6] (fun rv t wr => ∃ (k r : Nat) (qs : List Nat),k≤n∧t = .int .i64 ((k : Int) - 1)∧rv = .int .u64 (r : Int)∧r < d∧Hid (qs.length = n - k∧Small qs∧val ((cs.take n).drop k) = val qs * d + r∧Mem wr g (cs.take k ++ (qs ++ cs.drop n)))∧w.grownBy wr (some g)) (fun _ t _ => (intOf t + 1).toNat)
  case atStart => exact ⟨n,0,[],Nat.le_refl _,rfl,rfl,hd,⟨by simp,(fun x hx => by cases hx),by simp [val],by simpa using HM.out⟩,grown_refl _ _⟩
  case round =>
    obtain ⟨k,r,qs,hk,rfl,rfl,hr,HZ,hgr⟩ := hrel
    by_cases hk0 : 0 < k
    · have hcell : wr.cell? ⟨g,k - 1,none⟩ = some (.int .u32 (cs.getD (k - 1) 0 : Nat)) := by
        rw [HZ.out.2.2.2.cell (k - 1) (by simp;omega),getD_seam cs _ k hk0 (by omega)]
      have hfree := HZ.out.2.2.2.free (k - 1)
      have hx := getD_lt cs hs (k - 1)
      obtain ⟨x,hxe⟩ : ∃ x,x = cs.getD (k - 1) 0 := ⟨_,rfl⟩
      rw [←hxe] at hcell hx
      have HXE := Lib.hid hxe;clear hxe
      have e : ((k : Int) - 1).toNat = k - 1 := by omega
      have hor := or_limbs r x (by omega) hx
      obtain ⟨t,ht⟩ : ∃ t,t = r * 4294967296 + x := ⟨_,rfl⟩
      rw [←ht] at hor
      have hroom := short_room r x d t hd hr hx ht
      have HT := Lib.hid ht;clear ht
      obtain ⟨q,hq⟩ : ∃ q,q = t / d := ⟨_,rfl⟩
      obtain ⟨r',hr'⟩ : ∃ r',r' = t % d := ⟨_,rfl⟩
      have hr1 : r' < d := by rw [hr'];exact Nat.mod_lt _ hd
      rw [←hq] at hroom
      have hqi : (t : Int) / (d : Int) = (q : Int) := by rw [hq];simp
      have hri : (t : Int) % (d : Int) = (r' : Int) := by rw [hr'];simp
      have HQ : Hid (t = q * d + r') := by rw [hq,hr',Nat.mul_comm];exact (Nat.div_add_mod t d).symm
      clear hq hr'
      go_wp2
      go_roundw
      case rel => exact ⟨k - 1,r',q :: qs,by omega,by go_num,congrArg (Value.int .u64) hri,hr1,⟨by simp [HZ.out.1];omega,small_cons.2 ⟨hroom,HZ.out.2.1⟩,short_step cs qs k n d r x t q r' hk0 hk hn HZ.out.2.2.1 HXE.out HT.out HQ.out,by
        have := HZ.out.2.2.2.setI (k - 1) _ q rfl
        rw [set_seam cs _ k q hk0 (by omega)] at this
        exact this⟩,grown_set hgr _ _⟩
      case measure => simp [intOf];omega
    · go_wp2
      go_ret
      obtain rfl : k = 0 := by omega
      exact ⟨⟨qs,r,rfl,by simpa using HZ.out.1,HZ.out.2.1,hr,by simpa using HZ.out.2.2.1,by simpa using HZ.out.2.2.2⟩,hgr⟩
theorem tail_room (xs : List Nat) (hs : Small xs) (k r : Nat) (hl : xs.length≤2) (hk : 0 < k) (h : r = val (xs.drop k)) : r < 4294967296 := by
  have h2 := val_lt (xs.drop k) (fun x hx => hs x (List.mem_of_mem_drop hx))
  rw [←h,List.length_drop] at h2
  have h3 : xs.length - k≤1 := by omega
  have h4 : 4294967296 ^ (xs.length - k)≤4294967296 ^ 1 := Nat.pow_le_pow_right (by omega) h3
  omega
theorem word_step {xs ys : List Nat} {x t r : Nat} {k : Nat} (h : xs.drop (k - 1) = x :: ys) (ht : t = r * 4294967296 + x) (hr : r = val ys) : t = val (xs.drop (k - 1)) := by
  rw [h,ht,hr];simp only [val];omega
set_option maxHeartbeats 1000000 in
theorem word_any (a : Option Addr) (n c : Nat) (xs : List Nat) (w : World) (hr : Row w a n c xs) (hn : n≤2) :
    Calls Tryz.prog 196 #[.slice a n c] w fun e w' => e = .returned (.int .u64 (val xs : Nat))∧w = w' := by
  obtain ⟨hl,-,-,-,hs,b,off,hor,hc⟩ := hr
  have HL := Lib.hid hl;clear hl
  have HC := Lib.hid hc;clear hc
  have HV : Hid (val (xs.drop 0) = val xs) := rfl
  have HE : Hid (∀ k,n≤k→val (xs.drop k) = 0) := fun k hk => by rw [List.drop_eq_nil_of_le (by rw [HL.out];exact hk)];rfl
  rcases (show _∨Hid _ from hor) with rfl | hor
  all_goals
    go_enter Tryz.func196,Tryz.ntmps196
    go_wp2
    go_loop [3,4] (fun v t => ∃ (k r : Nat),k≤n∧t = .int .i64 ((k : Int) - 1)∧v = .int .u64 (r : Int)∧Hid (r = val (xs.drop k))) (fun _ t => (intOf t + 1).toNat)
    case atStart => exact ⟨n,0,Nat.le_refl _,rfl,rfl,(HE.out n (Nat.le_refl _)).symm⟩
    case round =>
      obtain ⟨k,r,hk,rfl,rfl,HZ⟩ := hrel
      by_cases hk0 : 0 < k
      · first
        | (exfalso;have := hor.out;omega)
        | (have hcell := (HC.out (k - 1) (by omega)).2
           have hx := getD_lt xs hs (k - 1)
           have HR : Hid (r < 4294967296) := tail_room xs hs k r (by rw [HL.out];exact hn) hk0 HZ.out
           have HD : Hid (xs.drop (k - 1) = xs.getD (k - 1) 0 :: xs.drop k) := drop_pred xs k hk0 (by rw [HL.out];exact hk)
           obtain ⟨x,hxe⟩ : ∃ x,x = xs.getD (k - 1) 0 := ⟨_,rfl⟩
           rw [←hxe] at hcell hx HD
           have HXE := Lib.hid hxe;clear hxe
           have e : ((k : Int) - 1).toNat = k - 1 := by omega
           have hrl := HR.out
           have hor := or_limbs r x hrl hx
           obtain ⟨t,ht⟩ : ∃ t,t = r * 4294967296 + x := ⟨_,rfl⟩
           rw [←ht] at hor
           have HT := Lib.hid ht;clear ht
           go_wp2
           go_round
           case rel => exact ⟨k - 1,t,by omega,by go_num,rfl,word_step HD.out HT.out HZ.out⟩
           case measure => simp [intOf];omega)
      · go_wp2
        go_ret
        obtain rfl : k = 0 := by omega
        have hz : r = val xs := by have := HZ.out;simpa using this
        exact ⟨by subst hz;exact rfl,rfl⟩
end Go.Proofs.YtkcgikoploohkaaGreatDoor
/- What split, and divide by one limb, tell. -/
namespace Go.Proofs.YtkcgikoploohkaaGreatDoor
set_option linter.unusedVariables false
set_option linter.unusedSimpArgs false
set_option maxRecDepth 100000
open Go.RowKit Nums
theorem mem_alloc (w : World) (cs : List Nat) (vs : Array Value) (h : vs = (cs.map u32).toArray) : Mem (w.alloc (.cells vs 89)) w.heap.size cs := by
  unfold Mem;rw [heap_alloc_new,h]
theorem cut_pair (w : World) (A B : Int) (a b : Nat) (hA : A = (a : Int)) (hB : B = (b : Int)) (ha : a < 4294967296) (hb : b < 4294967296) :
    Calls Tryz.prog 174 #[.slice (some ⟨w.heap.size,0,none⟩) 2 2] (w.alloc (.cells #[.int .u32 A,.int .u32 B] 89)) (Num (a + 4294967296 * b) w) := by
  subst hA;subst hB
  exact num_of_cut (zs := [a,b]) (mem_alloc w [a,b] _ rfl) (by intro x hx;simp at hx;omega) rfl (by omega) (by simp [val]) ((Below.refl _ _).alloc (Nat.le_refl _) _)
set_option maxHeartbeats 1000000 in
theorem split_any (X : Int) (x : Nat) (w : World) (hX : X = (x : Int)) (hx : x < 18446744073709551616) :
    Calls Tryz.prog 197 #[.int .u64 X] w (Num x w) := by
  subst hX
  have h1 : x / 4294967296 < 4294967296 := by omega
  obtain ⟨lo,hlo⟩ : ∃ lo,lo = x % 4294967296 := ⟨_,rfl⟩
  obtain ⟨hi,hhi⟩ : ∃ hi,hi = x / 4294967296 := ⟨_,rfl⟩
  have hloI : (x : Int) % 4294967296 = (lo : Int) := by omega
  have hhiI : (x : Int) / 4294967296 = (hi : Int) := by omega
  have hl : lo < 4294967296 := by omega
  have hh : hi < 4294967296 := by omega
  have hs : lo + 4294967296 * hi = x := by omega
  have HLO := Lib.hid hloI;clear hloI hlo
  have HHI := Lib.hid hhiI;clear hhiI hhi
  have HS := Lib.hid hs;clear hs
  go_enter Tryz.func197,Tryz.ntmps197
  go_wp2_with fail
  refine (cut_pair w _ _ lo hi HLO.out (by first | exact HHI.out | (rw [HHI.out];omega)) hl hh).mono ?_
  rw [HS.out]
  rintro e w' ⟨a',m,rfl,hm,hrow,hb⟩
  have HM := Lib.hid hm;clear hm
  have HROW := Lib.hid hrow;clear hrow
  have HB := Lib.hid hb;clear hb
  go_wp2
  go_ret
  exact ⟨a',m,rfl,HM.out,HROW.out,HB.out⟩
def QR (A B : Nat) (w : World) (e : Ending) (w' : World) : Prop :=
  ∃ q mq r mr,e = .returned (.tuple #[.slice q mq mq,.slice r mr mr])∧mq = (limbs (A / B)).length∧Row w' q mq mq (limbs (A / B))∧mr = (limbs (A % B)).length∧Row w' r mr mr (limbs (A % B))∧Below w.heap.size w w'
set_option maxHeartbeats 1000000 in
theorem divide_less (a0 a1 : Option Addr) (n0 n1 : Nat) (A B : Nat) (w : World) (h0 : Row w a0 n0 n0 (limbs A)) (h1 : Row w a1 n1 n1 (limbs B)) (hn0 : n0≤100000000) (hn1 : n1≤100000000) (hlt : A < B) :
    Calls Tryz.prog 195 #[.slice a0 n0 n0,.slice a1 n1 n1] w (QR A B w) := by
  have H0 := Lib.hid h0;clear h0
  have H1 := Lib.hid h1;clear h1
  have HL := Lib.hid hlt;clear hlt
  go_enter Tryz.func195,Tryz.ntmps195
  go_wp2_with fail
  refine (cmp_lt a0 a1 n0 n0 n1 n1 _ _ w H0.out H1.out (by omega) (by omega) (by rw [val_limbs,val_limbs];exact HL.out)).mono ?_
  rintro e w1 ⟨rfl,hb⟩
  have HB := Lib.hid hb;clear hb
  go_wp2_with fail
  refine (told_any a0 n0 n0 (limbs A) w1 (row_below (Nat.le_refl _) HB.out H0.out) (by omega)).mono ?_
  rintro e w2 ⟨⟨a',m,rfl,hm,hmn,hrow,-⟩,hb2⟩
  have HB2 := Lib.hid hb2;clear hb2
  have hml : m = (limbs A).length := by rw [hm,tl_limbs]
  rw [hml,List.take_length] at hrow
  rw [←hml] at hrow
  have HM := Lib.hid hml;clear hml hm
  have HROW := Lib.hid hrow;clear hrow
  go_wp2
  go_ret2
  have hq : A / B = 0 := Nat.div_eq_of_lt HL.out
  have hr : A % B = A := Nat.mod_eq_of_lt HL.out
  refine ⟨none,0,a',m,rfl, ?_, ?_, ?_, ?_,HB.out.trans (HB2.out.mono HB.out.size)⟩
  · rw [hq,limbs_zero];rfl
  · rw [hq,limbs_zero];exact row_nil _
  · rw [hr];exact HM.out
  · rw [hr];exact HROW.out
theorem quot_rest (A V d r : Nat) (hr : r < d) (h : A = V * d + r) : V = A / d∧r = A % d := by
  have h2 : A = d * V + r := by rw [h,Nat.mul_comm]
  constructor
  · rw [h2,Nat.mul_add_div (by omega),Nat.div_eq_of_lt hr];rfl
  · rw [h2,Nat.mul_add_mod,Nat.mod_eq_of_lt hr]
set_option maxHeartbeats 2000000 in
theorem divide_short (a0 a1 : Option Addr) (n0 n1 : Nat) (A B : Nat) (w : World) (h0 : Row w a0 n0 n0 (limbs A)) (h1 : Row w a1 n1 n1 (limbs B)) (hn0 : n0≤100000000) (hn1 : n1 = 1) (hge : B≤A) :
    Calls Tryz.prog 195 #[.slice a0 n0 n0,.slice a1 n1 n1] w (QR A B w) := by
  subst hn1
  have hl1 : (limbs B).length = 1 := h1.1
  have hl0 : (limbs A).length = n0 := h0.1
  have hBv : B = (limbs B).getD 0 0 := by
    have h := val_limbs B
    match hb : limbs B,hl1 with
    | [b],_ => rw [hb] at h;simp [val] at h;simp [h]
  have hB0 : 0 < B := by
    rcases Nat.eq_zero_or_pos B with h | h
    · rw [h,limbs_zero] at hl1;simp at hl1
    · exact h
  have hBl : B < 4294967296 := by rw [hBv];exact getD_lt _ (small_limbs B) 0
  have HL1 := Lib.hid hl1;clear hl1
  have HL0 := Lib.hid hl0;clear hl0
  obtain ⟨-,-,-,-,-,b1,o1,hor1,hc1⟩ := h1
  have hcell := hc1 0 (by omega)
  rw [←hBv,Nat.add_zero] at hcell
  have HBV := Lib.hid hBv;clear hBv
  rcases hor1 with rfl | hor1
  case inr => omega
  have H1 : Hid (Row w (some ⟨b1,o1,none⟩) 1 1 (limbs B)) := ⟨HL1.out,by omega,by unfold maxLen;omega,by simp,small_limbs B,b1,o1,Or.inl rfl,hc1⟩
  clear hc1
  have HC := Lib.hid hcell;clear hcell
  have H0 := Lib.hid h0;clear h0
  have HG := Lib.hid hge;clear hge
  go_enter Tryz.func195,Tryz.ntmps195
  go_wp2_with fail
  refine (cmp_ge a0 _ n0 n0 1 1 _ _ w H0.out H1.out (by omega) (by omega) (by rw [val_limbs,val_limbs];exact HG.out)).mono ?_
  rintro e w1 ⟨⟨r,rfl,hr0⟩,hb⟩
  have HB := Lib.hid hb;clear hb
  go_wp2_with fail
  refine (told_any a0 n0 n0 (limbs A) w1 (row_below (Nat.le_refl _) HB.out H0.out) (by omega)).mono ?_
  rintro e w2 ⟨⟨a',m,rfl,hm,hmn,hrow,hor⟩,hb2⟩
  have hml : m = (limbs A).length := by rw [hm,tl_limbs]
  have hmpos : 0 < m := by
    rw [hml]
    rcases Nat.eq_zero_or_pos (limbs A).length with h | h
    · have := length_limbs_zero.1 h;have := HG.out;omega
    · exact h
  rcases hor with ⟨h,_⟩ | ⟨_,g,rfl,hg,hmem⟩
  · omega
  rw [hml,List.take_length] at hmem
  have HM := Lib.hid hml;clear hml hm hrow
  have HMEM := Lib.hid hmem;clear hmem
  have HB2 : Hid (Below w.heap.size w w2) := HB.out.trans (hb2.mono HB.out.size)
  have hg : w.heap.size≤g := Nat.le_trans HB.out.size hg
  clear hb2
  have hcellB : w2.cell? ⟨b1,o1,none⟩ = some (.int .u32 (B : Nat)) := by
    rw [HB2.out.cell (p := ⟨b1,o1,none⟩) HC.out.1];exact HC.out.2
  go_wp2_with fail
  refine (shrink_any g m m (limbs A) w2 _ B rfl hB0 hBl HMEM.out (small_limbs A) (by rw [HM.out];exact Nat.le_refl _) (by omega)).mono ?_
  rintro e w3 ⟨⟨qs,r',rfl,hql,hqs,hr',hv,hmem3⟩,hgr⟩
  have hv' : A = val qs * B + r' := by
    rw [List.take_of_length_le (by rw [HM.out];exact Nat.le_refl _),val_limbs] at hv;exact hv
  rw [List.drop_eq_nil_of_le (by rw [HM.out];exact Nat.le_refl _),List.append_nil] at hmem3
  have HQR := Lib.hid (quot_rest A (val qs) B r' hr' hv')
  have HQL := Lib.hid hql;clear hql
  have HMEM3 := Lib.hid hmem3;clear hmem3
  have hb3 : Below w.heap.size w w3 := HB2.out.grown hgr HB2.out.size (by rintro k hk;simp at hk;omega)
  have HB3 := Lib.hid hb3;clear hb3 hgr hv hv' hcellB
  go_wp2_with fail
  refine (num_of_cut (N := A / B) (w0 := w) (n := m) HMEM3.out hqs HQL.out (by omega) HQR.out.1 HB3.out).mono ?_
  rintro e w4 ⟨q,mq,rfl,hmq,hrowq,hb4⟩
  have HMQ := Lib.hid hmq;clear hmq
  have HRQ := Lib.hid hrowq;clear hrowq
  have HB4 := Lib.hid hb4;clear hb4
  go_wp2_with fail
  refine (split_any _ r' w4 rfl (by omega)).mono ?_
  rintro e w5 ⟨rr,mr,rfl,hmr,hrowr,hb5⟩
  have HMR := Lib.hid hmr;clear hmr
  have HRR := Lib.hid hrowr;clear hrowr
  have HB5 := Lib.hid hb5;clear hb5
  go_wp2
  go_ret2
  refine ⟨q,mq,rr,mr,rfl,HMQ.out,row_below (Nat.le_refl _) HB5.out HRQ.out, ?_, ?_,HB4.out.trans (HB5.out.mono HB4.out.size)⟩
  · rw [←HQR.out.2];exact HMR.out
  · rw [←HQR.out.2];exact HRR.out
end Go.Proofs.YtkcgikoploohkaaGreatDoor
/- What Div and Gcd tell, once it is known what divide tells. -/
namespace Go.Proofs.YtkcgikoploohkaaGreatDoor
set_option linter.unusedVariables false
set_option linter.unusedSimpArgs false
set_option maxRecDepth 100000
open Go.RowKit Nums
def QR3 (A B : Nat) (w : World) (e : Ending) (w' : World) : Prop :=
  ∃ q mq r mr,e = .returned (.tuple #[.slice q mq mq,.slice r mr mr,.int .i64 0])∧mq = (limbs (A / B)).length∧Row w' q mq mq (limbs (A / B))∧mr = (limbs (A % B)).length∧Row w' r mr mr (limbs (A % B))∧Below w.heap.size w w'
def Divides (A B : Nat) : Prop := ∀ (a0 a1 : Option Addr) (n0 n1 : Nat) (w : World),Row w a0 n0 n0 (limbs A)→Row w a1 n1 n1 (limbs B)→n0≤100000000→n1≤100000000→Calls Tryz.prog 195 #[.slice a0 n0 n0,.slice a1 n1 n1] w (QR A B w)
set_option maxHeartbeats 1000000 in
theorem div_of (a0 a1 : Option Addr) (n0 c0 n1 c1 : Nat) (xs ys : List Nat) (w : World) (h0 : Row w a0 n0 c0 xs) (h1 : Row w a1 n1 c1 ys) (hn0 : n0≤100000000) (hn1 : n1≤100000000) (hz : 0 < val ys) (hd : Divides (val xs) (val ys)) :
    Calls Tryz.prog 171 #[.slice a0 n0 c0,.slice a1 n1 c1] w (QR3 (val xs) (val ys) w) := by
  have H0 := Lib.hid h0;clear h0
  have H1 := Lib.hid h1;clear h1
  have HD := Lib.hid hd;clear hd
  have HP : Hid (0 < (limbs (val ys)).length) := by
    rcases Nat.eq_zero_or_pos (limbs (val ys)).length with h | h
    · have := length_limbs_zero.1 h;exact absurd this (by omega)
    · exact h
  have HZ := Lib.hid hz;clear hz
  go_enter Tryz.func171,Tryz.ntmps171
  go_wp2_with fail
  refine (cut_num a0 n0 c0 xs w H0.out (by omega)).mono ?_
  rintro e w' ⟨p,mp,rfl,hm0,hmn0,hrow0,-,rfl⟩
  have HR0 := Lib.hid hrow0;clear hrow0 hm0
  go_wp2_with fail
  refine (cut_num a1 n1 c1 ys w H1.out (by omega)).mono ?_
  rintro e w' ⟨q,mq,rfl,hm1,hmn1,hrow1,-,rfl⟩
  have hmq : 0 < mq := by rw [hm1];exact HP.out
  have HR1 := Lib.hid hrow1;clear hrow1 hm1
  have hmz : ((mq : Int) == 0) = false := by rw [beq_eq_false_iff_ne];omega
  go_wp2_with fail
  refine (HD.out p q mp mq w HR0.out HR1.out (by omega) (by omega)).mono ?_
  rintro e w' ⟨q',mq',r',mr',rfl,h1,h2,h3,h4,h5⟩
  have K1 := Lib.hid h1;clear h1
  have K2 := Lib.hid h2;clear h2
  have K3 := Lib.hid h3;clear h3
  have K4 := Lib.hid h4;clear h4
  have K5 := Lib.hid h5;clear h5
  go_wp2
  go_ret3
  exact ⟨q',mq',r',mr',rfl,K1.out,K2.out,K3.out,K4.out,K5.out⟩
theorem word_lt (xs : List Nat) (hs : Small xs) (hl : xs.length≤2) : val xs < 18446744073709551616 := by
  have h2 := val_lt xs hs
  have h4 : 4294967296 ^ xs.length≤4294967296 ^ 2 := Nat.pow_le_pow_right (by omega) hl
  omega
set_option maxHeartbeats 2000000 in
theorem gcd_of (M : Nat) (hM : M≤100000000) (a0 a1 : Option Addr) (n0 c0 n1 c1 : Nat) (xs ys : List Nat) (w : World) (h0 : Row w a0 n0 c0 xs) (h1 : Row w a1 n1 c1 ys) (hn0 : n0≤M) (hn1 : n1≤M)
    (hd : ∀ A B,0 < B→(limbs A).length≤M→(limbs B).length≤M→(2 < (limbs A).length∨2 < (limbs B).length)→Divides A B) :
    Calls Tryz.prog 169 #[.slice a0 n0 c0,.slice a1 n1 c1] w (Num (Nat.gcd (val xs) (val ys)) w) := by
  have H0 := Lib.hid h0;clear h0
  have H1 := Lib.hid h1;clear h1
  have HD := Lib.hid hd;clear hd
  go_enter Tryz.func169,Tryz.ntmps169
  go_wp2_with fail
  refine (cut_num a0 n0 c0 xs w H0.out (by omega)).mono ?_
  rintro e w' ⟨p,mp,rfl,hm0,hmn0,hrow0,-,rfl⟩
  have HR0 := Lib.hid hrow0;clear hrow0 hm0
  go_wp2_with fail
  refine (cut_num a1 n1 c1 ys w H1.out (by omega)).mono ?_
  rintro e w' ⟨q,mq,rfl,hm1,hmn1,hrow1,-,rfl⟩
  have HR1 := Lib.hid hrow1;clear hrow1 hm1
  obtain ⟨G,hG⟩ : ∃ G,G = Nat.gcd (val xs) (val ys) := ⟨_,rfl⟩
  have HG := Lib.hid hG;clear hG
  go_wp2
  go_loopg [0,1] (val ys) (fun B u v wr => ∃ (A : Nat) (a b : Option Addr) (m n : Nat),u = .slice a m m∧v = .slice b n n∧m≤M∧n≤M∧Hid (Row wr a m m (limbs A)∧Row wr b n n (limbs B)∧G = Nat.gcd A B)∧Below w.heap.size w wr)
  case atStart => exact ⟨val xs,p,q,mp,mq,rfl,rfl,by omega,by omega,⟨HR0.out,HR1.out,HG.out⟩,Below.refl _ _⟩
  case round =>
    obtain ⟨A,a,b,m,n,rfl,rfl,hm,hn,HZ,hbr⟩ := hrel
    have HLm : Hid ((limbs A).length = m) := HZ.out.1.1
    have HLn : Hid ((limbs gk).length = n) := HZ.out.2.1.1
    by_cases hn0 : 0 < n
    · have HB0 : Hid (0 < gk) := by
        rcases Nat.eq_zero_or_pos gk with h | h
        · exfalso;have := HLn.out;rw [h,limbs_zero] at this;simp at this;omega
        · exact h
      by_cases hlong : 2 < m∨2 < n
      · have HDV : Hid (Divides A gk) := HD.out A gk HB0.out (by rw [HLm.out];exact hm) (by rw [HLn.out];exact hn) (by rw [HLm.out,HLn.out];exact hlong)
        have hcases : 2 < m∨(m≤2∧2 < n) := by omega
        clear hlong
        rcases hcases with h2 | ⟨h2,h3⟩
        all_goals
          go_wp2_with fail
          refine (HDV.out a b m n wr HZ.out.1 HZ.out.2.1 (by omega) (by omega)).mono ?_
          rintro e w' ⟨q',mq',r',mr',rfl,k1,k2,k3,k4,k5⟩
          have K3 := Lib.hid k3;clear k3
          have K4 := Lib.hid k4;clear k4
          have K5 := Lib.hid k5;clear k5 k1 k2
          have hmr : mr'≤M := by
            have h1 := limbs_len_mono (Nat.le_of_lt (Nat.mod_lt A HB0.out))
            have h2 := HLn.out
            have h3 := K3.out
            omega
          go_wp2
          go_roundg (A % gk)
          case measure => exact Nat.mod_lt _ HB0.out
          case rel => exact ⟨gk,b,r',n,mr',rfl,rfl,hn,hmr,⟨row_below (Nat.le_refl _) K5.out HZ.out.2.1,K4.out,by rw [HZ.out.2.2,Nat.gcd_comm,Nat.gcd_rec,Nat.gcd_comm]⟩,hbr.trans (K5.out.mono hbr.size)⟩
      · have hm2 : m≤2 := by omega
        have hn2 : n≤2 := by omega
        clear hlong
        have hnz : ((n : Int) == 0) = false := by rw [beq_eq_false_iff_ne];omega
        go_wp2_with fail
        refine (word_any a m m (limbs A) wr HZ.out.1 hm2).mono ?_
        rintro e w' ⟨rfl,rfl⟩
        go_wp2_with fail
        refine (word_any b n n (limbs gk) wr HZ.out.2.1 hn2).mono ?_
        rintro e w' ⟨rfl,rfl⟩
        have HX : Hid (val (limbs A) < 18446744073709551616) := word_lt _ (small_limbs A) (by rw [HLm.out];exact hm2)
        have HY : Hid (val (limbs gk) < 18446744073709551616) := word_lt _ (small_limbs gk) (by rw [HLn.out];exact hn2)
        have HGG : Hid (G = Nat.gcd (val (limbs A)) (val (limbs gk))) := by rw [val_limbs,val_limbs];exact HZ.out.2.2
        obtain ⟨X,hX⟩ : ∃ X,X = val (limbs A) := ⟨_,rfl⟩
        obtain ⟨Y,hY⟩ : ∃ Y,Y = val (limbs gk) := ⟨_,rfl⟩
        rw [←hX] at HX HGG ⊢
        rw [←hY] at HY HGG ⊢
        clear hX hY
        obtain ⟨wo,rfl⟩ : ∃ wo : World,wo = wr := ⟨_,rfl⟩
        go_wp2
        go_loopg [7,8] Y (fun y u v wr => ∃ x : Nat,u = .int .u64 (x : Int)∧v = .int .u64 (y : Int)∧Hid (x < 18446744073709551616∧y < 18446744073709551616∧G = Nat.gcd x y)∧Below w.heap.size w wr)
        case atStart => exact ⟨X,rfl,rfl,⟨HX.out,HY.out,HGG.out⟩,hbr⟩
        case round =>
          obtain ⟨x,rfl,rfl,HW,hbw⟩ := hrel
          obtain ⟨yv,rfl⟩ : ∃ y,y = gk := ⟨_,rfl⟩
          by_cases hy0 : 0 < yv
          · have hy1 : (1 : Int)≤(yv : Int) := by omega
            go_wp2
            go_quiet (fail)
            go_wp2
            go_roundg (x % yv)
            case measure => exact Nat.mod_lt _ hy0
            case rel => exact ⟨yv,rfl,congrArg (Value.int .u64) (by simp),⟨HW.out.2.1,Nat.lt_trans (Nat.mod_lt _ hy0) HW.out.2.1,by rw [HW.out.2.2,Nat.gcd_comm,Nat.gcd_rec,Nat.gcd_comm]⟩,below_drewN hbw _⟩
          · obtain rfl : yv = 0 := by omega
            have HGX : Hid (G = x) := by have := HW.out.2.2;rw [Nat.gcd_zero_right] at this;exact this
            have HX1 := Lib.hid HW.out.1
            go_wp2_with fail
            refine (split_any _ x wr rfl HX1.out).mono ?_
            rintro e w' ⟨a',m',rfl,hm',hrow,hb⟩
            have HM := Lib.hid hm';clear hm'
            have HROW := Lib.hid hrow;clear hrow
            have HB := Lib.hid hb;clear hb
            go_wp2
            go_ret
            rw [←HG.out,HGX.out]
            exact ⟨a',m',rfl,HM.out,HROW.out,hbw.trans (HB.out.mono hbw.size)⟩
    · obtain rfl : n = 0 := by omega
      have hG0 : gk = 0 := length_limbs_zero.1 HLn.out
      have HGA : Hid (G = A) := by have := HZ.out.2.2;rw [hG0,Nat.gcd_zero_right] at this;exact this
      clear hG0
      go_wp2_with fail
      refine (told_any a m m (limbs A) wr HZ.out.1 (by omega)).mono ?_
      rintro e w' ⟨⟨a',m',rfl,hm',hmn',hrow,-⟩,hb2⟩
      have hml : m' = (limbs A).length := by rw [hm',tl_limbs]
      rw [hml,List.take_length] at hrow
      rw [←hml] at hrow
      have HM := Lib.hid hml;clear hml hm'
      have HROW := Lib.hid hrow;clear hrow
      have HB2 := Lib.hid hb2;clear hb2
      go_wp2
      go_ret
      rw [←HG.out,HGA.out]
      exact ⟨a',m',rfl,HM.out,HROW.out,hbr.trans (HB2.out.mono hbr.size)⟩
end Go.Proofs.YtkcgikoploohkaaGreatDoor
/- What follow tells: ten times a number that the call owns, and a digit. -/
namespace Go.Proofs.YtkcgikoploohkaaGreatDoor
set_option linter.unusedVariables false
set_option linter.unusedSimpArgs false
set_option maxRecDepth 100000
open Go.RowKit Nums
def Own (w : World) (B : Nat) (v : Value) (cs : List Nat) : Prop := w.ownsRow B 89 1 v cs.length (cs.map u32)
theorem cell_own {w : World} {B g n cap : Nat} {cs : List Nat} (h : w.ownsRow B 89 1 (.slice (some ⟨g,0,none⟩) n cap) n (cs.map u32)) (j : Nat) (hj : j < n) : w.cell? ⟨g,j,none⟩ = some (.int .u32 (cs.getD j 0 : Nat)) := by
  have hl : (cs.map u32).length = n := by have := h.1;simpa using this
  rw [h.cellAt j (by omega)]
  have : j < cs.length := by simp at hl;omega
  simp [this,u32]
theorem own_set {w : World} {B g n cap : Nat} {cs : List Nat} (h : w.ownsRow B 89 1 (.slice (some ⟨g,0,none⟩) n cap) n (cs.map u32)) (j : Nat) (z : Int) (u : Nat) (hz : z = (u : Int)) : (w.setCell ⟨g,j,none⟩ (.int .u32 z)).ownsRow B 89 1 (.slice (some ⟨g,0,none⟩) n cap) n ((cs.set j u).map u32) := by
  subst hz
  have := (h.stored j (.int .u32 (u : Nat))).1
  rw [List.map_set]
  exact this
def TenAt (cs zs : List Nat) (d k c : Nat) : Prop := val (zs.take k) + 4294967296 ^ k * c = val (cs.take k) * 10 + d∧∀ j,k≤j→zs.getD j 0 = cs.getD j 0
theorem TenAt.step {cs zs : List Nat} {d k c x u c' : Nat} (h : TenAt cs zs d k c) (hk : k < zs.length) (hx : x = zs.getD k 0) (hu : u + 4294967296 * c' = c + x * 10) : TenAt cs (zs.set k u) d (k + 1) c' := by
  obtain ⟨h1,h2⟩ := h
  refine ⟨?_, ?_⟩
  · rw [val_set_take zs k u hk,val_take_next cs k,←h2 k (Nat.le_refl _),←hx,Nat.pow_succ,Nat.mul_assoc,Nat.add_mul,Nat.mul_assoc]
    have e : 4294967296 ^ k * (u + 4294967296 * c') = 4294967296 ^ k * (c + x * 10) := by rw [hu]
    simp only [Nat.mul_add] at e
    omega
  · intro j hj
    rw [←h2 j (by omega)]
    simp [show k≠j by omega]
set_option maxHeartbeats 1000000 in
theorem follow_some (B g n cap : Nat) (cs : List Nat) (D : Int) (d : Nat) (w : World) (hD : D = (d : Int)) (hd : d≤9) (ho : w.ownsRow B 89 1 (.slice (some ⟨g,0,none⟩) n cap) n (cs.map u32)) (hBg : B≤g) (hs : Small cs) (hn : n≤100000000) (hB : B≤w.heap.size) :
    Calls Tryz.prog 191 #[.slice (some ⟨g,0,none⟩) n cap,.int .u32 D] w fun e w' => ∃ v' cs',e = .returned v'∧Own w' B v' cs'∧Small cs'∧val cs' = val cs * 10 + d∧cs'.length≤cs.length + 1∧Below B w w' := by
  subst hD
  have HO := Lib.hid ho;clear ho
  have HLC : Hid (cs.length = n) := by have := HO.out.1;simp at this;exact this
  obtain ⟨i0,hi,hz0,hz1,hz2⟩ := info_parts Tryz.info89
  have HI := Lib.hid hi;clear hi
  have HI0 := Lib.hid hz0;clear hz0
  have HI1 := Lib.hid hz1;clear hz1
  have HI2 := Lib.hid hz2;clear hz2
  go_enter Tryz.func191,Tryz.ntmps191
  go_wp2
  go_loopw [5,11] (fun cv t wr => ∃ (k c : Nat) (zs : List Nat),k≤n∧t = .int .i64 (k : Int)∧cv = .int .u64 (c : Int)∧c≤9∧Hid (Small zs∧wr.ownsRow B 89 1 (.slice (some ⟨g,0,none⟩) n cap) n (zs.map u32)∧TenAt cs zs d k c∧zs.length = n)∧Below B w wr) (fun _ t _ => n - (intOf t).toNat)
  case atStart => exact ⟨0,d,cs,Nat.zero_le _,rfl,rfl,hd,⟨hs,HO.out,⟨by simp [val],fun _ _ => rfl⟩,HLC.out⟩,Below.refl _ _⟩
  case round =>
    obtain ⟨k,c,zs,hk,rfl,rfl,hc,HZ,hbr⟩ := hrel
    by_cases hk0 : k < n
    · have hcell := cell_own HZ.out.2.1 k hk0
      have hfree := HZ.out.2.1.frozenAt k
      have hx := getD_lt zs HZ.out.1 k
      obtain ⟨x,hxe⟩ : ∃ x,x = zs.getD k 0 := ⟨_,rfl⟩
      rw [←hxe] at hcell hx
      have HXE := Lib.hid hxe;clear hxe
      go_wp2
      go_roundw
      case rel => exact ⟨k + 1,(c + x * 10) / 4294967296,zs.set k ((c + x * 10) % 4294967296),by omega,by go_num,by go_num,by omega,⟨small_set HZ.out.1 _ _ (by omega),own_set HZ.out.2.1 k _ _ (by omega),HZ.out.2.2.1.step (by rw [HZ.out.2.2.2];exact hk0) HXE.out (by omega),by simp [HZ.out.2.2.2]⟩,hbr.setCell (by exact hBg) _⟩
      case measure => simp [intOf];omega
    · obtain rfl : n = k := by omega
      have HV : Hid (val zs + 4294967296 ^ n * c = val cs * 10 + d) := by
        have h := HZ.out.2.2.1.1
        rw [List.take_of_length_le (by rw [HZ.out.2.2.2];exact Nat.le_refl _),List.take_of_length_le (by rw [HLC.out];exact Nat.le_refl _)] at h
        exact h
      by_cases hc0 : 0 < c
      · go_wp2_with (at_builtin;refine wpList_append_own _ rfl _ _ 23 rfl B 89 i0 (.int .u32 0) 1 4 Tryz.underlying23 HI.out HI0.out HI1.out HI2.out rfl (by decide) _ _ _ rfl (HZ.out.2.1.alloc _) ⟨wr.heap.size,0,none⟩ 1 1 [.int .u32 (c : Int)] rfl rfl ?c1 ?c2 ?c3 ?c4 ?c5 ?_)
        case c1 =>
          intro j u hj
          match j,hj with
          | 0,hj => simp at hj;subst hj;simp [Addr.add];try omega
        case c2 => intro u hu;simp at hu;subst hu;rfl
        case c3 => unfold maxLen;omega
        case c4 => omega
        case c5 => have := hbr.size;simp;omega
        · intro v' w1 hown' hgrow _
          have HOW := Lib.hid hown';clear hown'
          have HGR := Lib.hid hgrow;clear hgrow
          go_wp2
          go_ret
          refine ⟨v',zs ++ [c],rfl, ?_,small_append HZ.out.1 (by intro x hx;simp at hx;omega), ?_,by simp [HZ.out.2.2.2,HLC.out], ?_⟩
          · unfold Own
            have := HOW.out
            simp only [List.length_append,List.map_append,HZ.out.2.2.2]
            exact this
          · rw [val_append,HZ.out.2.2.2];simp [val];exact HV.out
          · exact (hbr.alloc (Nat.le_trans hB hbr.size) _).grown HGR.out (by have := hbr.size;simp;omega) (by intro k hk;simp [Value.ownBlock] at hk;omega)
      · obtain rfl : c = 0 := by omega
        go_wp2
        go_ret
        refine ⟨_,zs,rfl,by unfold Own;rw [HZ.out.2.2.2];exact HZ.out.2.1,HZ.out.1,by have := HV.out;simpa using this,by rw [HZ.out.2.2.2,HLC.out];omega,hbr⟩
set_option maxHeartbeats 1000000 in
theorem follow_none (B : Nat) (D : Int) (d : Nat) (w : World) (hD : D = (d : Int)) (hd : d≤9) (hB : B≤w.heap.size) :
    Calls Tryz.prog 191 #[.slice none 0 0,.int .u32 D] w fun e w' => ∃ v' cs',e = .returned v'∧Own w' B v' cs'∧Small cs'∧val cs' = d∧cs'.length≤1∧Below B w w' := by
  subst hD
  obtain ⟨i0,hi,hz0,hz1,hz2⟩ := info_parts Tryz.info89
  have HI := Lib.hid hi;clear hi
  have HI0 := Lib.hid hz0;clear hz0
  have HI1 := Lib.hid hz1;clear hz1
  have HI2 := Lib.hid hz2;clear hz2
  go_enter Tryz.func191,Tryz.ntmps191
  go_wp2
  go_loopw [5,11] (fun cv t wr => cv = .int .u64 (d : Int)∧t = .int .i64 0∧Below B w wr) (fun _ _ _ => 0)
  case atStart => exact ⟨rfl,rfl,Below.refl _ _⟩
  case round =>
    obtain ⟨rfl,rfl,hbr⟩ := hrel
    by_cases hc0 : 0 < d
    · go_wp2_with (at_builtin;refine wpList_append_own _ rfl _ _ 23 rfl B 89 i0 (.int .u32 0) 1 4 Tryz.underlying23 HI.out HI0.out HI1.out HI2.out rfl (by decide) _ _ _ rfl ((World.ownsRow_nil wr B 89 1).alloc _) ⟨wr.heap.size,0,none⟩ 1 1 [.int .u32 (d : Int)] rfl rfl ?c1 ?c2 ?c3 ?c4 ?c5 ?_)
      case c1 =>
        intro j u hj
        match j,hj with
        | 0,hj => simp at hj;subst hj;simp [Addr.add];try omega
      case c2 => intro u hu;simp at hu;subst hu;rfl
      case c3 => unfold maxLen;omega
      case c4 => omega
      case c5 => have := hbr.size;simp;omega
      · intro v' w1 hown' hgrow _
        have HOW := Lib.hid hown';clear hown'
        have HGR := Lib.hid hgrow;clear hgrow
        go_wp2
        go_ret
        refine ⟨v',[d],rfl, ?_,by intro x hx;simp at hx;omega,by simp [val],by simp, ?_⟩
        · exact HOW.out
        · exact (hbr.alloc (Nat.le_trans hB hbr.size) _).grown HGR.out (by have := hbr.size;simp;omega) (by intro k hk;simp [Value.ownBlock] at hk)
    · obtain rfl : d = 0 := by omega
      go_wp2
      go_ret
      exact ⟨_,[],rfl,World.ownsRow_nil _ _ _ _,(fun x hx => by cases hx),rfl,by simp,hbr⟩
theorem follow_any (B : Nat) (v : Value) (cs : List Nat) (D : Int) (d : Nat) (w : World) (hD : D = (d : Int)) (hd : d≤9) (ho : Own w B v cs) (hs : Small cs) (hn : cs.length≤100000000) (hB : B≤w.heap.size) :
    Calls Tryz.prog 191 #[v,.int .u32 D] w fun e w' => ∃ v' cs',e = .returned v'∧Own w' B v' cs'∧Small cs'∧val cs' = val cs * 10 + d∧cs'.length≤cs.length + 1∧Below B w w' := by
  rcases ho.2 with ⟨rfl,h0⟩ | ⟨g,cap,cur,rfl,hBg,_⟩
  · have : cs = [] := List.length_eq_zero_iff.1 h0
    subst this
    refine (follow_none B D d w hD hd hB).mono ?_
    rintro e w' ⟨v',cs',h1,h2,h3,h4,h5,h6⟩
    exact ⟨v',cs',h1,h2,h3,by rw [h4];simp [val],h5,h6⟩
  · exact follow_some B g cs.length cap cs D d w hD hd ho hBg hs hn hB
end Go.Proofs.YtkcgikoploohkaaGreatDoor
/- What Parse tells, of any text: the number of its digits, or which error. -/
namespace Go.Proofs.YtkcgikoploohkaaGreatDoor
set_option linter.unusedVariables false
set_option linter.unusedSimpArgs false
set_option maxRecDepth 100000
open Go.RowKit Nums
def isDig (c : UInt8) : Prop := 48≤c.toNat∧c.toNat≤57
def numOf (l : List UInt8) : Nat := l.foldl (fun a c => a * 10 + (c.toNat - 48)) 0
def allDig (s : ByteArray) : Prop := ∀ i (h : i < s.size),isDig s[i]
theorem numOf_snoc (l : List UInt8) (c : UInt8) : numOf (l ++ [c]) = numOf l * 10 + (c.toNat - 48) := by simp [numOf,List.foldl_append]
theorem take_snoc (s : ByteArray) (k : Nat) (h : k < s.size) : s.data.toList.take (k + 1) = s.data.toList.take k ++ [s[k]] := by
  rw [List.take_succ_eq_append_getElem (by simpa using h)];rfl
theorem row_own {w : World} {B g n cap : Nat} {cs : List Nat} (h : w.ownsRow B 89 1 (.slice (some ⟨g,0,none⟩) n cap) n (cs.map u32)) (hs : Small cs) : Row w (some ⟨g,0,none⟩) n cap cs := by
  have hl : cs.length = n := by have := h.1;simpa using this
  have hg := (h.lt g rfl).2
  rcases h.2 with ⟨h',_⟩ | ⟨g',cap',cur,h',_,hgg,hnc,hcm,_⟩
  · simp at h'
  · simp only [Value.slice.injEq,Option.some.injEq,Addr.mk.injEq,and_true,true_and] at h'
    obtain ⟨rfl,rfl⟩ := h'
    exact ⟨hl,hnc,hcm,by simp,hs,g,0,Or.inl rfl,fun i hi => ⟨hg,by rw [Nat.zero_add];exact cell_own h i hi⟩⟩
theorem cut_own (w0 w : World) (B : Nat) (v : Value) (cs : List Nat) (h : Own w B v cs) (hs : Small cs) (hn : cs.length≤1000000000) (hb : Below w0.heap.size w0 w) : Calls Tryz.prog 174 #[v] w (Num (val cs) w0) := by
  rcases h.2 with ⟨rfl,h0⟩ | ⟨g,cap,cur,rfl,hBg,_⟩
  · have : cs = [] := List.length_eq_zero_iff.1 h0
    subst this
    refine (cut_num none 0 0 [] w (row_nil w) (by omega)).mono ?_
    rintro e w' ⟨a',m,rfl,hm,hmn,hrow,-,rfl⟩
    exact ⟨a',m,rfl,hm,hrow,hb⟩
  · refine (cut_num _ _ cap cs w (row_own h hs) hn).mono ?_
    rintro e w' ⟨a',m,rfl,hm,hmn,hrow,-,rfl⟩
    exact ⟨a',m,rfl,hm,hrow,hb⟩
set_option maxHeartbeats 1000000 in
theorem parse_bad (s : ByteArray) (w : World) (hs : s.size≤1000000000) (h : s.size = 0∨¬ allDig s) :
    Calls Tryz.prog 155 #[.string s] w fun e w' => e = .returned (.tuple #[.slice none 0 0,.int .i64 4])∧w = w' := by
  have H := Lib.hid h;clear h
  by_cases h0 : s.size = 0
  · have h1 : ((s.size : Int) == 0) = true := by rw [beq_iff_eq];omega
    clear h0
    go_enter Tryz.func155,Tryz.ntmps155
    go_wp2
    go_ret2
    exact ⟨rfl,rfl⟩
  · have h1 : ((s.size : Int) == 0) = false := by rw [beq_eq_false_iff_ne];omega
    have H0 := Lib.hid h0;clear h0
    go_enter Tryz.func155,Tryz.ntmps155
    go_wp2
    go_loop [12] (fun t => ∃ k : Nat,k≤s.size∧t = .int .i64 (k : Int)∧Hid (∀ i (h : i < s.size),i < k→isDig s[i])) (fun t => s.size - (intOf t).toNat)
    case atStart => exact ⟨0,Nat.zero_le _,rfl,fun i h hi => by omega⟩
    case round =>
      obtain ⟨k,hk,rfl,HK⟩ := hrel
      by_cases hk0 : k < s.size
      · by_cases hlo : (s[k].toNat : Int) < 48
        · go_wp2
          go_ret2
          exact ⟨rfl,rfl⟩
        · by_cases hhi : (57 : Int) < (s[k].toNat : Int)
          · go_wp2
            go_ret2
            exact ⟨rfl,rfl⟩
          · go_wp2
            go_round
            case rel => exact ⟨k + 1,by omega,by go_num,fun i h hi => by
              by_cases e : i = k
              · subst e;exact ⟨by omega,by omega⟩
              · exact HK.out i h (by omega)⟩
            case measure => simp [intOf];omega
      · exfalso
        rcases H.out with h | h
        · exact H0.out h
        · exact h fun i hi => HK.out i hi (by omega)
set_option maxHeartbeats 1000000 in
theorem parse_long (s : ByteArray) (w : World) (hs : s.size≤1000000000) (hd : allDig s) (hl : 300 < s.size) :
    Calls Tryz.prog 155 #[.string s] w fun e w' => e = .returned (.tuple #[.slice none 0 0,.int .i64 2])∧w = w' := by
  have HD := Lib.hid hd;clear hd
  have h1 : ((s.size : Int) == 0) = false := by rw [beq_eq_false_iff_ne];omega
  go_enter Tryz.func155,Tryz.ntmps155
  go_wp2
  go_loop [12] (fun t => ∃ k : Nat,k≤s.size∧t = .int .i64 (k : Int)) (fun t => s.size - (intOf t).toNat)
  case atStart => exact ⟨0,Nat.zero_le _,rfl⟩
  case round =>
    obtain ⟨k,hk,rfl⟩ := hrel
    by_cases hk0 : k < s.size
    · have hlo : ¬ (s[k].toNat : Int) < 48 := by have := (HD.out k hk0).1;omega
      have hhi : ¬ (57 : Int) < (s[k].toNat : Int) := by have := (HD.out k hk0).2;omega
      go_wp2
      go_round
      case rel => exact ⟨k + 1,by omega,by go_num⟩
      case measure => simp [intOf];omega
    · go_wp2
      go_ret2
      exact ⟨rfl,rfl⟩
set_option maxHeartbeats 1000000 in
theorem parse_ok (s : ByteArray) (w : World) (hs : s.size≤300) (h0 : 0 < s.size) (hd : allDig s) :
    Calls Tryz.prog 155 #[.string s] w (Num2 (numOf s.data.toList) w) := by
  have HD := Lib.hid hd;clear hd
  have h1 : ((s.size : Int) == 0) = false := by rw [beq_eq_false_iff_ne];omega
  have HN : Hid (numOf (s.data.toList.take s.size) = numOf s.data.toList) := by
    have e : s.data.toList.take s.size = s.data.toList := List.take_of_length_le (by simp)
    rw [e];exact rfl
  go_enter Tryz.func155,Tryz.ntmps155
  go_wp2
  go_loop [12] (fun t => ∃ k : Nat,k≤s.size∧t = .int .i64 (k : Int)) (fun t => s.size - (intOf t).toNat)
  case atStart => exact ⟨0,Nat.zero_le _,rfl⟩
  case round =>
    obtain ⟨k,hk,rfl⟩ := hrel
    by_cases hk0 : k < s.size
    · have hlo : ¬ (s[k].toNat : Int) < 48 := by have := (HD.out k hk0).1;omega
      have hhi : ¬ (57 : Int) < (s[k].toNat : Int) := by have := (HD.out k hk0).2;omega
      go_wp2
      go_round
      case rel => exact ⟨k + 1,by omega,by go_num⟩
      case measure => simp [intOf];omega
    · obtain rfl : s.size = k := by omega
      clear hk hk0
      go_wp2
      go_loopw [5,31] (fun v t wr => ∃ (j : Nat) (cs : List Nat),j≤s.size∧t = .int .i64 (j : Int)∧Hid (Own wr w.heap.size v cs∧Small cs∧val cs = numOf (s.data.toList.take j)∧cs.length≤j)∧Below w.heap.size w wr) (fun _ t _ => s.size - (intOf t).toNat)
      case atStart => exact ⟨0,[],Nat.zero_le _,rfl,⟨World.ownsRow_nil _ _ _ _,(fun x hx => by cases hx),by simp [val,numOf],by simp⟩,Below.refl _ _⟩
      case round =>
        obtain ⟨j,cs,hj,rfl,HZ,hbr⟩ := hrel
        by_cases hj0 : j < s.size
        · have hlo : ¬ (s[j].toNat : Int) < 48 := by have := (HD.out j hj0).1;omega
          have hhi : (s[j].toNat : Int)≤57 := by have := (HD.out j hj0).2;omega
          have HS : Hid (numOf (s.data.toList.take (j + 1)) = numOf (s.data.toList.take j) * 10 + (s[j].toNat - 48)) := by rw [take_snoc s j hj0];exact numOf_snoc _ _
          go_wp2_with fail
          refine (follow_any w.heap.size _ cs _ (s[j].toNat - 48) wr (by omega) (by omega) HZ.out.1 HZ.out.2.1 (by have := HZ.out.2.2.2;omega) hbr.size).mono ?_
          rintro e w' ⟨v',cs',rfl,k1,k2,k3,k4,k5⟩
          have K1 := Lib.hid k1;clear k1
          have K2 := Lib.hid k2;clear k2
          have K3 := Lib.hid k3;clear k3
          have K4 := Lib.hid k4;clear k4
          have K5 := Lib.hid k5;clear k5
          go_wp2
          go_roundw
          case rel => exact ⟨j + 1,cs',by omega,by go_num,⟨K1.out,K2.out,by rw [K3.out,HZ.out.2.2.1,HS.out],by have := K4.out;have := HZ.out.2.2.2;omega⟩,hbr.trans K5.out⟩
          case measure => simp [intOf];omega
        · obtain rfl : s.size = j := by omega
          go_wp2_with fail
          refine (cut_own w wr w.heap.size _ cs HZ.out.1 HZ.out.2.1 (by have := HZ.out.2.2.2;omega) hbr).mono ?_
          rw [HZ.out.2.2.1,HN.out]
          rintro e w' ⟨a',m,rfl,hm,hrow,hb⟩
          have HM := Lib.hid hm;clear hm
          have HROW := Lib.hid hrow;clear hrow
          have HB := Lib.hid hb;clear hb
          go_wp2
          go_ret2
          exact ⟨a',m,rfl,HM.out,HROW.out,HB.out⟩
end Go.Proofs.YtkcgikoploohkaaGreatDoor
/- What slices.Reverse tells of a row of bytes that the call owns: the row turned round. -/
namespace Go.Proofs.YtkcgikoploohkaaGreatDoor
set_option linter.unusedVariables false
set_option linter.unusedSimpArgs false
set_option maxRecDepth 100000
open Go.RowKit Nums
def b8 (c : UInt8) : Value := .int .u8 (c.toNat : Int)
def Own8 (w : World) (B : Nat) (v : Value) (l : List UInt8) : Prop := w.ownsRow B 5 1 v l.length (l.map b8)
theorem own8_cell {w : World} {B g n cap : Nat} {l : List UInt8} (h : w.ownsRow B 5 1 (.slice (some ⟨g,0,none⟩) n cap) n (l.map b8)) (j : Nat) (hj : j < n) : w.cell? ⟨g,j,none⟩ = some (.int .u8 ((l.getD j 0).toNat : Int)) := by
  have hl : (l.map b8).length = n := by have := h.1;simpa using this
  rw [h.cellAt j (by omega)]
  have : j < l.length := by simp at hl;omega
  simp [this,b8]
theorem own8_set {w : World} {B g n cap : Nat} {l : List UInt8} (h : w.ownsRow B 5 1 (.slice (some ⟨g,0,none⟩) n cap) n (l.map b8)) (j : Nat) (u : UInt8) : (w.setCell ⟨g,j,none⟩ (.int .u8 (u.toNat : Int))).ownsRow B 5 1 (.slice (some ⟨g,0,none⟩) n cap) n ((l.set j u).map b8) := by
  have := (h.stored j (.int .u8 (u.toNat : Int))).1
  rw [List.map_set]
  exact this
def RevAt (l zs : List UInt8) (k j : Nat) : Prop := zs.length = l.length∧∀ t,t < l.length→zs.getD t 0 = if k≤t∧t≤j then l.getD t 0 else l.getD (l.length - 1 - t) 0
theorem RevAt.step {l zs : List UInt8} {k j : Nat} (h : RevAt l zs k j) (hkj : k < j) (hl : k + j + 1 = l.length) : RevAt l ((zs.set k (zs.getD j 0)).set j (zs.getD k 0)) (k + 1) (j - 1) := by
  obtain ⟨h1,h2⟩ := h
  refine ⟨by simp [h1],fun t ht => ?_⟩
  have ek := h2 k (by omega)
  have ej := h2 j (by omega)
  rw [if_pos ⟨by omega,by omega⟩] at ek ej
  by_cases e1 : t = j
  · subst e1
    rw [if_neg (by omega),show l.length - 1 - t = k by omega,←ek]
    have : t < zs.length := by omega
    simp [this]
  · by_cases e2 : t = k
    · subst e2
      rw [if_neg (by omega),show l.length - 1 - t = j by omega,←ej]
      have : t < zs.length := by omega
      simp [this,Ne.symm e1]
    · have e3 : ((zs.set k (zs.getD j 0)).set j (zs.getD k 0)).getD t 0 = zs.getD t 0 := by
        simp [Ne.symm e1,Ne.symm e2]
      rw [e3,h2 t ht]
      by_cases c : k + 1≤t∧t≤j - 1
      · rw [if_pos c,if_pos ⟨by omega,by omega⟩]
      · rw [if_neg c,if_neg (by omega)]
theorem RevAt.done {l zs : List UInt8} {k j : Nat} (h : RevAt l zs k j) (hkj : j≤k) (hl : k + j + 1 = l.length) : zs = l.reverse := by
  obtain ⟨h1,h2⟩ := h
  apply List.ext_getElem (by simp [h1])
  intro t ht ht'
  have hlt : t < l.length := by omega
  have := h2 t hlt
  have e1 : zs.getD t 0 = zs[t] := by simp [ht]
  rw [e1] at this
  rw [this,List.getElem_reverse]
  have hr : l.length - 1 - t < l.length := by omega
  split
  · rename_i c
    have : l.length - 1 - t = t := by omega
    simp [this,hlt]
  · simp [hr]
set_option maxHeartbeats 2000000 in
theorem reverse_any (B g n cap : Nat) (l : List UInt8) (w : World) (ho : w.ownsRow B 5 1 (.slice (some ⟨g,0,none⟩) n cap) n (l.map b8)) (hBg : B≤g) (hn : n≤1000000000) (h0 : 0 < n) :
    Calls Tryz.prog 175 #[.slice (some ⟨g,0,none⟩) n cap] w fun e w' => e = .returned (.tuple #[])∧w'.ownsRow B 5 1 (.slice (some ⟨g,0,none⟩) n cap) n (l.reverse.map b8)∧Below B w w' := by
  have HO := Lib.hid ho;clear ho
  have HL : Hid (l.length = n) := by have := HO.out.1;simp at this;exact this
  go_enter Tryz.func175,Tryz.ntmps175
  go_wp2
  go_loopw [2,3] (fun i j wr => ∃ (k m : Nat) (zs : List UInt8),i = .int .i64 (k : Int)∧j = .int .i64 (m : Int)∧k + m + 1≤n∧n≤k + m + 1∧Hid (wr.ownsRow B 5 1 (.slice (some ⟨g,0,none⟩) n cap) n (zs.map b8)∧RevAt l zs k m)∧Below B w wr) (fun _ j _ => (intOf j).toNat)
  case atStart => exact ⟨0,n - 1,l,rfl,by go_num,by omega,by omega,⟨HO.out,rfl,fun t ht => by rw [if_pos ⟨by omega,by have := HL.out;omega⟩]⟩,Below.refl _ _⟩
  case round =>
    obtain ⟨k,m,zs,rfl,rfl,hk1,hk2,HZ,hbr⟩ := hrel
    by_cases hkm : k < m
    · have hc0 := own8_cell HZ.out.1 k (by omega)
      have hc1 := own8_cell HZ.out.1 m (by omega)
      have hf0 := HZ.out.1.frozenAt k
      have hf1 := HZ.out.1.frozenAt m
      obtain ⟨x,hx⟩ : ∃ x,x = zs.getD k 0 := ⟨_,rfl⟩
      obtain ⟨y,hy⟩ : ∃ y,y = zs.getD m 0 := ⟨_,rfl⟩
      rw [←hx] at hc0
      rw [←hy] at hc1
      have HX := Lib.hid hx;clear hx
      have HY := Lib.hid hy;clear hy
      have hb0 : (k : Int) < (n : Int) := by omega
      have hb1 : (m : Int) < (n : Int) := by omega
      go_wp2
      go_region
      go_wp2
      go_roundw
      case rel =>
        refine ⟨k + 1,m - 1,(zs.set k y).set m x,by go_num,by go_num,by omega,by omega,⟨?_, ?_⟩, ?_⟩
        · exact own8_set (own8_set HZ.out.1 k y) m x
        · have h := HZ.out.2.step hkm (by have := HL.out;omega)
          rw [←HX.out,←HY.out] at h
          exact h
        · exact ((hbr.setCell (p := ⟨g,k,none⟩) hBg _).setCell (p := ⟨g,m,none⟩) hBg _).drew
      case measure => simp [intOf];omega
    · go_wp2
      go_end0
      have h := HZ.out.2.done (by omega) (by have := HL.out;omega)
      exact ⟨rfl,by rw [←h];exact HZ.out.1,hbr⟩
end Go.Proofs.YtkcgikoploohkaaGreatDoor
/- What Print tells, of any row: its number in radix 10. Condition: rows of at most 10^6 numbers. -/
namespace Go.Proofs.YtkcgikoploohkaaGreatDoor
set_option linter.unusedVariables false
set_option linter.unusedSimpArgs false
set_option maxRecDepth 100000
open Go.RowKit Nums
theorem Tryz.info5 : (Tryz.prog.info? 5).map (fun i => (i.zero,i.size,i.bytes)) = some (some (.int .u8 0),1,1) := by kernel_rfl
theorem own8_take {w : World} {B g n cap : Nat} {l : List UInt8} (h : w.ownsRow B 5 1 (.slice (some ⟨g,0,none⟩) n cap) n (l.map b8)) (m : Nat) (hm : m≤n) : w.ownsRow B 5 1 (.slice (some ⟨g,0,none⟩) m cap) m ((l.take m).map b8) := by
  have hl : l.length = n := by have := h.1;simpa using this
  refine ⟨by simp;omega, ?_⟩
  rcases h.2 with ⟨h',_⟩ | ⟨g',cap',cur,h',hb,hg,hnc,hcm,hcs,htake⟩
  · simp at h'
  · simp only [Value.slice.injEq,Option.some.injEq,Addr.mk.injEq,and_true,true_and] at h'
    obtain ⟨rfl,rfl⟩ := h'
    refine .inr ⟨g,cap,cur,rfl,hb,hg,by omega,hcm,hcs, ?_⟩
    rw [List.map_take,←htake,List.take_take]
    congr 1
    omega
theorem b8_dig (p : Nat) : b8 (UInt8.ofNat (48 + p % 10)) = .int .u8 (48 + (p : Int) % 10) := by
  unfold b8
  rw [toNat_dig]
  simp
def Left (wr : World) (g : Nat) (a : Option Addr) (n N : Nat) : Prop :=
  ∃ cs,((n = 0∧a = none)∨(0 < n∧a = some ⟨g,0,none⟩))∧Mem wr g cs∧Small cs∧n≤cs.length∧val (cs.take n) = N∧(0 < n→0 < N)
theorem Left.below {B : Nat} {w w' : World} {g : Nat} {a : Option Addr} {n N : Nat} (h : Left w g a n N) (hb : Below B w w') (hg : g < B) : Left w' g a n N := by
  obtain ⟨cs,h1,h2,h3,h4,h5,h6⟩ := h
  exact ⟨cs,h1,h2.below hb hg,h3,h4,h5,h6⟩
theorem str_of_dig {T : List UInt8} {N0 m : Nat} (hT : Digs T) (hv : N0 = dval T) (hm : m≤T.length) (hz : ∀ i,m≤i→i < T.length→(T.getD i 0).toNat = 48) (h0 : 0 < m) (hl : (T.getD (m - 1) 0).toNat≠48) (hN : N0≠0) : (⟨((T.take m).reverse).toArray⟩ : ByteArray) = decStr N0 := by
  have e1 := dval_take T m hm hz
  have e2 := dig_unique (T.take m) (digs_take hT m) (Or.inr (by
    rw [List.length_take,Nat.min_eq_left hm]
    have e : (T.take m).getD (m - 1) 0 = T.getD (m - 1) 0 := by
      have h1 : m - 1 < m := by omega
      simp [List.getElem?_take,h1]
    rw [e];exact hl))
  rw [e1,←hv] at e2
  rw [e2,decStr,if_neg hN]
set_option maxHeartbeats 4000000 in
theorem print_any (a0 : Option Addr) (n0 c0 : Nat) (xs : List Nat) (w : World) (h0 : Row w a0 n0 c0 xs) (hn0 : n0≤1000000) :
    Calls Tryz.prog 127 #[.slice a0 n0 c0] w fun e w' => e = .returned (.string (decStr (val xs)))∧Below w.heap.size w w' := by
  have HS := Lib.hid h0.2.2.2.2.1
  have HV0 : Hid (val xs < 4294967296 ^ n0) := by have := val_lt xs h0.2.2.2.2.1;rw [h0.1] at this;exact this
  have H0 := Lib.hid h0;clear h0
  obtain ⟨i0,hi,hz0,hz1,hz2⟩ := info_parts Tryz.info5
  have HI := Lib.hid hi;clear hi
  have HI0 := Lib.hid hz0;clear hz0
  have HI1 := Lib.hid hz1;clear hz1
  have HI2 := Lib.hid hz2;clear hz2
  obtain ⟨N0,hN0⟩ : ∃ N0,N0 = val xs := ⟨_,rfl⟩
  rw [←hN0] at HV0
  have HN0 := Lib.hid hN0;clear hN0
  go_enter Tryz.func127,Tryz.ntmps127
  go_wp2_with fail
  refine (told_any a0 n0 c0 xs w H0.out (by omega)).mono ?_
  rintro e w1 ⟨⟨a,n,rfl,hm,hmn,hrow,hor⟩,hb⟩
  have HB := Lib.hid hb;clear hb
  have hnl : n = (limbs N0).length := by rw [hm,tl_eq xs HS.out,HN0.out]
  have hrl : xs.take n = limbs N0 := by rw [hm,limbs_take xs HS.out,HN0.out]
  rw [hrl] at hrow hor
  have HNL := Lib.hid hnl;clear hnl hm hrl
  have HROW := Lib.hid hrow;clear hrow
  rcases hor with ⟨h1,rfl⟩ | ⟨hpos,g,rfl,hg,hmem⟩
  · have hz : N0 = 0 := by have := HNL.out;rw [h1] at this;exact length_limbs_zero.1 this.symm
    subst h1
    have HZ := Lib.hid hz;clear hz
    go_wp2
    go_ret
    exact ⟨by rw [←HN0.out,HZ.out];rfl,HB.out⟩
  · have HG := Lib.hid hg;clear hg
    have HMEM := Lib.hid hmem;clear hmem
    have hgt := HMEM.out.lt
    have hne : ((n : Int) == 0) = false := by rw [beq_eq_false_iff_ne];omega
    have HNP : Hid (N0≠0) := by
      intro h;have := HNL.out;rw [h,limbs_zero] at this;simp at this;omega
    go_wp2
    go_loopg [3,4] N0 (fun N u v wr => ∃ (a : Option Addr) (m : Nat) (T : List UInt8),u = .slice a m m∧m≤n∧Hid (Left wr g a m N∧Own8 wr w1.heap.size v T∧DigAt N0 T 0 N 9∧T.length≤100000000)∧Below w.heap.size w wr∧w1.heap.size≤wr.heap.size)
    case atStart =>
      refine ⟨some ⟨g,0,none⟩,n,[],rfl,Nat.le_refl _,⟨⟨limbs N0,Or.inr ⟨hpos,rfl⟩,HMEM.out,small_limbs N0,by rw [HNL.out];exact Nat.le_refl _, ?_,fun _ => by have := HNP.out;omega⟩,World.ownsRow_nil _ _ _ _,⟨(fun c hc => by cases hc),by simp [dval],by simp⟩,by simp⟩,HB.out,Nat.le_refl _⟩
      rw [List.take_of_length_le (by rw [HNL.out];exact Nat.le_refl _),val_limbs]
    case round =>
      obtain ⟨a,m,T,rfl,hm,HZ,hbr,hsz⟩ := hrel
      by_cases hm0 : 0 < m
      · obtain ⟨cs,hor,hmem,hsm,hml,hval,hNp⟩ := HZ.out.1
        rcases hor with ⟨h,_⟩ | ⟨_,rfl⟩
        · omega
        have HM := Lib.hid hmem;clear hmem
        have HVAL := Lib.hid hval;clear hval
        have HNp := Lib.hid (hNp hm0);clear hNp
        have HSM := Lib.hid hsm;clear hsm
        go_wp2_with fail
        refine (shrink_any g m m cs wr _ 1000000000 rfl (by omega) (by omega) HM.out HSM.out hml (by omega)).mono ?_
        rintro e w2 ⟨⟨qs,r,rfl,hql,hqs,hr,hv,hmem2⟩,hgr⟩
        rw [HVAL.out] at hv
        have HQL := Lib.hid hql;clear hql
        have HQS := Lib.hid hqs;clear hqs
        have HRV := Lib.hid hv;clear hv
        have HM2 := Lib.hid hmem2;clear hmem2
        have HGR := Lib.hid hgr;clear hgr
        have hmaxm : m≤maxLen := by unfold maxLen;omega
        have hrow : Row w2 (some ⟨g,0,none⟩) m m qs := by
          have h := HM2.out.row (small_append HQS.out (fun x hx => HSM.out x (List.mem_of_mem_drop hx))) 0 m m (by simp [HQL.out]) (Nat.le_refl _) hmaxm
          rw [List.drop_zero,List.take_append_of_le_length (by rw [HQL.out];exact Nat.le_refl _),List.take_of_length_le (by rw [HQL.out];exact Nat.le_refl _)] at h
          exact h
        have HROW2 := Lib.hid hrow;clear hrow hmaxm
        go_wp2_with fail
        refine (cut_row _ m m qs w2 HROW2.out (by omega)).mono ?_
        rintro e w2' ⟨a',m',rfl,hm',hmm,-,hor',rfl⟩
        have HLEFT : Hid (Left w2 g a' m' (val qs)) := by
          refine ⟨qs ++ cs.drop m,hor',HM2.out,small_append HQS.out (fun x hx => HSM.out x (List.mem_of_mem_drop hx)),by simp [HQL.out];omega, ?_, ?_⟩
          · rw [List.take_append_of_le_length (by rw [HQL.out];omega),hm',limbs_take qs HQS.out,val_limbs]
          · intro h
            rcases Nat.eq_zero_or_pos (val qs) with h' | h'
            · rw [(val_zero_tl qs).1 h'] at hm';omega
            · exact h'
        clear hm' hor'
        obtain ⟨N',hN'⟩ : ∃ N',N' = val qs := ⟨_,rfl⟩
        rw [←hN'] at HLEFT HRV
        clear hN'
        have HOWN : Hid (Own8 w2 w1.heap.size u4 T) := by
          refine World.ownsRow.kept HZ.out.2.1 HGR.out (Or.inr ?_)
          intro h
          have := (HZ.out.2.1.lt g h).1
          omega
        have hb2 : Below w.heap.size w w2 := hbr.grown HGR.out hbr.size (by intro k hk;simp at hk;have := HG.out;omega)
        have hsz2 : w1.heap.size≤w2.heap.size := Nat.le_trans hsz HGR.out.size
        have hTl : T.length≤32 * n0 := HZ.out.2.2.1.len HNp.out HV0.out
        have HSTART : Hid (DigAt N0 T r N' 0) := HZ.out.2.2.1.start HRV.out hr
        have hr2 : r < 4294967296 := by omega
        have HLT : Hid (N' < gk) := by
          have h1 := HRV.out
          have h2 := HNp.out
          exact (by omega : N' < gk)
        go_wp2
        go_loopw [4,5,19] (fun v pv t wi => ∃ (j p : Nat) (T' : List UInt8),t = .int .i64 (j : Int)∧j≤9∧pv = .int .u32 (p : Int)∧p < 4294967296∧Hid (Own8 wi w1.heap.size v T'∧DigAt N0 T' p N' j)∧T'.length≤T.length + j∧Below w1.heap.size w2 wi) (fun _ _ t _ => 9 - (intOf t).toNat)
        case atStart => exact ⟨0,r,T,rfl,by omega,rfl,hr2,⟨HOWN.out,HSTART.out⟩,by omega,Below.refl _ _⟩
        case round =>
          obtain ⟨j,p,T',rfl,hj,rfl,hp,HY,hlen,hbi⟩ := hrel
          by_cases hj9 : j < 9
          · go_wp2_with (at_builtin;refine wpList_append_own _ rfl _ _ 22 rfl w1.heap.size 5 i0 (.int .u8 0) 1 1 Tryz.underlying22 HI.out HI0.out HI1.out HI2.out rfl (by decide) _ _ _ rfl (HY.out.1.alloc _) ⟨wr.heap.size,0,none⟩ 1 1 [.int .u8 (48 + (p : Int) % 10)] rfl rfl ?c1 ?c2 ?c3 ?c4 ?c5 ?_)
            case c1 =>
              intro j u hj
              match j,hj with
              | 0,hj => simp at hj;subst hj;simp [Addr.add];try omega
            case c2 => intro u hu;simp at hu;subst hu;rfl
            case c3 => unfold maxLen;omega
            case c4 => omega
            case c5 => have := hbi.size;simp;omega
            · intro v' w3 hown' hgrow _
              have HOW := Lib.hid hown';clear hown'
              have HGW := Lib.hid hgrow;clear hgrow
              go_wp2
              go_roundw
              case rel =>
                refine ⟨j + 1,p / 10,T' ++ [UInt8.ofNat (48 + p % 10)],by go_num,by omega,by go_num,by omega,⟨?_,HY.out.2.step hj9⟩,by simp;omega, ?_⟩
                · unfold Own8
                  have := HOW.out
                  rw [List.length_append,List.map_append]
                  simp only [List.map_cons,List.map_nil,b8_dig,List.length_singleton]
                  exact this
                · exact (hbi.alloc (Nat.le_trans hsz2 hbi.size) _).grown HGW.out (by have := hbi.size;simp;omega) (fun k hk => (HY.out.1.lt k hk).1)
              case measure => simp [intOf];omega
          · obtain rfl : j = 9 := by omega
            go_wp2
            go_roundg N'
            case measure => exact HLT.out
            case rel => exact ⟨a',m',T',rfl,by omega,⟨HLEFT.out.below hbi hgt,HY.out.1,HY.out.2.next,by omega⟩,hb2.trans (hbi.mono HB.out.size),Nat.le_trans hsz2 hbi.size⟩
      · have HD : Hid (Digs T∧N0 = dval T) := by
          obtain ⟨cs,hor,hmem,hsm,hml,hval,hNp⟩ := HZ.out.1
          have h0 : gk = 0 := by rw [←hval,show m = 0 by omega];rfl
          have h1 := HZ.out.2.2.1
          rw [h0] at h1
          exact h1.done
        have hown := HZ.out.2.1
        have hT0 : 0 < T.length := by
          rcases Nat.eq_zero_or_pos T.length with h | h
          · exfalso
            have h1 := List.length_eq_zero_iff.1 h
            have h2 := HD.out.2
            rw [h1] at h2
            exact HNP.out h2
          · exact h
        have hTl := HZ.out.2.2.2
        rcases hown.2 with ⟨_,h⟩ | ⟨g',cap,cur,hv,hBg,_,hLc,hcm,_⟩
        · omega
        · have hown2 : wr.ownsRow w1.heap.size 5 1 (.slice (some ⟨g',0,none⟩) T.length cap) T.length (T.map b8) := by rw [←hv];exact hown
          clear hown
          subst hv
          have HOW := Lib.hid hown2;clear hown2
          obtain ⟨L,hL⟩ : ∃ L,L = T.length := ⟨_,rfl⟩
          rw [←hL] at HOW hT0 hTl hLc ⊢
          have HL := Lib.hid hL;clear hL
          obtain ⟨wq,rfl⟩ : ∃ wq : World,wq = wr := ⟨_,rfl⟩
          unfold maxLen at hcm
          go_wp2
          go_loop [6] (fun t => ∃ k : Nat,0 < k∧k≤L∧t = .int .i64 (k : Int)∧Hid (∀ i,k≤i→i < T.length→(T.getD i 0).toNat = 48)) (fun t => (intOf t).toNat)
          case atStart => exact ⟨L,hT0,Nat.le_refl _,rfl,fun i h1 h2 => by have := HL.out;omega⟩
          case round =>
            obtain ⟨k,hk0,hk,rfl,HK⟩ := hrel
            have hcell := own8_cell HOW.out (k - 1) (by omega)
            have e : ((k : Int) - 1).toNat = k - 1 := by omega
            obtain ⟨c,hc⟩ : ∃ c,c = T.getD (k - 1) 0 := ⟨_,rfl⟩
            rw [←hc] at hcell
            have HC := Lib.hid hc;clear hc
            by_cases h48 : c.toNat = 48
            · have hb48 : ((c.toNat : Int) == 48) = true := by rw [beq_iff_eq];omega
              have H48 := Lib.hid h48;clear h48
              have hk1 : 1 < k := by
                rcases Nat.lt_or_ge 1 k with h | h
                · exact h
                · exfalso
                  obtain rfl : k = 1 := by omega
                  apply HNP.out
                  rw [HD.out.2]
                  apply dval_zeros
                  intro i hi
                  rcases Nat.eq_zero_or_pos i with h0 | h0
                  · subst h0
                    have := HC.out
                    rw [Nat.sub_self] at this
                    rw [←this];exact H48.out
                  · exact HK.out i h0 hi
              go_wp2
              go_round
              case rel => exact ⟨k - 1,by omega,by omega,by go_num,fun i h1 h2 => by
                by_cases e : i = k - 1
                · subst e;rw [←HC.out];exact H48.out
                · exact HK.out i (by omega) h2⟩
              case measure => simp [intOf];omega
            · have hb48 : ((c.toNat : Int) == 48) = false := by rw [beq_eq_false_iff_ne];omega
              have H48 := Lib.hid h48;clear h48
              have hkc : k≤cap := by omega
              go_wp2_with fail
              refine (reverse_any w1.heap.size g' k cap (T.take k) wq (own8_take HOW.out k hk) hBg (by omega) hk0).mono ?_
              rintro e w6 ⟨rfl,hown6,hb6⟩
              have HO6 := Lib.hid hown6;clear hown6
              have HB6 := Lib.hid hb6;clear hb6
              have hlen6 : ((T.take k).reverse).length = k := by
                have := HL.out
                simp;omega
              have hcv := run_convert_bytes_back (P := Tryz.prog) w6 22 9 5 ⟨g',0,none⟩ cap ((T.take k).reverse) Tryz.underlying22 Tryz.underlying5 Tryz.underlying9 (by
                intro j hj
                have h1 := own8_cell HO6.out j (by rw [←hlen6];exact hj)
                have e1 : (⟨g',0,none⟩ : Addr).add j = ⟨g',j,none⟩ := by unfold Addr.add;split <;> simp_all
                have e2 : ((T.take k).reverse).getD j 0 = ((T.take k).reverse)[j] := by rw [List.getD_eq_getElem?_getD,List.getElem?_eq_getElem hj];rfl
                rw [e1,h1,e2])
              rw [hlen6] at hcv
              have HSTR : Hid ((⟨((T.take k).reverse).toArray⟩ : ByteArray) = decStr N0) := str_of_dig HD.out.1 HD.out.2 (by rw [←HL.out];exact hk) HK.out hk0 (by rw [←HC.out];exact H48.out) HNP.out
              rw [HSTR.out] at hcv
              clear hlen6
              go_wp2
              go_ret
              exact ⟨by rw [←HN0.out];exact rfl,hbr.trans (HB6.out.mono HB.out.size)⟩
end Go.Proofs.YtkcgikoploohkaaGreatDoor
