/- times: what its function value does. -/
import Derived.Test.YtmoplgfmngohgaaGreatSvR
import Derived.Test.YtmoplgfmngohgaaGreatSvF
import Derived.Test.YtmoplgfmngohgaaGreatSvG
import Derived.RangeFuncBox
import Derived.RangeFuncNested
import Derived.RangeFuncBound
import Derived.RangeFuncCalls
import Derived.RangeFuncLeaves
import Derived.RangeFuncWrites
import Derived.Shelf.Abstract
import Derived.Shelf.RegionOpen
import Derived.OwnWalkIn
import Derived.TacticsInMore
import Derived.LoopNIn
import Derived.LoopIn
import Derived.IntWalk
import Derived.Deep.DeepCutAuto
namespace Go.Proofs.YtmoplgfmngohgaaGreat
set_option linter.unusedVariables false
set_option linter.unusedSimpArgs false
set_option maxRecDepth 100000
open Go.RowKit Nums

/-- when one line passes, in plain numbers -/
def passL (x : LM) : Option Rat := passM x.on x.p x.q
theorem times_t (a : Option Addr) (n c : Nat) (w : World) : Calls Tryz.prog 16 #[.slice a n c] w fun e w' => e = .returned (.func (.func 35) #[] #[.pointer (some ⟨w.heap.size, 0, none⟩)]) ∧ w' = w.alloc (.cells #[.slice a n c] 22) := by
  go_enter Tryz.func16, Tryz.ntmps16
  go_wp2
  go_ret
  exact ⟨rfl, rfl⟩
theorem passes_t {x : LM} {w : World} (hv : x.v.Is 4 4 x.p w) (hz : x.z.Is 4 4 x.q w) : Calls Tryz.prog 11 #[.agg #[.bool x.on, .bool x.v.s, .slice x.v.a x.v.n x.v.c, .slice x.v.b x.v.m x.v.d, .bool x.z.s, .slice x.z.a x.z.n x.z.c, .slice x.z.b x.z.m x.z.d]] w (OptV 8 8 (passL x) w) := by
  unfold passL passM
  by_cases h : x.on = true ∧ x.p < 0 ∧ 0 < x.q
  · rw [if_pos h]
    obtain ⟨h1, h2, h3⟩ := h
    rw [h1]
    exact (passes_yes 4 4 4 4 hv hz (by omega) h2 h3).mono fun _ _ h => h
  · rw [if_neg h]
    exact (passes_no x.on 4 4 4 4 hv hz (by omega) h).mono fun _ _ h => h
theorem filter_next {L : List LM} {k : Nat} {x : LM} (hx : L[k]? = some x) : (L.take (k + 1)).filterMap passL = (L.take k).filterMap passL ++ (passL x).toList := by
  rw [List.take_add_one, hx, List.filterMap_append]
  congr 1
attribute [local go_sem] Oper.semAt_some
set_option maxHeartbeats 8000000 in
/-- what times' function value does: it hands each time to the loop's body -/
theorem times1_in (n : Nat) (hn1 : 1 ≤ n) (l Bn : Nat) (a : Option Addr) (len cap : Nat) (L : List LM) (J : List Rat → World → Prop) (hlen : len ≤ 20) (hS : ∀ x ∈ L, x.Short)
    (hJ : ∀ ts W W', J ts W → Below W.heap.size W W' → J ts W') (hJL : ∀ ts W, J ts W → LRow W a len cap L ∧ Blk W Bn 22 #[.slice a len cap])
    (hY : ∀ ts (r : RV) t W, J ts W → r.Is 8 8 t W → YieldAt Fence.wide (n - 1) Tryz.prog l #[.agg #[.bool r.s, .slice r.a r.n r.c, .slice r.b r.m r.d]] W fun e W' => e = .returned (.bool true) ∧ J (ts ++ [t]) W')
    (W : World) (h0 : J [] W) :
    CallsIn Fence.wide n Tryz.prog 35 #[.func (.yield l) #[] #[], .pointer (some ⟨Bn, 0, none⟩)] W fun e W' => (∃ v, e = .returned v) ∧ J (L.filterMap passL) W' := by
  have HJ := Lib.hid hJ
  have HJL := Lib.hid hJL
  have HY := Lib.hid hY
  have HSH := Lib.hid hS
  have HLE := Lib.hid hlen
  have HL := Lib.hid (hJL _ _ h0).1.1
  have H0 := Lib.hid h0
  have hc0 := (hJL _ _ h0).2.cell 0 rfl
  clear hJ hJL hY hS hlen h0
  refine callsIn_of_wp Tryz.func35 rfl trivial ?_ rfl
  simp only [Tryz.ntmps35, List.size_toArray, List.length_cons, List.length_nil, Nat.reduceAdd, Nat.reduceSub, Array.replicate_succ, Array.replicate_zero, List.push_toArray, List.append_toArray, List.nil_append, List.cons_append]
  gi_wp2
  gi_loopw [9] (fun t9 wr => ∃ k : Nat, k ≤ len ∧ t9 = .int .i64 k ∧ Hid (J ((L.take k).filterMap passL) wr)) (fun t _ => len - (intOf t).toNat)
  case atStart => exact ⟨0, Nat.zero_le _, rfl, Lib.hid (by simpa using H0.out)⟩
  case round =>
    obtain ⟨k, hk, rfl, HJk⟩ := hrel
    by_cases hlt : k < len
    · obtain ⟨x, hx⟩ : ∃ x, L[k]? = some x := ⟨_, List.getElem?_eq_getElem (by rw [HL.out]; exact hlt)⟩
      obtain ⟨b, off, ha, hbB, hat⟩ := ((HJL.out _ _ HJk.out).1).at_ hx
      have HX := Lib.hid hx
      have HSX := Lib.hid (HSH.out x (List.mem_of_getElem? hx))
      have HV := Lib.hid (hat.v.more HSX.out.1 HSX.out.2.1)
      have HZ := Lib.hid (hat.z.more HSX.out.2.2.1 HSX.out.2.2.2)
      subst ha
      obtain ⟨c0, c1, c2, c3, c4, c5, c6, -, -⟩ := hat
      have hk20 : (k : Int) ≤ 20 := by have := HLE.out; omega
      have hJB := (HJL.out _ _ HJk.out).2.cell 0 rfl
      clear hx HSX hc0
      cases hpl : passL x with
      | none =>
        have HPL := Lib.hid (passes_t (HV.out.later (below_one wr (.cells #[.bool x.on, .bool x.v.s, .slice x.v.a x.v.n x.v.c, .slice x.v.b x.v.m x.v.d, .bool x.z.s, .slice x.z.a x.z.n x.z.c, .slice x.z.b x.z.m x.z.d] 37))) (HZ.out.later (below_one wr (.cells #[.bool x.on, .bool x.v.s, .slice x.v.a x.v.n x.v.c, .slice x.v.b x.v.m x.v.d, .bool x.z.s, .slice x.z.a x.z.n x.z.c, .slice x.z.b x.z.m x.z.d] 37))))
        rw [hpl] at HPL
        have HPX := Lib.hid hpl
        clear hpl
        gi_wp2_with (refine ⟨trivial, ?_⟩; gi_at_call 11; refine (callsIn_wide.2 HPL.out).mono ?_; rintro e w3 ⟨rfl, hb⟩; have HJ3 := Lib.hid (HJ.out _ _ _ HJk.out (bthen (below_one _ _) hb)); clear hb)
        refine ⟨fun _ h => (by cases h), ?_⟩
        gi_wp2
        go_roundw
        case rel =>
          refine ⟨k + 1, by omega, by go_num, Lib.hid ?_⟩
          rw [filter_next HX.out, HPX.out, Option.toList_none, List.append_nil]
          exact HJ.out _ _ _ HJ3.out (below_one _ _)
        case measure => simp [intOf]; omega
      | some t =>
        have HPL := Lib.hid (passes_t (HV.out.later (below_one wr (.cells #[.bool x.on, .bool x.v.s, .slice x.v.a x.v.n x.v.c, .slice x.v.b x.v.m x.v.d, .bool x.z.s, .slice x.z.a x.z.n x.z.c, .slice x.z.b x.z.m x.z.d] 37))) (HZ.out.later (below_one wr (.cells #[.bool x.on, .bool x.v.s, .slice x.v.a x.v.n x.v.c, .slice x.v.b x.v.m x.v.d, .bool x.z.s, .slice x.z.a x.z.n x.z.c, .slice x.z.b x.z.m x.z.d] 37))))
        rw [hpl] at HPL
        have HPX := Lib.hid hpl
        clear hpl
        gi_wp2_with (refine ⟨trivial, ?_⟩; gi_at_call 11; refine (callsIn_wide.2 HPL.out).mono ?_; rintro e w3 ⟨r, rfl, h3, hb⟩; have HJ3 := Lib.hid (HJ.out _ _ _ HJk.out (bthen (below_one _ _) hb)); obtain ⟨fn, tmps, assign, body, hy, hR⟩ := HY.out _ r t (w3.alloc (.cells #[.bool r.s, .slice r.a r.n r.c, .slice r.b r.m r.d] 27)) (HJ.out _ _ _ HJ3.out (below_one _ _)) (h3.later (below_one _ _)); clear hb)
        refine hR.mono ?_
        rintro e W3 ⟨rfl, hJ4⟩
        have HJ4 := Lib.hid hJ4
        clear hJ4 hy hR
        gi_wp2
        go_roundw
        case rel =>
          refine ⟨k + 1, by omega, by go_num, Lib.hid ?_⟩
          rw [filter_next HX.out, HPX.out]
          exact HJ4.out
        case measure => simp [intOf]; omega
    · obtain rfl : k = len := by omega
      gi_wp2
      go_end0
      exact ⟨⟨_, rfl⟩, by have := HJk.out; rw [List.take_of_length_le (by rw [HL.out]; exact Nat.le_refl _)] at this; exact this⟩

end Go.Proofs.YtmoplgfmngohgaaGreat
