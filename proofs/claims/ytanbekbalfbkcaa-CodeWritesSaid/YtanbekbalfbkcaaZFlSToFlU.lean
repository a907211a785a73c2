/- What allCrossings tells. No condition. · 12.4 by the program: what Good tells. No condition but a bound. · What the answer right tells, in part. No condition. -/
import Derived.Test.YtanbekbalfbkcaaZFlR
namespace Go.Proofs.Ytanbekbalfbkcaa
set_option linter.unusedVariables false
set_option linter.unusedSimpArgs false
set_option maxRecDepth 100000
open Go.RowKit

theorem asksB_app (f : FlatM) : ∀ (i : Nat) (l m : List COpM), asksB f i (l ++ m) = (asksB f i l && asksB f (i + l.length) m) := by
  intro i l
  induction l generalizing i with
  | nil => intro m; rfl
  | cons o l ih =>
    intro m
    show (askB f i o && asksB f (i + 1) (l ++ m)) = ((askB f i o && asksB f (i + 1) l) && asksB f (i + (l.length + 1)) m)
    rw [ih (i + 1) m, Bool.and_assoc, show i + 1 + l.length = i + (l.length + 1) by omega]
theorem asksB_succ {f : FlatM} {l : List COpM} {k : Nat} {o : COpM} (h : l[k]? = some o) : asksB f 0 (l.take (k + 1)) = (asksB f 0 (l.take k) && askB f k o) := by
  have hk : k < l.length := (List.getElem?_eq_some_iff.1 h).1
  rw [List.take_add_one, h, asksB_app]
  show (_ && (askB f (0 + (l.take k).length) o && true)) = _
  rw [List.length_take, Nat.min_eq_left (Nat.le_of_lt hk), Nat.zero_add, Bool.and_true]
theorem asksB_no {f : FlatM} {l : List COpM} {k : Nat} {o : COpM} (h : l[k]? = some o) (hn : askB f k o = false) : asksB f 0 l = false := by
  have e := asksB_app f 0 (l.take (k + 1)) (l.drop (k + 1))
  rw [List.take_append_drop, asksB_succ h, hn] at e
  rw [e]; simp
theorem asksB_end {f : FlatM} {l : List COpM} {n : Nat} (hn : l.length = n) (h : asksB f 0 (l.take n) = true) : asksB f 0 l = true := by
  rwa [List.take_of_length_le (by omega)] at h
theorem crossB_empty {f : FlatM} {x : CrossM} (h : x.ops.length = 0) : crossB f x = false := by
  unfold crossB; rw [h]; simp
theorem crossB_guard {f : FlatM} {x : CrossM} (h : guB x.guard f.names.length = false) : crossB f x = false := by
  unfold crossB; rw [h]; simp
theorem crossB_ask {f : FlatM} {x : CrossM} (h : asksB f 0 x.ops = false) : crossB f x = false := by
  unfold crossB; rw [h]; simp
theorem crossB_yes {f : FlatM} {x : CrossM} (h0 : guB x.guard f.names.length = true) (h1 : 0 < x.ops.length) (h2 : asksB f 0 x.ops = true) : crossB f x = true := by
  unfold crossB; rw [h0, h2, decide_eq_true h1]; rfl

set_option maxHeartbeats 2000000 in
theorem allCrossings_t (v : FlatV) (f : FlatM) (B : Nat) (w : World) (h : FlatIs w B v f) (hB : B ≤ w.heap.size) :
    Calls Try.prog 45 #[flatV v] w fun e w' => e = .returned (.bool (crsB f)) ∧ Below w.heap.size w w' := by
  have hm := h.cross.len_le
  have HNN := Lib.hid h.names.1
  have HCC := Lib.hid h.conts.1
  have HE := Lib.hid h.cross.1
  have HF := Lib.hid (show FlatIs (w.alloc (.cells (fvs v) 29)) B v f from h.below ((Below.refl B w).alloc hB _)); clear h
  have HK := Lib.hid (Blk.new w 29 (fvs v))
  have HB0 := Lib.hid (show Below w.heap.size w (w.alloc (.cells (fvs v) 29)) from (Below.refl _ _).alloc (Nat.le_refl _) _)
  have HBB := Lib.hid hB; clear hB
  unfold maxLen at hm
  unfold flatV sl3
  go_enter Try.func45, Try.ntmps45
  go_wp2
  go_loopw [10] (fun t wr => ∃ k : Nat, k ≤ v.cross.2.1 ∧ t = .int .i64 k ∧ Hid ((f.cross.take k).all (crossB f) = true) ∧ Hid (Below (w.heap.size + 1) (w.alloc (.cells (fvs v) 29)) wr)) (fun t _ => v.cross.2.1 - (intOf t).toNat)
  case atStart => exact ⟨0, Nat.zero_le _, rfl, Lib.hid rfl, Lib.hid (Below.refl _ _)⟩
  case round =>
    obtain ⟨k, hk, rfl, hz, hbr⟩ := hrel
    by_cases hlt : k < v.cross.2.1
    · have hfb := HK.out.below hbr.out (Nat.lt_succ_self _)
      have hbB := hbr.out.mono (Nat.le_succ_of_le HBB.out)
      have his := HF.out.below hbB
      obtain ⟨x, hx⟩ := his.cross.ex hlt
      obtain ⟨b, off, ha, hlb, hat⟩ := his.cross.at_ hx
      obtain ⟨r, hrow, e0, e1⟩ := hat.cells
      obtain ⟨f0, f1, f2, f3, f4, f5, f6, f7⟩ := hfb.flat
      have hgl : w.heap.size < wr.heap.size := hfb.lt
      have hbl : b < wr.heap.size := Nat.lt_of_lt_of_le hlb (Nat.le_trans HBB.out (Nat.le_of_lt hfb.lt))
      have hrm := hrow.len_le
      have HRL := Lib.hid hrow.1
      have HS := Lib.hid (St.new (T := 45) (P := fun W => SRow 2 COpAt W B r.1 r.2.1 r.2.2 x.ops) (crossvs x r) hfb his hbr.out HBB.out (fun _ _ q h => h.keep fun _ _ _ q1 q2 => q2.keep q1 fun _ hp => q.cell hp) hrow)
      have HX := Lib.hid hx
      rw [ha]
      unfold maxLen at hrm
      clear hfb hat hx hbB his ha hrow
      cases h1 : guB x.guard v.names.2.1 with
      | false =>
        have H1 := Lib.hid h1; clear h1
        go_wp2_with (go_at_call 51; refine (isGuard_at x.guard v false _ H1.out).mono ?_; rintro e w1 ⟨rfl, hb⟩; replace HS := Lib.hid (HS.out.later hb); clear hb; obtain ⟨f0, f1, f2, f3, f4, f5, f6, f7⟩ := HS.out.fb.flat; obtain ⟨e0, e1⟩ := HS.out.qb.cross)
        go_ret
        exact ⟨ret_bool' (all_no HX.out (crossB_guard (by rw [HNN.out]; exact H1.out))).symm, HB0.out.trans (HS.out.old.mono (Nat.le_succ _))⟩
      | true =>
        have H1 := Lib.hid h1; clear h1
        by_cases hr0 : r.2.1 = 0
        · have hr1 : ((r.2.1 : Int) == 0) = true := by rw [hr0]; rfl
          have H0 := Lib.hid hr0; clear hr0
          go_wp2_with (go_at_call 51; refine (isGuard_at x.guard v true _ H1.out).mono ?_; rintro e w1 ⟨rfl, hb⟩; replace HS := Lib.hid (HS.out.later hb); clear hb; obtain ⟨f0, f1, f2, f3, f4, f5, f6, f7⟩ := HS.out.fb.flat; obtain ⟨e0, e1⟩ := HS.out.qb.cross)
          go_ret
          exact ⟨ret_bool' (all_no HX.out (crossB_empty (by rw [HRL.out]; exact H0.out))).symm, HB0.out.trans (HS.out.old.mono (Nat.le_succ _))⟩
        · have hr1 : ((r.2.1 : Int) == 0) = false := by rw [beq_eq_false_iff_ne]; omega
          have hrp : 0 < r.2.1 := by omega
          clear hr0
          go_wp2_with (go_at_call 51; refine (isGuard_at x.guard v true _ H1.out).mono ?_; rintro e w1 ⟨rfl, hb⟩; replace HS := Lib.hid (HS.out.later hb); clear hb; obtain ⟨f0, f1, f2, f3, f4, f5, f6, f7⟩ := HS.out.fb.flat; obtain ⟨e0, e1⟩ := HS.out.qb.cross)
          obtain ⟨wo, rfl⟩ : ∃ wo : World, wo = w1 := ⟨_, rfl⟩
          have HRO := Lib.hid HS.out.row
          have HSO := HS; clear HS
          clear f0 f1 f2 f3 f4 f5 f6 f7 e0 e1
          go_loopw [28] (fun t wq => ∃ j : Nat, j ≤ r.2.1 ∧ t = .int .i64 j ∧ Hid (asksB f 0 (x.ops.take j) = true) ∧ Hid (Below wo.heap.size wo wq)) (fun t _ => r.2.1 - (intOf t).toNat)
          case atStart => exact ⟨0, Nat.zero_le _, rfl, Lib.hid rfl, Lib.hid (Below.refl _ _)⟩
          case round =>
            obtain ⟨j, hj, rfl, hy, hbq⟩ := hrel
            have HSQ := Lib.hid (HSO.out.later hbq.out)
            have hfb := HSQ.out.fb
            by_cases hjl : j < r.2.1
            · obtain ⟨y, hy1⟩ := HSQ.out.row.ex hjl
              obtain ⟨b2, off2, ha2, hlb2, hat2⟩ := HSQ.out.row.at_ hy1
              obtain ⟨s, hrow2, e0, e1⟩ := hat2.cells
              obtain ⟨f0, f1, f2, f3, f4, f5, f6, f7⟩ := hfb.flat
              have hgl2 : w.heap.size < wr.heap.size := hfb.lt
              have hbl2 : b2 < wr.heap.size := Nat.lt_of_lt_of_le hlb2 (Nat.le_trans HBB.out (Nat.le_of_lt hfb.lt))
              have HS := Lib.hid (St.new (T := 80) (P := fun W => IRow W B s.1 s.2.1 s.2.2 y.args) (copvs y s) hfb HSQ.out.is HSQ.out.old HBB.out (fun _ _ q h => h.below q) hrow2)
              have HY := Lib.hid hy1
              have HAK : Hid (askB f j y = askL y.op y.args j v.names.2.1 v.conts.2.1) := Lib.hid (by unfold askB; rw [HNN.out, HCC.out])
              have HBW := Lib.hid (show Below wo.heap.size wo (wr.alloc (.cells (copvs y s) 80)) from hbq.out.alloc hbq.out.size _)
              rw [ha2]
              clear hfb hat2 hy1 ha2 hrow2
              cases h2 : askL y.op y.args j v.names.2.1 v.conts.2.1 with
              | false =>
                have H2 := Lib.hid h2; clear h2
                go_wp2_with (go_at_call 57; refine (isAsked_b y s j v B false _ HS.out.row HS.out.hB H2.out).mono ?_; rintro e w2 ⟨rfl, hb⟩; replace HBW := Lib.hid (HBW.out.trans (hb.mono HBW.out.size)); replace HS := Lib.hid (HS.out.later hb); clear hb; obtain ⟨f0, f1, f2, f3, f4, f5, f6, f7⟩ := HS.out.fb.flat; obtain ⟨e0, e1⟩ := HS.out.qb.cop)
                go_ret
                exact ⟨ret_bool' (all_no HX.out (crossB_ask (asksB_no HY.out (by rw [HAK.out]; exact H2.out)))).symm, HB0.out.trans (HS.out.old.mono (Nat.le_succ _))⟩
              | true =>
                have H2 := Lib.hid h2; clear h2
                go_wp2_with (go_at_call 57; refine (isAsked_b y s j v B true _ HS.out.row HS.out.hB H2.out).mono ?_; rintro e w2 ⟨rfl, hb⟩; replace HBW := Lib.hid (HBW.out.trans (hb.mono HBW.out.size)); replace HS := Lib.hid (HS.out.later hb); clear hb; obtain ⟨f0, f1, f2, f3, f4, f5, f6, f7⟩ := HS.out.fb.flat; obtain ⟨e0, e1⟩ := HS.out.qb.cop)
                go_roundw
                case rel => exact ⟨j + 1, by omega, by go_num, Lib.hid (by rw [asksB_succ HY.out, HAK.out, H2.out, hy.out]; rfl), HBW⟩
                case measure => simp [intOf]; omega
            · clear hfb
              go_wp2
              go_roundw
              case rel => exact ⟨k + 1, by omega, by go_num, Lib.hid (by rw [all_succ HX.out, hz.out, crossB_yes (by rw [HNN.out]; exact H1.out) (by rw [HRL.out]; exact hrp) (asksB_end HRL.out (by rw [show r.2.1 = j by omega]; exact hy.out))]; rfl), Lib.hid HSQ.out.old⟩
              case measure => simp [intOf]; omega
    · go_wp2
      go_ret
      exact ⟨ret_bool' (all_end HE.out (by rw [show v.cross.2.1 = k by omega]; exact hz.out)).symm, HB0.out.trans (hbr.out.mono (Nat.le_succ _))⟩

end Go.Proofs.Ytanbekbalfbkcaa

namespace Go.Proofs.Ytanbekbalfbkcaa
set_option linter.unusedVariables false
set_option linter.unusedSimpArgs false
set_option maxRecDepth 100000
open Go.RowKit

theorem goodB_0 {f : FlatM} (h : onceB f = false) : goodB f = false := by unfold goodB; rw [h]; rfl
theorem goodB_1 {f : FlatM} (h : eqsB f = false) : goodB f = false := by unfold goodB; rw [h]; simp
theorem goodB_2 {f : FlatM} (h : keptB f = false) : goodB f = false := by unfold goodB; rw [h]; simp
theorem goodB_3 {f : FlatM} (h : crsB f = false) : goodB f = false := by unfold goodB; rw [h]; simp
theorem goodB_4 {f : FlatM} (h0 : onceB f = true) (h1 : eqsB f = true) (h2 : keptB f = true) (h3 : crsB f = true) : goodB f = true := by unfold goodB; rw [h0, h1, h2, h3]; rfl
theorem eachOnce_b (v : FlatV) (f : FlatM) (B : Nat) (b : Bool) (w : World) (h : FlatIs w B v f) (hB : B ≤ w.heap.size) (hn : v.names.2.1 ≤ 1000000) (hb : onceB f = b) :
    Calls Try.prog 42 #[flatV v] w fun e w' => e = .returned (.bool b) ∧ Below w.heap.size w w' := by
  subst hb; exact eachOnce_t v f B w h hB hn
theorem allEqs_b (v : FlatV) (f : FlatM) (B : Nat) (b : Bool) (w : World) (h : FlatIs w B v f) (hB : B ≤ w.heap.size) (hb : eqsB f = b) :
    Calls Try.prog 43 #[flatV v] w fun e w' => e = .returned (.bool b) ∧ Below w.heap.size w w' := by
  subst hb; exact allEqs_t v f B w h hB
theorem allKept_b (v : FlatV) (f : FlatM) (B : Nat) (b : Bool) (w : World) (h : FlatIs w B v f) (hB : B ≤ w.heap.size) (hb : keptB f = b) :
    Calls Try.prog 44 #[flatV v] w fun e w' => e = .returned (.bool b) ∧ Below w.heap.size w w' := by
  subst hb; exact allKept_t v f B w h hB
theorem allCrossings_b (v : FlatV) (f : FlatM) (B : Nat) (b : Bool) (w : World) (h : FlatIs w B v f) (hB : B ≤ w.heap.size) (hb : crsB f = b) :
    Calls Try.prog 45 #[flatV v] w fun e w' => e = .returned (.bool b) ∧ Below w.heap.size w w' := by
  subst hb; exact allCrossings_t v f B w h hB

set_option maxHeartbeats 1000000 in
/-- 12.4, by the program -/
theorem good_t (v : FlatV) (f : FlatM) (B : Nat) (w : World) (h : FlatIs w B v f) (hB : B ≤ w.heap.size) (hn : v.names.2.1 ≤ 1000000) :
    Calls Try.prog 29 #[flatV v] w fun e w' => e = .returned (.bool (goodB f)) ∧ Below w.heap.size w w' := by
  have hn0 := Lib.hid hn; clear hn
  have HF := Lib.hid (show FlatIs (w.alloc (.cells (fvs v) 29)) B v f from h.below ((Below.refl B w).alloc hB _)); clear h
  have HK := Lib.hid (Blk.new w 29 (fvs v))
  have HB0 := Lib.hid (show Below w.heap.size w (w.alloc (.cells (fvs v) 29)) from (Below.refl _ _).alloc (Nat.le_refl _) _)
  have HBB := Lib.hid hB; clear hB
  have HS : Hid (St (w.alloc (.cells (fvs v) 29)) B w.heap.size w.heap.size 29 v f (fvs v) (fun _ => True) (w.alloc (.cells (fvs v) 29))) := Lib.hid ⟨HK.out, HK.out, HF.out, trivial, Below.refl _ _, HBB.out, fun _ _ _ _ => trivial⟩
  cases h0 : onceB f with
  | false =>
    have H0 := Lib.hid h0; clear h0
    unfold flatV sl3
    go_enter Try.func29, Try.ntmps29
    go_wp2_with (first | (go_at_call 42; refine (eachOnce_b v f B false _ HS.out.is HS.out.hB hn0.out H0.out).mono ?_; rintro e w1 ⟨rfl, hb⟩; replace HS := Lib.hid (HS.out.later hb); clear hb; obtain ⟨f0, f1, f2, f3, f4, f5, f6, f7⟩ := HS.out.fb.flat))
    go_ret
    exact ⟨ret_bool' (goodB_0 H0.out).symm, HB0.out.trans (HS.out.old.mono (Nat.le_succ _))⟩
  | true =>
    have H0 := Lib.hid h0; clear h0
    cases h1 : eqsB f with
    | false =>
      have H1 := Lib.hid h1; clear h1
      unfold flatV sl3
      go_enter Try.func29, Try.ntmps29
      go_wp2_with (first | (go_at_call 42; refine (eachOnce_b v f B true _ HS.out.is HS.out.hB hn0.out H0.out).mono ?_; rintro e w1 ⟨rfl, hb⟩; replace HS := Lib.hid (HS.out.later hb); clear hb; obtain ⟨f0, f1, f2, f3, f4, f5, f6, f7⟩ := HS.out.fb.flat) | (go_at_call 43; refine (allEqs_b v f B false _ HS.out.is HS.out.hB H1.out).mono ?_; rintro e w1 ⟨rfl, hb⟩; replace HS := Lib.hid (HS.out.later hb); clear hb; obtain ⟨f0, f1, f2, f3, f4, f5, f6, f7⟩ := HS.out.fb.flat))
      go_ret
      exact ⟨ret_bool' (goodB_1 H1.out).symm, HB0.out.trans (HS.out.old.mono (Nat.le_succ _))⟩
    | true =>
      have H1 := Lib.hid h1; clear h1
      cases h2 : keptB f with
      | false =>
        have H2 := Lib.hid h2; clear h2
        unfold flatV sl3
        go_enter Try.func29, Try.ntmps29
        go_wp2_with (first | (go_at_call 42; refine (eachOnce_b v f B true _ HS.out.is HS.out.hB hn0.out H0.out).mono ?_; rintro e w1 ⟨rfl, hb⟩; replace HS := Lib.hid (HS.out.later hb); clear hb; obtain ⟨f0, f1, f2, f3, f4, f5, f6, f7⟩ := HS.out.fb.flat) | (go_at_call 43; refine (allEqs_b v f B true _ HS.out.is HS.out.hB H1.out).mono ?_; rintro e w1 ⟨rfl, hb⟩; replace HS := Lib.hid (HS.out.later hb); clear hb; obtain ⟨f0, f1, f2, f3, f4, f5, f6, f7⟩ := HS.out.fb.flat) | (go_at_call 44; refine (allKept_b v f B false _ HS.out.is HS.out.hB H2.out).mono ?_; rintro e w1 ⟨rfl, hb⟩; replace HS := Lib.hid (HS.out.later hb); clear hb; obtain ⟨f0, f1, f2, f3, f4, f5, f6, f7⟩ := HS.out.fb.flat))
        go_ret
        exact ⟨ret_bool' (goodB_2 H2.out).symm, HB0.out.trans (HS.out.old.mono (Nat.le_succ _))⟩
      | true =>
        have H2 := Lib.hid h2; clear h2
        cases h3 : crsB f with
        | false =>
          have H3 := Lib.hid h3; clear h3
          unfold flatV sl3
          go_enter Try.func29, Try.ntmps29
          go_wp2_with (first | (go_at_call 42; refine (eachOnce_b v f B true _ HS.out.is HS.out.hB hn0.out H0.out).mono ?_; rintro e w1 ⟨rfl, hb⟩; replace HS := Lib.hid (HS.out.later hb); clear hb; obtain ⟨f0, f1, f2, f3, f4, f5, f6, f7⟩ := HS.out.fb.flat) | (go_at_call 43; refine (allEqs_b v f B true _ HS.out.is HS.out.hB H1.out).mono ?_; rintro e w1 ⟨rfl, hb⟩; replace HS := Lib.hid (HS.out.later hb); clear hb; obtain ⟨f0, f1, f2, f3, f4, f5, f6, f7⟩ := HS.out.fb.flat) | (go_at_call 44; refine (allKept_b v f B true _ HS.out.is HS.out.hB H2.out).mono ?_; rintro e w1 ⟨rfl, hb⟩; replace HS := Lib.hid (HS.out.later hb); clear hb; obtain ⟨f0, f1, f2, f3, f4, f5, f6, f7⟩ := HS.out.fb.flat) | (go_at_call 45; refine (allCrossings_b v f B false _ HS.out.is HS.out.hB H3.out).mono ?_; rintro e w1 ⟨rfl, hb⟩; replace HS := Lib.hid (HS.out.later hb); clear hb; obtain ⟨f0, f1, f2, f3, f4, f5, f6, f7⟩ := HS.out.fb.flat))
          go_ret
          exact ⟨ret_bool' (goodB_3 H3.out).symm, HB0.out.trans (HS.out.old.mono (Nat.le_succ _))⟩
        | true =>
          have H3 := Lib.hid h3; clear h3
          unfold flatV sl3
          go_enter Try.func29, Try.ntmps29
          go_wp2_with (first | (go_at_call 42; refine (eachOnce_b v f B true _ HS.out.is HS.out.hB hn0.out H0.out).mono ?_; rintro e w1 ⟨rfl, hb⟩; replace HS := Lib.hid (HS.out.later hb); clear hb; obtain ⟨f0, f1, f2, f3, f4, f5, f6, f7⟩ := HS.out.fb.flat) | (go_at_call 43; refine (allEqs_b v f B true _ HS.out.is HS.out.hB H1.out).mono ?_; rintro e w1 ⟨rfl, hb⟩; replace HS := Lib.hid (HS.out.later hb); clear hb; obtain ⟨f0, f1, f2, f3, f4, f5, f6, f7⟩ := HS.out.fb.flat) | (go_at_call 44; refine (allKept_b v f B true _ HS.out.is HS.out.hB H2.out).mono ?_; rintro e w1 ⟨rfl, hb⟩; replace HS := Lib.hid (HS.out.later hb); clear hb; obtain ⟨f0, f1, f2, f3, f4, f5, f6, f7⟩ := HS.out.fb.flat) | (go_at_call 45; refine (allCrossings_b v f B true _ HS.out.is HS.out.hB H3.out).mono ?_; rintro e w1 ⟨rfl, hb⟩; replace HS := Lib.hid (HS.out.later hb); clear hb; obtain ⟨f0, f1, f2, f3, f4, f5, f6, f7⟩ := HS.out.fb.flat))
          go_ret
          exact ⟨ret_bool' (goodB_4 H0.out H1.out H2.out H3.out).symm, HB0.out.trans (HS.out.old.mono (Nat.le_succ _))⟩
theorem good_b (v : FlatV) (f : FlatM) (B : Nat) (b : Bool) (w : World) (h : FlatIs w B v f) (hB : B ≤ w.heap.size) (hn : v.names.2.1 ≤ 1000000) (hb : goodB f = b) :
    Calls Try.prog 29 #[flatV v] w fun e w' => e = .returned (.bool b) ∧ Below w.heap.size w w' := by
  subst hb; exact good_t v f B w h hB hn

end Go.Proofs.Ytanbekbalfbkcaa

namespace Go.Proofs.Ytanbekbalfbkcaa
set_option linter.unusedVariables false
set_option linter.unusedSimpArgs false
set_option maxRecDepth 100000
open Go.RowKit

theorem rg_0 (f : FlatM) (n : Nat) (k : Int) : rgL f (bs [108, 105, 116]) n k = ((n : Int) == 0) := (show rgL f (bs [108, 105, 116]) n k = (enB (bs [108, 105, 116]) n && true && true) from rfl).trans (by rw [enB_0, Bool.and_true, Bool.and_true])

set_option maxHeartbeats 400000 in
theorem ri_0 (q : FEqM) (a m d : Option Addr × Nat × Nat) (v : FlatV) (f : FlatM) (B : Nat) (w : World) (hm : a.2.1 ≤ maxLen) (hF : FlatIs w B v f) (hB : B ≤ w.heap.size) (h : q.op = bs [108, 105, 116]) : Calls Try.prog 23 #[flatV v, feqV q a m d] w fun e w' => e = .returned (.bool (rgL f q.op a.2.1 q.k)) ∧ Below w.heap.size w w' := by
  obtain ⟨var, op, args, k, lit, guard⟩ := q
  obtain ⟨A, n, c⟩ := a
  unfold maxLen at hm
  simp only at hm h
  have HE := Lib.hid (rg_0 f n k)
  clear hF hB
  subst h
  unfold bs at HE ⊢
  unfold feqV flatV sl3
  go_enter Try.func23, Try.ntmps23
  go_wp2
  all_goals
    go_ret
    exact ⟨by rw [HE.out]; first | rfl | (congr 1; simp; done) | (congr 2; simp; omega), ((Below.refl _ _).alloc (Nat.le_refl _) _).alloc (by simp) _⟩
theorem rg_5 (f : FlatM) (n : Nat) (k : Int) : rgL f (bs [99, 111, 112, 121]) n k = ((n : Int) == 1) := (show rgL f (bs [99, 111, 112, 121]) n k = (enB (bs [99, 111, 112, 121]) n && true && true) from rfl).trans (by rw [enB_5, Bool.and_true, Bool.and_true])

set_option maxHeartbeats 400000 in
theorem ri_5 (q : FEqM) (a m d : Option Addr × Nat × Nat) (v : FlatV) (f : FlatM) (B : Nat) (w : World) (hm : a.2.1 ≤ maxLen) (hF : FlatIs w B v f) (hB : B ≤ w.heap.size) (h : q.op = bs [99, 111, 112, 121]) : Calls Try.prog 23 #[flatV v, feqV q a m d] w fun e w' => e = .returned (.bool (rgL f q.op a.2.1 q.k)) ∧ Below w.heap.size w w' := by
  obtain ⟨var, op, args, k, lit, guard⟩ := q
  obtain ⟨A, n, c⟩ := a
  unfold maxLen at hm
  simp only at hm h
  have HE := Lib.hid (rg_5 f n k)
  clear hF hB
  subst h
  unfold bs at HE ⊢
  unfold feqV flatV sl3
  go_enter Try.func23, Try.ntmps23
  go_wp2
  all_goals
    go_ret
    exact ⟨by rw [HE.out]; first | rfl | (congr 1; simp; done) | (congr 2; simp; omega), ((Below.refl _ _).alloc (Nat.le_refl _) _).alloc (by simp) _⟩
theorem rg_6 (f : FlatM) (n : Nat) (k : Int) : rgL f (bs [110, 101, 103]) n k = ((n : Int) == 1) := (show rgL f (bs [110, 101, 103]) n k = (enB (bs [110, 101, 103]) n && true && true) from rfl).trans (by rw [enB_6, Bool.and_true, Bool.and_true])

set_option maxHeartbeats 400000 in
theorem ri_6 (q : FEqM) (a m d : Option Addr × Nat × Nat) (v : FlatV) (f : FlatM) (B : Nat) (w : World) (hm : a.2.1 ≤ maxLen) (hF : FlatIs w B v f) (hB : B ≤ w.heap.size) (h : q.op = bs [110, 101, 103]) : Calls Try.prog 23 #[flatV v, feqV q a m d] w fun e w' => e = .returned (.bool (rgL f q.op a.2.1 q.k)) ∧ Below w.heap.size w w' := by
  obtain ⟨var, op, args, k, lit, guard⟩ := q
  obtain ⟨A, n, c⟩ := a
  unfold maxLen at hm
  simp only at hm h
  have HE := Lib.hid (rg_6 f n k)
  clear hF hB
  subst h
  unfold bs at HE ⊢
  unfold feqV flatV sl3
  go_enter Try.func23, Try.ntmps23
  go_wp2
  all_goals
    go_ret
    exact ⟨by rw [HE.out]; first | rfl | (congr 1; simp; done) | (congr 2; simp; omega), ((Below.refl _ _).alloc (Nat.le_refl _) _).alloc (by simp) _⟩
theorem rg_7 (f : FlatM) (n : Nat) (k : Int) : rgL f (bs [110, 111, 116]) n k = ((n : Int) == 1) := (show rgL f (bs [110, 111, 116]) n k = (enB (bs [110, 111, 116]) n && true && true) from rfl).trans (by rw [enB_7, Bool.and_true, Bool.and_true])

set_option maxHeartbeats 400000 in
theorem ri_7 (q : FEqM) (a m d : Option Addr × Nat × Nat) (v : FlatV) (f : FlatM) (B : Nat) (w : World) (hm : a.2.1 ≤ maxLen) (hF : FlatIs w B v f) (hB : B ≤ w.heap.size) (h : q.op = bs [110, 111, 116]) : Calls Try.prog 23 #[flatV v, feqV q a m d] w fun e w' => e = .returned (.bool (rgL f q.op a.2.1 q.k)) ∧ Below w.heap.size w w' := by
  obtain ⟨var, op, args, k, lit, guard⟩ := q
  obtain ⟨A, n, c⟩ := a
  unfold maxLen at hm
  simp only at hm h
  have HE := Lib.hid (rg_7 f n k)
  clear hF hB
  subst h
  unfold bs at HE ⊢
  unfold feqV flatV sl3
  go_enter Try.func23, Try.ntmps23
  go_wp2
  all_goals
    go_ret
    exact ⟨by rw [HE.out]; first | rfl | (congr 1; simp; done) | (congr 2; simp; omega), ((Below.refl _ _).alloc (Nat.le_refl _) _).alloc (by simp) _⟩
theorem rg_8 (f : FlatM) (n : Nat) (k : Int) : rgL f (bs [102, 108, 111, 111, 114]) n k = ((n : Int) == 1) := (show rgL f (bs [102, 108, 111, 111, 114]) n k = (enB (bs [102, 108, 111, 111, 114]) n && true && true) from rfl).trans (by rw [enB_8, Bool.and_true, Bool.and_true])

set_option maxHeartbeats 400000 in
theorem ri_8 (q : FEqM) (a m d : Option Addr × Nat × Nat) (v : FlatV) (f : FlatM) (B : Nat) (w : World) (hm : a.2.1 ≤ maxLen) (hF : FlatIs w B v f) (hB : B ≤ w.heap.size) (h : q.op = bs [102, 108, 111, 111, 114]) : Calls Try.prog 23 #[flatV v, feqV q a m d] w fun e w' => e = .returned (.bool (rgL f q.op a.2.1 q.k)) ∧ Below w.heap.size w w' := by
  obtain ⟨var, op, args, k, lit, guard⟩ := q
  obtain ⟨A, n, c⟩ := a
  unfold maxLen at hm
  simp only at hm h
  have HE := Lib.hid (rg_8 f n k)
  clear hF hB
  subst h
  unfold bs at HE ⊢
  unfold feqV flatV sl3
  go_enter Try.func23, Try.ntmps23
  go_wp2
  all_goals
    go_ret
    exact ⟨by rw [HE.out]; first | rfl | (congr 1; simp; done) | (congr 2; simp; omega), ((Below.refl _ _).alloc (Nat.le_refl _) _).alloc (by simp) _⟩
theorem rg_9 (f : FlatM) (n : Nat) (k : Int) : rgL f (bs [114, 97, 116]) n k = ((n : Int) == 1) := (show rgL f (bs [114, 97, 116]) n k = (enB (bs [114, 97, 116]) n && true && true) from rfl).trans (by rw [enB_9, Bool.and_true, Bool.and_true])

set_option maxHeartbeats 400000 in
theorem ri_9 (q : FEqM) (a m d : Option Addr × Nat × Nat) (v : FlatV) (f : FlatM) (B : Nat) (w : World) (hm : a.2.1 ≤ maxLen) (hF : FlatIs w B v f) (hB : B ≤ w.heap.size) (h : q.op = bs [114, 97, 116]) : Calls Try.prog 23 #[flatV v, feqV q a m d] w fun e w' => e = .returned (.bool (rgL f q.op a.2.1 q.k)) ∧ Below w.heap.size w w' := by
  obtain ⟨var, op, args, k, lit, guard⟩ := q
  obtain ⟨A, n, c⟩ := a
  unfold maxLen at hm
  simp only at hm h
  have HE := Lib.hid (rg_9 f n k)
  clear hF hB
  subst h
  unfold bs at HE ⊢
  unfold feqV flatV sl3
  go_enter Try.func23, Try.ntmps23
  go_wp2
  all_goals
    go_ret
    exact ⟨by rw [HE.out]; first | rfl | (congr 1; simp; done) | (congr 2; simp; omega), ((Below.refl _ _).alloc (Nat.le_refl _) _).alloc (by simp) _⟩
theorem rg_10 (f : FlatM) (n : Nat) (k : Int) : rgL f (bs [103, 97, 110, 100]) n k = decide ((1 : Int) ≤ (n : Int)) := (show rgL f (bs [103, 97, 110, 100]) n k = (enB (bs [103, 97, 110, 100]) n && true && true) from rfl).trans (by rw [enB_10, Bool.and_true, Bool.and_true])

set_option maxHeartbeats 400000 in
theorem ri_10 (q : FEqM) (a m d : Option Addr × Nat × Nat) (v : FlatV) (f : FlatM) (B : Nat) (w : World) (hm : a.2.1 ≤ maxLen) (hF : FlatIs w B v f) (hB : B ≤ w.heap.size) (h : q.op = bs [103, 97, 110, 100]) : Calls Try.prog 23 #[flatV v, feqV q a m d] w fun e w' => e = .returned (.bool (rgL f q.op a.2.1 q.k)) ∧ Below w.heap.size w w' := by
  obtain ⟨var, op, args, k, lit, guard⟩ := q
  obtain ⟨A, n, c⟩ := a
  unfold maxLen at hm
  simp only at hm h
  have HE := Lib.hid (rg_10 f n k)
  clear hF hB
  subst h
  unfold bs at HE ⊢
  unfold feqV flatV sl3
  go_enter Try.func23, Try.ntmps23
  go_wp2
  all_goals
    go_ret
    exact ⟨by rw [HE.out]; first | rfl | (congr 1; simp; done) | (congr 2; simp; omega), ((Below.refl _ _).alloc (Nat.le_refl _) _).alloc (by simp) _⟩
theorem rg_11 (f : FlatM) (n : Nat) (k : Int) : rgL f (bs [109, 114, 103]) n k = decide ((1 : Int) ≤ (n : Int)) := (show rgL f (bs [109, 114, 103]) n k = (enB (bs [109, 114, 103]) n && true && true) from rfl).trans (by rw [enB_11, Bool.and_true, Bool.and_true])

set_option maxHeartbeats 400000 in
theorem ri_11 (q : FEqM) (a m d : Option Addr × Nat × Nat) (v : FlatV) (f : FlatM) (B : Nat) (w : World) (hm : a.2.1 ≤ maxLen) (hF : FlatIs w B v f) (hB : B ≤ w.heap.size) (h : q.op = bs [109, 114, 103]) : Calls Try.prog 23 #[flatV v, feqV q a m d] w fun e w' => e = .returned (.bool (rgL f q.op a.2.1 q.k)) ∧ Below w.heap.size w w' := by
  obtain ⟨var, op, args, k, lit, guard⟩ := q
  obtain ⟨A, n, c⟩ := a
  unfold maxLen at hm
  simp only at hm h
  have HE := Lib.hid (rg_11 f n k)
  clear hF hB
  subst h
  unfold bs at HE ⊢
  unfold feqV flatV sl3
  go_enter Try.func23, Try.ntmps23
  go_wp2
  all_goals
    go_ret
    exact ⟨by rw [HE.out]; first | rfl | (congr 1; simp; done) | (congr 2; simp; omega), ((Below.refl _ _).alloc (Nat.le_refl _) _).alloc (by simp) _⟩
theorem rg_12 (f : FlatM) (n : Nat) (k : Int) : rgL f (bs [43]) n k = ((n : Int) == 2) := (show rgL f (bs [43]) n k = (enB (bs [43]) n && true && true) from rfl).trans (by rw [enB_12, Bool.and_true, Bool.and_true])

set_option maxHeartbeats 400000 in
theorem ri_12 (q : FEqM) (a m d : Option Addr × Nat × Nat) (v : FlatV) (f : FlatM) (B : Nat) (w : World) (hm : a.2.1 ≤ maxLen) (hF : FlatIs w B v f) (hB : B ≤ w.heap.size) (h : q.op = bs [43]) : Calls Try.prog 23 #[flatV v, feqV q a m d] w fun e w' => e = .returned (.bool (rgL f q.op a.2.1 q.k)) ∧ Below w.heap.size w w' := by
  obtain ⟨var, op, args, k, lit, guard⟩ := q
  obtain ⟨A, n, c⟩ := a
  unfold maxLen at hm
  simp only at hm h
  have HE := Lib.hid (rg_12 f n k)
  clear hF hB
  subst h
  unfold bs at HE ⊢
  unfold feqV flatV sl3
  go_enter Try.func23, Try.ntmps23
  go_wp2
  all_goals
    go_ret
    exact ⟨by rw [HE.out]; first | rfl | (congr 1; simp; done) | (congr 2; simp; omega), ((Below.refl _ _).alloc (Nat.le_refl _) _).alloc (by simp) _⟩
theorem rg_13 (f : FlatM) (n : Nat) (k : Int) : rgL f (bs [45]) n k = ((n : Int) == 2) := (show rgL f (bs [45]) n k = (enB (bs [45]) n && true && true) from rfl).trans (by rw [enB_13, Bool.and_true, Bool.and_true])

set_option maxHeartbeats 400000 in
theorem ri_13 (q : FEqM) (a m d : Option Addr × Nat × Nat) (v : FlatV) (f : FlatM) (B : Nat) (w : World) (hm : a.2.1 ≤ maxLen) (hF : FlatIs w B v f) (hB : B ≤ w.heap.size) (h : q.op = bs [45]) : Calls Try.prog 23 #[flatV v, feqV q a m d] w fun e w' => e = .returned (.bool (rgL f q.op a.2.1 q.k)) ∧ Below w.heap.size w w' := by
  obtain ⟨var, op, args, k, lit, guard⟩ := q
  obtain ⟨A, n, c⟩ := a
  unfold maxLen at hm
  simp only at hm h
  have HE := Lib.hid (rg_13 f n k)
  clear hF hB
  subst h
  unfold bs at HE ⊢
  unfold feqV flatV sl3
  go_enter Try.func23, Try.ntmps23
  go_wp2
  all_goals
    go_ret
    exact ⟨by rw [HE.out]; first | rfl | (congr 1; simp; done) | (congr 2; simp; omega), ((Below.refl _ _).alloc (Nat.le_refl _) _).alloc (by simp) _⟩
theorem rg_14 (f : FlatM) (n : Nat) (k : Int) : rgL f (bs [42]) n k = ((n : Int) == 2) := (show rgL f (bs [42]) n k = (enB (bs [42]) n && true && true) from rfl).trans (by rw [enB_14, Bool.and_true, Bool.and_true])

set_option maxHeartbeats 400000 in
theorem ri_14 (q : FEqM) (a m d : Option Addr × Nat × Nat) (v : FlatV) (f : FlatM) (B : Nat) (w : World) (hm : a.2.1 ≤ maxLen) (hF : FlatIs w B v f) (hB : B ≤ w.heap.size) (h : q.op = bs [42]) : Calls Try.prog 23 #[flatV v, feqV q a m d] w fun e w' => e = .returned (.bool (rgL f q.op a.2.1 q.k)) ∧ Below w.heap.size w w' := by
  obtain ⟨var, op, args, k, lit, guard⟩ := q
  obtain ⟨A, n, c⟩ := a
  unfold maxLen at hm
  simp only at hm h
  have HE := Lib.hid (rg_14 f n k)
  clear hF hB
  subst h
  unfold bs at HE ⊢
  unfold feqV flatV sl3
  go_enter Try.func23, Try.ntmps23
  go_wp2
  all_goals
    go_ret
    exact ⟨by rw [HE.out]; first | rfl | (congr 1; simp; done) | (congr 2; simp; omega), ((Below.refl _ _).alloc (Nat.le_refl _) _).alloc (by simp) _⟩
theorem rg_15 (f : FlatM) (n : Nat) (k : Int) : rgL f (bs [47]) n k = ((n : Int) == 2) := (show rgL f (bs [47]) n k = (enB (bs [47]) n && true && true) from rfl).trans (by rw [enB_15, Bool.and_true, Bool.and_true])

set_option maxHeartbeats 400000 in
theorem ri_15 (q : FEqM) (a m d : Option Addr × Nat × Nat) (v : FlatV) (f : FlatM) (B : Nat) (w : World) (hm : a.2.1 ≤ maxLen) (hF : FlatIs w B v f) (hB : B ≤ w.heap.size) (h : q.op = bs [47]) : Calls Try.prog 23 #[flatV v, feqV q a m d] w fun e w' => e = .returned (.bool (rgL f q.op a.2.1 q.k)) ∧ Below w.heap.size w w' := by
  obtain ⟨var, op, args, k, lit, guard⟩ := q
  obtain ⟨A, n, c⟩ := a
  unfold maxLen at hm
  simp only at hm h
  have HE := Lib.hid (rg_15 f n k)
  clear hF hB
  subst h
  unfold bs at HE ⊢
  unfold feqV flatV sl3
  go_enter Try.func23, Try.ntmps23
  go_wp2
  all_goals
    go_ret
    exact ⟨by rw [HE.out]; first | rfl | (congr 1; simp; done) | (congr 2; simp; omega), ((Below.refl _ _).alloc (Nat.le_refl _) _).alloc (by simp) _⟩
theorem rg_16 (f : FlatM) (n : Nat) (k : Int) : rgL f (bs [100, 105, 118]) n k = ((n : Int) == 2) := (show rgL f (bs [100, 105, 118]) n k = (enB (bs [100, 105, 118]) n && true && true) from rfl).trans (by rw [enB_16, Bool.and_true, Bool.and_true])

set_option maxHeartbeats 400000 in
theorem ri_16 (q : FEqM) (a m d : Option Addr × Nat × Nat) (v : FlatV) (f : FlatM) (B : Nat) (w : World) (hm : a.2.1 ≤ maxLen) (hF : FlatIs w B v f) (hB : B ≤ w.heap.size) (h : q.op = bs [100, 105, 118]) : Calls Try.prog 23 #[flatV v, feqV q a m d] w fun e w' => e = .returned (.bool (rgL f q.op a.2.1 q.k)) ∧ Below w.heap.size w w' := by
  obtain ⟨var, op, args, k, lit, guard⟩ := q
  obtain ⟨A, n, c⟩ := a
  unfold maxLen at hm
  simp only at hm h
  have HE := Lib.hid (rg_16 f n k)
  clear hF hB
  subst h
  unfold bs at HE ⊢
  unfold feqV flatV sl3
  go_enter Try.func23, Try.ntmps23
  go_wp2
  all_goals
    go_ret
    exact ⟨by rw [HE.out]; first | rfl | (congr 1; simp; done) | (congr 2; simp; omega), ((Below.refl _ _).alloc (Nat.le_refl _) _).alloc (by simp) _⟩
theorem rg_17 (f : FlatM) (n : Nat) (k : Int) : rgL f (bs [109, 111, 100]) n k = ((n : Int) == 2) := (show rgL f (bs [109, 111, 100]) n k = (enB (bs [109, 111, 100]) n && true && true) from rfl).trans (by rw [enB_17, Bool.and_true, Bool.and_true])

set_option maxHeartbeats 400000 in
theorem ri_17 (q : FEqM) (a m d : Option Addr × Nat × Nat) (v : FlatV) (f : FlatM) (B : Nat) (w : World) (hm : a.2.1 ≤ maxLen) (hF : FlatIs w B v f) (hB : B ≤ w.heap.size) (h : q.op = bs [109, 111, 100]) : Calls Try.prog 23 #[flatV v, feqV q a m d] w fun e w' => e = .returned (.bool (rgL f q.op a.2.1 q.k)) ∧ Below w.heap.size w w' := by
  obtain ⟨var, op, args, k, lit, guard⟩ := q
  obtain ⟨A, n, c⟩ := a
  unfold maxLen at hm
  simp only at hm h
  have HE := Lib.hid (rg_17 f n k)
  clear hF hB
  subst h
  unfold bs at HE ⊢
  unfold feqV flatV sl3
  go_enter Try.func23, Try.ntmps23
  go_wp2
  all_goals
    go_ret
    exact ⟨by rw [HE.out]; first | rfl | (congr 1; simp; done) | (congr 2; simp; omega), ((Below.refl _ _).alloc (Nat.le_refl _) _).alloc (by simp) _⟩
theorem rg_18 (f : FlatM) (n : Nat) (k : Int) : rgL f (bs [60]) n k = ((n : Int) == 2) := (show rgL f (bs [60]) n k = (enB (bs [60]) n && true && true) from rfl).trans (by rw [enB_18, Bool.and_true, Bool.and_true])

set_option maxHeartbeats 400000 in
theorem ri_18 (q : FEqM) (a m d : Option Addr × Nat × Nat) (v : FlatV) (f : FlatM) (B : Nat) (w : World) (hm : a.2.1 ≤ maxLen) (hF : FlatIs w B v f) (hB : B ≤ w.heap.size) (h : q.op = bs [60]) : Calls Try.prog 23 #[flatV v, feqV q a m d] w fun e w' => e = .returned (.bool (rgL f q.op a.2.1 q.k)) ∧ Below w.heap.size w w' := by
  obtain ⟨var, op, args, k, lit, guard⟩ := q
  obtain ⟨A, n, c⟩ := a
  unfold maxLen at hm
  simp only at hm h
  have HE := Lib.hid (rg_18 f n k)
  clear hF hB
  subst h
  unfold bs at HE ⊢
  unfold feqV flatV sl3
  go_enter Try.func23, Try.ntmps23
  go_wp2
  all_goals
    go_ret
    exact ⟨by rw [HE.out]; first | rfl | (congr 1; simp; done) | (congr 2; simp; omega), ((Below.refl _ _).alloc (Nat.le_refl _) _).alloc (by simp) _⟩
theorem rg_19 (f : FlatM) (n : Nat) (k : Int) : rgL f (bs [60, 61]) n k = ((n : Int) == 2) := (show rgL f (bs [60, 61]) n k = (enB (bs [60, 61]) n && true && true) from rfl).trans (by rw [enB_19, Bool.and_true, Bool.and_true])

set_option maxHeartbeats 400000 in
theorem ri_19 (q : FEqM) (a m d : Option Addr × Nat × Nat) (v : FlatV) (f : FlatM) (B : Nat) (w : World) (hm : a.2.1 ≤ maxLen) (hF : FlatIs w B v f) (hB : B ≤ w.heap.size) (h : q.op = bs [60, 61]) : Calls Try.prog 23 #[flatV v, feqV q a m d] w fun e w' => e = .returned (.bool (rgL f q.op a.2.1 q.k)) ∧ Below w.heap.size w w' := by
  obtain ⟨var, op, args, k, lit, guard⟩ := q
  obtain ⟨A, n, c⟩ := a
  unfold maxLen at hm
  simp only at hm h
  have HE := Lib.hid (rg_19 f n k)
  clear hF hB
  subst h
  unfold bs at HE ⊢
  unfold feqV flatV sl3
  go_enter Try.func23, Try.ntmps23
  go_wp2
  all_goals
    go_ret
    exact ⟨by rw [HE.out]; first | rfl | (congr 1; simp; done) | (congr 2; simp; omega), ((Below.refl _ _).alloc (Nat.le_refl _) _).alloc (by simp) _⟩
theorem rg_20 (f : FlatM) (n : Nat) (k : Int) : rgL f (bs [62]) n k = ((n : Int) == 2) := (show rgL f (bs [62]) n k = (enB (bs [62]) n && true && true) from rfl).trans (by rw [enB_20, Bool.and_true, Bool.and_true])

set_option maxHeartbeats 400000 in
theorem ri_20 (q : FEqM) (a m d : Option Addr × Nat × Nat) (v : FlatV) (f : FlatM) (B : Nat) (w : World) (hm : a.2.1 ≤ maxLen) (hF : FlatIs w B v f) (hB : B ≤ w.heap.size) (h : q.op = bs [62]) : Calls Try.prog 23 #[flatV v, feqV q a m d] w fun e w' => e = .returned (.bool (rgL f q.op a.2.1 q.k)) ∧ Below w.heap.size w w' := by
  obtain ⟨var, op, args, k, lit, guard⟩ := q
  obtain ⟨A, n, c⟩ := a
  unfold maxLen at hm
  simp only at hm h
  have HE := Lib.hid (rg_20 f n k)
  clear hF hB
  subst h
  unfold bs at HE ⊢
  unfold feqV flatV sl3
  go_enter Try.func23, Try.ntmps23
  go_wp2
  all_goals
    go_ret
    exact ⟨by rw [HE.out]; first | rfl | (congr 1; simp; done) | (congr 2; simp; omega), ((Below.refl _ _).alloc (Nat.le_refl _) _).alloc (by simp) _⟩
theorem rg_21 (f : FlatM) (n : Nat) (k : Int) : rgL f (bs [62, 61]) n k = ((n : Int) == 2) := (show rgL f (bs [62, 61]) n k = (enB (bs [62, 61]) n && true && true) from rfl).trans (by rw [enB_21, Bool.and_true, Bool.and_true])

set_option maxHeartbeats 400000 in
theorem ri_21 (q : FEqM) (a m d : Option Addr × Nat × Nat) (v : FlatV) (f : FlatM) (B : Nat) (w : World) (hm : a.2.1 ≤ maxLen) (hF : FlatIs w B v f) (hB : B ≤ w.heap.size) (h : q.op = bs [62, 61]) : Calls Try.prog 23 #[flatV v, feqV q a m d] w fun e w' => e = .returned (.bool (rgL f q.op a.2.1 q.k)) ∧ Below w.heap.size w w' := by
  obtain ⟨var, op, args, k, lit, guard⟩ := q
  obtain ⟨A, n, c⟩ := a
  unfold maxLen at hm
  simp only at hm h
  have HE := Lib.hid (rg_21 f n k)
  clear hF hB
  subst h
  unfold bs at HE ⊢
  unfold feqV flatV sl3
  go_enter Try.func23, Try.ntmps23
  go_wp2
  all_goals
    go_ret
    exact ⟨by rw [HE.out]; first | rfl | (congr 1; simp; done) | (congr 2; simp; omega), ((Below.refl _ _).alloc (Nat.le_refl _) _).alloc (by simp) _⟩
theorem rg_22 (f : FlatM) (n : Nat) (k : Int) : rgL f (bs [61, 61]) n k = ((n : Int) == 2) := (show rgL f (bs [61, 61]) n k = (enB (bs [61, 61]) n && true && true) from rfl).trans (by rw [enB_22, Bool.and_true, Bool.and_true])

set_option maxHeartbeats 400000 in
theorem ri_22 (q : FEqM) (a m d : Option Addr × Nat × Nat) (v : FlatV) (f : FlatM) (B : Nat) (w : World) (hm : a.2.1 ≤ maxLen) (hF : FlatIs w B v f) (hB : B ≤ w.heap.size) (h : q.op = bs [61, 61]) : Calls Try.prog 23 #[flatV v, feqV q a m d] w fun e w' => e = .returned (.bool (rgL f q.op a.2.1 q.k)) ∧ Below w.heap.size w w' := by
  obtain ⟨var, op, args, k, lit, guard⟩ := q
  obtain ⟨A, n, c⟩ := a
  unfold maxLen at hm
  simp only at hm h
  have HE := Lib.hid (rg_22 f n k)
  clear hF hB
  subst h
  unfold bs at HE ⊢
  unfold feqV flatV sl3
  go_enter Try.func23, Try.ntmps23
  go_wp2
  all_goals
    go_ret
    exact ⟨by rw [HE.out]; first | rfl | (congr 1; simp; done) | (congr 2; simp; omega), ((Below.refl _ _).alloc (Nat.le_refl _) _).alloc (by simp) _⟩
theorem rg_23 (f : FlatM) (n : Nat) (k : Int) : rgL f (bs [33, 61]) n k = ((n : Int) == 2) := (show rgL f (bs [33, 61]) n k = (enB (bs [33, 61]) n && true && true) from rfl).trans (by rw [enB_23, Bool.and_true, Bool.and_true])

set_option maxHeartbeats 400000 in
theorem ri_23 (q : FEqM) (a m d : Option Addr × Nat × Nat) (v : FlatV) (f : FlatM) (B : Nat) (w : World) (hm : a.2.1 ≤ maxLen) (hF : FlatIs w B v f) (hB : B ≤ w.heap.size) (h : q.op = bs [33, 61]) : Calls Try.prog 23 #[flatV v, feqV q a m d] w fun e w' => e = .returned (.bool (rgL f q.op a.2.1 q.k)) ∧ Below w.heap.size w w' := by
  obtain ⟨var, op, args, k, lit, guard⟩ := q
  obtain ⟨A, n, c⟩ := a
  unfold maxLen at hm
  simp only at hm h
  have HE := Lib.hid (rg_23 f n k)
  clear hF hB
  subst h
  unfold bs at HE ⊢
  unfold feqV flatV sl3
  go_enter Try.func23, Try.ntmps23
  go_wp2
  all_goals
    go_ret
    exact ⟨by rw [HE.out]; first | rfl | (congr 1; simp; done) | (congr 2; simp; omega), ((Below.refl _ _).alloc (Nat.le_refl _) _).alloc (by simp) _⟩
theorem rg_24 (f : FlatM) (n : Nat) (k : Int) : rgL f (bs [97, 110, 100]) n k = ((n : Int) == 2) := (show rgL f (bs [97, 110, 100]) n k = (enB (bs [97, 110, 100]) n && true && true) from rfl).trans (by rw [enB_24, Bool.and_true, Bool.and_true])

set_option maxHeartbeats 400000 in
theorem ri_24 (q : FEqM) (a m d : Option Addr × Nat × Nat) (v : FlatV) (f : FlatM) (B : Nat) (w : World) (hm : a.2.1 ≤ maxLen) (hF : FlatIs w B v f) (hB : B ≤ w.heap.size) (h : q.op = bs [97, 110, 100]) : Calls Try.prog 23 #[flatV v, feqV q a m d] w fun e w' => e = .returned (.bool (rgL f q.op a.2.1 q.k)) ∧ Below w.heap.size w w' := by
  obtain ⟨var, op, args, k, lit, guard⟩ := q
  obtain ⟨A, n, c⟩ := a
  unfold maxLen at hm
  simp only at hm h
  have HE := Lib.hid (rg_24 f n k)
  clear hF hB
  subst h
  unfold bs at HE ⊢
  unfold feqV flatV sl3
  go_enter Try.func23, Try.ntmps23
  go_wp2
  all_goals
    go_ret
    exact ⟨by rw [HE.out]; first | rfl | (congr 1; simp; done) | (congr 2; simp; omega), ((Below.refl _ _).alloc (Nat.le_refl _) _).alloc (by simp) _⟩
theorem rg_25 (f : FlatM) (n : Nat) (k : Int) : rgL f (bs [111, 114]) n k = ((n : Int) == 2) := (show rgL f (bs [111, 114]) n k = (enB (bs [111, 114]) n && true && true) from rfl).trans (by rw [enB_25, Bool.and_true, Bool.and_true])

set_option maxHeartbeats 400000 in
theorem ri_25 (q : FEqM) (a m d : Option Addr × Nat × Nat) (v : FlatV) (f : FlatM) (B : Nat) (w : World) (hm : a.2.1 ≤ maxLen) (hF : FlatIs w B v f) (hB : B ≤ w.heap.size) (h : q.op = bs [111, 114]) : Calls Try.prog 23 #[flatV v, feqV q a m d] w fun e w' => e = .returned (.bool (rgL f q.op a.2.1 q.k)) ∧ Below w.heap.size w w' := by
  obtain ⟨var, op, args, k, lit, guard⟩ := q
  obtain ⟨A, n, c⟩ := a
  unfold maxLen at hm
  simp only at hm h
  have HE := Lib.hid (rg_25 f n k)
  clear hF hB
  subst h
  unfold bs at HE ⊢
  unfold feqV flatV sl3
  go_enter Try.func23, Try.ntmps23
  go_wp2
  all_goals
    go_ret
    exact ⟨by rw [HE.out]; first | rfl | (congr 1; simp; done) | (congr 2; simp; omega), ((Below.refl _ _).alloc (Nat.le_refl _) _).alloc (by simp) _⟩
theorem rg_26 (f : FlatM) (n : Nat) (k : Int) : rgL f (bs [115, 101, 108]) n k = ((n : Int) == 3) := (show rgL f (bs [115, 101, 108]) n k = (enB (bs [115, 101, 108]) n && true && true) from rfl).trans (by rw [enB_26, Bool.and_true, Bool.and_true])

set_option maxHeartbeats 400000 in
theorem ri_26 (q : FEqM) (a m d : Option Addr × Nat × Nat) (v : FlatV) (f : FlatM) (B : Nat) (w : World) (hm : a.2.1 ≤ maxLen) (hF : FlatIs w B v f) (hB : B ≤ w.heap.size) (h : q.op = bs [115, 101, 108]) : Calls Try.prog 23 #[flatV v, feqV q a m d] w fun e w' => e = .returned (.bool (rgL f q.op a.2.1 q.k)) ∧ Below w.heap.size w w' := by
  obtain ⟨var, op, args, k, lit, guard⟩ := q
  obtain ⟨A, n, c⟩ := a
  unfold maxLen at hm
  simp only at hm h
  have HE := Lib.hid (rg_26 f n k)
  clear hF hB
  subst h
  unfold bs at HE ⊢
  unfold feqV flatV sl3
  go_enter Try.func23, Try.ntmps23
  go_wp2
  all_goals
    go_ret
    exact ⟨by rw [HE.out]; first | rfl | (congr 1; simp; done) | (congr 2; simp; omega), ((Below.refl _ _).alloc (Nat.le_refl _) _).alloc (by simp) _⟩
theorem rg_no (f : FlatM) (op : ByteArray) (n : Nat) (k : Int) (h0 : ¬ op = bs [108, 105, 116]) (h1 : ¬ op = bs [105, 110]) (h2 : ¬ op = bs [109, 101, 109]) (h3 : ¬ op = bs [99, 111, 110, 116]) (h4 : ¬ op = bs [102, 108, 97, 103]) (h5 : ¬ op = bs [99, 111, 112, 121]) (h6 : ¬ op = bs [110, 101, 103]) (h7 : ¬ op = bs [110, 111, 116]) (h8 : ¬ op = bs [102, 108, 111, 111, 114]) (h9 : ¬ op = bs [114, 97, 116]) (h10 : ¬ op = bs [103, 97, 110, 100]) (h11 : ¬ op = bs [109, 114, 103]) (h12 : ¬ op = bs [43]) (h13 : ¬ op = bs [45]) (h14 : ¬ op = bs [42]) (h15 : ¬ op = bs [47]) (h16 : ¬ op = bs [100, 105, 118]) (h17 : ¬ op = bs [109, 111, 100]) (h18 : ¬ op = bs [60]) (h19 : ¬ op = bs [60, 61]) (h20 : ¬ op = bs [62]) (h21 : ¬ op = bs [62, 61]) (h22 : ¬ op = bs [61, 61]) (h23 : ¬ op = bs [33, 61]) (h24 : ¬ op = bs [97, 110, 100]) (h25 : ¬ op = bs [111, 114]) (h26 : ¬ op = bs [115, 101, 108]) : rgL f op n k = false := by
  unfold rgL
  rw [enB_no op n h0 h1 h2 h3 h4 h5 h6 h7 h8 h9 h10 h11 h12 h13 h14 h15 h16 h17 h18 h19 h20 h21 h22 h23 h24 h25 h26]; rfl
set_option maxHeartbeats 400000 in
theorem ri_none (q : FEqM) (a m d : Option Addr × Nat × Nat) (v : FlatV) (f : FlatM) (B : Nat) (w : World) (hm : a.2.1 ≤ maxLen) (hF : FlatIs w B v f) (hB : B ≤ w.heap.size) (h0 : ¬ q.op = bs [108, 105, 116]) (h1 : ¬ q.op = bs [105, 110]) (h2 : ¬ q.op = bs [109, 101, 109]) (h3 : ¬ q.op = bs [99, 111, 110, 116]) (h4 : ¬ q.op = bs [102, 108, 97, 103]) (h5 : ¬ q.op = bs [99, 111, 112, 121]) (h6 : ¬ q.op = bs [110, 101, 103]) (h7 : ¬ q.op = bs [110, 111, 116]) (h8 : ¬ q.op = bs [102, 108, 111, 111, 114]) (h9 : ¬ q.op = bs [114, 97, 116]) (h10 : ¬ q.op = bs [103, 97, 110, 100]) (h11 : ¬ q.op = bs [109, 114, 103]) (h12 : ¬ q.op = bs [43]) (h13 : ¬ q.op = bs [45]) (h14 : ¬ q.op = bs [42]) (h15 : ¬ q.op = bs [47]) (h16 : ¬ q.op = bs [100, 105, 118]) (h17 : ¬ q.op = bs [109, 111, 100]) (h18 : ¬ q.op = bs [60]) (h19 : ¬ q.op = bs [60, 61]) (h20 : ¬ q.op = bs [62]) (h21 : ¬ q.op = bs [62, 61]) (h22 : ¬ q.op = bs [61, 61]) (h23 : ¬ q.op = bs [33, 61]) (h24 : ¬ q.op = bs [97, 110, 100]) (h25 : ¬ q.op = bs [111, 114]) (h26 : ¬ q.op = bs [115, 101, 108]) : Calls Try.prog 23 #[flatV v, feqV q a m d] w fun e w' => e = .returned (.bool (rgL f q.op a.2.1 q.k)) ∧ Below w.heap.size w w' := by
  obtain ⟨var, op, args, k, lit, guard⟩ := q
  obtain ⟨A, n, c⟩ := a
  unfold maxLen at hm
  simp only at hm h0 h1 h2 h3 h4 h5 h6 h7 h8 h9 h10 h11 h12 h13 h14 h15 h16 h17 h18 h19 h20 h21 h22 h23 h24 h25 h26
  have HE := Lib.hid (rg_no f op n k h0 h1 h2 h3 h4 h5 h6 h7 h8 h9 h10 h11 h12 h13 h14 h15 h16 h17 h18 h19 h20 h21 h22 h23 h24 h25 h26)
  clear hF hB
  have g0 := str_no h0; clear h0
  have g1 := str_no h1; clear h1
  have g2 := str_no h2; clear h2
  have g3 := str_no h3; clear h3
  have g4 := str_no h4; clear h4
  have g5 := str_no h5; clear h5
  have g6 := str_no h6; clear h6
  have g7 := str_no h7; clear h7
  have g8 := str_no h8; clear h8
  have g9 := str_no h9; clear h9
  have g10 := str_no h10; clear h10
  have g11 := str_no h11; clear h11
  have g12 := str_no h12; clear h12
  have g13 := str_no h13; clear h13
  have g14 := str_no h14; clear h14
  have g15 := str_no h15; clear h15
  have g16 := str_no h16; clear h16
  have g17 := str_no h17; clear h17
  have g18 := str_no h18; clear h18
  have g19 := str_no h19; clear h19
  have g20 := str_no h20; clear h20
  have g21 := str_no h21; clear h21
  have g22 := str_no h22; clear h22
  have g23 := str_no h23; clear h23
  have g24 := str_no h24; clear h24
  have g25 := str_no h25; clear h25
  have g26 := str_no h26; clear h26
  unfold feqV flatV sl3
  go_enter Try.func23, Try.ntmps23
  go_wp2
  go_ret
  exact ⟨by rw [HE.out]; rfl, ((Below.refl _ _).alloc (Nat.le_refl _) _).alloc (by simp) _⟩

end Go.Proofs.Ytanbekbalfbkcaa
