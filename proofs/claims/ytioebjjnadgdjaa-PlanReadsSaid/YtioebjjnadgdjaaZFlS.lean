/- What allCrossings tells. No condition. -/
import Derived.Test.YtioebjjnadgdjaaZFlR
namespace Go.Proofs.Ytioebjjnadgdjaa
set_option linter.unusedVariables false
set_option linter.unusedSimpArgs false
set_option maxRecDepth 100000
open Go.RowKit

theorem asksB_app (f : FlatM) : ∀ (i : Nat) (l m : List COpM), asksB f i (l ++ m) = (asksB f i l && asksB f (i + l.length) m) := by
  intro i l
  induction l generalizing i with
  | nil => intro m; rfl
  | cons o l ih =>
    intro m
    show (askB f i o && asksB f (i + 1) (l ++ m)) = ((askB f i o && asksB f (i + 1) l) && asksB f (i + (l.length + 1)) m)
    rw [ih (i + 1) m, Bool.and_assoc, show i + 1 + l.length = i + (l.length + 1) by omega]
theorem asksB_succ {f : FlatM} {l : List COpM} {k : Nat} {o : COpM} (h : l[k]? = some o) : asksB f 0 (l.take (k + 1)) = (asksB f 0 (l.take k) && askB f k o) := by
  have hk : k < l.length := (List.getElem?_eq_some_iff.1 h).1
  rw [List.take_add_one, h, asksB_app]
  show (_ && (askB f (0 + (l.take k).length) o && true)) = _
  rw [List.length_take, Nat.min_eq_left (Nat.le_of_lt hk), Nat.zero_add, Bool.and_true]
theorem asksB_no {f : FlatM} {l : List COpM} {k : Nat} {o : COpM} (h : l[k]? = some o) (hn : askB f k o = false) : asksB f 0 l = false := by
  have e := asksB_app f 0 (l.take (k + 1)) (l.drop (k + 1))
  rw [List.take_append_drop, asksB_succ h, hn] at e
  rw [e]; simp
theorem asksB_end {f : FlatM} {l : List COpM} {n : Nat} (hn : l.length = n) (h : asksB f 0 (l.take n) = true) : asksB f 0 l = true := by
  rwa [List.take_of_length_le (by omega)] at h
theorem crossB_empty {f : FlatM} {x : CrossM} (h : x.ops.length = 0) : crossB f x = false := by
  unfold crossB; rw [h]; simp
theorem crossB_guard {f : FlatM} {x : CrossM} (h : guB x.guard f.names.length = false) : crossB f x = false := by
  unfold crossB; rw [h]; simp
theorem crossB_ask {f : FlatM} {x : CrossM} (h : asksB f 0 x.ops = false) : crossB f x = false := by
  unfold crossB; rw [h]; simp
theorem crossB_yes {f : FlatM} {x : CrossM} (h0 : guB x.guard f.names.length = true) (h1 : 0 < x.ops.length) (h2 : asksB f 0 x.ops = true) : crossB f x = true := by
  unfold crossB; rw [h0, h2, decide_eq_true h1]; rfl

set_option maxHeartbeats 2000000 in
theorem allCrossings_t (v : FlatV) (f : FlatM) (B : Nat) (w : World) (h : FlatIs w B v f) (hB : B ≤ w.heap.size) :
    Calls Try.prog 48 #[flatV v] w fun e w' => e = .returned (.bool (crsB f)) ∧ Below w.heap.size w w' := by
  have hm := h.cross.len_le
  have HNN := Lib.hid h.names.1
  have HCC := Lib.hid h.conts.1
  have HE := Lib.hid h.cross.1
  have HF := Lib.hid (show FlatIs (w.alloc (.cells (fvs v) 29)) B v f from h.below ((Below.refl B w).alloc hB _)); clear h
  have HK := Lib.hid (Blk.new w 29 (fvs v))
  have HB0 := Lib.hid (show Below w.heap.size w (w.alloc (.cells (fvs v) 29)) from (Below.refl _ _).alloc (Nat.le_refl _) _)
  have HBB := Lib.hid hB; clear hB
  unfold maxLen at hm
  unfold flatV sl3
  go_enter Try.func48, Try.ntmps48
  go_wp2
  go_loopw [10] (fun t wr => ∃ k : Nat, k ≤ v.cross.2.1 ∧ t = .int .i64 k ∧ Hid ((f.cross.take k).all (crossB f) = true) ∧ Hid (Below (w.heap.size + 1) (w.alloc (.cells (fvs v) 29)) wr)) (fun t _ => v.cross.2.1 - (intOf t).toNat)
  case atStart => exact ⟨0, Nat.zero_le _, rfl, Lib.hid rfl, Lib.hid (Below.refl _ _)⟩
  case round =>
    obtain ⟨k, hk, rfl, hz, hbr⟩ := hrel
    by_cases hlt : k < v.cross.2.1
    · have hfb := HK.out.below hbr.out (Nat.lt_succ_self _)
      have hbB := hbr.out.mono (Nat.le_succ_of_le HBB.out)
      have his := HF.out.below hbB
      obtain ⟨x, hx⟩ := his.cross.ex hlt
      obtain ⟨b, off, ha, hlb, hat⟩ := his.cross.at_ hx
      obtain ⟨r, hrow, e0, e1⟩ := hat.cells
      obtain ⟨f0, f1, f2, f3, f4, f5, f6, f7⟩ := hfb.flat
      have hgl : w.heap.size < wr.heap.size := hfb.lt
      have hbl : b < wr.heap.size := Nat.lt_of_lt_of_le hlb (Nat.le_trans HBB.out (Nat.le_of_lt hfb.lt))
      have hrm := hrow.len_le
      have HRL := Lib.hid hrow.1
      have HS := Lib.hid (St.new (T := 78) (P := fun W => SRow 2 COpAt W B r.1 r.2.1 r.2.2 x.ops) (crossvs x r) hfb his hbr.out HBB.out (fun _ _ q h => h.keep fun _ _ _ q1 q2 => q2.keep q1 fun _ hp => q.cell hp) hrow)
      have HX := Lib.hid hx
      rw [ha]
      unfold maxLen at hrm
      clear hfb hat hx hbB his ha hrow
      cases h1 : guB x.guard v.names.2.1 with
      | false =>
        have H1 := Lib.hid h1; clear h1
        go_wp2_with (go_at_call 60; refine (isGuard_at x.guard v false _ H1.out).mono ?_; rintro e w1 ⟨rfl, hb⟩; replace HS := Lib.hid (HS.out.later hb); clear hb; obtain ⟨f0, f1, f2, f3, f4, f5, f6, f7⟩ := HS.out.fb.flat; obtain ⟨e0, e1⟩ := HS.out.qb.cross)
        go_ret
        exact ⟨ret_bool' (all_no HX.out (crossB_guard (by rw [HNN.out]; exact H1.out))).symm, HB0.out.trans (HS.out.old.mono (Nat.le_succ _))⟩
      | true =>
        have H1 := Lib.hid h1; clear h1
        by_cases hr0 : r.2.1 = 0
        · have hr1 : ((r.2.1 : Int) == 0) = true := by rw [hr0]; rfl
          have H0 := Lib.hid hr0; clear hr0
          go_wp2_with (go_at_call 60; refine (isGuard_at x.guard v true _ H1.out).mono ?_; rintro e w1 ⟨rfl, hb⟩; replace HS := Lib.hid (HS.out.later hb); clear hb; obtain ⟨f0, f1, f2, f3, f4, f5, f6, f7⟩ := HS.out.fb.flat; obtain ⟨e0, e1⟩ := HS.out.qb.cross)
          go_ret
          exact ⟨ret_bool' (all_no HX.out (crossB_empty (by rw [HRL.out]; exact H0.out))).symm, HB0.out.trans (HS.out.old.mono (Nat.le_succ _))⟩
        · have hr1 : ((r.2.1 : Int) == 0) = false := by rw [beq_eq_false_iff_ne]; omega
          have hrp : 0 < r.2.1 := by omega
          clear hr0
          go_wp2_with (go_at_call 60; refine (isGuard_at x.guard v true _ H1.out).mono ?_; rintro e w1 ⟨rfl, hb⟩; replace HS := Lib.hid (HS.out.later hb); clear hb; obtain ⟨f0, f1, f2, f3, f4, f5, f6, f7⟩ := HS.out.fb.flat; obtain ⟨e0, e1⟩ := HS.out.qb.cross)
          obtain ⟨wo, rfl⟩ : ∃ wo : World, wo = w1 := ⟨_, rfl⟩
          have HRO := Lib.hid HS.out.row
          have HSO := HS; clear HS
          clear f0 f1 f2 f3 f4 f5 f6 f7 e0 e1
          go_loopw [28] (fun t wq => ∃ j : Nat, j ≤ r.2.1 ∧ t = .int .i64 j ∧ Hid (asksB f 0 (x.ops.take j) = true) ∧ Hid (Below wo.heap.size wo wq)) (fun t _ => r.2.1 - (intOf t).toNat)
          case atStart => exact ⟨0, Nat.zero_le _, rfl, Lib.hid rfl, Lib.hid (Below.refl _ _)⟩
          case round =>
            obtain ⟨j, hj, rfl, hy, hbq⟩ := hrel
            have HSQ := Lib.hid (HSO.out.later hbq.out)
            have hfb := HSQ.out.fb
            by_cases hjl : j < r.2.1
            · obtain ⟨y, hy1⟩ := HSQ.out.row.ex hjl
              obtain ⟨b2, off2, ha2, hlb2, hat2⟩ := HSQ.out.row.at_ hy1
              obtain ⟨s, hrow2, e0, e1⟩ := hat2.cells
              obtain ⟨f0, f1, f2, f3, f4, f5, f6, f7⟩ := hfb.flat
              have hgl2 : w.heap.size < wr.heap.size := hfb.lt
              have hbl2 : b2 < wr.heap.size := Nat.lt_of_lt_of_le hlb2 (Nat.le_trans HBB.out (Nat.le_of_lt hfb.lt))
              have HS := Lib.hid (St.new (T := 80) (P := fun W => IRow W B s.1 s.2.1 s.2.2 y.args) (copvs y s) hfb HSQ.out.is HSQ.out.old HBB.out (fun _ _ q h => h.below q) hrow2)
              have HY := Lib.hid hy1
              have HAK : Hid (askB f j y = askL y.op y.args j v.names.2.1 v.conts.2.1) := Lib.hid (by unfold askB; rw [HNN.out, HCC.out])
              have HBW := Lib.hid (show Below wo.heap.size wo (wr.alloc (.cells (copvs y s) 80)) from hbq.out.alloc hbq.out.size _)
              rw [ha2]
              clear hfb hat2 hy1 ha2 hrow2
              cases h2 : askL y.op y.args j v.names.2.1 v.conts.2.1 with
              | false =>
                have H2 := Lib.hid h2; clear h2
                go_wp2_with (go_at_call 66; refine (isAsked_b y s j v B false _ HS.out.row HS.out.hB H2.out).mono ?_; rintro e w2 ⟨rfl, hb⟩; replace HBW := Lib.hid (HBW.out.trans (hb.mono HBW.out.size)); replace HS := Lib.hid (HS.out.later hb); clear hb; obtain ⟨f0, f1, f2, f3, f4, f5, f6, f7⟩ := HS.out.fb.flat; obtain ⟨e0, e1⟩ := HS.out.qb.cop)
                go_ret
                exact ⟨ret_bool' (all_no HX.out (crossB_ask (asksB_no HY.out (by rw [HAK.out]; exact H2.out)))).symm, HB0.out.trans (HS.out.old.mono (Nat.le_succ _))⟩
              | true =>
                have H2 := Lib.hid h2; clear h2
                go_wp2_with (go_at_call 66; refine (isAsked_b y s j v B true _ HS.out.row HS.out.hB H2.out).mono ?_; rintro e w2 ⟨rfl, hb⟩; replace HBW := Lib.hid (HBW.out.trans (hb.mono HBW.out.size)); replace HS := Lib.hid (HS.out.later hb); clear hb; obtain ⟨f0, f1, f2, f3, f4, f5, f6, f7⟩ := HS.out.fb.flat; obtain ⟨e0, e1⟩ := HS.out.qb.cop)
                go_roundw
                case rel => exact ⟨j + 1, by omega, by go_num, Lib.hid (by rw [asksB_succ HY.out, HAK.out, H2.out, hy.out]; rfl), HBW⟩
                case measure => simp [intOf]; omega
            · clear hfb
              go_wp2
              go_roundw
              case rel => exact ⟨k + 1, by omega, by go_num, Lib.hid (by rw [all_succ HX.out, hz.out, crossB_yes (by rw [HNN.out]; exact H1.out) (by rw [HRL.out]; exact hrp) (asksB_end HRL.out (by rw [show r.2.1 = j by omega]; exact hy.out))]; rfl), Lib.hid HSQ.out.old⟩
              case measure => simp [intOf]; omega
    · go_wp2
      go_ret
      exact ⟨ret_bool' (all_end HE.out (by rw [show v.cross.2.1 = k by omega]; exact hz.out)).symm, HB0.out.trans (hbr.out.mono (Nat.le_succ _))⟩

end Go.Proofs.Ytioebjjnadgdjaa
