/- What needsOf of package cause tells. No condition but bounds. -/
import Derived.Test.YtanbekbalfbkcaaZCnAToCnB
import Derived.Test.YtanbekbalfbkcaaZNdAToNdC
import Derived.Test.YtanbekbalfbkcaaZPlBToPlD
import Derived.Deep.DeepCutAuto
namespace Go.Proofs.Ytanbekbalfbkcaa
set_option linter.unusedVariables false
set_option linter.unusedSimpArgs false
set_option maxRecDepth 100000
open Go.RowKit

/-- what needsOf tells: what an equation needs, each once -/
def NeedsOfPost (f : FlatM) (q : FEqM) (w : World) (e : Ending) (w' : World) : Prop := ∃ v' l, e = .returned v' ∧ Own w' w.heap.size v' l ∧ (∀ x, x ∈ l ↔ x ∈ needsL f q ∧ 0 ≤ x) ∧ l.length ≤ 2001 ∧ Below w.heap.size w w'
theorem own_some {w : World} {B : Nat} {v : Value} {xs : List Int} (h : Own w B v xs) (hx : 0 < xs.length) : ∃ g n c, v = .slice (some ⟨g, 0, none⟩) n c ∧ B ≤ g := by
  obtain ⟨g, c, e, hB, _⟩ := h.cellAt hx
  exact ⟨g, _, c, e, hB⟩
/-- two rows of numbers as one slice of slices -/
theorem grow2 (w : World) (B : Nat) (A : Option Addr) (n c : Nat) (xs : List Int) (G : Int) (T T2 : TypeId) (h : IRow w B A n c xs) (hB : B ≤ w.heap.size) :
    GRow ((w.alloc (.cells #[.int .i64 G] T)).alloc (.cells #[.slice A n c, .slice (some ⟨w.heap.size, 0, none⟩) 1 1] T2)) (w.heap.size + 2) (some ⟨w.heap.size + 1, 0, none⟩) 2 2 [xs, [G]] := by
  have hb1 : Below w.heap.size w (w.alloc (.cells #[.int .i64 G] T)) := (Below.refl _ _).alloc (Nat.le_refl _) _
  have hb2 : Below (w.heap.size + 1) (w.alloc (.cells #[.int .i64 G] T)) ((w.alloc (.cells #[.int .i64 G] T)).alloc (.cells #[.slice A n c, .slice (some ⟨w.heap.size, 0, none⟩) 1 1] T2)) := (Below.refl _ _).alloc (by simp) _
  have hn := heap_alloc_new (w.alloc (.cells #[.int .i64 G] T)) (.cells #[.slice A n c, .slice (some ⟨w.heap.size, 0, none⟩) 1 1] T2)
  rw [size_alloc] at hn
  refine ⟨rfl, Nat.le_refl _, by unfold maxLen; omega, w.heap.size + 1, 0, .inl rfl, fun i hi => ⟨by omega, ?_⟩⟩
  rw [Nat.zero_add, cell_of_row _ (w.heap.size + 1) i _ T2 (0, 0) hn]
  match i, hi with
  | 0, _ => exact ⟨A, n, c, rfl, ((h.below (hb1.mono hB)).below (hb2.mono (by omega))).more (by omega)⟩
  | 1, _ => exact ⟨_, 1, 1, rfl, ((irow1 w G T).below hb2).more (by omega)⟩
set_option maxHeartbeats 4000000 in
theorem nof_2 (q : FEqM) (a m d : Option Addr × Nat × Nat) (v : FlatV) (f : FlatM) (B : Nat) (w : World) (hF : FlatIs w B v f) (hrow : IRow w B a.1 a.2.1 a.2.2 q.args) (hB : B ≤ w.heap.size) (ha : a.2.1 ≤ 1000) (h0 : ¬ q.op = bs [109, 101, 109]) (h1 : ¬ q.op = bs [99, 111, 110, 116]) :
    Calls Try.prog 46 #[feqV q a m d, flatV v] w (NeedsOfPost f q w) := by
  obtain ⟨var, op, args, k, lit, guard⟩ := q
  obtain ⟨A, n, c⟩ := a
  simp only at hrow ha h0 h1
  have HEQ : Hid (∀ x, (x ∈ args ++ [guard] ∧ 0 ≤ x) ↔ (x ∈ needsL f ⟨var, op, args, k, lit, guard⟩ ∧ 0 ≤ x)) := Lib.hid (by
    intro x
    unfold needsL opMem opCont
    rw [if_neg h0, if_neg h1]
    by_cases hg : 0 ≤ guard
    · simp [hg]
    · simp only [if_neg hg]; simp; intro h0 h1; omega)
  obtain ⟨W1, hW⟩ : ∃ W1, W1 = (w.alloc (.cells (qvs ⟨var, op, args, k, lit, guard⟩ (A, n, c) m d) 77)).alloc (.cells (fvs v) 29) := ⟨_, rfl⟩
  have hW1 : Below w.heap.size w W1 := by rw [hW]; exact ((Below.refl _ _).alloc (Nat.le_refl _) _).alloc (by simp) _
  have hsz : W1.heap.size = w.heap.size + 2 := by rw [hW]; simp
  have HKQ := Lib.hid (show Blk W1 w.heap.size 77 (qvs ⟨var, op, args, k, lit, guard⟩ (A, n, c) m d) from by rw [hW]; exact (Blk.new _ _ _).alloc _)
  have HK := Lib.hid (show Blk W1 (w.heap.size + 1) 29 (fvs v) from by rw [hW]; have := Blk.new (w.alloc (.cells (qvs ⟨var, op, args, k, lit, guard⟩ (A, n, c) m d) 77)) 29 (fvs v); rw [size_alloc] at this; exact this)
  have HF := Lib.hid (hF.below (hW1.mono hB))
  have HR := Lib.hid (hrow.below (hW1.mono hB))
  have HW1 := Lib.hid hW1
  have HBB := Lib.hid hB
  have HSZ := Lib.hid hsz
  have HLA := Lib.hid (hrow.1 : args.length = n)
  have hg2 := grow2 W1 B A n c args guard 3 23 HR.out (by rw [hsz]; omega)
  rw [hsz] at hg2
  have HCC := Lib.hid (concat_t (some ⟨w.heap.size + 3, 0, none⟩) 2 2 (w.heap.size + 4) [args, [guard]] _ hg2 (by simp [hsz]) (by unfold Gr.tot; simp) (by unfold Gr.tot; simp; rw [HLA.out]; omega))
  have hb3 : Below (w.heap.size + 2) W1 ((W1.alloc (.cells #[.int .i64 guard] 3)).alloc (.cells #[.slice A n c, .slice (some ⟨w.heap.size + 2, 0, none⟩) 1 1] 23)) := ((Below.refl _ _).alloc (by omega) _).alloc (by simp; omega) _
  have HB3 := Lib.hid hb3
  have HS3 : Hid (((W1.alloc (.cells #[.int .i64 guard] 3)).alloc (.cells #[.slice A n c, .slice (some ⟨w.heap.size + 2, 0, none⟩) 1 1] 23)).heap.size = w.heap.size + 4) := Lib.hid (by simp [hsz])
  unfold fvs qvs at hW
  dsimp only at hW
  clear hF hrow hB hW1 hg2 hb3
  have HNE := Lib.hid HEQ.out
  clear HEQ
  have g0 := str_no h0; have g1 := str_no h1; clear h0 h1
  unfold feqV flatV sl3
  go_enter Try.func46, Try.ntmps46
  have HB := Lib.hid (Below.refl (w.heap.size + 2) W1)
  obtain ⟨f0, f1, f2, f3, f4, f5, f6, f7⟩ := (HK.out.below HB.out (Nat.lt_succ_self _)).flat
  obtain ⟨e0, e1, e2, e3, e4, e5, e6, e7, e8, e9⟩ := (HKQ.out.below HB.out (by omega)).eq
  go_upto_region 1 with fail
  rw [← hW]
  clear hW
  have hs0 : w.heap.size < W1.heap.size := by have := HSZ.out; omega
  go_wp2_with (first | (go_at_call 58; (with_reducible refine HCC.out.mono ?_); rintro e w4 ⟨v4, rfl, hown, hb4⟩; rw [HS3.out] at hown hb4; have hnil : ([args, [guard]].flatten).length = n + 1 := (by simp [HLA.out]); obtain ⟨g4, n4, c4, e4, hg4⟩ := own_some hown (by omega); subst e4; have HO := Lib.hid (show Own w4 (w.heap.size + 4) (.slice (some ⟨g4, 0, none⟩) n4 c4) (args ++ [guard]) from (by simpa using hown)); replace HB := Lib.hid (HB3.out.trans (hb4.mono (by omega))); have HZ := Lib.hid hb4.size; rw [HS3.out] at HZ; clear hown hb4 f0 f1 f2 f3 f4 f5 f6 f7 e0 e1 e2 e3 e4 e5 e6 e7 e8 e9 ; obtain ⟨f0, f1, f2, f3, f4, f5, f6, f7⟩ := (HK.out.below HB.out (Nat.lt_succ_self _)).flat; obtain ⟨e0, e1, e2, e3, e4, e5, e6, e7, e8, e9⟩ := (HKQ.out.below HB.out (by omega)).eq) | (go_at_call 59; (with_reducible refine (del_t (w.heap.size + 4) g4 n4 c4 (args ++ [guard]) _ HO.out (by simp [HLA.out]; omega)).mono ?_); rintro e w6 ⟨n6, c6, rfl, ho6, hl6⟩; have HO6 := Lib.hid ho6; replace HB := Lib.hid (HB.out.trans (hl6.below (Nat.le_trans (by omega) HZ.out) (by intro j hj; simp at hj; omega))); have HZ6 := Lib.hid (Nat.le_trans HZ.out hl6.size); clear ho6 hl6) | (go_at_call 61; (with_reducible refine (sort_t (w.heap.size + 4) g4 n6 c6 _ _ HO6.out (Nat.le_trans (List.length_filter_le _ _) (by simp [HLA.out]; omega))).mono ?_); rintro e w7 ⟨rfl, ho7, hl7⟩; have HO7 := Lib.hid ho7; replace HB := Lib.hid (HB.out.trans (hl7.below (Nat.le_trans (by omega) HZ6.out) (by intro j hj; simp at hj; omega))); have HZ7 := Lib.hid (Nat.le_trans HZ6.out hl7.size); clear ho7 hl7) | (go_at_call 62; (with_reducible refine (compact_t (w.heap.size + 4) g4 n6 c6 _ _ HO7.out (by rw [List.length_mergeSort]; exact Nat.le_trans (List.length_filter_le _ _) (by simp [HLA.out]; omega)) (compact_len _)).mono ?_); rintro e w8 ⟨n8, c8, rfl, ho8, hl8⟩; have HO8 := Lib.hid ho8; replace HB := Lib.hid (HB.out.trans (hl8.below (Nat.le_trans (by omega) HZ7.out) (by intro j hj; simp at hj; omega))); clear ho8 hl8))
  go_ret
  exact ⟨_, tidyL (args ++ [guard]), rfl, HO8.out.more (by omega), fun y => by rw [mem_tidy]; exact HNE.out y, Nat.le_trans (tidy_len _) (by simp [HLA.out]; omega), HW1.out.trans (HB.out.mono (by omega))⟩

set_option maxHeartbeats 4000000 in
theorem nof_0 (q : FEqM) (a m d : Option Addr × Nat × Nat) (v : FlatV) (f : FlatM) (B : Nat) (w : World) (hF : FlatIs w B v f) (hrow : IRow w B a.1 a.2.1 a.2.2 q.args) (hB : B ≤ w.heap.size) (ha : a.2.1 ≤ 1000) (hop : q.op = bs [109, 101, 109]) (hk : plB q.k v.mems.2.1 = true) (hres : ∀ (i : Nat) (x : MemM), f.mems[i]? = some x → x.resets.length ≤ 1000) :
    Calls Try.prog 46 #[feqV q a m d, flatV v] w (NeedsOfPost f q w) := by
  obtain ⟨var, op, args, k, lit, guard⟩ := q
  obtain ⟨A, n, c⟩ := a
  simp only at hrow ha hop hk
  have HEQ : Hid (∀ (y : MemM) (hy : f.mems[k.toNat]? = some y), ∀ x, (x ∈ args ++ [guard] ++ y.resets ∧ 0 ≤ x) ↔ (x ∈ needsL f ⟨var, op, args, k, lit, guard⟩ ∧ 0 ≤ x)) := Lib.hid (by
    intro y hy x
    subst hop
    unfold needsL opMem opCont
    rw [if_pos rfl, if_neg (show ¬ bs [109, 101, 109] = bs [99, 111, 110, 116] by decide)]
    rw [hy]
    by_cases hg : 0 ≤ guard
    · simp [hg]
    · simp only [if_neg hg]; simp; intro h0; constructor
      · rintro (h | h | h)
        · exact .inl h
        · omega
        · exact .inr h
      · rintro (h | h)
        · exact .inl h
        · exact .inr (.inr h))
  obtain ⟨W1, hW⟩ : ∃ W1, W1 = (w.alloc (.cells (qvs ⟨var, op, args, k, lit, guard⟩ (A, n, c) m d) 77)).alloc (.cells (fvs v) 29) := ⟨_, rfl⟩
  have hW1 : Below w.heap.size w W1 := by rw [hW]; exact ((Below.refl _ _).alloc (Nat.le_refl _) _).alloc (by simp) _
  have hsz : W1.heap.size = w.heap.size + 2 := by rw [hW]; simp
  have HKQ := Lib.hid (show Blk W1 w.heap.size 77 (qvs ⟨var, op, args, k, lit, guard⟩ (A, n, c) m d) from by rw [hW]; exact (Blk.new _ _ _).alloc _)
  have HK := Lib.hid (show Blk W1 (w.heap.size + 1) 29 (fvs v) from by rw [hW]; have := Blk.new (w.alloc (.cells (qvs ⟨var, op, args, k, lit, guard⟩ (A, n, c) m d) 77)) 29 (fvs v); rw [size_alloc] at this; exact this)
  have HF := Lib.hid (hF.below (hW1.mono hB))
  have HR := Lib.hid (hrow.below (hW1.mono hB))
  have HW1 := Lib.hid hW1
  have HBB := Lib.hid hB
  have HSZ := Lib.hid hsz
  have HLA := Lib.hid (hrow.1 : args.length = n)
  have hg2 := grow2 W1 B A n c args guard 3 23 HR.out (by rw [hsz]; omega)
  rw [hsz] at hg2
  have HCC := Lib.hid (concat_t (some ⟨w.heap.size + 3, 0, none⟩) 2 2 (w.heap.size + 4) [args, [guard]] _ hg2 (by simp [hsz]) (by unfold Gr.tot; simp) (by unfold Gr.tot; simp; rw [HLA.out]; omega))
  have hb3 : Below (w.heap.size + 2) W1 ((W1.alloc (.cells #[.int .i64 guard] 3)).alloc (.cells #[.slice A n c, .slice (some ⟨w.heap.size + 2, 0, none⟩) 1 1] 23)) := ((Below.refl _ _).alloc (by omega) _).alloc (by simp; omega) _
  have HB3 := Lib.hid hb3
  have HS3 : Hid (((W1.alloc (.cells #[.int .i64 guard] 3)).alloc (.cells #[.slice A n c, .slice (some ⟨w.heap.size + 2, 0, none⟩) 1 1] 23)).heap.size = w.heap.size + 4) := Lib.hid (by simp [hsz])
  unfold fvs qvs at hW
  dsimp only at hW
  clear hF hrow hB hW1 hg2 hb3
  obtain ⟨p0, p1⟩ := plB_yes hk
  obtain ⟨j, rfl⟩ : ∃ j : Nat, k = (j : Int) := ⟨k.toNat, by omega⟩
  have hj : j < v.mems.2.1 := by omega
  obtain ⟨x, hx⟩ := HF.out.mems.ex hj
  obtain ⟨b, off, hab, hlb, hat⟩ := HF.out.mems.at_ hx
  obtain ⟨A3, L3, C3, p3, q3⟩ := hat.resets
  have hlen3 : L3 ≤ 1000 := by rw [← q3.1]; exact hres _ x hx
  have hbw : b < w.heap.size + 2 := Nat.lt_of_lt_of_le hlb (Nat.le_trans HBB.out (by omega))
  have HP3 := Lib.hid p3
  have HQ3 := Lib.hid q3
  have HL3 : Hid (x.resets.length = L3) := Lib.hid q3.1
  have HNE := Lib.hid (HEQ.out x (by simpa using hx))
  have HAB := Lib.hid hab
  clear hx hab hat p3 q3 hres hk HEQ
  subst hop
  unfold bs at hW HNE HKQ ⊢
  unfold feqV flatV sl3
  go_enter Try.func46, Try.ntmps46
  have HB := Lib.hid (Below.refl (w.heap.size + 2) W1)
  obtain ⟨f0, f1, f2, f3, f4, f5, f6, f7⟩ := (HK.out.below HB.out (Nat.lt_succ_self _)).flat
  obtain ⟨e0, e1, e2, e3, e4, e5, e6, e7, e8, e9⟩ := (HKQ.out.below HB.out (by omega)).eq
  have p3 := (HB.out.cell (p := ⟨b, off + j * 8 + 7, none⟩) hbw).trans HP3.out
  rw [HAB.out] at f4
  go_upto_region 1 with fail
  rw [← hW]
  clear hW
  have hs0 : w.heap.size < W1.heap.size := by have := HSZ.out; omega
  go_wp2_with (first | (go_at_call 58; (with_reducible refine HCC.out.mono ?_); rintro e w4 ⟨v4, rfl, hown, hb4⟩; rw [HS3.out] at hown hb4; have hnil : ([args, [guard]].flatten).length = n + 1 := (by simp [HLA.out]); obtain ⟨g4, n4, c4, e4, hg4⟩ := own_some hown (by omega); subst e4; have HO := Lib.hid (show Own w4 (w.heap.size + 4) (.slice (some ⟨g4, 0, none⟩) n4 c4) (args ++ [guard]) from (by simpa using hown)); replace HB := Lib.hid (HB3.out.trans (hb4.mono (by omega))); have HZ := Lib.hid hb4.size; rw [HS3.out] at HZ; clear hown hb4 f0 f1 f2 f3 f4 f5 f6 f7 e0 e1 e2 e3 e4 e5 e6 e7 e8 e9 p3; obtain ⟨f0, f1, f2, f3, f4, f5, f6, f7⟩ := (HK.out.below HB.out (Nat.lt_succ_self _)).flat; obtain ⟨e0, e1, e2, e3, e4, e5, e6, e7, e8, e9⟩ := (HKQ.out.below HB.out (by omega)).eq; have p3 := (HB.out.cell (p := ⟨b, off + j * 8 + 7, none⟩) hbw).trans HP3.out; rw [HAB.out] at f4) | (at_builtin; refine appendR rfl _ _ 23 Try.underlying23 rfl (w.heap.size + 4) B (.slice (some ⟨g4, 0, none⟩) n4 c4) (args ++ [guard]) A3 L3 C3 x.resets rfl rfl HO.out (HQ3.out.below (HB.out.mono (Nat.le_trans HBB.out (by omega)))) HZ.out (by simp [HLA.out]; omega) (by omega) ?_; intro v5 w5 hown5 honly5 hat5; obtain ⟨g5, n5, c5, e5, hg5⟩ := own_some hown5 (by simp only [List.length_append, List.length_cons]; omega); subst e5; have HO5 := Lib.hid hown5; replace HB := Lib.hid (HB.out.trans ((honly5.own HO.out HZ.out).mono (by omega))); have HZ5 := Lib.hid (Nat.le_trans HZ.out honly5.size); clear hown5 honly5 hat5 f0 f1 f2 f3 f4 f5 f6 f7 e0 e1 e2 e3 e4 e5 e6 e7 e8 e9 p3) | (go_at_call 59; (with_reducible refine (del_t (w.heap.size + 4) g5 n5 c5 (args ++ [guard] ++ x.resets) _ HO5.out (by simp [HLA.out]; have := HL3.out; omega)).mono ?_); rintro e w6 ⟨n6, c6, rfl, ho6, hl6⟩; have HO6 := Lib.hid ho6; replace HB := Lib.hid (HB.out.trans (hl6.below (Nat.le_trans (by omega) HZ5.out) (by intro j hj; simp at hj; omega))); have HZ6 := Lib.hid (Nat.le_trans HZ5.out hl6.size); clear ho6 hl6) | (go_at_call 61; (with_reducible refine (sort_t (w.heap.size + 4) g5 n6 c6 _ _ HO6.out (Nat.le_trans (List.length_filter_le _ _) (by simp [HLA.out]; have := HL3.out; omega))).mono ?_); rintro e w7 ⟨rfl, ho7, hl7⟩; have HO7 := Lib.hid ho7; replace HB := Lib.hid (HB.out.trans (hl7.below (Nat.le_trans (by omega) HZ6.out) (by intro j hj; simp at hj; omega))); have HZ7 := Lib.hid (Nat.le_trans HZ6.out hl7.size); clear ho7 hl7) | (go_at_call 62; (with_reducible refine (compact_t (w.heap.size + 4) g5 n6 c6 _ _ HO7.out (by rw [List.length_mergeSort]; exact Nat.le_trans (List.length_filter_le _ _) (by simp [HLA.out]; have := HL3.out; omega)) (compact_len _)).mono ?_); rintro e w8 ⟨n8, c8, rfl, ho8, hl8⟩; have HO8 := Lib.hid ho8; replace HB := Lib.hid (HB.out.trans (hl8.below (Nat.le_trans (by omega) HZ7.out) (by intro j hj; simp at hj; omega))); clear ho8 hl8))
  go_ret
  exact ⟨_, tidyL (args ++ [guard] ++ x.resets), rfl, HO8.out.more (by omega), fun y => by rw [mem_tidy]; exact HNE.out y, Nat.le_trans (tidy_len _) (by simp [HLA.out]; have := HL3.out; omega), HW1.out.trans (HB.out.mono (by omega))⟩

set_option maxHeartbeats 4000000 in
theorem nof_1 (q : FEqM) (a m d : Option Addr × Nat × Nat) (v : FlatV) (f : FlatM) (B : Nat) (w : World) (hF : FlatIs w B v f) (hrow : IRow w B a.1 a.2.1 a.2.2 q.args) (hB : B ≤ w.heap.size) (ha : a.2.1 ≤ 1000) (hop : q.op = bs [99, 111, 110, 116]) (hk : plB q.k v.conts.2.1 = true) (hres : ∀ (i : Nat) (x : ContM), f.conts[i]? = some x → x.resets.length ≤ 1000) :
    Calls Try.prog 46 #[feqV q a m d, flatV v] w (NeedsOfPost f q w) := by
  obtain ⟨var, op, args, k, lit, guard⟩ := q
  obtain ⟨A, n, c⟩ := a
  simp only at hrow ha hop hk
  have HEQ : Hid (∀ (y : ContM) (hy : f.conts[k.toNat]? = some y), ∀ x, (x ∈ args ++ [guard] ++ y.resets ∧ 0 ≤ x) ↔ (x ∈ needsL f ⟨var, op, args, k, lit, guard⟩ ∧ 0 ≤ x)) := Lib.hid (by
    intro y hy x
    subst hop
    unfold needsL opMem opCont
    rw [if_neg (show ¬ bs [99, 111, 110, 116] = bs [109, 101, 109] by decide), if_pos rfl]
    rw [hy]
    by_cases hg : 0 ≤ guard
    · simp [hg]
    · simp only [if_neg hg]; simp; intro h0; constructor
      · rintro (h | h | h)
        · exact .inl h
        · omega
        · exact .inr h
      · rintro (h | h)
        · exact .inl h
        · exact .inr (.inr h))
  obtain ⟨W1, hW⟩ : ∃ W1, W1 = (w.alloc (.cells (qvs ⟨var, op, args, k, lit, guard⟩ (A, n, c) m d) 77)).alloc (.cells (fvs v) 29) := ⟨_, rfl⟩
  have hW1 : Below w.heap.size w W1 := by rw [hW]; exact ((Below.refl _ _).alloc (Nat.le_refl _) _).alloc (by simp) _
  have hsz : W1.heap.size = w.heap.size + 2 := by rw [hW]; simp
  have HKQ := Lib.hid (show Blk W1 w.heap.size 77 (qvs ⟨var, op, args, k, lit, guard⟩ (A, n, c) m d) from by rw [hW]; exact (Blk.new _ _ _).alloc _)
  have HK := Lib.hid (show Blk W1 (w.heap.size + 1) 29 (fvs v) from by rw [hW]; have := Blk.new (w.alloc (.cells (qvs ⟨var, op, args, k, lit, guard⟩ (A, n, c) m d) 77)) 29 (fvs v); rw [size_alloc] at this; exact this)
  have HF := Lib.hid (hF.below (hW1.mono hB))
  have HR := Lib.hid (hrow.below (hW1.mono hB))
  have HW1 := Lib.hid hW1
  have HBB := Lib.hid hB
  have HSZ := Lib.hid hsz
  have HLA := Lib.hid (hrow.1 : args.length = n)
  have hg2 := grow2 W1 B A n c args guard 3 23 HR.out (by rw [hsz]; omega)
  rw [hsz] at hg2
  have HCC := Lib.hid (concat_t (some ⟨w.heap.size + 3, 0, none⟩) 2 2 (w.heap.size + 4) [args, [guard]] _ hg2 (by simp [hsz]) (by unfold Gr.tot; simp) (by unfold Gr.tot; simp; rw [HLA.out]; omega))
  have hb3 : Below (w.heap.size + 2) W1 ((W1.alloc (.cells #[.int .i64 guard] 3)).alloc (.cells #[.slice A n c, .slice (some ⟨w.heap.size + 2, 0, none⟩) 1 1] 23)) := ((Below.refl _ _).alloc (by omega) _).alloc (by simp; omega) _
  have HB3 := Lib.hid hb3
  have HS3 : Hid (((W1.alloc (.cells #[.int .i64 guard] 3)).alloc (.cells #[.slice A n c, .slice (some ⟨w.heap.size + 2, 0, none⟩) 1 1] 23)).heap.size = w.heap.size + 4) := Lib.hid (by simp [hsz])
  unfold fvs qvs at hW
  dsimp only at hW
  clear hF hrow hB hW1 hg2 hb3
  obtain ⟨p0, p1⟩ := plB_yes hk
  obtain ⟨j, rfl⟩ : ∃ j : Nat, k = (j : Int) := ⟨k.toNat, by omega⟩
  have hj : j < v.conts.2.1 := by omega
  obtain ⟨x, hx⟩ := HF.out.conts.ex hj
  obtain ⟨b, off, hab, hlb, hat⟩ := HF.out.conts.at_ hx
  obtain ⟨A3, L3, C3, p3, q3⟩ := hat.resets
  have hlen3 : L3 ≤ 1000 := by rw [← q3.1]; exact hres _ x hx
  have hbw : b < w.heap.size + 2 := Nat.lt_of_lt_of_le hlb (Nat.le_trans HBB.out (by omega))
  have HP3 := Lib.hid p3
  have HQ3 := Lib.hid q3
  have HL3 : Hid (x.resets.length = L3) := Lib.hid q3.1
  have HNE := Lib.hid (HEQ.out x (by simpa using hx))
  have HAB := Lib.hid hab
  clear hx hab hat p3 q3 hres hk HEQ
  subst hop
  unfold bs at hW HNE HKQ ⊢
  unfold feqV flatV sl3
  go_enter Try.func46, Try.ntmps46
  have HB := Lib.hid (Below.refl (w.heap.size + 2) W1)
  obtain ⟨f0, f1, f2, f3, f4, f5, f6, f7⟩ := (HK.out.below HB.out (Nat.lt_succ_self _)).flat
  obtain ⟨e0, e1, e2, e3, e4, e5, e6, e7, e8, e9⟩ := (HKQ.out.below HB.out (by omega)).eq
  have p3 := (HB.out.cell (p := ⟨b, off + j * 9 + 7, none⟩) hbw).trans HP3.out
  rw [HAB.out] at f5
  go_upto_region 1 with fail
  rw [← hW]
  clear hW
  have hs0 : w.heap.size < W1.heap.size := by have := HSZ.out; omega
  go_wp2_with (first | (go_at_call 58; (with_reducible refine HCC.out.mono ?_); rintro e w4 ⟨v4, rfl, hown, hb4⟩; rw [HS3.out] at hown hb4; have hnil : ([args, [guard]].flatten).length = n + 1 := (by simp [HLA.out]); obtain ⟨g4, n4, c4, e4, hg4⟩ := own_some hown (by omega); subst e4; have HO := Lib.hid (show Own w4 (w.heap.size + 4) (.slice (some ⟨g4, 0, none⟩) n4 c4) (args ++ [guard]) from (by simpa using hown)); replace HB := Lib.hid (HB3.out.trans (hb4.mono (by omega))); have HZ := Lib.hid hb4.size; rw [HS3.out] at HZ; clear hown hb4 f0 f1 f2 f3 f4 f5 f6 f7 e0 e1 e2 e3 e4 e5 e6 e7 e8 e9 p3; obtain ⟨f0, f1, f2, f3, f4, f5, f6, f7⟩ := (HK.out.below HB.out (Nat.lt_succ_self _)).flat; obtain ⟨e0, e1, e2, e3, e4, e5, e6, e7, e8, e9⟩ := (HKQ.out.below HB.out (by omega)).eq; have p3 := (HB.out.cell (p := ⟨b, off + j * 9 + 7, none⟩) hbw).trans HP3.out; rw [HAB.out] at f5) | (at_builtin; refine appendR rfl _ _ 23 Try.underlying23 rfl (w.heap.size + 4) B (.slice (some ⟨g4, 0, none⟩) n4 c4) (args ++ [guard]) A3 L3 C3 x.resets rfl rfl HO.out (HQ3.out.below (HB.out.mono (Nat.le_trans HBB.out (by omega)))) HZ.out (by simp [HLA.out]; omega) (by omega) ?_; intro v5 w5 hown5 honly5 hat5; obtain ⟨g5, n5, c5, e5, hg5⟩ := own_some hown5 (by simp only [List.length_append, List.length_cons]; omega); subst e5; have HO5 := Lib.hid hown5; replace HB := Lib.hid (HB.out.trans ((honly5.own HO.out HZ.out).mono (by omega))); have HZ5 := Lib.hid (Nat.le_trans HZ.out honly5.size); clear hown5 honly5 hat5 f0 f1 f2 f3 f4 f5 f6 f7 e0 e1 e2 e3 e4 e5 e6 e7 e8 e9 p3) | (go_at_call 59; (with_reducible refine (del_t (w.heap.size + 4) g5 n5 c5 (args ++ [guard] ++ x.resets) _ HO5.out (by simp [HLA.out]; have := HL3.out; omega)).mono ?_); rintro e w6 ⟨n6, c6, rfl, ho6, hl6⟩; have HO6 := Lib.hid ho6; replace HB := Lib.hid (HB.out.trans (hl6.below (Nat.le_trans (by omega) HZ5.out) (by intro j hj; simp at hj; omega))); have HZ6 := Lib.hid (Nat.le_trans HZ5.out hl6.size); clear ho6 hl6) | (go_at_call 61; (with_reducible refine (sort_t (w.heap.size + 4) g5 n6 c6 _ _ HO6.out (Nat.le_trans (List.length_filter_le _ _) (by simp [HLA.out]; have := HL3.out; omega))).mono ?_); rintro e w7 ⟨rfl, ho7, hl7⟩; have HO7 := Lib.hid ho7; replace HB := Lib.hid (HB.out.trans (hl7.below (Nat.le_trans (by omega) HZ6.out) (by intro j hj; simp at hj; omega))); have HZ7 := Lib.hid (Nat.le_trans HZ6.out hl7.size); clear ho7 hl7) | (go_at_call 62; (with_reducible refine (compact_t (w.heap.size + 4) g5 n6 c6 _ _ HO7.out (by rw [List.length_mergeSort]; exact Nat.le_trans (List.length_filter_le _ _) (by simp [HLA.out]; have := HL3.out; omega)) (compact_len _)).mono ?_); rintro e w8 ⟨n8, c8, rfl, ho8, hl8⟩; have HO8 := Lib.hid ho8; replace HB := Lib.hid (HB.out.trans (hl8.below (Nat.le_trans (by omega) HZ7.out) (by intro j hj; simp at hj; omega))); clear ho8 hl8))
  go_ret
  exact ⟨_, tidyL (args ++ [guard] ++ x.resets), rfl, HO8.out.more (by omega), fun y => by rw [mem_tidy]; exact HNE.out y, Nat.le_trans (tidy_len _) (by simp [HLA.out]; have := HL3.out; omega), HW1.out.trans (HB.out.mono (by omega))⟩

theorem needsOf_t (q : FEqM) (a m d : Option Addr × Nat × Nat) (v : FlatV) (f : FlatM) (B : Nat) (w : World) (hF : FlatIs w B v f) (hrow : IRow w B a.1 a.2.1 a.2.2 q.args) (hB : B ≤ w.heap.size) (ha : a.2.1 ≤ 1000)
    (hk : kL q.op q.k v.ins.2.1 v.mems.2.1 v.conts.2.1 v.cross.2.1 = true) (hm : ∀ (i : Nat) (x : MemM), f.mems[i]? = some x → x.resets.length ≤ 1000) (hc : ∀ (i : Nat) (x : ContM), f.conts[i]? = some x → x.resets.length ≤ 1000) :
    Calls Try.prog 46 #[feqV q a m d, flatV v] w (NeedsOfPost f q w) := by
  by_cases h0 : q.op = bs [109, 101, 109]
  · exact nof_0 q a m d v f B w hF hrow hB ha h0 (by rw [h0] at hk; exact hk) hm
  · by_cases h1 : q.op = bs [99, 111, 110, 116]
    · exact nof_1 q a m d v f B w hF hrow hB ha h1 (by rw [h1] at hk; exact hk) hc
    · exact nof_2 q a m d v f B w hF hrow hB ha h0 h1

end Go.Proofs.Ytanbekbalfbkcaa
