/- What Right of package plan tells where it tells no at once. No condition but bounds. · What Right of package plan tells. No condition but bounds. -/
import Derived.Test.YtanbekbalfbkcaaZOfAToRtB
import Derived.Deep.DeepCutAuto
namespace Go.Proofs.Ytanbekbalfbkcaa
set_option linter.unusedVariables false
set_option linter.unusedSimpArgs false
set_option maxRecDepth 100000
open Go.RowKit Gr

theorem TellsIf.tt {P : Prop} {w w' : World} {e : Ending} (h : TellsIf P w e w') (hp : P) : e = .returned (.bool true) ∧ Below w.heap.size w w' := by
  obtain ⟨⟨b, rfl, hb⟩, h2⟩ := h
  exact ⟨by rw [hb.2 hp], h2⟩
theorem TellsIf.ff {P : Prop} {w w' : World} {e : Ending} (h : TellsIf P w e w') (hp : ¬ P) : e = .returned (.bool false) ∧ Below w.heap.size w w' := by
  obtain ⟨⟨b, rfl, hb⟩, h2⟩ := h
  cases b with
  | false => exact ⟨rfl, h2⟩
  | true => exact (hp (hb.1 rfl)).elim
/-- each variable stands behind what it needs -/
def BehindP (G : List (List Int)) (o : List Int) (n : Nat) : Prop := ∀ v : Nat, v < n → ∀ u : Nat, u < n → ndB G (v : Int) (u : Int) = true → plc o (u : Int) < plc o (v : Int)
/-- 14.2, but that the program is good -/
structure RightP (f : FlatM) (n : Nat) (o sl : List Int) (S : Int) : Prop where
  good : goodB f = true
  once : Once o n
  slots : sl.length = n ∧ ∀ x ∈ sl, 0 ≤ x ∧ x < S
  behind : BehindP (gOf f) o n
  apart : ApartTo (laF f o) o sl n
theorem behind_iff {f : FlatM} {H : List (List Int)} {o lv : List Int} {n : Nat} (hsg : SameG (gOf f) H n) (hlv : Lives f o n lv) (hpl : ∀ i, i < n → ∀ x ∈ H.getD i [], 0 ≤ x ∧ x < (n : Int)) :
    (∀ i, i < n → ∀ x ∈ H.getD i [], lv.getD (x.toNat * 2) 0 < lv.getD (i * 2) 0) ↔ BehindP (gOf f) o n := by
  constructor
  · intro q v hv u hu hnd
    unfold ndB at hnd
    rw [hsg.l1] at hnd
    simp only [Bool.and_eq_true, decide_eq_true_eq] at hnd
    have hm := (hsg.same v hv (u : Int)).1 (by simpa using hnd.2)
    have := q v hv _ hm
    rw [Int.toNat_natCast, hlv.fst u hu, hlv.fst v hv] at this
    exact this
  · intro q i hi x hx
    obtain ⟨x0, x1⟩ := hpl i hi x hx
    obtain ⟨u, rfl⟩ : ∃ u : Nat, x = (u : Int) := ⟨x.toNat, by omega⟩
    rw [Int.toNat_natCast, hlv.fst u (by omega), hlv.fst i hi]
    refine q i hi u (by omega) ?_
    unfold ndB
    rw [hsg.l1]
    have := (hsg.same i hi (u : Int)).2 hx
    simp only [Bool.and_eq_true, decide_eq_true_eq]
    exact ⟨⟨⟨⟨by omega, by omega⟩, by omega⟩, x1⟩, by simpa using this⟩

set_option maxHeartbeats 4000000 in
theorem right_no1 (v : FlatV) (f : FlatM) (B : Nat) (A A2 : Option Addr) (m c m2 c2 : Nat) (S : Int) (o sl : List Int) (w : World) (h : FlatIs w B v f) (hB : B ≤ w.heap.size) (h1 : IRow w B A m c o) (h2 : IRow w B A2 m2 c2 sl) (hn : v.names.2.1 ≤ 1000000) (hg : goodB f = false) :
    Calls Try.prog 15 #[flatV v, planV A m c A2 m2 c2 S] w  fun e w' => e = .returned (.bool false) ∧ Below w.heap.size w w' := by
  have hm1 := h1.len_le
  have hm2 := h2.len_le
  unfold maxLen at hm1 hm2
  obtain ⟨W1, hW1⟩ : ∃ W1, W1 = (w.alloc (.cells (fvs v) 29)).alloc (.cells #[.slice A m c, .slice A2 m2 c2, .int .i64 S] 32) := ⟨_, rfl⟩
  have hb1 : Below w.heap.size w W1 := by rw [hW1]; exact ((Below.refl _ _).alloc (Nat.le_refl _) _).alloc (by simp) _
  have hs1 : W1.heap.size = w.heap.size + 2 := by rw [hW1]; simp
  have HP := Lib.hid (show Blk W1 (w.heap.size + 1) 32 #[.slice A m c, .slice A2 m2 c2, .int .i64 S] from by rw [hW1]; have := Blk.new (w.alloc (.cells (fvs v) 29)) 32 #[.slice A m c, .slice A2 m2 c2, .int .i64 S]; rw [size_alloc] at this; exact this)
  have HK := Lib.hid (show Blk W1 w.heap.size 29 (fvs v) from by rw [hW1]; exact (Blk.new _ _ _).alloc _)
  have HB := Lib.hid (Below.refl W1.heap.size W1)
  have HW1 := Lib.hid hb1
  have HS1 : Hid (B ≤ W1.heap.size) := Lib.hid (by omega)
  have HS : Hid (W1.heap.size ≤ W1.heap.size) := Lib.hid (Nat.le_refl _)
  have HGC := Lib.hid (good_b v f B false W1 (h.below (hb1.mono hB)) HS1.out (by omega) hg)
  unfold flatV sl3 at HGC
  clear h hB h1 h2 hg
  obtain ⟨f0, f1, f2, f3, f4, f5, f6, f7⟩ := HK.out.flat
  have r0 := HP.out.cell 0 rfl
  have r1 := HP.out.cell 1 rfl
  have r2 := HP.out.cell 2 rfl
  unfold flatV sl3 planV
  unfold fvs at hW1
  go_enter Try.func15, Try.ntmps15
  go_upto_region 1 with fail
  rw [← hW1]
  clear hW1
  go_wp2_with (first | (go_at_call 29; (with_reducible refine HGC.out.mono ?_); rintro e w1 ⟨rfl, hb1⟩; replace HB := Lib.hid (HB.out.trans (hb1.mono HB.out.size)); replace HS := Lib.hid (Nat.le_trans HS.out hb1.size); clear hb1; clear f0 f1 f2 f3 f4 f5 f6 f7 r0 r1 r2; obtain ⟨f0, f1, f2, f3, f4, f5, f6, f7⟩ := (HK.out.later HB.out).flat; have r0 := (HP.out.later HB.out).cell 0 rfl; have r1 := (HP.out.later HB.out).cell 1 rfl; have r2 := (HP.out.later HB.out).cell 2 rfl))
  go_ret
  exact ⟨rfl, HW1.out.trans (HB.out.mono HW1.out.size)⟩

set_option maxHeartbeats 4000000 in
theorem right_no2 (v : FlatV) (f : FlatM) (B : Nat) (A A2 : Option Addr) (m c m2 c2 : Nat) (S : Int) (o sl : List Int) (w : World) (h : FlatIs w B v f) (hB : B ≤ w.heap.size) (h1 : IRow w B A m c o) (h2 : IRow w B A2 m2 c2 sl) (hn : v.names.2.1 ≤ 1000000) (hg : goodB f = true) (ho : ¬ Once o v.names.2.1) :
    Calls Try.prog 15 #[flatV v, planV A m c A2 m2 c2 S] w  fun e w' => e = .returned (.bool false) ∧ Below w.heap.size w w' := by
  have hm1 := h1.len_le
  have hm2 := h2.len_le
  unfold maxLen at hm1 hm2
  obtain ⟨W1, hW1⟩ : ∃ W1, W1 = (w.alloc (.cells (fvs v) 29)).alloc (.cells #[.slice A m c, .slice A2 m2 c2, .int .i64 S] 32) := ⟨_, rfl⟩
  have hb1 : Below w.heap.size w W1 := by rw [hW1]; exact ((Below.refl _ _).alloc (Nat.le_refl _) _).alloc (by simp) _
  have hs1 : W1.heap.size = w.heap.size + 2 := by rw [hW1]; simp
  have HP := Lib.hid (show Blk W1 (w.heap.size + 1) 32 #[.slice A m c, .slice A2 m2 c2, .int .i64 S] from by rw [hW1]; have := Blk.new (w.alloc (.cells (fvs v) 29)) 32 #[.slice A m c, .slice A2 m2 c2, .int .i64 S]; rw [size_alloc] at this; exact this)
  have HK := Lib.hid (show Blk W1 w.heap.size 29 (fvs v) from by rw [hW1]; exact (Blk.new _ _ _).alloc _)
  have HB := Lib.hid (Below.refl W1.heap.size W1)
  have HW1 := Lib.hid hb1
  have HS1 : Hid (B ≤ W1.heap.size) := Lib.hid (by omega)
  have HS : Hid (W1.heap.size ≤ W1.heap.size) := Lib.hid (Nat.le_refl _)
  have HGC := Lib.hid (good_b v f B true W1 (h.below (hb1.mono hB)) HS1.out (by omega) hg)
  unfold flatV sl3 at HGC
  have HOC : Hid (∀ W, Below W1.heap.size W1 W → Calls Try.prog 30 #[.slice A m c, .int .i64 (v.names.2.1 : Int)] W fun e w' => e = .returned (.bool false) ∧ Below W.heap.size W w') := Lib.hid fun W hW => ((once_t A m c B v.names.2.1 o W ((h1.below (hb1.mono hB)).below (hW.mono HS1.out)) (Nat.le_trans HS1.out hW.size) hn).mono fun e w' q => q.ff ho)
  clear h hB h1 h2 hg ho
  obtain ⟨f0, f1, f2, f3, f4, f5, f6, f7⟩ := HK.out.flat
  have r0 := HP.out.cell 0 rfl
  have r1 := HP.out.cell 1 rfl
  have r2 := HP.out.cell 2 rfl
  unfold flatV sl3 planV
  unfold fvs at hW1
  go_enter Try.func15, Try.ntmps15
  go_upto_region 1 with fail
  rw [← hW1]
  clear hW1
  go_wp2_with (first | (go_at_call 29; (with_reducible refine HGC.out.mono ?_); rintro e w1 ⟨rfl, hb1⟩; replace HB := Lib.hid (HB.out.trans (hb1.mono HB.out.size)); replace HS := Lib.hid (Nat.le_trans HS.out hb1.size); clear hb1; clear f0 f1 f2 f3 f4 f5 f6 f7 r0 r1 r2; obtain ⟨f0, f1, f2, f3, f4, f5, f6, f7⟩ := (HK.out.later HB.out).flat; have r0 := (HP.out.later HB.out).cell 0 rfl; have r1 := (HP.out.later HB.out).cell 1 rfl; have r2 := (HP.out.later HB.out).cell 2 rfl) | (go_at_call 30; (with_reducible refine (HOC.out _ (HB.out)).mono ?_); rintro e w2 ⟨rfl, hb2⟩; replace HB := Lib.hid (HB.out.trans (hb2.mono HS.out)); replace HS := Lib.hid (Nat.le_trans HS.out hb2.size); clear hb2; clear f0 f1 f2 f3 f4 f5 f6 f7 r0 r1 r2; obtain ⟨f0, f1, f2, f3, f4, f5, f6, f7⟩ := (HK.out.later HB.out).flat; have r0 := (HP.out.later HB.out).cell 0 rfl; have r1 := (HP.out.later HB.out).cell 1 rfl; have r2 := (HP.out.later HB.out).cell 2 rfl))
  go_ret
  exact ⟨rfl, HW1.out.trans (HB.out.mono HW1.out.size)⟩

set_option maxHeartbeats 4000000 in
theorem right_no3 (v : FlatV) (f : FlatM) (B : Nat) (A A2 : Option Addr) (m c m2 c2 : Nat) (S : Int) (o sl : List Int) (w : World) (h : FlatIs w B v f) (hB : B ≤ w.heap.size) (h1 : IRow w B A m c o) (h2 : IRow w B A2 m2 c2 sl) (hn : v.names.2.1 ≤ 1000000) (hg : goodB f = true) (ho : Once o v.names.2.1) (hsl : ¬ (sl.length = v.names.2.1 ∧ ∀ x ∈ sl, 0 ≤ x ∧ x < S)) :
    Calls Try.prog 15 #[flatV v, planV A m c A2 m2 c2 S] w  fun e w' => e = .returned (.bool false) ∧ Below w.heap.size w w' := by
  have hm1 := h1.len_le
  have hm2 := h2.len_le
  unfold maxLen at hm1 hm2
  obtain ⟨W1, hW1⟩ : ∃ W1, W1 = (w.alloc (.cells (fvs v) 29)).alloc (.cells #[.slice A m c, .slice A2 m2 c2, .int .i64 S] 32) := ⟨_, rfl⟩
  have hb1 : Below w.heap.size w W1 := by rw [hW1]; exact ((Below.refl _ _).alloc (Nat.le_refl _) _).alloc (by simp) _
  have hs1 : W1.heap.size = w.heap.size + 2 := by rw [hW1]; simp
  have HP := Lib.hid (show Blk W1 (w.heap.size + 1) 32 #[.slice A m c, .slice A2 m2 c2, .int .i64 S] from by rw [hW1]; have := Blk.new (w.alloc (.cells (fvs v) 29)) 32 #[.slice A m c, .slice A2 m2 c2, .int .i64 S]; rw [size_alloc] at this; exact this)
  have HK := Lib.hid (show Blk W1 w.heap.size 29 (fvs v) from by rw [hW1]; exact (Blk.new _ _ _).alloc _)
  have HB := Lib.hid (Below.refl W1.heap.size W1)
  have HW1 := Lib.hid hb1
  have HS1 : Hid (B ≤ W1.heap.size) := Lib.hid (by omega)
  have HS : Hid (W1.heap.size ≤ W1.heap.size) := Lib.hid (Nat.le_refl _)
  have HGC := Lib.hid (good_b v f B true W1 (h.below (hb1.mono hB)) HS1.out (by omega) hg)
  unfold flatV sl3 at HGC
  have HOC : Hid (∀ W, Below W1.heap.size W1 W → Calls Try.prog 30 #[.slice A m c, .int .i64 (v.names.2.1 : Int)] W fun e w' => e = .returned (.bool true) ∧ Below W.heap.size W w') := Lib.hid fun W hW => ((once_t A m c B v.names.2.1 o W ((h1.below (hb1.mono hB)).below (hW.mono HS1.out)) (Nat.le_trans HS1.out hW.size) hn).mono fun e w' q => q.tt ho)
  have HSC : Hid (∀ W, Below W1.heap.size W1 W → Calls Try.prog 31 #[planV A m c A2 m2 c2 S, .int .i64 (v.names.2.1 : Int)] W fun e w' => e = .returned (.bool false) ∧ Below W.heap.size W w') := Lib.hid fun W hW => ((areSlots_t A A2 m c m2 c2 B v.names.2.1 S sl W ((h2.below (hb1.mono hB)).below (hW.mono HS1.out)) (Nat.le_trans HS1.out hW.size)).mono fun e w' q => q.ff hsl)
  unfold planV at HSC
  clear h hB h1 h2 hg ho hsl
  obtain ⟨f0, f1, f2, f3, f4, f5, f6, f7⟩ := HK.out.flat
  have r0 := HP.out.cell 0 rfl
  have r1 := HP.out.cell 1 rfl
  have r2 := HP.out.cell 2 rfl
  unfold flatV sl3 planV
  unfold fvs at hW1
  go_enter Try.func15, Try.ntmps15
  go_upto_region 1 with fail
  rw [← hW1]
  clear hW1
  go_wp2_with (first | (go_at_call 29; (with_reducible refine HGC.out.mono ?_); rintro e w1 ⟨rfl, hb1⟩; replace HB := Lib.hid (HB.out.trans (hb1.mono HB.out.size)); replace HS := Lib.hid (Nat.le_trans HS.out hb1.size); clear hb1; clear f0 f1 f2 f3 f4 f5 f6 f7 r0 r1 r2; obtain ⟨f0, f1, f2, f3, f4, f5, f6, f7⟩ := (HK.out.later HB.out).flat; have r0 := (HP.out.later HB.out).cell 0 rfl; have r1 := (HP.out.later HB.out).cell 1 rfl; have r2 := (HP.out.later HB.out).cell 2 rfl) | (go_at_call 30; (with_reducible refine (HOC.out _ (HB.out)).mono ?_); rintro e w2 ⟨rfl, hb2⟩; replace HB := Lib.hid (HB.out.trans (hb2.mono HS.out)); replace HS := Lib.hid (Nat.le_trans HS.out hb2.size); clear hb2; clear f0 f1 f2 f3 f4 f5 f6 f7 r0 r1 r2; obtain ⟨f0, f1, f2, f3, f4, f5, f6, f7⟩ := (HK.out.later HB.out).flat; have r0 := (HP.out.later HB.out).cell 0 rfl; have r1 := (HP.out.later HB.out).cell 1 rfl; have r2 := (HP.out.later HB.out).cell 2 rfl) | (go_at_call 31; (with_reducible refine (HSC.out _ (HB.out)).mono ?_); rintro e w3 ⟨rfl, hb3⟩; replace HB := Lib.hid (HB.out.trans (hb3.mono HS.out)); replace HS := Lib.hid (Nat.le_trans HS.out hb3.size); clear hb3; clear f0 f1 f2 f3 f4 f5 f6 f7 r0 r1 r2; obtain ⟨f0, f1, f2, f3, f4, f5, f6, f7⟩ := (HK.out.later HB.out).flat; have r0 := (HP.out.later HB.out).cell 0 rfl; have r1 := (HP.out.later HB.out).cell 1 rfl; have r2 := (HP.out.later HB.out).cell 2 rfl))
  go_ret
  exact ⟨rfl, HW1.out.trans (HB.out.mono HW1.out.size)⟩

end Go.Proofs.Ytanbekbalfbkcaa

namespace Go.Proofs.Ytanbekbalfbkcaa
set_option linter.unusedVariables false
set_option linter.unusedSimpArgs false
set_option maxRecDepth 100000
open Go.RowKit Gr

set_option maxHeartbeats 4000000 in
theorem right_yes (v : FlatV) (f : FlatM) (B : Nat) (A A2 : Option Addr) (m c m2 c2 : Nat) (S : Int) (o sl : List Int) (w : World) (h : FlatIs w B v f) (hB : B ≤ w.heap.size) (h1 : IRow w B A m c o) (h2 : IRow w B A2 m2 c2 sl) (hn : v.names.2.1 ≤ 1000000) (hg : goodB f = true) (hs : SmallF f) (ho : Once o v.names.2.1) (hsl : sl.length = v.names.2.1 ∧ ∀ x ∈ sl, 0 ≤ x ∧ x < S) (hS : S ≤ 9223372036854775807) :
    Calls Try.prog 15 #[flatV v, planV A m c A2 m2 c2 S] w (TellsIf (RightP f v.names.2.1 o sl S) w) := by
  have hm1 := h1.len_le
  have hm2 := h2.len_le
  unfold maxLen at hm1 hm2
  obtain ⟨W1, hW1⟩ : ∃ W1, W1 = (w.alloc (.cells (fvs v) 29)).alloc (.cells #[.slice A m c, .slice A2 m2 c2, .int .i64 S] 32) := ⟨_, rfl⟩
  have hb1 : Below w.heap.size w W1 := by rw [hW1]; exact ((Below.refl _ _).alloc (Nat.le_refl _) _).alloc (by simp) _
  have hs1 : W1.heap.size = w.heap.size + 2 := by rw [hW1]; simp
  have HP := Lib.hid (show Blk W1 (w.heap.size + 1) 32 #[.slice A m c, .slice A2 m2 c2, .int .i64 S] from by rw [hW1]; have := Blk.new (w.alloc (.cells (fvs v) 29)) 32 #[.slice A m c, .slice A2 m2 c2, .int .i64 S]; rw [size_alloc] at this; exact this)
  have HK := Lib.hid (show Blk W1 w.heap.size 29 (fvs v) from by rw [hW1]; exact (Blk.new _ _ _).alloc _)
  have HB := Lib.hid (Below.refl W1.heap.size W1)
  have HW1 := Lib.hid hb1
  have HS1 : Hid (B ≤ W1.heap.size) := Lib.hid (by omega)
  have HS : Hid (W1.heap.size ≤ W1.heap.size) := Lib.hid (Nat.le_refl _)
  have HGC := Lib.hid (good_b v f B true W1 (h.below (hb1.mono hB)) HS1.out (by omega) hg)
  unfold flatV sl3 at HGC
  have HOC : Hid (∀ W, Below W1.heap.size W1 W → Calls Try.prog 30 #[.slice A m c, .int .i64 (v.names.2.1 : Int)] W fun e w' => e = .returned (.bool true) ∧ Below W.heap.size W w') := Lib.hid fun W hW => ((once_t A m c B v.names.2.1 o W ((h1.below (hb1.mono hB)).below (hW.mono HS1.out)) (Nat.le_trans HS1.out hW.size) hn).mono fun e w' q => q.tt ho)
  have HSC : Hid (∀ W, Below W1.heap.size W1 W → Calls Try.prog 31 #[planV A m c A2 m2 c2 S, .int .i64 (v.names.2.1 : Int)] W fun e w' => e = .returned (.bool true) ∧ Below W.heap.size W w') := Lib.hid fun W hW => ((areSlots_t A A2 m c m2 c2 B v.names.2.1 S sl W ((h2.below (hb1.mono hB)).below (hW.mono HS1.out)) (Nat.le_trans HS1.out hW.size)).mono fun e w' q => q.tt hsl)
  unfold planV at HSC
  have hsm : v.names.2.1 ≤ 200 := by rw [← h.names.1]; exact hs.names
  have HIS := Lib.hid (fun W (hb : Below W1.heap.size W1 W) => h.below (hb1.trans (hb.mono (by omega)) |>.mono hB))
  have HR1 := Lib.hid (fun W (hb : Below W1.heap.size W1 W) => h1.below (hb1.trans (hb.mono (by omega)) |>.mono hB))
  have HR2 := Lib.hid (fun W (hb : Below W1.heap.size W1 W) => h2.below (hb1.trans (hb.mono (by omega)) |>.mono hB))
  have HNC := Lib.hid (fun W (hb : Below W1.heap.size W1 W) => cneeds_t v f B W (HIS.out W hb) (Nat.le_trans HS1.out hb.size) hg hs)
  have HGS := Lib.hid (And.intro hg hs)
  have HON := Lib.hid ho
  have HSL := Lib.hid hsl
  obtain rfl : m = v.names.2.1 := h1.1.symm.trans ho.len
  obtain rfl : m2 = v.names.2.1 := h2.1.symm.trans hsl.1
  unfold flatV sl3 at HNC
  clear h hB h1 h2 hg ho hsl hs hb1 hs1
  obtain ⟨f0, f1, f2, f3, f4, f5, f6, f7⟩ := HK.out.flat
  have r0 := HP.out.cell 0 rfl
  have r1 := HP.out.cell 1 rfl
  have r2 := HP.out.cell 2 rfl
  unfold flatV sl3 planV
  unfold fvs at hW1
  go_enter Try.func15, Try.ntmps15
  go_upto_region 1 with fail
  rw [← hW1]
  clear hW1
  go_upto_region 5 with (first | (go_at_call 29; (with_reducible refine HGC.out.mono ?_); rintro e w1 ⟨rfl, hb1⟩; replace HB := Lib.hid (HB.out.trans (hb1.mono HB.out.size)); replace HS := Lib.hid (Nat.le_trans HS.out hb1.size); clear hb1; clear f0 f1 f2 f3 f4 f5 f6 f7 r0 r1 r2; obtain ⟨f0, f1, f2, f3, f4, f5, f6, f7⟩ := (HK.out.later HB.out).flat; have r0 := (HP.out.later HB.out).cell 0 rfl; have r1 := (HP.out.later HB.out).cell 1 rfl; have r2 := (HP.out.later HB.out).cell 2 rfl) | (go_at_call 30; (with_reducible refine (HOC.out _ (HB.out)).mono ?_); rintro e w2 ⟨rfl, hb2⟩; replace HB := Lib.hid (HB.out.trans (hb2.mono HS.out)); replace HS := Lib.hid (Nat.le_trans HS.out hb2.size); clear hb2; clear f0 f1 f2 f3 f4 f5 f6 f7 r0 r1 r2; obtain ⟨f0, f1, f2, f3, f4, f5, f6, f7⟩ := (HK.out.later HB.out).flat; have r0 := (HP.out.later HB.out).cell 0 rfl; have r1 := (HP.out.later HB.out).cell 1 rfl; have r2 := (HP.out.later HB.out).cell 2 rfl) | (go_at_call 31; (with_reducible refine (HSC.out _ (HB.out)).mono ?_); rintro e w3 ⟨rfl, hb3⟩; replace HB := Lib.hid (HB.out.trans (hb3.mono HS.out)); replace HS := Lib.hid (Nat.le_trans HS.out hb3.size); clear hb3; clear f0 f1 f2 f3 f4 f5 f6 f7 r0 r1 r2; obtain ⟨f0, f1, f2, f3, f4, f5, f6, f7⟩ := (HK.out.later HB.out).flat; have r0 := (HP.out.later HB.out).cell 0 rfl; have r1 := (HP.out.later HB.out).cell 1 rfl; have r2 := (HP.out.later HB.out).cell 2 rfl) | (go_at_call 32; (with_reducible refine (HNC.out _ HB.out).mono ?_); rintro e w4 ⟨g4, H, rfl, hgr, hsg, hpl, htot, hb4⟩; replace HB := Lib.hid (HB.out.trans (hb4.mono HS.out)); replace HS := Lib.hid (Nat.le_trans HS.out hb4.size); have HGR := Lib.hid hgr; have HSG := Lib.hid hsg; have HPL := Lib.hid hpl; clear hgr hsg hpl htot hb4; clear f0 f1 f2 f3 f4 f5 f6 f7 r0 r1 r2; obtain ⟨f0, f1, f2, f3, f4, f5, f6, f7⟩ := (HK.out.later HB.out).flat; have r0 := (HP.out.later HB.out).cell 0 rfl; have r1 := (HP.out.later HB.out).cell 1 rfl; have r2 := (HP.out.later HB.out).cell 2 rfl))
  have HLT := Lib.hid (lives_t v f B A (some ⟨g4, 0, none⟩) v.names.2.1 c v.names.2.1 o H w4 (HIS.out _ HB.out) (Nat.le_trans HS1.out HS.out) HGS.out.1 HGS.out.2 ((HR1.out _ HB.out).more (Nat.le_trans HS1.out HS.out)) HGR.out HON.out HSG.out HPL.out rfl)
  unfold flatV sl3 at HLT
  go_upto_region 6 with (go_at_call 33; (with_reducible refine HLT.out.mono ?_); rintro e w5 ⟨g5, lv, rfl, hjm, hlv, hg5, hb5⟩; have HGR5 := Lib.hid (HGR.out.below hb5); replace HB := Lib.hid (HB.out.trans (hb5.mono HS.out)); replace HS := Lib.hid (Nat.le_trans HS.out hb5.size); have HJM := Lib.hid hjm; have HLV := Lib.hid hlv; clear hjm hlv hg5 hb5; clear f0 f1 f2 f3 f4 f5 f6 f7 r0 r1 r2; obtain ⟨f0, f1, f2, f3, f4, f5, f6, f7⟩ := (HK.out.later HB.out).flat; have r0 := (HP.out.later HB.out).cell 0 rfl; have r1 := (HP.out.later HB.out).cell 1 rfl; have r2 := (HP.out.later HB.out).cell 2 rfl)
  have HBT := behind_t (some ⟨g4, 0, none⟩) v.names.2.1 g5 v.names.2.1 w4.heap.size H lv w5 HGR5.out HJM.out HLV.out.len HPL.out (by omega)
  rw [show TellsIf (∀ i, i < v.names.2.1 → ∀ x ∈ H.getD i [], lv.getD (x.toNat * 2) 0 < lv.getD (i * 2) 0) w5 = TellsIf (BehindP (gOf f) o v.names.2.1) w5 from by rw [propext (behind_iff HSG.out HLV.out HPL.out)]] at HBT
  by_cases hbe : BehindP (gOf f) o v.names.2.1
  · have HBC := Lib.hid (HBT.mono fun e w' q => q.tt hbe)
    have HAT := Lib.hid (fun W (hw : Below w5.heap.size w5 W) => apart_t (laF f o) A A2 v.names.2.1 c c2 g5 B S o sl lv W (HR1.out W (HB.out.trans (hw.mono HS.out))) (HR2.out W (HB.out.trans (hw.mono HS.out))) (Nat.le_trans (Nat.le_trans HS1.out HS.out) hw.size) (HJM.out.later hw) (HLV.out.la HON.out) HON.out HSL.out.2 hS (lpl_ge HON.out) (by omega))
    unfold planV at HAT
    have HBE := Lib.hid hbe
    clear HBT hbe
    by_cases hap : ApartTo (laF f o) o sl v.names.2.1
    · have HAC := Lib.hid (fun W (hw : Below w5.heap.size w5 W) => (HAT.out W hw).mono fun e w' q => q.tt hap)
      have HRT : Hid (RightP f v.names.2.1 o sl S) := Lib.hid ⟨HGS.out.1, HON.out, HSL.out, HBE.out, hap⟩
      clear HAT hap
      go_wp2_with (first | (go_at_call 34; (with_reducible refine HBC.out.mono ?_); rintro e w6 ⟨rfl, hb6⟩; have HB6 := Lib.hid hb6; replace HB := Lib.hid (HB.out.trans (hb6.mono HS.out)); replace HS := Lib.hid (Nat.le_trans HS.out hb6.size); clear hb6; clear f0 f1 f2 f3 f4 f5 f6 f7 r0 r1 r2; obtain ⟨f0, f1, f2, f3, f4, f5, f6, f7⟩ := (HK.out.later HB.out).flat; have r0 := (HP.out.later HB.out).cell 0 rfl; have r1 := (HP.out.later HB.out).cell 1 rfl; have r2 := (HP.out.later HB.out).cell 2 rfl) | (go_at_call 35; (with_reducible refine (HAC.out _ HB6.out).mono ?_); rintro e w7 ⟨rfl, hb7⟩; replace HB := Lib.hid (HB.out.trans (hb7.mono HS.out)); clear hb7))
      go_ret
      exact TellsIf.yes HRT.out (HW1.out.trans (HB.out.mono HW1.out.size))
    · have HAC := Lib.hid (fun W (hw : Below w5.heap.size w5 W) => (HAT.out W hw).mono fun e w' q => q.ff hap)
      have HRT : Hid (¬ RightP f v.names.2.1 o sl S) := Lib.hid fun q => hap q.apart
      clear HAT hap
      go_wp2_with (first | (go_at_call 34; (with_reducible refine HBC.out.mono ?_); rintro e w6 ⟨rfl, hb6⟩; have HB6 := Lib.hid hb6; replace HB := Lib.hid (HB.out.trans (hb6.mono HS.out)); replace HS := Lib.hid (Nat.le_trans HS.out hb6.size); clear hb6; clear f0 f1 f2 f3 f4 f5 f6 f7 r0 r1 r2; obtain ⟨f0, f1, f2, f3, f4, f5, f6, f7⟩ := (HK.out.later HB.out).flat; have r0 := (HP.out.later HB.out).cell 0 rfl; have r1 := (HP.out.later HB.out).cell 1 rfl; have r2 := (HP.out.later HB.out).cell 2 rfl) | (go_at_call 35; (with_reducible refine (HAC.out _ HB6.out).mono ?_); rintro e w7 ⟨rfl, hb7⟩; replace HB := Lib.hid (HB.out.trans (hb7.mono HS.out)); clear hb7))
      go_ret
      exact TellsIf.no HRT.out (HW1.out.trans (HB.out.mono HW1.out.size))
  · have HBC := Lib.hid (HBT.mono fun e w' q => q.ff hbe)
    have HRT : Hid (¬ RightP f v.names.2.1 o sl S) := Lib.hid fun q => hbe q.behind
    clear HBT hbe
    go_wp2_with (first | (go_at_call 34; (with_reducible refine HBC.out.mono ?_); rintro e w6 ⟨rfl, hb6⟩; have HB6 := Lib.hid hb6; replace HB := Lib.hid (HB.out.trans (hb6.mono HS.out)); replace HS := Lib.hid (Nat.le_trans HS.out hb6.size); clear hb6; clear f0 f1 f2 f3 f4 f5 f6 f7 r0 r1 r2; obtain ⟨f0, f1, f2, f3, f4, f5, f6, f7⟩ := (HK.out.later HB.out).flat; have r0 := (HP.out.later HB.out).cell 0 rfl; have r1 := (HP.out.later HB.out).cell 1 rfl; have r2 := (HP.out.later HB.out).cell 2 rfl))
    go_ret
    exact TellsIf.no HRT.out (HW1.out.trans (HB.out.mono HW1.out.size))

/-- what Right tells of any plan -/
theorem rightP_t (v : FlatV) (f : FlatM) (B : Nat) (A A2 : Option Addr) (m c m2 c2 : Nat) (S : Int) (o sl : List Int) (w : World) (h : FlatIs w B v f) (hB : B ≤ w.heap.size) (h1 : IRow w B A m c o) (h2 : IRow w B A2 m2 c2 sl) (hs : SmallF f) (hS : S ≤ 9223372036854775807) :
    Calls Try.prog 15 #[flatV v, planV A m c A2 m2 c2 S] w (TellsIf (RightP f v.names.2.1 o sl S) w) := by
  have hn : v.names.2.1 ≤ 1000000 := by rw [← h.names.1]; have := hs.names; omega
  have no : ∀ {e : Ending} {w' : World}, ¬ RightP f v.names.2.1 o sl S → (e = .returned (.bool false) ∧ Below w.heap.size w w') → TellsIf (RightP f v.names.2.1 o sl S) w e w' := fun hno q => by
    obtain ⟨rfl, hb⟩ := q
    exact TellsIf.no hno hb
  cases hg : goodB f with
  | false => exact (right_no1 v f B A A2 m c m2 c2 S o sl w h hB h1 h2 hn hg).mono fun e w' q => no (fun r => by rw [r.good] at hg; cases hg) q
  | true =>
    by_cases ho : Once o v.names.2.1
    · by_cases hsl : sl.length = v.names.2.1 ∧ ∀ x ∈ sl, 0 ≤ x ∧ x < S
      · exact right_yes v f B A A2 m c m2 c2 S o sl w h hB h1 h2 hn hg hs ho hsl hS
      · exact (right_no3 v f B A A2 m c m2 c2 S o sl w h hB h1 h2 hn hg ho hsl).mono fun e w' q => no (fun r => hsl r.slots) q
    · exact (right_no2 v f B A A2 m c m2 c2 S o sl w h hB h1 h2 hn hg ho).mono fun e w' q => no (fun r => ho r.once) q

end Go.Proofs.Ytanbekbalfbkcaa
