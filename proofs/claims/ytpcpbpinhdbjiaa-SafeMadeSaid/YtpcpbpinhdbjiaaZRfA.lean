/- What the answer Right tells where it tells no at once. No condition but bounds. -/
import Derived.Test.YtpcpbpinhdbjiaaZRtAToRtC
import Derived.Deep.DeepCutAuto
import Derived.Test.YtpcpbpinhdbjiaaZFlX
namespace Go.Proofs.Ytpcpbpinhdbjiaa
set_option linter.unusedVariables false
set_option linter.unusedSimpArgs false
set_option maxRecDepth 100000
open Go.RowKit Gr

theorem nodup_subI : ∀ (l m : List Int), l.Nodup → (∀ x ∈ l, x ∈ m) → l.length ≤ m.length := by
  intro l
  induction l with
  | nil => intro m _ _; exact Nat.zero_le _
  | cons a l ih =>
    intro m hn hs
    have ha : a ∈ m := hs a List.mem_cons_self
    have h2 := List.nodup_cons.1 hn
    have := ih (m.erase a) h2.2 (fun x hx => by
      have hne : x ≠ a := fun e => h2.1 (e ▸ hx)
      exact (List.mem_erase_of_ne hne).2 (hs x (List.mem_cons_of_mem _ hx)))
    rw [List.length_erase_of_mem ha] at this
    have hp : 0 < m.length := List.length_pos_of_mem ha
    simp only [List.length_cons]
    omega
theorem nd_of_erase : ∀ (o : List Int), (∀ y ∈ o, y ∉ o.erase y) → o.Nodup
  | [], _ => List.nodup_nil
  | a :: t, h => by
    have ha : a ∉ t := by have := h a (by simp); simpa using this
    refine List.nodup_cons.2 ⟨ha, nd_of_erase t fun y hy q => ?_⟩
    have hya : a ≠ y := fun e => ha (e ▸ hy)
    have := h y (by simp [hy])
    rw [List.erase_cons_tail (by simpa using hya)] at this
    exact this (by simp [q])
theorem mem_of_plc {o : List Int} {x : Int} (h : 0 ≤ plc o x) : x ∈ o := by
  unfold plc at h
  cases hf : o.findIdx? (fun y => y == x) with
  | none => rw [hf] at h; simp at h
  | some i =>
    obtain ⟨hi, he, _⟩ := List.findIdx?_eq_some_iff_getElem.1 hf
    have : o[i] = x := by simpa using he
    exact this ▸ List.getElem_mem hi
/-- a row as long as there are places, in which each place stands, has each once -/
theorem once_of_plc {o : List Int} {n : Nat} (hl : o.length = n) (h : ∀ v : Nat, v < n → 0 ≤ plc o (v : Int)) : Once o n := by
  have hin : ∀ v : Nat, v < n → (v : Int) ∈ o := fun v hv => mem_of_plc (h v hv)
  have key : ∀ y ∈ o, ¬ (y ∈ o.erase y ∨ ¬ (0 ≤ y ∧ y < (n : Int))) := by
    intro y hy q
    have h1 := nodup_subI ((List.range n).map fun (i : Nat) => (i : Int)) (o.erase y) (by
      rw [List.nodup_iff_pairwise_ne, List.pairwise_map]
      exact (List.nodup_iff_pairwise_ne.1 List.nodup_range).imp fun hne e => hne (by omega)) (by
      intro x hx
      obtain ⟨i, hi, rfl⟩ := List.mem_map.1 hx
      have hi' : i < n := List.mem_range.1 hi
      by_cases e : (i : Int) = y
      · rcases q with q | q
        · rw [e]; exact q
        · exact (q (by omega)).elim
      · exact (List.mem_erase_of_ne e).2 (hin i hi'))
    rw [List.length_erase_of_mem hy] at h1
    simp at h1
    have : 0 < o.length := List.length_pos_of_mem hy
    omega
  exact ⟨hl, fun x hx => Classical.byContradiction fun q => key x hx (.inr q), nd_of_erase o fun y hy q => key y hy (.inl q)⟩
/-- what the first part of Right has seen of the first x variables -/
def Ph1 (f : FlatM) (o sl : List Int) (S : Int) (n x : Nat) : Prop := ∀ v : Nat, v < x → 0 ≤ plc o (v : Int) ∧ 0 ≤ sl.getD v 0 ∧ sl.getD v 0 < S ∧ ∀ u : Nat, u < n → ndB (gOf f) (v : Int) (u : Int) = true → plc o (u : Int) < plc o (v : Int)
theorem Ph1.right {f : FlatM} {o sl : List Int} {S : Int} {n : Nat} (h : Ph1 f o sl S n n) (hg : goodB f = true) (hl : o.length = n) (hs : sl.length = n) (ha : ApartTo (laF f o) o sl n) : RightP f n o sl S := by
  refine ⟨hg, once_of_plc hl fun v hv => (h v hv).1, ⟨hs, fun x hx => ?_⟩, fun v hv u hu => (h v hv).2.2.2 u hu, ha⟩
  obtain ⟨i, hi, rfl⟩ := List.mem_iff_getElem.1 hx
  have := h i (by omega)
  rw [show sl.getD i 0 = sl[i] from by simp [hi]] at this
  exact ⟨this.2.1, this.2.2.1⟩
theorem Ph1.step {f : FlatM} {o sl : List Int} {S : Int} {n x : Nat} (h : Ph1 f o sl S n x) (h1 : 0 ≤ plc o (x : Int)) (h2 : 0 ≤ sl.getD x 0) (h3 : sl.getD x 0 < S) (h4 : ∀ u : Nat, u < n → ndB (gOf f) (x : Int) (u : Int) = true → plc o (u : Int) < plc o (x : Int)) : Ph1 f o sl S n (x + 1) := by
  intro v hv
  by_cases e : v = x
  · subst e; exact ⟨h1, h2, h3, h4⟩
  · exact h v (by omega)

set_option maxHeartbeats 4000000 in
theorem rfr_no1 (v : FlatV) (f : FlatM) (B : Nat) (A A2 : Option Addr) (m c m2 c2 : Nat) (S : Int) (o sl : List Int) (w : World) (h : FlatIs w B v f) (hB : B ≤ w.heap.size) (h1 : IRow w B A m c o) (h2 : IRow w B A2 m2 c2 sl) (hn : v.names.2.1 ≤ 1000000) (hg : goodB f = false) :
    Calls Try.prog 14 #[flatV v, planV A m c A2 m2 c2 S] w  fun e w' => e = .returned (.bool false) ∧ Below w.heap.size w w' := by
  have hm1 := h1.len_le
  have hm2 := h2.len_le
  unfold maxLen at hm1 hm2
  obtain ⟨W1, hW1⟩ : ∃ W1, W1 = (w.alloc (.cells (fvs v) 29)).alloc (.cells #[.slice A m c, .slice A2 m2 c2, .int .i64 S] 32) := ⟨_, rfl⟩
  have hb1 : Below w.heap.size w W1 := by rw [hW1]; exact ((Below.refl _ _).alloc (Nat.le_refl _) _).alloc (by simp) _
  have hs1 : W1.heap.size = w.heap.size + 2 := by rw [hW1]; simp
  have HP := Lib.hid (show Blk W1 (w.heap.size + 1) 32 #[.slice A m c, .slice A2 m2 c2, .int .i64 S] from by rw [hW1]; have := Blk.new (w.alloc (.cells (fvs v) 29)) 32 #[.slice A m c, .slice A2 m2 c2, .int .i64 S]; rw [size_alloc] at this; exact this)
  have HK := Lib.hid (show Blk W1 w.heap.size 29 (fvs v) from by rw [hW1]; exact (Blk.new _ _ _).alloc _)
  have HB := Lib.hid (Below.refl W1.heap.size W1)
  have HW1 := Lib.hid hb1
  have HS1 : Hid (B ≤ W1.heap.size) := Lib.hid (by omega)
  have HS : Hid (W1.heap.size ≤ W1.heap.size) := Lib.hid (Nat.le_refl _)
  have HGC := Lib.hid (by have := refGood_t v f B W1 (h.below (hb1.mono hB)) HS1.out (by omega); rw [hg] at this; exact this : Calls Try.prog 10 #[flatV v] W1 fun e w' => e = .returned (.bool false) ∧ Below W1.heap.size W1 w')
  unfold flatV sl3 at HGC
  clear h hB h1 h2 hg
  obtain ⟨f0, f1, f2, f3, f4, f5, f6, f7⟩ := HK.out.flat
  have r0 := HP.out.cell 0 rfl
  have r1 := HP.out.cell 1 rfl
  have r2 := HP.out.cell 2 rfl
  unfold flatV sl3 planV
  unfold fvs at hW1
  go_enter Try.func14, Try.ntmps14
  go_upto_region 1 with fail
  rw [← hW1]
  clear hW1
  go_wp2_with (first | (go_at_call 10; (with_reducible refine HGC.out.mono ?_); rintro e w1 ⟨rfl, hb1⟩; replace HB := Lib.hid (HB.out.trans (hb1.mono HB.out.size)); replace HS := Lib.hid (Nat.le_trans HS.out hb1.size); clear hb1; clear f0 f1 f2 f3 f4 f5 f6 f7 r0 r1 r2; obtain ⟨f0, f1, f2, f3, f4, f5, f6, f7⟩ := (HK.out.later HB.out).flat; have r0 := (HP.out.later HB.out).cell 0 rfl; have r1 := (HP.out.later HB.out).cell 1 rfl; have r2 := (HP.out.later HB.out).cell 2 rfl))
  go_ret
  exact ⟨rfl, HW1.out.trans (HB.out.mono HW1.out.size)⟩

set_option maxHeartbeats 4000000 in
theorem rfr_no2 (v : FlatV) (f : FlatM) (B : Nat) (A A2 : Option Addr) (m c m2 c2 : Nat) (S : Int) (o sl : List Int) (w : World) (h : FlatIs w B v f) (hB : B ≤ w.heap.size) (h1 : IRow w B A m c o) (h2 : IRow w B A2 m2 c2 sl) (hn : v.names.2.1 ≤ 1000000) (hg : goodB f = true) (ho : m ≠ v.names.2.1) :
    Calls Try.prog 14 #[flatV v, planV A m c A2 m2 c2 S] w  fun e w' => e = .returned (.bool false) ∧ Below w.heap.size w w' := by
  have hm1 := h1.len_le
  have hm2 := h2.len_le
  unfold maxLen at hm1 hm2
  obtain ⟨W1, hW1⟩ : ∃ W1, W1 = (w.alloc (.cells (fvs v) 29)).alloc (.cells #[.slice A m c, .slice A2 m2 c2, .int .i64 S] 32) := ⟨_, rfl⟩
  have hb1 : Below w.heap.size w W1 := by rw [hW1]; exact ((Below.refl _ _).alloc (Nat.le_refl _) _).alloc (by simp) _
  have hs1 : W1.heap.size = w.heap.size + 2 := by rw [hW1]; simp
  have HP := Lib.hid (show Blk W1 (w.heap.size + 1) 32 #[.slice A m c, .slice A2 m2 c2, .int .i64 S] from by rw [hW1]; have := Blk.new (w.alloc (.cells (fvs v) 29)) 32 #[.slice A m c, .slice A2 m2 c2, .int .i64 S]; rw [size_alloc] at this; exact this)
  have HK := Lib.hid (show Blk W1 w.heap.size 29 (fvs v) from by rw [hW1]; exact (Blk.new _ _ _).alloc _)
  have HB := Lib.hid (Below.refl W1.heap.size W1)
  have HW1 := Lib.hid hb1
  have HS1 : Hid (B ≤ W1.heap.size) := Lib.hid (by omega)
  have HS : Hid (W1.heap.size ≤ W1.heap.size) := Lib.hid (Nat.le_refl _)
  have HGC := Lib.hid (by have := refGood_t v f B W1 (h.below (hb1.mono hB)) HS1.out (by omega); rw [hg] at this; exact this : Calls Try.prog 10 #[flatV v] W1 fun e w' => e = .returned (.bool true) ∧ Below W1.heap.size W1 w')
  unfold flatV sl3 at HGC
  have hoI : ¬ (m : Int) = (v.names.2.1 : Int) := by omega
  clear h hB h1 h2 hg ho
  obtain ⟨f0, f1, f2, f3, f4, f5, f6, f7⟩ := HK.out.flat
  have r0 := HP.out.cell 0 rfl
  have r1 := HP.out.cell 1 rfl
  have r2 := HP.out.cell 2 rfl
  unfold flatV sl3 planV
  unfold fvs at hW1
  go_enter Try.func14, Try.ntmps14
  go_upto_region 1 with fail
  rw [← hW1]
  clear hW1
  go_wp2_with (first | (go_at_call 10; (with_reducible refine HGC.out.mono ?_); rintro e w1 ⟨rfl, hb1⟩; replace HB := Lib.hid (HB.out.trans (hb1.mono HB.out.size)); replace HS := Lib.hid (Nat.le_trans HS.out hb1.size); clear hb1; clear f0 f1 f2 f3 f4 f5 f6 f7 r0 r1 r2; obtain ⟨f0, f1, f2, f3, f4, f5, f6, f7⟩ := (HK.out.later HB.out).flat; have r0 := (HP.out.later HB.out).cell 0 rfl; have r1 := (HP.out.later HB.out).cell 1 rfl; have r2 := (HP.out.later HB.out).cell 2 rfl))
  go_ret
  exact ⟨rfl, HW1.out.trans (HB.out.mono HW1.out.size)⟩

set_option maxHeartbeats 4000000 in
theorem rfr_no3 (v : FlatV) (f : FlatM) (B : Nat) (A A2 : Option Addr) (m c m2 c2 : Nat) (S : Int) (o sl : List Int) (w : World) (h : FlatIs w B v f) (hB : B ≤ w.heap.size) (h1 : IRow w B A m c o) (h2 : IRow w B A2 m2 c2 sl) (hn : v.names.2.1 ≤ 1000000) (hg : goodB f = true) (ho : m = v.names.2.1) (ho2 : m2 ≠ v.names.2.1) :
    Calls Try.prog 14 #[flatV v, planV A m c A2 m2 c2 S] w  fun e w' => e = .returned (.bool false) ∧ Below w.heap.size w w' := by
  have hm1 := h1.len_le
  have hm2 := h2.len_le
  unfold maxLen at hm1 hm2
  obtain ⟨W1, hW1⟩ : ∃ W1, W1 = (w.alloc (.cells (fvs v) 29)).alloc (.cells #[.slice A m c, .slice A2 m2 c2, .int .i64 S] 32) := ⟨_, rfl⟩
  have hb1 : Below w.heap.size w W1 := by rw [hW1]; exact ((Below.refl _ _).alloc (Nat.le_refl _) _).alloc (by simp) _
  have hs1 : W1.heap.size = w.heap.size + 2 := by rw [hW1]; simp
  have HP := Lib.hid (show Blk W1 (w.heap.size + 1) 32 #[.slice A m c, .slice A2 m2 c2, .int .i64 S] from by rw [hW1]; have := Blk.new (w.alloc (.cells (fvs v) 29)) 32 #[.slice A m c, .slice A2 m2 c2, .int .i64 S]; rw [size_alloc] at this; exact this)
  have HK := Lib.hid (show Blk W1 w.heap.size 29 (fvs v) from by rw [hW1]; exact (Blk.new _ _ _).alloc _)
  have HB := Lib.hid (Below.refl W1.heap.size W1)
  have HW1 := Lib.hid hb1
  have HS1 : Hid (B ≤ W1.heap.size) := Lib.hid (by omega)
  have HS : Hid (W1.heap.size ≤ W1.heap.size) := Lib.hid (Nat.le_refl _)
  have HGC := Lib.hid (by have := refGood_t v f B W1 (h.below (hb1.mono hB)) HS1.out (by omega); rw [hg] at this; exact this : Calls Try.prog 10 #[flatV v] W1 fun e w' => e = .returned (.bool true) ∧ Below W1.heap.size W1 w')
  unfold flatV sl3 at HGC
  subst ho
  have hoI : ¬ (m2 : Int) = (v.names.2.1 : Int) := by omega
  clear h hB h1 h2 hg ho2
  obtain ⟨f0, f1, f2, f3, f4, f5, f6, f7⟩ := HK.out.flat
  have r0 := HP.out.cell 0 rfl
  have r1 := HP.out.cell 1 rfl
  have r2 := HP.out.cell 2 rfl
  unfold flatV sl3 planV
  unfold fvs at hW1
  go_enter Try.func14, Try.ntmps14
  go_upto_region 1 with fail
  rw [← hW1]
  clear hW1
  go_wp2_with (first | (go_at_call 10; (with_reducible refine HGC.out.mono ?_); rintro e w1 ⟨rfl, hb1⟩; replace HB := Lib.hid (HB.out.trans (hb1.mono HB.out.size)); replace HS := Lib.hid (Nat.le_trans HS.out hb1.size); clear hb1; clear f0 f1 f2 f3 f4 f5 f6 f7 r0 r1 r2; obtain ⟨f0, f1, f2, f3, f4, f5, f6, f7⟩ := (HK.out.later HB.out).flat; have r0 := (HP.out.later HB.out).cell 0 rfl; have r1 := (HP.out.later HB.out).cell 1 rfl; have r2 := (HP.out.later HB.out).cell 2 rfl))
  go_ret
  exact ⟨rfl, HW1.out.trans (HB.out.mono HW1.out.size)⟩

end Go.Proofs.Ytpcpbpinhdbjiaa
