/- What slices.Grow of no row, and slices.Concat, tell. No condition but bounds. · What the library tells of a row of one s own: DeleteFunc, Sort, Compact. No condition but bounds. -/
import Derived.Test.YtanbekbalfbkcaaZNdAToNdC
import Derived.Test.YtanbekbalfbkcaaZGrAToGrF
import Derived.Test.YtanbekbalfbkcaaZShl
import Derived.Test.YtanbekbalfbkcaaZHpMToHpK
import Derived.Sort.OwnSortedInts
namespace Go.Proofs.Ytanbekbalfbkcaa
set_option linter.unusedVariables false
set_option linter.unusedSimpArgs false
set_option maxRecDepth 100000
open Go.RowKit Go.Lib

/-- the rows, one behind the other -/
def catTo (G : List (List Int)) (k : Nat) : List Int := (G.take k).flatten
theorem catTo_succ (G : List (List Int)) (k : Nat) (h : k < G.length) : catTo G (k + 1) = catTo G k ++ G.getD k [] := by
  unfold catTo
  rw [List.take_succ_eq_append_getElem h, List.flatten_append]
  congr 1
  simp [h]
theorem catTo_len (G : List (List Int)) (k : Nat) : (catTo G k).length = Gr.tot (G.take k) := by
  unfold catTo Gr.tot
  rw [List.length_flatten]
theorem catTo_all (G : List (List Int)) : catTo G G.length = G.flatten := by unfold catTo; rw [List.take_length]
theorem tot_take_mono (G : List (List Int)) (k : Nat) : Gr.tot (G.take k) ≤ Gr.tot G := by
  unfold Gr.tot
  induction G generalizing k with
  | nil => simp
  | cons r G ih => cases k with
    | zero => simp
    | succ k => simp only [List.take_succ_cons, List.map_cons, List.sum_cons]; have := ih k; omega
/-- what slices.Grow of no row tells: a new row of nothing -/
def GrowPost (w : World) (e : Ending) (w' : World) : Prop := ∃ v, e = .returned v ∧ Own w' w.heap.size v [] ∧ Below w.heap.size w w'
theorem grow_t (n : Nat) (w : World) (h0 : 0 < n) (hn : n ≤ 1000000) : Calls Try.prog 64 #[.slice none 0 0, .int .i64 (n : Int)] w (GrowPost w) := by
  obtain ⟨i0, hi, hz0, hz1, hz2⟩ := info_parts Try.info3
  have h := Any8.slices_Grow_grow Try.growI i0 (.int .i64 0) hi hz0 (by rw [hz1]; decide) none 0 0 n [] w (Nat.le_refl _) (by omega) (by rw [hz2]; omega) (by omega) (by simp) (fun _ => rfl) (fun a h => by cases h)
  refine Calls.mono h ?_
  rintro e w' ⟨rfl, rfl⟩
  have hge : 0 + n ≤ grownCap w (0 + n) 0 3 := grownCap_ge w (0 + n) 0 3
  have hle : grownCap w (0 + n) 0 3 ≤ maxLen := grownCap_le_maxLen w (0 + n) 0 3 (by unfold maxLen; omega)
  have key : ∀ c : Nat, 0 + n ≤ c → c ≤ maxLen → GrowPost w (.returned (.slice (some ⟨w.heap.size, 0, none⟩) 0 c)) (w.drew.alloc (.cells (#[] ++ Builtin.zeroCells (Value.int .i64 0).cells (0 + n - 0) ++ Builtin.zeroCells (Value.int .i64 0).cells (c - (0 + n))) 3)) := fun c h1 h2 =>
    ⟨_, rfl, ⟨rfl, .inr ⟨w.heap.size, c, (#[] ++ Builtin.zeroCells (Value.int .i64 0).cells (0 + n - 0) ++ Builtin.zeroCells (Value.int .i64 0).cells (c - (0 + n))), rfl, Nat.le_refl _, heap_alloc_new w.drew _, Nat.zero_le _, h2, by simp [Builtin.zeroCells, Value.cells]; omega, rfl⟩⟩, (Below.refl w.heap.size w).drew.alloc (Nat.le_refl _) _⟩
  exact key _ hge hle

def CatPost (G : List (List Int)) (w : World) (e : Ending) (w' : World) : Prop := ∃ v, e = .returned v ∧ Own w' w.heap.size v G.flatten ∧ Below w.heap.size w w'
set_option maxHeartbeats 1000000 in
theorem concat_t (a : Option Addr) (n c B : Nat) (G : List (List Int)) (w : World) (hg : GRow w B a n c G) (hB : B ≤ w.heap.size) (h0 : 0 < Gr.tot G) (ht : Gr.tot G ≤ 1000000) :
    Calls Try.prog 58 #[.slice a n c] w (CatPost G w) := by
  have HL : Hid (G.length = n) := hg.1
  have hm := hg.len_le
  unfold maxLen at hm
  have HG := Lib.hid hg; clear hg
  have HT := Lib.hid (And.intro h0 ht); clear h0 ht
  have HM := Lib.hid (fun k => tot_take_mono G k)
  go_enter Try.func58, Try.ntmps58
  go_wp2
  go_loop [3, 11] (fun s t => ∃ k : Nat, k ≤ n ∧ s = .int .i64 (Gr.tot (G.take k) : Nat) ∧ t = .int .i64 k) (fun _ t => n - (intOf t).toNat)
  case atStart => exact ⟨0, Nat.zero_le _, by simp [Gr.tot], rfl⟩
  case round =>
    obtain ⟨k, hk, rfl, rfl⟩ := hrel
    have htk := HM.out k
    have ht1 := HT.out.2
    obtain ⟨S, hS⟩ : ∃ S, S = Gr.tot (G.take k) := ⟨_, rfl⟩
    rw [← hS] at htk ⊢
    have HS := Lib.hid hS; clear hS
    by_cases hlt : k < n
    · obtain ⟨b, off, A, L, C, rfl, hb, hcell, hrow⟩ := HG.out.at_ hlt
      have HR : Hid ((G.getD k []).length = L) := hrow.1
      have HN : Hid (Gr.tot (G.take (k + 1)) = S + L) := Lib.hid (by rw [HS.out, ← HR.out]; exact Gr.tot_take_succ G k (by rw [HL.out]; exact hlt))
      have hL : L ≤ Gr.tot G := by rw [← HR.out]; exact Gr.row_le_tot G k
      obtain ⟨T, hT⟩ : ∃ T, T = Gr.tot G := ⟨_, rfl⟩
      rw [← hT] at htk ht1 hL
      clear hT hrow
      go_wp2
      go_round
      case rel => exact ⟨k + 1, by omega, by rw [HN.out]; go_num, by go_num⟩
      case measure => simp [intOf]; omega
    · obtain rfl : k = n := by omega
      have HS2 : Hid (S = Gr.tot G) := Lib.hid (by rw [HS.out, ← HL.out, List.take_length])
      obtain ⟨T, hT⟩ : ∃ T, T = Gr.tot G := ⟨_, rfl⟩
      rw [← hT] at htk ht1 HS2
      have hST : S = T := HS2.out
      subst hST
      have hpos : 0 < S := by rw [hT]; exact HT.out.1
      have HTT := Lib.hid hT; clear hT htk HS HS2
      go_wp2_with (go_at_call 64; refine (grow_t S w hpos ht1).mono ?_; rintro e w1 ⟨v1, rfl, hown, hb1⟩)
      have HO1 := Lib.hid hown; clear hown
      have HB1 := Lib.hid hb1; clear hb1
      have HBL := Lib.hid hB
      go_loopw [6, 27] (fun s t wr => ∃ j : Nat, j ≤ k ∧ t = .int .i64 j ∧ Hid (Own wr w.heap.size s (catTo G j)) ∧ Hid (Below w.heap.size w wr)) (fun _ t _ => k - (intOf t).toNat)
      case atStart => exact ⟨0, Nat.zero_le _, rfl, HO1, HB1⟩
      case round =>
        obtain ⟨j, hj, rfl, hO, hbr⟩ := hrel
        by_cases hlt2 : j < k
        · obtain ⟨b, off, A, L, C, rfl, hb, hcell, hrow⟩ := (HG.out.below (hbr.out.mono hB)).at_ hlt2
          have HR := Lib.hid hrow
          have hL1 : L ≤ 1000000 := by rw [← hrow.1]; have := Gr.row_le_tot G j; have := HT.out.2; omega
          have HLE : Hid ((catTo G j).length ≤ 1000000) := Lib.hid (by rw [catTo_len]; have := HM.out j; have := HT.out.2; omega)
          have HN : Hid (catTo G (j + 1) = catTo G j ++ G.getD j []) := Lib.hid (catTo_succ G j (by rw [HL.out]; exact hlt2))
          have HSZ := Lib.hid hbr.out.size
          clear hrow
          go_wp2_with (at_builtin; refine appendR rfl _ _ 23 Try.underlying23 rfl w.heap.size B u6 (catTo G j) A L C (G.getD j []) rfl rfl hO.out HR.out HSZ.out (by have := HLE.out; omega) hL1 ?_; intro v2 w2 hown2 honly2 hat2)
          have HO2 := Lib.hid hown2
          have HB2 := Lib.hid (hbr.out.trans (honly2.own hO.out HSZ.out))
          clear hown2 honly2 hat2
          go_wp2
          go_roundw
          case rel => exact ⟨j + 1, by omega, by go_num, by rw [HN.out]; exact HO2, HB2⟩
          case measure => simp [intOf]; omega
        · obtain rfl : j = k := by omega
          go_wp2
          go_ret
          exact ⟨_, rfl, by rw [← catTo_all, HL.out]; exact hO.out, hbr.out⟩

end Go.Proofs.Ytanbekbalfbkcaa

namespace Go.Proofs.Ytanbekbalfbkcaa
set_option linter.unusedVariables false
set_option linter.unusedSimpArgs false
set_option maxRecDepth 100000
open Go.RowKit Go.Lib Go.Sort Go.Shelf

/-- what the library lays back into a row of the call's own -/
theorem own_put {w : World} {B g n c q : Nat} {os : Array Obj} {xs ys : List Int} (h : Own w B (.slice (some ⟨g, 0, none⟩) n c) xs) (hl : ys.length = xs.length) :
    Own (grow (putRow (Value.int .i64) (Sort.ahead w q) g 0 ys.toArray) os) B (.slice (some ⟨g, 0, none⟩) n c) ys ∧ Only [some g] w (grow (putRow (Value.int .i64) (Sort.ahead w q) g 0 ys.toArray) os) := by
  rcases h.2 with ⟨h0, _⟩ | ⟨g', cap, cur, h0, hb, hg, hnc, hcm, hsz, htk⟩
  · cases h0
  · injection h0 with h1 h2 h3
    injection h1 with h1
    injection h1 with h1
    subst h1 h2 h3
    refine ⟨?_, Only.of_grown (grownBy_sortedI ys.toArray) (Or.inl (by simp))⟩
    have := ownsRow_sortedI (w := w) (n := q) (os := os) (ts := ys) hl hb hg hnc hcm hsz
    unfold Own
    rw [← hl] at this ⊢
    exact this
theorem own_holds {w : World} {B g n c : Nat} {xs : List Int} (h : Own w B (.slice (some ⟨g, 0, none⟩) n c) xs) : Holds (Value.int .i64) w g 0 xs.toArray ∧ g < w.heap.size ∧ n = xs.length ∧ xs.length ≤ c := by
  rcases h.2 with ⟨h0, _⟩ | ⟨g', cap, cur, h0, hb, hg, hnc, hcm, hsz, htk⟩
  · cases h0
  · injection h0 with h1 h2 h3
    injection h1 with h1
    injection h1 with h1
    subst h1 h2 h3
    exact ⟨holds_of_blockI hg (by simpa using htk), (Array.getElem?_eq_some_iff.1 hg).1, rfl, hnc⟩

theorem neg_gives (x : Int) (W : World) : FnGives Try.prog 60 #[] #[.int .i64 x] (.bool (decide (x < 0))) W := by
  show Calls Try.prog 60 #[.int .i64 x] W _
  go_enter Try.func60, Try.ntmps60
  go_wp2
  all_goals (go_ret; exact ⟨by simp_all, 0, rfl⟩)
/-- the row after one of the library's functions: l, cut from the same block -/
def CutPost (B g : Nat) (l : List Int) (w : World) (e : Ending) (w' : World) : Prop := ∃ n c, e = .returned (.slice (some ⟨g, 0, none⟩) n c) ∧ Own w' B (.slice (some ⟨g, 0, none⟩) n c) l ∧ Only [some g] w w'
theorem del_t (B g n c : Nat) (xs : List Int) (w : World) (h : Own w B (.slice (some ⟨g, 0, none⟩) n c) xs) (hl : xs.length ≤ 1000000) :
    Calls Try.prog 59 #[.slice (some ⟨g, 0, none⟩) n c, .func (.func 60) #[] #[]] w (CutPost B g (xs.filter fun x => !decide (x < 0)) w) := by
  obtain ⟨hH, hg, hn, hc⟩ := own_holds h
  subst hn
  have eg : ∀ args w, (callFunc 60 args).run Try.prog w = .ok (.enter 60 args) w := enters_of Try.func60 (by kernel_rfl) rfl
  have hcon := Try.slices_DeleteFunc (Value.int .i64) (fun _ => rfl) (fun x => decide (x < 0)) 60 #[] eg 0 Try.zeroValue3 g 0 c xs.toArray w (fun W x _ => neg_gives x W) (fun n os dk x _ => neg_gives x _) hH (by simp; omega) (by simpa using hc)
  rw [show xs.toArray.size = xs.length by simp] at hcon
  refine hcon.mono ?_
  rintro e w' ⟨rfl, q, rfl⟩
  have hll : (xs.filter fun x => !decide (x < 0)).length ≤ xs.length := List.length_filter_le _ _
  obtain ⟨h1, h2⟩ := own_put (q := q) (os := #[]) (ys := (xs.filter fun x => !decide (x < 0)) ++ List.replicate (xs.length - (xs.filter fun x => !decide (x < 0)).length) 0) h (by simp; omega)
  rw [grow_empty] at h1 h2
  refine ⟨_, _, rfl, ?_, h2⟩
  have := Own.cut h1 (xs.filter fun x => !decide (x < 0)).length hll
  rw [List.take_left' rfl] at this
  exact this
theorem sort_t (B g n c : Nat) (xs : List Int) (w : World) (h : Own w B (.slice (some ⟨g, 0, none⟩) n c) xs) (hl : xs.length ≤ 1000000) :
    Calls Try.prog 61 #[.slice (some ⟨g, 0, none⟩) n c] w fun e w' => e = .returned (.tuple #[]) ∧ Own w' B (.slice (some ⟨g, 0, none⟩) n c) (xs.mergeSort fun x y => decide (x ≤ y)) ∧ Only [some g] w w' := by
  obtain ⟨hH, hg, hn, hc⟩ := own_holds h
  subst hn
  refine (Try.slices_Sort_int g 0 c xs w hH hg (by omega)).mono ?_
  rintro e w' ⟨rfl, q, os, rfl⟩
  obtain ⟨h1, h2⟩ := own_put (q := q) (os := os) (ys := xs.mergeSort fun x y => decide (x ≤ y)) h (by simp)
  exact ⟨rfl, h1, h2⟩
theorem compact_t (B g n c : Nat) (xs : List Int) (w : World) (h : Own w B (.slice (some ⟨g, 0, none⟩) n c) xs) (hl : xs.length ≤ 1000000) (hcl : (Lib.compact xs).length ≤ xs.length) :
    Calls Try.prog 62 #[.slice (some ⟨g, 0, none⟩) n c] w (CutPost B g (Lib.compact xs) w) := by
  obtain ⟨hH, hg, hn, hc⟩ := own_holds h
  subst hn
  refine (Try.slices_Compact_int g 0 c xs w hH (by omega) hc).mono ?_
  rintro e w' ⟨rfl, q, rfl⟩
  obtain ⟨h1, h2⟩ := own_put (q := q) (os := #[]) (ys := Lib.compact xs ++ List.replicate (xs.length - (Lib.compact xs).length) 0) h (by simp; omega)
  rw [grow_empty] at h1 h2
  refine ⟨_, _, rfl, ?_, h2⟩
  have := Own.cut h1 (Lib.compact xs).length hcl
  rw [List.take_left' rfl] at this
  exact this

/-- what lies in a compacted row -/
theorem mem_compact (xs : List Int) (x : Int) : x ∈ Lib.compact xs ↔ x ∈ xs := by
  unfold Lib.compact Lib.compactUpTo
  rw [List.mem_map]
  have key : ∀ j, j < xs.length → ∃ i, i ≤ j ∧ Lib.keeps xs.toArray i = true ∧ xs.toArray[i]! = xs.toArray[j]! := by
    intro j
    induction j with
    | zero => intro _; exact ⟨0, Nat.le_refl _, by simp [Lib.keeps], rfl⟩
    | succ j ih =>
      intro hj
      by_cases e : xs.toArray[j + 1]! = xs.toArray[j]!
      · obtain ⟨i, h1, h2, h3⟩ := ih (by omega)
        exact ⟨i, by omega, h2, h3.trans e.symm⟩
      · exact ⟨j + 1, Nat.le_refl _, by simp [Lib.keeps]; simpa using e, rfl⟩
  constructor
  · rintro ⟨i, hi, rfl⟩
    have h1 := List.mem_range.1 (List.mem_filter.1 hi).1
    simp [h1]
  · intro hx
    obtain ⟨j, hj, rfl⟩ := List.mem_iff_getElem.1 hx
    obtain ⟨i, h1, h2, h3⟩ := key j hj
    refine ⟨i, List.mem_filter.2 ⟨List.mem_range.2 (by omega), h2⟩, ?_⟩
    rw [h3]; simp [hj]
theorem compact_len (xs : List Int) : (Lib.compact xs).length ≤ xs.length := by
  unfold Lib.compact Lib.compactUpTo
  rw [List.length_map]
  have := List.length_filter_le (Lib.keeps xs.toArray) (List.range xs.length)
  simpa using this
/-- sorted, each once: what it needs -/
def tidyL (xs : List Int) : List Int := Lib.compact ((xs.filter fun x => !decide (x < 0)).mergeSort fun x y => decide (x ≤ y))
theorem mem_tidy (xs : List Int) (x : Int) : x ∈ tidyL xs ↔ x ∈ xs ∧ 0 ≤ x := by
  unfold tidyL
  rw [mem_compact, List.mem_mergeSort, List.mem_filter]
  simp
theorem tidy_len (xs : List Int) : (tidyL xs).length ≤ xs.length := by
  unfold tidyL
  refine Nat.le_trans (compact_len _) ?_
  rw [List.length_mergeSort]
  exact List.length_filter_le _ _

end Go.Proofs.Ytanbekbalfbkcaa
