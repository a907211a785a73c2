/- What the laws' few and same tell. -/
import Derived.Test.YtmoplgfmngohgaaGreatQE
import Derived.Test.YtmoplgfmngohgaaGreatQF
import Derived.Test.YtmoplgfmngohgaaGreatIC
import Derived.ProofKit
import Derived.OpenShut
import Derived.ShutString
import Derived.ChangeOld
namespace Go.Proofs.YtmoplgfmngohgaaGreat
set_option linter.unusedVariables false
set_option linter.unusedSimpArgs false
set_option maxRecDepth 100000
open Go.RowKit Nums

set_option maxHeartbeats 2000000 in
theorem rsameR_yes {s t : Bool} {a b a' b' : Option Addr} {n c m d n' c' m' d' : Nat} {xs ys us vs : List Nat} {w : World} (h0 : Row w a n c xs) (h1 : Row w b m d ys) (h2 : Row w a' n' c' us) (h3 : Row w b' m' d' vs) (hn : n ≤ 100) (hm : m ≤ 100) (hn' : n' ≤ 100) (hm' : m' ≤ 100) (hs : s = t) (hx : xs = us) (hy : ys = vs) :
    Calls Tryz.prog 10 #[.agg #[.bool s, .slice a n c, .slice b m d], .agg #[.bool t, .slice a' n' c', .slice b' m' d']] w fun e w' => e = .returned (.bool true) ∧ Below w.heap.size w w' := by
  subst hs
  subst hx
  subst hy
  have HB := Lib.hid (below_two w (.cells #[.bool s, .slice a n c, .slice b m d] 27) (.cells #[.bool s, .slice a' n' c', .slice b' m' d'] 27))
  have X0 : Hid (Tri ((w.alloc (.cells #[.bool s, .slice a n c, .slice b m d] 27)).alloc (.cells #[.bool s, .slice a' n' c', .slice b' m' d'] 27)) (w.heap.size) (.bool s) (.slice a n c) (.slice b m d)) := ((tri_new _ (.bool s) (.slice a n c) (.slice b m d)).alloc _)
  have X1 : Hid (Tri ((w.alloc (.cells #[.bool s, .slice a n c, .slice b m d] 27)).alloc (.cells #[.bool s, .slice a' n' c', .slice b' m' d'] 27)) (w.heap.size + 1) (.bool s) (.slice a' n' c') (.slice b' m' d')) := (tri_newE (by simp))
  have R0 := Lib.hid (h0.later HB.out); clear h0
  have R1 := Lib.hid (h1.later HB.out); clear h1
  have R2 := Lib.hid (h2.later HB.out); clear h2
  have R3 := Lib.hid (h3.later HB.out); clear h3
  go_enter Tryz.func10, Tryz.ntmps10
  go_wp2_with fail
  refine (rsame_yes s a a' n c n' c' xs _ R0.out R2.out (by omega)).mono ?_
  rintro e w1 ⟨rfl, hb⟩
  replace R0 := Lib.hid (R0.out.later hb)
  replace R1 := Lib.hid (R1.out.later hb)
  replace R2 := Lib.hid (R2.out.later hb)
  replace R3 := Lib.hid (R3.out.later hb)
  replace X0 := Lib.hid (X0.out.later hb)
  replace X1 := Lib.hid (X1.out.later hb)
  replace HB := Lib.hid (bthen HB.out hb)
  clear hb
  obtain ⟨kX00, kX01, kX02, -, -, -, -⟩ := X0.out
  obtain ⟨kX10, kX11, kX12, -, -, -, -⟩ := X1.out
  go_wp2_with fail
  refine (sameN R1.out R3.out rfl hm).mono ?_
  rintro e w2 ⟨rfl, hb⟩
  replace R0 := Lib.hid (R0.out.later hb)
  replace R1 := Lib.hid (R1.out.later hb)
  replace R2 := Lib.hid (R2.out.later hb)
  replace R3 := Lib.hid (R3.out.later hb)
  replace X0 := Lib.hid (X0.out.later hb)
  replace X1 := Lib.hid (X1.out.later hb)
  replace HB := Lib.hid (bthen HB.out hb)
  clear hb
  clear kX00 kX01 kX02 kX10 kX11 kX12
  go_wp2
  go_ret
  exact ⟨rfl, HB.out⟩

set_option maxHeartbeats 2000000 in
theorem rsameR_num {s t : Bool} {a b a' b' : Option Addr} {n c m d n' c' m' d' : Nat} {xs ys us vs : List Nat} {w : World} (h0 : Row w a n c xs) (h1 : Row w b m d ys) (h2 : Row w a' n' c' us) (h3 : Row w b' m' d' vs) (hn : n ≤ 100) (hm : m ≤ 100) (hn' : n' ≤ 100) (hm' : m' ≤ 100) (hs : s = t) (hx : xs ≠ us) :
    Calls Tryz.prog 10 #[.agg #[.bool s, .slice a n c, .slice b m d], .agg #[.bool t, .slice a' n' c', .slice b' m' d']] w fun e w' => e = .returned (.bool false) ∧ Below w.heap.size w w' := by
  subst hs
  have HB := Lib.hid (below_two w (.cells #[.bool s, .slice a n c, .slice b m d] 27) (.cells #[.bool s, .slice a' n' c', .slice b' m' d'] 27))
  have X0 : Hid (Tri ((w.alloc (.cells #[.bool s, .slice a n c, .slice b m d] 27)).alloc (.cells #[.bool s, .slice a' n' c', .slice b' m' d'] 27)) (w.heap.size) (.bool s) (.slice a n c) (.slice b m d)) := ((tri_new _ (.bool s) (.slice a n c) (.slice b m d)).alloc _)
  have X1 : Hid (Tri ((w.alloc (.cells #[.bool s, .slice a n c, .slice b m d] 27)).alloc (.cells #[.bool s, .slice a' n' c', .slice b' m' d'] 27)) (w.heap.size + 1) (.bool s) (.slice a' n' c') (.slice b' m' d')) := (tri_newE (by simp))
  have R0 := Lib.hid (h0.later HB.out); clear h0
  have R1 := Lib.hid (h1.later HB.out); clear h1
  have R2 := Lib.hid (h2.later HB.out); clear h2
  have R3 := Lib.hid (h3.later HB.out); clear h3
  have HX := Lib.hid hx; clear hx
  go_enter Tryz.func10, Tryz.ntmps10
  go_wp2_with fail
  refine (rsame_no s a a' n c n' c' xs us _ R0.out R2.out (by omega) (by omega) HX.out).mono ?_
  rintro e w1 ⟨rfl, hb⟩
  replace R0 := Lib.hid (R0.out.later hb)
  replace R1 := Lib.hid (R1.out.later hb)
  replace R2 := Lib.hid (R2.out.later hb)
  replace R3 := Lib.hid (R3.out.later hb)
  replace X0 := Lib.hid (X0.out.later hb)
  replace X1 := Lib.hid (X1.out.later hb)
  replace HB := Lib.hid (bthen HB.out hb)
  clear hb
  obtain ⟨kX00, kX01, kX02, -, -, -, -⟩ := X0.out
  obtain ⟨kX10, kX11, kX12, -, -, -, -⟩ := X1.out
  go_wp2
  go_ret
  exact ⟨rfl, HB.out⟩

set_option maxHeartbeats 2000000 in
theorem rsameR_off {s t : Bool} {a b a' b' : Option Addr} {n c m d n' c' m' d' : Nat} {xs ys us vs : List Nat} {w : World} (h0 : Row w a n c xs) (h1 : Row w b m d ys) (h2 : Row w a' n' c' us) (h3 : Row w b' m' d' vs) (hn : n ≤ 100) (hm : m ≤ 100) (hn' : n' ≤ 100) (hm' : m' ≤ 100) (hs : (s == t) = false) :
    Calls Tryz.prog 10 #[.agg #[.bool s, .slice a n c, .slice b m d], .agg #[.bool t, .slice a' n' c', .slice b' m' d']] w fun e w' => e = .returned (.bool false) ∧ Below w.heap.size w w' := by
  have HB := Lib.hid (below_two w (.cells #[.bool s, .slice a n c, .slice b m d] 27) (.cells #[.bool t, .slice a' n' c', .slice b' m' d'] 27))
  have X0 : Hid (Tri ((w.alloc (.cells #[.bool s, .slice a n c, .slice b m d] 27)).alloc (.cells #[.bool t, .slice a' n' c', .slice b' m' d'] 27)) (w.heap.size) (.bool s) (.slice a n c) (.slice b m d)) := ((tri_new _ (.bool s) (.slice a n c) (.slice b m d)).alloc _)
  have X1 : Hid (Tri ((w.alloc (.cells #[.bool s, .slice a n c, .slice b m d] 27)).alloc (.cells #[.bool t, .slice a' n' c', .slice b' m' d'] 27)) (w.heap.size + 1) (.bool t) (.slice a' n' c') (.slice b' m' d')) := (tri_newE (by simp))
  have R0 := Lib.hid (h0.later HB.out); clear h0
  have R1 := Lib.hid (h1.later HB.out); clear h1
  have R2 := Lib.hid (h2.later HB.out); clear h2
  have R3 := Lib.hid (h3.later HB.out); clear h3
  go_enter Tryz.func10, Tryz.ntmps10
  go_wp2_with fail
  refine (rsame_off s t a a' n c n' c' _ hs).mono ?_
  rintro e w1 ⟨rfl, hb⟩
  replace R0 := Lib.hid (R0.out.later hb)
  replace R1 := Lib.hid (R1.out.later hb)
  replace R2 := Lib.hid (R2.out.later hb)
  replace R3 := Lib.hid (R3.out.later hb)
  replace X0 := Lib.hid (X0.out.later hb)
  replace X1 := Lib.hid (X1.out.later hb)
  replace HB := Lib.hid (bthen HB.out hb)
  clear hb
  obtain ⟨kX00, kX01, kX02, -, -, -, -⟩ := X0.out
  obtain ⟨kX10, kX11, kX12, -, -, -, -⟩ := X1.out
  go_wp2
  go_ret
  exact ⟨rfl, HB.out⟩

set_option maxHeartbeats 2000000 in
theorem rsameR_den {s t : Bool} {a b a' b' : Option Addr} {n c m d n' c' m' d' : Nat} {xs ys us vs : List Nat} {w : World} (h0 : Row w a n c xs) (h1 : Row w b m d ys) (h2 : Row w a' n' c' us) (h3 : Row w b' m' d' vs) (hn : n ≤ 100) (hm : m ≤ 100) (hn' : n' ≤ 100) (hm' : m' ≤ 100) (hs : s = t) (hx : xs = us) (hy : ys ≠ vs) :
    Calls Tryz.prog 10 #[.agg #[.bool s, .slice a n c, .slice b m d], .agg #[.bool t, .slice a' n' c', .slice b' m' d']] w fun e w' => e = .returned (.bool false) ∧ Below w.heap.size w w' := by
  subst hs
  subst hx
  have HB := Lib.hid (below_two w (.cells #[.bool s, .slice a n c, .slice b m d] 27) (.cells #[.bool s, .slice a' n' c', .slice b' m' d'] 27))
  have X0 : Hid (Tri ((w.alloc (.cells #[.bool s, .slice a n c, .slice b m d] 27)).alloc (.cells #[.bool s, .slice a' n' c', .slice b' m' d'] 27)) (w.heap.size) (.bool s) (.slice a n c) (.slice b m d)) := ((tri_new _ (.bool s) (.slice a n c) (.slice b m d)).alloc _)
  have X1 : Hid (Tri ((w.alloc (.cells #[.bool s, .slice a n c, .slice b m d] 27)).alloc (.cells #[.bool s, .slice a' n' c', .slice b' m' d'] 27)) (w.heap.size + 1) (.bool s) (.slice a' n' c') (.slice b' m' d')) := (tri_newE (by simp))
  have R0 := Lib.hid (h0.later HB.out); clear h0
  have R1 := Lib.hid (h1.later HB.out); clear h1
  have R2 := Lib.hid (h2.later HB.out); clear h2
  have R3 := Lib.hid (h3.later HB.out); clear h3
  have HY := Lib.hid hy; clear hy
  go_enter Tryz.func10, Tryz.ntmps10
  go_wp2_with fail
  refine (rsame_yes s a a' n c n' c' xs _ R0.out R2.out (by omega)).mono ?_
  rintro e w1 ⟨rfl, hb⟩
  replace R0 := Lib.hid (R0.out.later hb)
  replace R1 := Lib.hid (R1.out.later hb)
  replace R2 := Lib.hid (R2.out.later hb)
  replace R3 := Lib.hid (R3.out.later hb)
  replace X0 := Lib.hid (X0.out.later hb)
  replace X1 := Lib.hid (X1.out.later hb)
  replace HB := Lib.hid (bthen HB.out hb)
  clear hb
  obtain ⟨kX00, kX01, kX02, -, -, -, -⟩ := X0.out
  obtain ⟨kX10, kX11, kX12, -, -, -, -⟩ := X1.out
  go_wp2_with fail
  refine (same_not b b' m d m' d' ys vs _ R1.out R3.out (by omega) (by omega) HY.out).mono ?_
  rintro e w2 ⟨rfl, hb⟩
  replace R0 := Lib.hid (R0.out.later hb)
  replace R1 := Lib.hid (R1.out.later hb)
  replace R2 := Lib.hid (R2.out.later hb)
  replace R3 := Lib.hid (R3.out.later hb)
  replace X0 := Lib.hid (X0.out.later hb)
  replace X1 := Lib.hid (X1.out.later hb)
  replace HB := Lib.hid (bthen HB.out hb)
  clear hb
  clear kX00 kX01 kX02 kX10 kX11 kX12
  go_wp2
  go_ret
  exact ⟨rfl, HB.out⟩

section
variable {a b a' b' : Option Addr} {n c m d n' c' m' d' : Nat} {w : World} {p q : Rat}
end

end Go.Proofs.YtmoplgfmngohgaaGreat
/- What Parse tells of a text of parts; the examples. -/
namespace Go.Proofs.YtmoplgfmngohgaaGreat
set_option linter.unusedVariables false
set_option linter.unusedSimpArgs false
set_option maxRecDepth 100000
open Go.RowKit Nums

theorem digs_len {u : ByteArray} {k : Nat} (hd : allDig u) (hk : 0 < k) (hl : u.size ≤ 6 * k) : (limbs (numOf u.data.toList)).length ≤ k := len_numOf u k hd hk hl

theorem digs_pow {u : ByteArray} (hd : allDig u) : numOf u.data.toList < 10 ^ u.size := by
  have := numOf_lt _ (digs_list u hd)
  rwa [← Lib.size_eq u] at this

theorem num32 : (mkRat 3 2).num = 3 ∧ (mkRat 3 2).den = 2 := by decide +kernel
theorem numM32 : (mkRat (-3) 2).num = -3 ∧ (mkRat (-3) 2).den = 2 := by decide +kernel
theorem floorM32 : (mkRat (-3) 2).floor = -2 := by decide +kernel
theorem str32 : ratStr (mkRat 3 2) = ⟨#[51, 47, 50]⟩ := by
  rw [ratStr, if_neg (by rw [num32.2]; decide), num32.1, num32.2, decI, if_neg (by decide), show (3 : Int).natAbs = 3 from rfl, dec_digit 3 51 (by omega) (by omega) rfl, dec_digit 2 50 (by omega) (by omega) rfl]; rfl
theorem strM32 : ratStr (mkRat (-3) 2) = ⟨#[45, 51, 47, 50]⟩ := by
  rw [ratStr, if_neg (by rw [numM32.2]; decide), numM32.1, numM32.2, decI, if_pos (by decide), show (-3 : Int).natAbs = 3 from rfl, dec_digit 3 51 (by omega) (by omega) rfl, dec_digit 2 50 (by omega) (by omega) rfl]; rfl
theorem decI_m2 : decI (-2) = ⟨#[45, 50]⟩ := by
  rw [decI, if_pos (by decide), show (-2 : Int).natAbs = 2 from rfl, dec_digit 2 50 (by omega) (by omega) rfl]; rfl

end Go.Proofs.YtmoplgfmngohgaaGreat
/- What is printed is parsed. -/
namespace Go.Proofs.YtmoplgfmngohgaaGreat
set_option linter.unusedVariables false
set_option linter.unusedSimpArgs false
set_option maxRecDepth 100000
open Go.RowKit Nums

theorem dig_not {t : ByteArray} {c : UInt8} (hd : allDig t) (hc : c = 47 ∨ c = 46) : c ∉ t.data.toList := by
  intro h
  have h2 := digs_list t hd c h
  rcases hc with rfl | rfl
  · exact absurd h2.1 (by decide)
  · exact absurd h2.1 (by decide)

theorem decI_not (Z : Int) {c : UInt8} (hc : c = 47 ∨ c = 46) : c ∉ (decI Z).data.toList := by
  unfold decI
  split
  · rw [ByteArray.data_append, Array.toList_append]
    intro h
    rcases List.mem_append.1 h with h | h
    · have : c = 45 := by simpa using h
      rcases hc with rfl | rfl <;> exact absurd this (by decide)
    · exact dig_not (allDig_dec _) hc h
  · exact dig_not (allDig_dec _) hc

theorem floor_eq {q : Rat} (h : q.den = 1) : ((q.floor : Int) : Rat) = q := by
  have e : ((q.num : Int) : Rat) = q := Rat.ext (by rw [Rat.num_intCast]) (by rw [Rat.den_intCast, h])
  rw [← e, Rat.floor_intCast]
theorem floor_lt {q : Rat} (h : q.den ≠ 1) : ((q.floor : Int) : Rat) < q := by
  refine Rat.lt_iff_le_and_ne.2 ⟨Rat.floor_le q, fun e => h ?_⟩
  rw [← e, Rat.den_intCast]

theorem one_raw (F : Int) : mkRat (sv (decide (F < 0)) (val (limbs F.natAbs))) (val (limbs 1)) = (F : Rat) := by
  rw [sv_limbs, val_limbs, Rat.mkRat_one]

theorem cell_new (w : World) (vs : Array Value) (T i : Nat) : (w.alloc (.cells vs T)).cell? ⟨w.heap.size, i, none⟩ = vs[i]? := by
  have h := cell_of_row (w.alloc (.cells vs T)) w.heap.size i vs T (0, 0) (heap_alloc_new w (.cells vs T))
  exact h

end Go.Proofs.YtmoplgfmngohgaaGreat
/- A number that came in: a side and two rows. -/
namespace Go.Proofs.YtmoplgfmngohgaaGreat
set_option linter.unusedVariables false
set_option linter.unusedSimpArgs false
set_option maxRecDepth 100000
open Go.ChangeShapes Go.WideShapes Go.ChangeAt Go.RowKit Nums Go.Joins

theorem rat_of_trod {H : Type} {enc : TypeId × Value → H} {r : Reach} {b0 : Nat} {W : World} {v : Value} {d : DataW H} {p : List MemPlace} {base : Nat}
    (hv : Value.okWide Tryz.prog W r b0 27 v) (h : DataW.Trod enc Tryz.prog W base (fun _ => true) true 27 v d p) : ∃ s a n c b m e xs ys, v = .agg #[.bool s, .slice a n c, .slice b m e] ∧ Row W a n c xs ∧ Row W b m e ys := by
  obtain ⟨cs, rfl, hsz⟩ := okWide_struct Tryz.underlying27 hv
  have e3 : Tryz.prog.cellsOf 27 = 3 := by kernel_rfl
  have e2 : Tryz.prog.cellsOf 25 = 2 := by kernel_rfl
  have e1 : Tryz.prog.cellsOf 23 = 1 := by kernel_rfl
  have e0 : Tryz.prog.cellsOf 4 = 1 := by kernel_rfl
  obtain ⟨c0, c1, c2, rfl⟩ := array3 (hsz.trans e3)
  obtain ⟨fuel, hf⟩ := h
  obtain ⟨y0, y1, n, hx, _, h0, h1⟩ := trod_struct2 Tryz.underlying27 hf
  have h0' : DataW.trod enc Tryz.prog W base (fun _ => true) true n 25 [c0, c1] = some y0 := by simpa [Value.cells, e2] using h0
  have h1' : DataW.trod enc Tryz.prog W base (fun _ => true) true n 23 [c2] = some y1 := by simpa [Value.cells, e1] using h1
  obtain ⟨z0, z1, n', hx', _, h00, h01⟩ := trod_struct2 Tryz.underlying25 h0'
  have h00' : DataW.trod enc Tryz.prog W base (fun _ => true) true n' 4 [c0] = some z0 := by simpa [e0] using h00
  have h01' : DataW.trod enc Tryz.prog W base (fun _ => true) true n' 23 [c1] = some z1 := by simpa [e1] using h01
  obtain ⟨s, hs, -⟩ := DataW.trod_bool Tryz.underlying4 h00'
  obtain rfl : c0 = .bool s := by simpa using hs
  have hrow : ∀ {k : Nat} {c : Value} {y : DataW H × List MemPlace}, DataW.trod enc Tryz.prog W base (fun _ => true) true k 23 [c] = some y → ∃ a n m zs, c = .slice a n m ∧ IsRow .u32 W a n m zs := by
    intro k c y hy
    rcases open_ints Tryz.underlying23 Tryz.underlying62 (by kernel_rfl) hy with ⟨hcs, _⟩ | ⟨x, l, m, zs, hcs, _, hl, hm, hz, _, hcell, hwz⟩
    · exact ⟨none, 0, 0, [], by simpa using hcs, .inl ⟨rfl, rfl, rfl, rfl⟩⟩
    · exact ⟨some x, l, m, zs, by simpa using hcs, .inr ⟨_, rfl, hl, hm, by simpa using hz, hcell, hwz⟩⟩
  obtain ⟨a, n1, c', zs, rfl, hr⟩ := hrow h01'
  obtain ⟨b, m1, e', zs', rfl, hr'⟩ := hrow h1'
  obtain ⟨xs, hx1⟩ := row_of_isrow hr
  obtain ⟨ys, hy1⟩ := row_of_isrow hr'
  exact ⟨s, a, n1, c', b, m1, e', xs, ys, rfl, hx1, hy1⟩

end Go.Proofs.YtmoplgfmngohgaaGreat
