/- Rows of lines; few. -/
import Derived.Test.YtmoplgfmngohgaaGreatSvB
import Derived.Deep.DeepCutAuto
namespace Go.Proofs.YtmoplgfmngohgaaGreat
set_option linter.unusedVariables false
set_option linter.unusedSimpArgs false
set_option maxRecDepth 100000
open Go.RowKit Nums

/-- a line: its parts, and the two numbers that they tell -/
structure LM where
  on : Bool
  v : RV
  z : RV
  p : Rat
  q : Rat
/-- a line that lies in memory -/
structure LAt (w : World) (b o : Nat) (x : LM) : Prop where
  c0 : w.cell? ⟨b, o, none⟩ = some (.bool x.on)
  c1 : w.cell? ⟨b, o + 1, none⟩ = some (.bool x.v.s)
  c2 : w.cell? ⟨b, o + 2, none⟩ = some (.slice x.v.a x.v.n x.v.c)
  c3 : w.cell? ⟨b, o + 3, none⟩ = some (.slice x.v.b x.v.m x.v.d)
  c4 : w.cell? ⟨b, o + 4, none⟩ = some (.bool x.z.s)
  c5 : w.cell? ⟨b, o + 5, none⟩ = some (.slice x.z.a x.z.n x.z.c)
  c6 : w.cell? ⟨b, o + 6, none⟩ = some (.slice x.z.b x.z.m x.z.d)
  v : x.v.Is x.v.n x.v.m x.p w
  z : x.z.Is x.z.n x.z.m x.q w
theorem LAt.later {w w' : World} {b o : Nat} {x : LM} (h : LAt w b o x) (hl : b < w.heap.size) (hb : Below w.heap.size w w') : LAt w' b o x :=
  ⟨(hb.cell (p := ⟨b, o, none⟩) hl).trans h.c0, (hb.cell (p := ⟨b, o + 1, none⟩) hl).trans h.c1, (hb.cell (p := ⟨b, o + 2, none⟩) hl).trans h.c2, (hb.cell (p := ⟨b, o + 3, none⟩) hl).trans h.c3, (hb.cell (p := ⟨b, o + 4, none⟩) hl).trans h.c4, (hb.cell (p := ⟨b, o + 5, none⟩) hl).trans h.c5, (hb.cell (p := ⟨b, o + 6, none⟩) hl).trans h.c6, h.v.later hb, h.z.later hb⟩
/-- a row of lines -/
def LRow (w : World) (a : Option Addr) (n c : Nat) (L : List LM) : Prop :=
  L.length = n ∧ n ≤ c ∧ c ≤ maxLen ∧ ∃ b off, (a = some ⟨b, off, none⟩ ∨ n ≤ 0) ∧ ∀ i x, L[i]? = some x → b < w.heap.size ∧ LAt w b (off + i * 7) x
theorem LRow.later {w w' : World} {a : Option Addr} {n c : Nat} {L : List LM} (h : LRow w a n c L) (hb : Below w.heap.size w w') : LRow w' a n c L := by
  obtain ⟨h1, h2, h3, b, off, h4, h5⟩ := h
  exact ⟨h1, h2, h3, b, off, h4, fun i x hx => ⟨Nat.lt_of_lt_of_le (h5 i x hx).1 hb.size, (h5 i x hx).2.later (h5 i x hx).1 hb⟩⟩
theorem LRow.at_ {w : World} {a : Option Addr} {n c : Nat} {L : List LM} (h : LRow w a n c L) {i : Nat} {x : LM} (hx : L[i]? = some x) : ∃ b off, a = some ⟨b, off, none⟩ ∧ b < w.heap.size ∧ LAt w b (off + i * 7) x := by
  obtain ⟨h1, h2, h3, b, off, h4, h5⟩ := h
  have hi : i < L.length := (List.getElem?_eq_some_iff.1 hx).1
  exact ⟨b, off, h4.resolve_right (by omega), h5 i x hx⟩

/-- short: no part of more than four limbs -/
def LM.Short (x : LM) : Prop := x.v.n ≤ 4 ∧ x.v.m ≤ 4 ∧ x.z.n ≤ 4 ∧ x.z.m ≤ 4
/-- a truth that, told, is so -/
def TellsIf (p : Prop) (w : World) (e : Ending) (w' : World) : Prop := (∃ b : Bool, e = .returned (.bool b) ∧ (b = true → p)) ∧ Below w.heap.size w w'

set_option maxHeartbeats 4000000 in
/-- few: told true, the lines are few and short -/
theorem few_t (a : Option Addr) (n c : Nat) (L : List LM) (w : World) (h : LRow w a n c L) : Calls Tryz.prog 4 #[.slice a n c] w (TellsIf (n ≤ 20 ∧ ∀ x ∈ L, x.Short) w) := by
  have hm : c ≤ maxLen := h.2.2.1
  have hnc := h.2.1
  have HL := Lib.hid h.1
  have HH := Lib.hid (fun (W : World) (hb : Below w.heap.size w W) => h.later hb)
  clear h
  unfold maxLen at hm
  by_cases t0 : n ≤ 20
  rotate_left
  · have t1 : (20 : Int) < (n : Int) := by omega
    go_enter Tryz.func4, Tryz.ntmps4
    go_wp2
    go_ret
    exact ⟨⟨false, rfl, fun h => by cases h⟩, Below.refl _ _⟩
  have t1 : (n : Int) ≤ 20 := by omega
  clear hm hnc
  go_enter Tryz.func4, Tryz.ntmps4
  go_wp2_with fail
  go_loopw [3] (fun t wr => ∃ k : Nat, k ≤ n ∧ t = .int .i64 k ∧ Hid (∀ (i : Nat) (x : LM), i < k → L[i]? = some x → x.Short) ∧ Hid (Below w.heap.size w wr)) (fun t _ => n - (intOf t).toNat)
  case atStart => exact ⟨0, Nat.zero_le _, rfl, Lib.hid (fun i d hi => by omega), Lib.hid (Below.refl _ _)⟩
  case round =>
    obtain ⟨k, hk, rfl, HO, HB⟩ := hrel
    by_cases hlt : k < n
    · obtain ⟨x, hx⟩ : ∃ x, L[k]? = some x := ⟨_, List.getElem?_eq_getElem (by rw [HL.out]; exact hlt)⟩
      obtain ⟨b, off, ha, hbB, hat⟩ := (HH.out _ HB.out).at_ hx
      have HX := Lib.hid hx
      have HAT := Lib.hid hat
      subst ha
      obtain ⟨c0, c1, c2, c3, c4, c5, c6, -, -⟩ := hat
      rw [show off + k * 7 + 2 = off + k * 7 + 1 + 1 from rfl] at c2
      rw [show off + k * 7 + 3 = off + k * 7 + 1 + 2 from rfl] at c3
      clear hx
      by_cases q1 : 4 < x.v.n ∨ 4 < x.v.m
      · have HD := Lib.hid (decide_eq_true q1)
        clear q1
        go_wp2_with (go_at_call 5; (with_reducible refine (long_t _ _).mono ?_); rintro e w1 ⟨rfl, hb1⟩; rw [HD.out]; have HB1 := Lib.hid (HB.out.trans (hb1.mono HB.out.size)); clear hb1)
        go_ret
        exact ⟨⟨false, rfl, fun h => by cases h⟩, HB1.out⟩
      have HD := Lib.hid (decide_eq_false q1)
      have HQ1 := Lib.hid q1
      by_cases q2 : 4 < x.z.n ∨ 4 < x.z.m
      · have HE := Lib.hid (decide_eq_true q2)
        clear q1 q2
        go_wp2_with (first
          | (have G1' := G1; go_at_call 5; (with_reducible refine (long_t x.z _).mono ?_); rintro e w1 ⟨rfl, hb1⟩; rw [HE.out]; have HB2 := Lib.hid (HB1.out.trans (hb1.mono HB1.out.size)); clear hb1)
          | (go_at_call 5; (with_reducible refine (long_t x.v _).mono ?_); rintro e w1 ⟨rfl, hb1⟩; rw [HD.out]; have HA1 := HAT.out.later hbB hb1; clear c0 c1 c2 c3 c4 c5 c6; obtain ⟨c0, c1, c2, c3, c4, c5, c6, -, -⟩ := HA1; rw [show off + k * 7 + 5 = off + k * 7 + 4 + 1 from rfl] at c5; rw [show off + k * 7 + 6 = off + k * 7 + 4 + 2 from rfl] at c6; have HB1 := Lib.hid (HB.out.trans (hb1.mono HB.out.size)); clear hb1; have G1 : Hid True := trivial))
        go_ret
        exact ⟨⟨false, rfl, fun h => by cases h⟩, HB2.out⟩
      have HE := Lib.hid (decide_eq_false q2)
      have HQ2 := Lib.hid q2
      clear q1 q2
      go_wp2_with (first
        | (have G1' := G1; go_at_call 5; (with_reducible refine (long_t x.z _).mono ?_); rintro e w1 ⟨rfl, hb1⟩; rw [HE.out]; have HB2 := Lib.hid (HB1.out.trans (hb1.mono HB1.out.size)); clear hb1)
        | (go_at_call 5; (with_reducible refine (long_t x.v _).mono ?_); rintro e w1 ⟨rfl, hb1⟩; rw [HD.out]; have HA1 := HAT.out.later hbB hb1; clear c0 c1 c2 c3 c4 c5 c6; obtain ⟨c0, c1, c2, c3, c4, c5, c6, -, -⟩ := HA1; rw [show off + k * 7 + 5 = off + k * 7 + 4 + 1 from rfl] at c5; rw [show off + k * 7 + 6 = off + k * 7 + 4 + 2 from rfl] at c6; have HB1 := Lib.hid (HB.out.trans (hb1.mono HB.out.size)); clear hb1; have G1 : Hid True := trivial))
      go_roundw
      case rel =>
        refine ⟨k + 1, by omega, by go_num, Lib.hid (fun i y hi hy => ?_), HB2⟩
        rcases Nat.lt_or_ge i k with q | q
        · exact HO.out i y q hy
        · obtain rfl : k = i := by omega
          rw [HX.out] at hy
          injection hy with hy
          subst hy
          have := HQ1.out; have := HQ2.out
          exact ⟨by omega, by omega, by omega, by omega⟩
      case measure => simp [intOf]; omega
    · obtain rfl : k = n := by omega
      go_wp2
      go_ret
      exact ⟨⟨true, rfl, fun _ => ⟨t0, fun d hd => by obtain ⟨i, hi, e⟩ := List.getElem_of_mem hd; exact HO.out i d (by rw [← HL.out]; exact hi) (by rw [List.getElem?_eq_getElem hi, e])⟩⟩, HB.out⟩

end Go.Proofs.YtmoplgfmngohgaaGreat
