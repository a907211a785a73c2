/- What awake tells: true. No condition. -/
import Derived.Test.YtkcgikoploohkaaGreatDoorNC
import Derived.Test.YtkcgikoploohkaaGreatDoorIC
namespace Go.Proofs.YtkcgikoploohkaaGreatDoor
set_option linter.unusedVariables false
set_option linter.unusedSimpArgs false
set_option maxRecDepth 100000
open Go.RowKit Nums

theorem limbs_one (x : Nat) (h0 : 0 < x) (h : x < 4294967296) : limbs x = [x] := by
  rw [limbs_pos (by omega), Nat.mod_eq_of_lt h, Nat.div_eq_of_lt h, limbs_zero]

theorem row_lit (w : World) (X : Int) (x : Nat) (hX : X = (x : Int)) (h0 : 0 < x) (h : x < 4294967296) : Row (w.alloc (.cells #[.int .u32 X] 89)) (some ⟨w.heap.size, 0, none⟩) 1 1 (limbs x) := by
  subst hX
  rw [limbs_one x h0 h]
  exact (mem_alloc w [x] _ rfl).row0 (by intro y hy; simp at hy; omega) 1 (by simp) (by unfold maxLen; omega)

theorem divides_one (A B : Nat) (hB : 0 < B) (hl : B < 4294967296) : Divides A B := by
  intro a0 a1 n0 n1 w h0 h1 hn0 hn1
  rcases Nat.lt_or_ge A B with h | h
  · exact divide_less a0 a1 n0 n1 A B w h0 h1 hn0 hn1 h
  · exact divide_short a0 a1 n0 n1 A B w h0 h1 hn0 (by rw [← h1.1, limbs_one B hB hl]; rfl) h

def sLong : ByteArray := ⟨#[49, 48, 48, 48, 48, 48, 48, 48, 48, 48, 48, 48, 48, 48, 48, 48, 48, 48, 48, 48, 48]⟩
def sShort : ByteArray := ⟨#[48, 48, 55]⟩
def sQuot : ByteArray := ⟨#[49, 52, 50, 56, 53, 55, 49, 52, 50, 56, 53, 55, 49, 52, 50, 56, 53, 55, 49, 52]⟩

theorem quot_str : decStr 14285714285714285714 = sQuot := by
  have h := dig_unique [52, 49, 55, 53, 56, 50, 52, 49, 55, 53, 56, 50, 52, 49, 55, 53, 56, 50, 52, 49] (by intro c hc; revert c hc; decide) (Or.inr (by decide))
  have e : dval [52, 49, 55, 53, 56, 50, 52, 49, 55, 53, 56, 50, 52, 49, 55, 53, 56, 50, 52, 49] = 14285714285714285714 := by decide
  rw [e] at h
  rw [decStr, if_neg (by decide), ← h]
  rfl

theorem parse_long_lit (w : World) : Calls Tryz.prog 155 #[.string ⟨#[49, 48, 48, 48, 48, 48, 48, 48, 48, 48, 48, 48, 48, 48, 48, 48, 48, 48, 48, 48, 48]⟩] w (Num2 100000000000000000000 w) := by
  have h := parse_ok sLong w (by decide) (by decide) (allDig_of sLong (by decide))
  have e : numOf sLong.data.toList = 100000000000000000000 := by decide
  rw [e] at h
  exact h

theorem parse_short_lit (w : World) : Calls Tryz.prog 155 #[.string ⟨#[48, 48, 55]⟩] w (Num2 7 w) := by
  have h := parse_ok sShort w (by decide) (by decide) (allDig_of sShort (by decide))
  have e : numOf sShort.data.toList = 7 := by decide
  rw [e] at h
  exact h

theorem gcd_word (a0 a1 : Option Addr) (n0 c0 n1 c1 : Nat) (xs ys : List Nat) (w : World) (h0 : Row w a0 n0 c0 xs) (h1 : Row w a1 n1 c1 ys) (hn0 : n0 ≤ 2) (hn1 : n1 ≤ 2) : Calls Tryz.prog 169 #[.slice a0 n0 c0, .slice a1 n1 c1] w (Num (Nat.gcd (val xs) (val ys)) w) :=
  gcd_of 2 (by omega) a0 a1 n0 c0 n1 c1 xs ys w h0 h1 hn0 hn1 (fun A B _ h1 h2 h3 => by omega)

theorem div_lit (a1 : Option Addr) (m1 : Nat) (w : World) (h : Row w a1 m1 m1 (limbs 100000000000000000000)) (hm : m1 ≤ 100) :
    Calls Tryz.prog 171 #[.slice a1 m1 m1, .slice (some ⟨w.heap.size, 0, none⟩) 1 1] (w.alloc (.cells #[.int .u32 7] 89)) fun e w' =>
      (∃ q mq r mr, e = .returned (.tuple #[.slice q mq mq, .slice r mr mr, .int .i64 0]) ∧ Row w' q mq mq (limbs 14285714285714285714) ∧ Row w' r mr mr (limbs 2) ∧ mq ≤ 100 ∧ mr ≤ 100) ∧ Below w.heap.size w w' := by
  have hb : Below w.heap.size w (w.alloc (.cells #[.int .u32 7] 89)) := (Below.refl _ _).alloc (Nat.le_refl _) _
  refine (div_of a1 _ m1 m1 1 1 (limbs 100000000000000000000) (limbs 7) _ (row_below (Nat.le_refl _) hb h) (row_lit w 7 7 rfl (by omega) (by omega)) (by omega) (by omega) (by rw [val_limbs]; omega) (by rw [val_limbs, val_limbs]; exact divides_one _ _ (by omega) (by omega))).mono ?_
  rw [val_limbs, val_limbs]
  rintro e w' ⟨q, mq, r, mr, rfl, h1, h2, h3, h4, h5⟩
  rw [show 100000000000000000000 / 7 = 14285714285714285714 from by decide] at h1 h2
  rw [show 100000000000000000000 % 7 = 2 from by decide] at h3 h4
  refine ⟨⟨q, mq, r, mr, rfl, h2, h4, ?_, ?_⟩, hb.trans (h5.mono hb.size)⟩
  · rw [h1]; exact Nat.le_trans (limbs_len _ 3 (by decide)) (by omega)
  · rw [h3]; exact Nat.le_trans (limbs_len _ 3 (by decide)) (by omega)

theorem same_lit (a : Option Addr) (n : Nat) (X : Int) (x : Nat) (w : World) (hX : X = (x : Int)) (h0 : 0 < x) (hx : x < 4294967296) (h : Row w a n n (limbs x)) (hn : n ≤ 100) :
    Calls Tryz.prog 130 #[.slice a n n, .slice (some ⟨w.heap.size, 0, none⟩) 1 1] (w.alloc (.cells #[.int .u32 X] 89)) fun e w' => e = .returned (.bool true) ∧ Below w.heap.size w w' := by
  have hb : Below w.heap.size w (w.alloc (.cells #[.int .u32 X] 89)) := (Below.refl _ _).alloc (Nat.le_refl _) _
  refine (same_any a _ n n 1 1 (limbs x) _ (row_below (Nat.le_refl _) hb h) (row_lit w X x hX h0 hx) (by omega)).mono ?_
  rintro e w' ⟨rfl, h5⟩
  exact ⟨rfl, hb.trans (h5.mono hb.size)⟩

theorem gcd_lit (w : World) : Calls Tryz.prog 169 #[.slice (some ⟨w.heap.size, 0, none⟩) 1 1, .slice (some ⟨w.heap.size + 1, 0, none⟩) 1 1] ((w.alloc (.cells #[.int .u32 12] 89)).alloc (.cells #[.int .u32 18] 89)) fun e w' => (∃ a m, e = .returned (.slice a m m) ∧ Row w' a m m (limbs 6) ∧ m ≤ 100) ∧ Below w.heap.size w w' := by
  have hb1 : Below w.heap.size w (w.alloc (.cells #[.int .u32 12] 89)) := (Below.refl _ _).alloc (Nat.le_refl _) _
  have hb2 : Below (w.heap.size + 1) (w.alloc (.cells #[.int .u32 12] 89)) ((w.alloc (.cells #[.int .u32 12] 89)).alloc (.cells #[.int .u32 18] 89)) := (Below.refl _ _).alloc (by simp) _
  have h1 := row_below (by simp) hb2 (row_lit w 12 12 rfl (by omega) (by omega))
  have h2 := row_lit (w.alloc (.cells #[.int .u32 12] 89)) 18 18 rfl (by omega) (by omega)
  have e1 : (w.alloc (.cells #[.int .u32 12] 89)).heap.size = w.heap.size + 1 := by simp
  rw [e1] at h2
  refine (gcd_word _ _ 1 1 1 1 (limbs 12) (limbs 18) _ h1 h2 (by omega) (by omega)).mono ?_
  rw [val_limbs, val_limbs, show Nat.gcd 12 18 = 6 from by decide]
  rintro e w' ⟨a, m, rfl, hm, hr, hb⟩
  refine ⟨⟨a, m, rfl, hr, by rw [hm]; exact Nat.le_trans (limbs_len _ 1 (by decide)) (by omega)⟩, ?_⟩
  exact hb1.trans ((hb2.mono (by omega)).trans (hb.mono (by simp; omega)))

theorem print_lit (a : Option Addr) (n : Nat) (w : World) (h : Row w a n n (limbs 14285714285714285714)) (hn : n ≤ 100) :
    Calls Tryz.prog 127 #[.slice a n n] w fun e w' => e = .returned (.string ⟨#[49, 52, 50, 56, 53, 55, 49, 52, 50, 56, 53, 55, 49, 52, 50, 56, 53, 55, 49, 52]⟩) ∧ Below w.heap.size w w' := by
  refine (print_any a n n _ w h (by omega)).mono ?_
  rw [val_limbs, quot_str]
  exact fun e w' h => h

end Go.Proofs.YtkcgikoploohkaaGreatDoor
