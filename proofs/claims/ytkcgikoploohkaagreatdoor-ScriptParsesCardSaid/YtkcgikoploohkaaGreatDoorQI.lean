import Derived.Test.YtkcgikoploohkaaGreatDoorQH
import Derived.Test.YtkcgikoploohkaaGreatDoorQD
import Derived.Deep.RegionHeld3
namespace Go.Proofs.YtkcgikoploohkaaGreatDoor
set_option linter.unusedVariables false
set_option linter.unusedSimpArgs false
set_option maxRecDepth 100000
open Go.RowKit Nums
theorem mul_lt_bound {X Y B : Int} (hB : 0 < B) (x0 : -B < X) (x1 : X < B) (y0 : -B < Y) (y1 : Y < B) : -(B * B) < X * Y∧X * Y < B * B := by
  have hx : X.natAbs < B.natAbs := by omega
  have hy : Y.natAbs < B.natAbs := by omega
  have h1 : (X * Y).natAbs < B.natAbs * B.natAbs := by
    rw [Int.natAbs_mul];exact Nat.mul_lt_mul'' hx hy
  have h2 : B * B = ((B.natAbs * B.natAbs : Nat) : Int) := by
    rw [Int.natCast_mul];have : (B.natAbs : Int) = B := by omega
    rw [this]
  rw [h2];omega
theorem quickN {s : Bool} {a b : Option Addr} {n c m d : Nat} {xs ys : List Nat} (hP : ¬(n≤1∧m = 1∧0 < val ys∧val ys < 1073741824∧val xs < 1073741824)) (w : World) (h0 : Row w a n c xs) (h1 : Row w b m d ys) :
    Calls Tryz.prog 58 #[.agg #[.bool s,.slice a n c,.slice b m d]] w (QuickNo w) := by
  by_cases hn : 1 < n
  · exact quick_no1 s a b n c m d w hn
  · by_cases hm : m = 1
    · subst hm
      obtain ⟨y,g,off,rfl,hy,rfl,hg,hc⟩ := row_at_one h1
      have ev : val [y] = y := by simp [val]
      rw [ev] at hP
      by_cases hy0 : y = 0
      · exact quick_no3 s a n c d g off (y : Int) w (by omega) hg hc (by omega)
      · by_cases hyb : 1073741824≤y
        · exact quick_no4 s a n c d g off (y : Int) w (by omega) hg hc (by omega) (by omega)
        · by_cases hn1 : n = 1
          · subst hn1
            obtain ⟨x,gx,ox,rfl,hx,rfl,hgx,hcx⟩ := row_at_one h0
            have ex : val [x] = x := by simp [val]
            rw [ex] at hP
            by_cases hxb : 1073741824≤x
            · exact quick_no5 s c d g off (y : Int) w (x : Int) gx ox hgx hcx hg hc (by omega) (by omega) (by omega) (by omega)
            · exact absurd ⟨by omega,rfl,by omega,by omega,by omega⟩ hP
          · obtain rfl : n = 0 := by omega
            have ex : xs = [] := List.length_eq_zero_iff.1 h0.1
            subst ex
            exact absurd ⟨by omega,rfl,by omega,by omega,by simp [val]⟩ hP
    · exact quick_no2 s a b n c m d w (by omega) hm
theorem quickY {s : Bool} {a b : Option Addr} {n c m d : Nat} {xs ys : List Nat} (hP : (n≤1∧m = 1∧0 < val ys∧val ys < 1073741824∧val xs < 1073741824)) (w : World) (h0 : Row w a n c xs) (h1 : Row w b m d ys) :
    Calls Tryz.prog 58 #[.agg #[.bool s,.slice a n c,.slice b m d]] w (QuickYes (sv s (val xs)) (val ys : Int) w) := by
  obtain ⟨hn,rfl,hy0,hyb,hxb⟩ := hP
  obtain ⟨y,g,off,rfl,hy,rfl,hg,hc⟩ := row_at_one h1
  have ev : val [y] = y := by simp [val]
  rw [ev] at hy0 hyb ⊢
  by_cases hn1 : n = 1
  · subst hn1
    obtain ⟨x,gx,ox,rfl,hx,rfl,hgx,hcx⟩ := row_at_one h0
    have ex : val [x] = x := by simp [val]
    rw [ex] at hxb ⊢
    cases s
    · exact quick_yes1f c d g off (y : Int) w (x : Int) gx ox hgx hcx hg hc (by omega) (by omega) (by omega) (by omega)
    · exact quick_yes1t c d g off (y : Int) w (x : Int) gx ox hgx hcx hg hc (by omega) (by omega) (by omega) (by omega)
  · obtain rfl : n = 0 := by omega
    have ex : xs = [] := List.length_eq_zero_iff.1 h0.1
    subst ex
    cases s
    · exact quick_yes0f a c d g off (y : Int) w hg hc (by omega) (by omega)
    · exact quick_yes0t a c d g off (y : Int) w hg hc (by omega) (by omega)
theorem ratK_more {k j K J : Nat} {q : Rat} {w : World} (hk : k≤K) (hj : j≤J) : ∀ e w',RatK k j q w e w'→RatK K J q w e w' := by
  rintro e w' ⟨a,n,c,b,m,d,h1,h2,h3,h4⟩
  exact ⟨a,n,c,b,m,d,h1,by omega,by omega,h4⟩
theorem quick_bounds {s : Bool} {n m : Nat} {xs ys : List Nat} (hP : n≤1∧m = 1∧0 < val ys∧val ys < 1073741824∧val xs < 1073741824) : -1073741824 < sv s (val xs)∧sv s (val xs) < 1073741824∧-1073741824 < (val ys : Int)∧(val ys : Int) < 1073741824∧0 < (val ys : Int) := by
  obtain ⟨-,-,h1,h2,h3⟩ := hP
  refine ⟨?_, ?_,by omega,by omega,by omega⟩
  · unfold sv;split <;> omega
  · unfold sv;split <;> omega
end Go.Proofs.YtkcgikoploohkaaGreatDoor
