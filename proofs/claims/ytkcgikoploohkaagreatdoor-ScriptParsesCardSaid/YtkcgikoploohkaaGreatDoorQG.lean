import Derived.Test.YtkcgikoploohkaaGreatDoorQE
import Derived.Test.YtkcgikoploohkaaGreatDoorQF
import Derived.Test.YtkcgikoploohkaaGreatDoorIC
import Derived.ProofKit
import Derived.OpenShut
import Derived.ShutString
import Derived.ChangeOld
namespace Go.Proofs.YtkcgikoploohkaaGreatDoor
set_option linter.unusedVariables false
set_option linter.unusedSimpArgs false
set_option maxRecDepth 100000
open Go.RowKit Nums
section
variable {a b a' b' : Option Addr} {n c m d n' c' m' d' : Nat} {w : World} {p q : Rat}
end
end Go.Proofs.YtkcgikoploohkaaGreatDoor
/- What Parse tells of a text of parts; the examples. -/
namespace Go.Proofs.YtkcgikoploohkaaGreatDoor
set_option linter.unusedVariables false
set_option linter.unusedSimpArgs false
set_option maxRecDepth 100000
open Go.RowKit Nums
theorem digs_len {u : ByteArray} {k : Nat} (hd : allDig u) (hk : 0 < k) (hl : u.size≤6 * k) : (limbs (numOf u.data.toList)).length≤k := len_numOf u k hd hk hl
theorem int_call (k : Nat) (neg : Bool) (h u : ByteArray) (H : Signed h neg u) (h0 : 0 < u.size) (h3 : u.size≤300) (hd : allDig u) (hk : 0 < k) (hl : u.size≤6 * k) (w : World) :
    Calls Tryz.prog 110 #[.string h] w (ParseK k (sv neg (numOf u.data.toList)) w) :=
  parseI_ok k _ h u neg _ w H h3 h0 hd rfl rfl (digs_len hd hk hl)
theorem nat_call (k : Nat) (t : ByteArray) (h0 : 0 < t.size) (h3 : t.size≤300) (hd : allDig t) (hk : 0 < k) (hl : t.size≤6 * k) (w : World) :
    Calls Tryz.prog 155 #[.string t] w (ParseNK k (numOf t.data.toList) w) :=
  (parseN k t w _ h3 h0 hd rfl (digs_len hd hk hl)).mono fun _ _ h => h
theorem parseQ_ok (K : Nat) (q : Rat) (s h t u : ByteArray) (neg : Bool) (w : World) (H : Split s 47 h t) (HS : Signed h neg u) (hu0 : 0 < u.size) (hu3 : u.size≤300) (hud : allDig u) (ht0 : 0 < t.size) (ht3 : t.size≤300) (htd : allDig t) (hK0 : 0 < K) (hK : K≤95) (huK : u.size≤6 * K) (htK : t.size≤6 * K) (hN : 0 < numOf t.data.toList)
    (hq : mkRat (sv neg (numOf u.data.toList)) (numOf t.data.toList) = q) :
    Calls Tryz.prog 63 #[.string s] w (RatRes 0 (ToldAs K K q) w) :=
  parse_slash 0 _ s h t w H (by have := H.size;have := HS.size;rcases HS with ⟨-,e⟩ | ⟨-,e,-⟩;(have := congrArg List.length e;rw [List.length_cons,←Lib.size_eq h,←Lib.size_eq u] at this;omega);(subst e;omega))
    (fun w => (quot_ok K K q _ _ h t w hK hK0 hK hN hq (fun w => parts_ok K K _ _ h t w (int_call K neg h u HS hu0 hu3 hud hK0 huK) (nat_call K t ht0 ht3 htd hK0 htK))).mono fun _ _ h => ratRes_ok h)
theorem digs_pow {u : ByteArray} (hd : allDig u) : numOf u.data.toList < 10 ^ u.size := by
  have := numOf_lt _ (digs_list u hd)
  rwa [←Lib.size_eq u] at this
theorem parseD_ok (K : Nat) (q : Rat) (s h t u : ByteArray) (neg : Bool) (w : World) (hno : (47 : UInt8) ∉ s.data.toList) (H : Split s 46 h t) (HS : Signed h neg u) (hu0 : 0 < u.size) (hu3 : u.size≤300) (hud : allDig u) (ht0 : 0 < t.size) (ht3 : t.size≤300) (htd : allDig t) (hK0 : 0 < K) (hK : K≤95) (huK : u.size + t.size≤6 * K)
    (hq : mkRat (sv neg (numOf u.data.toList * 10 ^ t.size + numOf t.data.toList)) (10 ^ t.size) = q) :
    Calls Tryz.prog 63 #[.string s] w (RatRes 0 (ToldAs K K q) w) :=
  parse_point 0 _ s h t w hno H (by have := H.size;have := HS.size;rcases HS with ⟨-,e⟩ | ⟨-,e,-⟩;(have := congrArg List.length e;rw [List.length_cons,←Lib.size_eq h,←Lib.size_eq u] at this;omega);(subst e;omega))
    (fun w => (decimal_ok K q neg _ _ h u t w HS ht0 ht3 (by omega) hK hK0 (by
        apply limbs_len
        refine Nat.lt_trans ?_ (pow_room (u.size + t.size) K hK0 huK)
        have h1 := digs_pow hud
        have h2 := digs_pow htd
        rw [Nat.pow_add]
        have : (numOf u.data.toList + 1) * 10 ^ t.size≤10 ^ u.size * 10 ^ t.size := Nat.mul_le_mul_right _ h1
        rw [Nat.add_mul] at this
        omega) hq (fun w => parts_ok K K _ _ h t w (int_call K neg h u HS hu0 hu3 hud hK0 (by omega)) (nat_call K t ht0 ht3 htd hK0 (by omega)))).mono fun _ _ h => ratRes_ok h)
theorem parseQ_zero (s h t u : ByteArray) (neg : Bool) (w : World) (H : Split s 47 h t) (HS : Signed h neg u) (hu0 : 0 < u.size) (hu3 : u.size≤300) (hud : allDig u) (ht0 : 0 < t.size) (ht3 : t.size≤300) (htd : allDig t) (hN : numOf t.data.toList = 0) :
    Calls Tryz.prog 63 #[.string s] w (RatRes 4 NoneAs w) :=
  parse_slash 4 _ s h t w H (by have := H.size;have := HS.size;rcases HS with ⟨-,e⟩ | ⟨-,e,-⟩;(have := congrArg List.length e;rw [List.length_cons,←Lib.size_eq h,←Lib.size_eq u] at this;omega);(subst e;omega))
    (fun w => (quot_zero _ h t w (fun w => by
      have := parts_ok 60 60 _ _ h t w (int_call 60 neg h u HS hu0 hu3 hud (by omega) (by omega)) (nat_call 60 t ht0 ht3 htd (by omega) (by omega))
      rw [hN] at this
      exact this)).mono fun _ _ h => ratRes_err h)
theorem num32 : (mkRat 3 2).num = 3∧(mkRat 3 2).den = 2 := by decide +kernel
theorem str32 : ratStr (mkRat 3 2) = ⟨#[51,47,50]⟩ := by
  rw [ratStr,if_neg (by rw [num32.2];decide),num32.1,num32.2,decI,if_neg (by decide),show (3 : Int).natAbs = 3 from rfl,dec_digit 3 51 (by omega) (by omega) rfl,dec_digit 2 50 (by omega) (by omega) rfl];rfl
end Go.Proofs.YtkcgikoploohkaaGreatDoor
/- What is printed is parsed. -/
namespace Go.Proofs.YtkcgikoploohkaaGreatDoor
set_option linter.unusedVariables false
set_option linter.unusedSimpArgs false
set_option maxRecDepth 100000
open Go.RowKit Nums
end Go.Proofs.YtkcgikoploohkaaGreatDoor
/- A number that came in: a side and two rows. -/
namespace Go.Proofs.YtkcgikoploohkaaGreatDoor
set_option linter.unusedVariables false
set_option linter.unusedSimpArgs false
set_option maxRecDepth 100000
open Go.ChangeShapes Go.WideShapes Go.ChangeAt Go.RowKit Nums Go.Joins
end Go.Proofs.YtkcgikoploohkaaGreatDoor
