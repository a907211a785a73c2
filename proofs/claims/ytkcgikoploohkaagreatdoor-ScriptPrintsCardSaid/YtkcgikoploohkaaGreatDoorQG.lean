/- What the laws' few and same tell. -/
import Derived.Test.YtkcgikoploohkaaGreatDoorQE
import Derived.Test.YtkcgikoploohkaaGreatDoorQF
import Derived.Test.YtkcgikoploohkaaGreatDoorIC
import Derived.ProofKit
import Derived.OpenShut
import Derived.ShutString
import Derived.ChangeOld
namespace Go.Proofs.YtkcgikoploohkaaGreatDoor
set_option linter.unusedVariables false
set_option linter.unusedSimpArgs false
set_option maxRecDepth 100000
open Go.RowKit Nums

section
variable {a b a' b' : Option Addr} {n c m d n' c' m' d' : Nat} {w : World} {p q : Rat}
end

end Go.Proofs.YtkcgikoploohkaaGreatDoor
/- What Parse tells of a text of parts; the examples. -/
namespace Go.Proofs.YtkcgikoploohkaaGreatDoor
set_option linter.unusedVariables false
set_option linter.unusedSimpArgs false
set_option maxRecDepth 100000
open Go.RowKit Nums

theorem digs_len {u : ByteArray} {k : Nat} (hd : allDig u) (hk : 0 < k) (hl : u.size ≤ 6 * k) : (limbs (numOf u.data.toList)).length ≤ k := len_numOf u k hd hk hl

/-- the contracts of the parts of a text, where they say something -/
theorem int_call (k : Nat) (neg : Bool) (h u : ByteArray) (H : Signed h neg u) (h0 : 0 < u.size) (h3 : u.size ≤ 300) (hd : allDig u) (hk : 0 < k) (hl : u.size ≤ 6 * k) (w : World) :
    Calls Tryz.prog 110 #[.string h] w (ParseK k (sv neg (numOf u.data.toList)) w) :=
  parseI_ok k _ h u neg _ w H h3 h0 hd rfl rfl (digs_len hd hk hl)
theorem nat_call (k : Nat) (t : ByteArray) (h0 : 0 < t.size) (h3 : t.size ≤ 300) (hd : allDig t) (hk : 0 < k) (hl : t.size ≤ 6 * k) (w : World) :
    Calls Tryz.prog 155 #[.string t] w (ParseNK k (numOf t.data.toList) w) :=
  (parseN k t w _ h3 h0 hd rfl (digs_len hd hk hl)).mono fun _ _ h => h

theorem parseQ_ok (K : Nat) (q : Rat) (s h t u : ByteArray) (neg : Bool) (w : World) (H : Split s 47 h t) (HS : Signed h neg u) (hu0 : 0 < u.size) (hu3 : u.size ≤ 300) (hud : allDig u) (ht0 : 0 < t.size) (ht3 : t.size ≤ 300) (htd : allDig t) (hK0 : 0 < K) (hK : K ≤ 95) (huK : u.size ≤ 6 * K) (htK : t.size ≤ 6 * K) (hN : 0 < numOf t.data.toList)
    (hq : mkRat (sv neg (numOf u.data.toList)) (numOf t.data.toList) = q) :
    Calls Tryz.prog 63 #[.string s] w (RatRes 0 (ToldAs K K q) w) :=
  parse_slash 0 _ s h t w H (by have := H.size; have := HS.size; rcases HS with ⟨-, e⟩ | ⟨-, e, -⟩; (have := congrArg List.length e; rw [List.length_cons, ← Lib.size_eq h, ← Lib.size_eq u] at this; omega); (subst e; omega))
    (fun w => (quot_ok K K q _ _ h t w hK hK0 hK hN hq (fun w => parts_ok K K _ _ h t w (int_call K neg h u HS hu0 hu3 hud hK0 huK) (nat_call K t ht0 ht3 htd hK0 htK))).mono fun _ _ h => ratRes_ok h)

theorem digs_pow {u : ByteArray} (hd : allDig u) : numOf u.data.toList < 10 ^ u.size := by
  have := numOf_lt _ (digs_list u hd)
  rwa [← Lib.size_eq u] at this

theorem parseD_ok (K : Nat) (q : Rat) (s h t u : ByteArray) (neg : Bool) (w : World) (hno : (47 : UInt8) ∉ s.data.toList) (H : Split s 46 h t) (HS : Signed h neg u) (hu0 : 0 < u.size) (hu3 : u.size ≤ 300) (hud : allDig u) (ht0 : 0 < t.size) (ht3 : t.size ≤ 300) (htd : allDig t) (hK0 : 0 < K) (hK : K ≤ 95) (huK : u.size + t.size ≤ 6 * K)
    (hq : mkRat (sv neg (numOf u.data.toList * 10 ^ t.size + numOf t.data.toList)) (10 ^ t.size) = q) :
    Calls Tryz.prog 63 #[.string s] w (RatRes 0 (ToldAs K K q) w) :=
  parse_point 0 _ s h t w hno H (by have := H.size; have := HS.size; rcases HS with ⟨-, e⟩ | ⟨-, e, -⟩; (have := congrArg List.length e; rw [List.length_cons, ← Lib.size_eq h, ← Lib.size_eq u] at this; omega); (subst e; omega))
    (fun w => (decimal_ok K q neg _ _ h u t w HS ht0 ht3 (by omega) hK hK0 (by
        apply limbs_len
        refine Nat.lt_trans ?_ (pow_room (u.size + t.size) K hK0 huK)
        have h1 := digs_pow hud
        have h2 := digs_pow htd
        rw [Nat.pow_add]
        have : (numOf u.data.toList + 1) * 10 ^ t.size ≤ 10 ^ u.size * 10 ^ t.size := Nat.mul_le_mul_right _ h1
        rw [Nat.add_mul] at this
        omega) hq (fun w => parts_ok K K _ _ h t w (int_call K neg h u HS hu0 hu3 hud hK0 (by omega)) (nat_call K t ht0 ht3 htd hK0 (by omega)))).mono fun _ _ h => ratRes_ok h)

theorem parseQ_zero (s h t u : ByteArray) (neg : Bool) (w : World) (H : Split s 47 h t) (HS : Signed h neg u) (hu0 : 0 < u.size) (hu3 : u.size ≤ 300) (hud : allDig u) (ht0 : 0 < t.size) (ht3 : t.size ≤ 300) (htd : allDig t) (hN : numOf t.data.toList = 0) :
    Calls Tryz.prog 63 #[.string s] w (RatRes 4 NoneAs w) :=
  parse_slash 4 _ s h t w H (by have := H.size; have := HS.size; rcases HS with ⟨-, e⟩ | ⟨-, e, -⟩; (have := congrArg List.length e; rw [List.length_cons, ← Lib.size_eq h, ← Lib.size_eq u] at this; omega); (subst e; omega))
    (fun w => (quot_zero _ h t w (fun w => by
      have := parts_ok 60 60 _ _ h t w (int_call 60 neg h u HS hu0 hu3 hud (by omega) (by omega)) (nat_call 60 t ht0 ht3 htd (by omega) (by omega))
      rw [hN] at this
      exact this)).mono fun _ _ h => ratRes_err h)

theorem parseI_text (K : Nat) (Z : Int) (s u : ByteArray) (neg : Bool) (w : World) (hno1 : (47 : UInt8) ∉ s.data.toList) (hno2 : (46 : UInt8) ∉ s.data.toList) (HS : Signed s neg u) (hu0 : 0 < u.size) (hu3 : u.size ≤ 300) (hud : allDig u) (hK0 : 0 < K) (huK : u.size ≤ 6 * K) (hZ : sv neg (numOf u.data.toList) = Z) :
    Calls Tryz.prog 63 #[.string s] w (RatRes 0 (ToldAs K K (Z : Rat)) w) :=
  parse_int K K Z s w hno1 hno2 hK0 (by subst hZ; exact int_call K neg s u HS hu0 hu3 hud hK0 huK)

theorem num32 : (mkRat 3 2).num = 3 ∧ (mkRat 3 2).den = 2 := by decide +kernel
theorem numM32 : (mkRat (-3) 2).num = -3 ∧ (mkRat (-3) 2).den = 2 := by decide +kernel
theorem floorM32 : (mkRat (-3) 2).floor = -2 := by decide +kernel
theorem str32 : ratStr (mkRat 3 2) = ⟨#[51, 47, 50]⟩ := by
  rw [ratStr, if_neg (by rw [num32.2]; decide), num32.1, num32.2, decI, if_neg (by decide), show (3 : Int).natAbs = 3 from rfl, dec_digit 3 51 (by omega) (by omega) rfl, dec_digit 2 50 (by omega) (by omega) rfl]; rfl
theorem strM32 : ratStr (mkRat (-3) 2) = ⟨#[45, 51, 47, 50]⟩ := by
  rw [ratStr, if_neg (by rw [numM32.2]; decide), numM32.1, numM32.2, decI, if_pos (by decide), show (-3 : Int).natAbs = 3 from rfl, dec_digit 3 51 (by omega) (by omega) rfl, dec_digit 2 50 (by omega) (by omega) rfl]; rfl
theorem decI_m2 : decI (-2) = ⟨#[45, 50]⟩ := by
  rw [decI, if_pos (by decide), show (-2 : Int).natAbs = 2 from rfl, dec_digit 2 50 (by omega) (by omega) rfl]; rfl

theorem lit_a (w : World) : Calls Tryz.prog 63 #[.string ⟨#[45, 49, 46, 53, 48]⟩] w (RatRes 0 (ToldAs 2 2 (mkRat (-3) 2)) w) :=
  parseD_ok 2 _ _ ⟨#[45, 49]⟩ ⟨#[53, 48]⟩ ⟨#[49]⟩ true w (by decide) ⟨by rfl, by decide⟩ (Or.inl ⟨rfl, rfl⟩) (by decide) (by decide) (allDig_of _ (by decide)) (by decide) (by decide) (allDig_of _ (by decide)) (by omega) (by omega) (by decide) (by decide +kernel)
theorem lit_b (w : World) : Calls Tryz.prog 63 #[.string ⟨#[54, 47, 52]⟩] w (RatRes 0 (ToldAs 2 2 (mkRat 3 2)) w) :=
  parseQ_ok 2 _ _ ⟨#[54]⟩ ⟨#[52]⟩ ⟨#[54]⟩ false w ⟨by rfl, by decide⟩ (Or.inr ⟨rfl, rfl, by decide⟩) (by decide) (by decide) (allDig_of _ (by decide)) (by decide) (by decide) (allDig_of _ (by decide)) (by omega) (by omega) (by decide) (by decide) (by decide) (by decide +kernel)
theorem lit_c (w : World) : Calls Tryz.prog 63 #[.string ⟨#[49, 47, 48]⟩] w (RatRes 4 NoneAs w) :=
  parseQ_zero _ ⟨#[49]⟩ ⟨#[48]⟩ ⟨#[49]⟩ false w ⟨by rfl, by decide⟩ (Or.inr ⟨rfl, rfl, by decide⟩) (by decide) (by decide) (allDig_of _ (by decide)) (by decide) (by decide) (allDig_of _ (by decide)) (by decide)

end Go.Proofs.YtkcgikoploohkaaGreatDoor
/- What is printed is parsed. -/
namespace Go.Proofs.YtkcgikoploohkaaGreatDoor
set_option linter.unusedVariables false
set_option linter.unusedSimpArgs false
set_option maxRecDepth 100000
open Go.RowKit Nums

theorem dig_not {t : ByteArray} {c : UInt8} (hd : allDig t) (hc : c = 47 ∨ c = 46) : c ∉ t.data.toList := by
  intro h
  have h2 := digs_list t hd c h
  rcases hc with rfl | rfl
  · exact absurd h2.1 (by decide)
  · exact absurd h2.1 (by decide)

theorem decI_not (Z : Int) {c : UInt8} (hc : c = 47 ∨ c = 46) : c ∉ (decI Z).data.toList := by
  unfold decI
  split
  · rw [ByteArray.data_append, Array.toList_append]
    intro h
    rcases List.mem_append.1 h with h | h
    · have : c = 45 := by simpa using h
      rcases hc with rfl | rfl <;> exact absurd this (by decide)
    · exact dig_not (allDig_dec _) hc h
  · exact dig_not (allDig_dec _) hc

/-- what is printed is parsed -/
theorem backR (q : Rat) (hn : (limbs q.num.natAbs).length ≤ 12) (hd : (limbs q.den).length ≤ 12) (w : World) : Calls Tryz.prog 63 #[.string (ratStr q)] w (RatRes 0 (ToldAs 20 20 q) w) := by
  have l1 := dec_len (k := 116) hn (by omega)
  have l2 := dec_len (k := 116) hd (by omega)
  have p1 := size_dec_pos q.num.natAbs
  have p2 := size_dec_pos q.den
  have e1 : sv (decide (q.num < 0)) (numOf (decStr q.num.natAbs).data.toList) = q.num := by rw [numOf_dec, sv_told]
  by_cases h : q.den = 1
  · have e : ((q.num : Int) : Rat) = q := Rat.ext (by rw [Rat.num_intCast]) (by rw [Rat.den_intCast, h])
    have := parseI_text 20 q.num (ratStr q) (decStr q.num.natAbs) (decide (q.num < 0)) w (by rw [ratStr, if_pos h]; exact decI_not _ (Or.inl rfl)) (by rw [ratStr, if_pos h]; exact decI_not _ (Or.inr rfl)) (by rw [ratStr, if_pos h]; exact signed_dec _) p1 (by omega) (allDig_dec _) (by omega) (by omega) e1
    rw [e] at this
    exact this
  · refine parseQ_ok 20 q (ratStr q) (decI q.num) (decStr q.den) (decStr q.num.natAbs) (decide (q.num < 0)) w ⟨?_, decI_not _ (Or.inl rfl)⟩ (signed_dec _) p1 (by omega) (allDig_dec _) p2 (by omega) (allDig_dec _) (by omega) (by omega) (by omega) (by omega) (by rw [numOf_dec]; exact q.den_pos) (by rw [e1, numOf_dec, Rat.mkRat_self])
    rw [ratStr, if_neg h, ByteArray.data_append, Array.toList_append, ByteArray.data_append, Array.toList_append]
    rfl

theorem floor_eq {q : Rat} (h : q.den = 1) : ((q.floor : Int) : Rat) = q := by
  have e : ((q.num : Int) : Rat) = q := Rat.ext (by rw [Rat.num_intCast]) (by rw [Rat.den_intCast, h])
  rw [← e, Rat.floor_intCast]
theorem floor_lt {q : Rat} (h : q.den ≠ 1) : ((q.floor : Int) : Rat) < q := by
  refine Rat.lt_iff_le_and_ne.2 ⟨Rat.floor_le q, fun e => h ?_⟩
  rw [← e, Rat.den_intCast]

theorem one_raw (F : Int) : mkRat (sv (decide (F < 0)) (val (limbs F.natAbs))) (val (limbs 1)) = (F : Rat) := by
  rw [sv_limbs, val_limbs, Rat.mkRat_one]

theorem cell_new (w : World) (vs : Array Value) (T i : Nat) : (w.alloc (.cells vs T)).cell? ⟨w.heap.size, i, none⟩ = vs[i]? := by
  have h := cell_of_row (w.alloc (.cells vs T)) w.heap.size i vs T (0, 0) (heap_alloc_new w (.cells vs T))
  exact h

end Go.Proofs.YtkcgikoploohkaaGreatDoor
/- A number that came in: a side and two rows. -/
namespace Go.Proofs.YtkcgikoploohkaaGreatDoor
set_option linter.unusedVariables false
set_option linter.unusedSimpArgs false
set_option maxRecDepth 100000
open Go.ChangeShapes Go.WideShapes Go.ChangeAt Go.RowKit Nums Go.Joins

theorem rat_of_trod {H : Type} {enc : TypeId × Value → H} {r : Reach} {b0 : Nat} {W : World} {v : Value} {d : DataW H} {p : List MemPlace} {base : Nat}
    (hv : Value.okWide Tryz.prog W r b0 27 v) (h : DataW.Trod enc Tryz.prog W base (fun _ => true) true 27 v d p) : ∃ s a n c b m e xs ys, v = .agg #[.bool s, .slice a n c, .slice b m e] ∧ Row W a n c xs ∧ Row W b m e ys := by
  obtain ⟨cs, rfl, hsz⟩ := okWide_struct Tryz.underlying27 hv
  have e3 : Tryz.prog.cellsOf 27 = 3 := by kernel_rfl
  have e2 : Tryz.prog.cellsOf 25 = 2 := by kernel_rfl
  have e1 : Tryz.prog.cellsOf 23 = 1 := by kernel_rfl
  have e0 : Tryz.prog.cellsOf 4 = 1 := by kernel_rfl
  obtain ⟨c0, c1, c2, rfl⟩ := array3 (hsz.trans e3)
  obtain ⟨fuel, hf⟩ := h
  obtain ⟨y0, y1, n, hx, _, h0, h1⟩ := trod_struct2 Tryz.underlying27 hf
  have h0' : DataW.trod enc Tryz.prog W base (fun _ => true) true n 25 [c0, c1] = some y0 := by simpa [Value.cells, e2] using h0
  have h1' : DataW.trod enc Tryz.prog W base (fun _ => true) true n 23 [c2] = some y1 := by simpa [Value.cells, e1] using h1
  obtain ⟨z0, z1, n', hx', _, h00, h01⟩ := trod_struct2 Tryz.underlying25 h0'
  have h00' : DataW.trod enc Tryz.prog W base (fun _ => true) true n' 4 [c0] = some z0 := by simpa [e0] using h00
  have h01' : DataW.trod enc Tryz.prog W base (fun _ => true) true n' 23 [c1] = some z1 := by simpa [e1] using h01
  obtain ⟨s, hs, -⟩ := DataW.trod_bool Tryz.underlying4 h00'
  obtain rfl : c0 = .bool s := by simpa using hs
  have hrow : ∀ {k : Nat} {c : Value} {y : DataW H × List MemPlace}, DataW.trod enc Tryz.prog W base (fun _ => true) true k 23 [c] = some y → ∃ a n m zs, c = .slice a n m ∧ IsRow .u32 W a n m zs := by
    intro k c y hy
    rcases open_ints Tryz.underlying23 Tryz.underlying89 (by kernel_rfl) hy with ⟨hcs, _⟩ | ⟨x, l, m, zs, hcs, _, hl, hm, hz, _, hcell, hwz⟩
    · exact ⟨none, 0, 0, [], by simpa using hcs, .inl ⟨rfl, rfl, rfl, rfl⟩⟩
    · exact ⟨some x, l, m, zs, by simpa using hcs, .inr ⟨_, rfl, hl, hm, by simpa using hz, hcell, hwz⟩⟩
  obtain ⟨a, n1, c', zs, rfl, hr⟩ := hrow h01'
  obtain ⟨b, m1, e', zs', rfl, hr'⟩ := hrow h1'
  obtain ⟨xs, hx1⟩ := row_of_isrow hr
  obtain ⟨ys, hy1⟩ := row_of_isrow hr'
  exact ⟨s, a, n1, c', b, m1, e', xs, ys, rfl, hx1, hy1⟩

end Go.Proofs.YtkcgikoploohkaaGreatDoor
