/- What a text's number is like. -/
import Derived.Test.YtkcgikoploohkaaGreatDoorZSf5ToSf8
namespace Go.Proofs.YtkcgikoploohkaaGreatDoor
set_option linter.unusedVariables false
set_option linter.unusedSimpArgs false
set_option maxRecDepth 100000
open Go.RowKit Go.Shelf Nums

/-- a number's parts are below ten to d -/
def Bd (q : Rat) (d : Nat) : Prop := q.num.natAbs < 10 ^ d ∧ q.den ≤ 10 ^ d
theorem bd_raw {N : Int} {D d : Nat} {q : Rat} (hD : 0 < D) (h : mkRat N D = q) (h1 : N.natAbs < 10 ^ d) (h2 : D ≤ 10 ^ d) : Bd q d := by
  obtain ⟨g, hg, e1, e2⟩ := raw_parts hD h
  have hg' : 1 ≤ g := by omega
  refine ⟨?_, ?_⟩
  · have : q.num.natAbs ≤ N.natAbs := by
      rw [e1, Int.natAbs_mul]
      exact Nat.le_mul_of_pos_right _ (by omega)
    exact Nat.lt_of_le_of_lt this h1
  · have : q.den ≤ D := by rw [e2]; exact Nat.le_mul_of_pos_right _ hg'
    exact Nat.le_trans this h2
theorem pow_mono {a b : Nat} (h : a ≤ b) : 10 ^ a ≤ 10 ^ b := Nat.pow_le_pow_right (by decide) h
theorem natAbs_sv' (s : Bool) (X : Nat) : (sv s X).natAbs = X := natAbs_sv s X
/-- the number of a text, with its limbs and its bound; or an error -/
def ParsesTo2 (s : ByteArray) : Prop := (∃ q : Rat, Bd q s.size ∧ ∀ w, Calls Tryz.prog 63 #[.string s] w (RatRes 0 (ToldAs 67 67 q) w)) ∨ ∃ E : Int, (E != 0) = true ∧ ∀ w, Calls Tryz.prog 63 #[.string s] w (RatRes E NoneAs w)
theorem parse_any2 (s : ByteArray) (hs : s.size ≤ 1000000) : ParsesTo2 s := by
  rcases splits_any s 47 with n1 | ⟨h, t, H⟩
  · rcases splits_any s 46 with n2 | ⟨h, t, H⟩
    · obtain ⟨neg, u, HS⟩ := signed_any s
      have hu := signed_sizeP HS
      rcases int_cases s u neg HS (by omega) with ⟨a, b, c⟩ | a | a
      · refine .inl ⟨_, ?_, fun w => (parse_int 50 50 _ s w n1 n2 (by omega) (int_call 50 neg s u HS a c b (by omega) (by omega))).mono fun _ _ => told_more (by omega)⟩
        refine bd_raw (N := sv neg (numOf u.data.toList)) (D := 1) (by decide) (Rat.mkRat_one _) ?_ (Nat.one_le_pow _ _ (by decide))
        rw [natAbs_sv]
        exact Nat.lt_of_lt_of_le (digs_pow b) (pow_mono (by omega))
      · exact .inr ⟨2, by decide, fun w => parse_int_err 2 s w n1 n2 (by decide) a⟩
      · exact .inr ⟨4, by decide, fun w => parse_int_err 4 s w n1 n2 (by decide) a⟩
    · obtain ⟨neg, u, HS⟩ := signed_any h
      have hu := signed_sizeP HS
      have hz := H.size
      rcases parts_cases h t u neg HS (by omega) (by omega) with ⟨⟨a, b, c⟩, a', b', c'⟩ | ⟨G, hG, hp⟩
      · have hnum : numOf u.data.toList * 10 ^ t.size + numOf t.data.toList < 10 ^ (u.size + t.size) := by
          have h1 := digs_pow b
          have h2 := digs_pow b'
          rw [Nat.pow_add]
          have : (numOf u.data.toList + 1) * 10 ^ t.size ≤ 10 ^ u.size * 10 ^ t.size := Nat.mul_le_mul_right _ h1
          rw [Nat.add_mul] at this
          omega
        refine .inl ⟨mkRat (sv neg (numOf u.data.toList * 10 ^ t.size + numOf t.data.toList)) (10 ^ t.size), ?_, fun w => parse_point 0 _ s h t w n1 H hs (fun w => (decimal_ok 67 _ neg _ _ h u t w HS a' c' (by omega) (by omega) (by omega) ?_ rfl
          (fun w => parts_ok 67 67 _ _ h t w (int_call 67 neg h u HS a c b (by omega) (by omega)) (nat_call 67 t a' c' b' (by omega) (by omega)))).mono fun _ _ h => ratRes_ok h)⟩
        · refine bd_raw (Nat.one_le_pow _ _ (by decide)) rfl ?_ (pow_mono (by omega))
          rw [natAbs_sv]
          exact Nat.lt_of_lt_of_le hnum (pow_mono (by omega))
        · apply limbs_len
          exact Nat.lt_trans hnum (pow_room9 (u.size + t.size) 67 (by omega) (by omega))
      · exact .inr ⟨G, hG, fun w => parse_point G _ s h t w n1 H hs (fun w => (decimal_err G h t w hG hp).mono fun _ _ h => ratRes_err h)⟩
  · obtain ⟨neg, u, HS⟩ := signed_any h
    have hu := signed_sizeP HS
    have hz := H.size
    rcases parts_cases h t u neg HS (by omega) (by omega) with ⟨⟨a, b, c⟩, a', b', c'⟩ | ⟨G, hG, hp⟩
    · rcases Nat.eq_zero_or_pos (numOf t.data.toList) with hN | hN
      · exact .inr ⟨4, by decide, fun w => parseQ_zero s h t u neg w H HS a c b a' c' b' hN⟩
      · refine .inl ⟨_, ?_, fun w => (parseQ_ok 50 _ s h t u neg w H HS a c b a' c' b' (by omega) (by omega) (by omega) (by omega) hN rfl).mono fun _ _ => told_more (by omega)⟩
        refine bd_raw hN rfl ?_ (Nat.le_of_lt (Nat.lt_of_lt_of_le (digs_pow b') (pow_mono (by omega))))
        rw [natAbs_sv]
        exact Nat.lt_of_lt_of_le (digs_pow b) (pow_mono (by omega))
    · exact .inr ⟨G, hG, fun w => parse_slash G _ s h t w H hs (fun w => (quot_err G h t w hG hp).mono fun _ _ h => ratRes_err h)⟩
theorem bd_size {q : Rat} {d : Nat} (h : Bd q d) : (ratStr q).size ≤ 2 * d + 5 := by
  have e1 : (decStr q.num.natAbs).size ≤ d + 1 := size_dec_le _ _ (by omega) (Nat.lt_of_lt_of_le h.1 (pow_mono (by omega)))
  have e2 : (decStr q.den).size ≤ d + 1 := size_dec_le _ _ (by omega) (Nat.lt_of_le_of_lt h.2 (Nat.pow_lt_pow_right (by decide) (by omega)))
  have e3 : (decI q.num).size ≤ d + 2 := by
    unfold decI
    split
    · rw [ByteArray.size_append]; show 1 + _ ≤ _; omega
    · omega
  unfold ratStr
  split
  · omega
  · rw [ByteArray.size_append, ByteArray.size_append]
    show _ + (1 + _) ≤ _
    omega
/-- what a text's number is like -/
theorem num_facts {s : ByteArray} {q : Rat} {w : World} (hg : Gl w) (hs : s.size ≤ 1000000) (h : numS s = some q) : shortT (ratStr q) = true ∧ Bd q s.size ∧ (limbs q.num.natAbs).length ≤ 67 ∧ (limbs q.den).length ≤ 67 := by
  rcases parse_any2 s hs with ⟨p, hb, hp⟩ | ⟨E, hE, hp⟩
  · obtain ⟨e, w', _, _, _, _, _, _, _, _, _, _, ⟨_, l1, l2, l3, l4⟩, r1, r2, _⟩ := calls_ex (hp w)
    have f1 : (limbs p.num.natAbs).length ≤ 67 := by rw [← l3, r1.1]; omega
    have f2 : (limbs p.den).length ≤ 67 := by rw [← l4, r2.1]; omega
    have := numS_eq hg (number_is s p 67 67 hp (by omega) (by omega))
    rw [h] at this
    unfold numO at this
    split at this
    · rename_i hsh
      injection this with e
      subst e
      exact ⟨hsh, hb, f1, f2⟩
    · cases this
  · have := numS_eq hg (number_bad s E hE hp)
    rw [h] at this
    cases this

end Go.Proofs.YtkcgikoploohkaaGreatDoor
