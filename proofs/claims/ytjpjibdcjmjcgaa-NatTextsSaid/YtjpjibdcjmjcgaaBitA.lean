/- Rows of bits that the call appends to; what add and sub tell of two rows of bits. -/
import Derived.Test.YtjpjibdcjmjcgaaBitR
namespace Go.Proofs.Ytjpjibdcjmjcgaa
open Go.RowKit Nums

theorem Try.info4 : (Try.prog.info? 4).map (fun i => (i.zero, i.size, i.bytes)) = some (some (.bool false), 1, 1) := by kernel_rfl

/-- The slice v owns a row of bits, in a block from B on. -/
def OwnB (w : World) (B : Nat) (v : Value) (bs : List Bool) : Prop := w.ownsRow B 4 1 v bs.length (bs.map Value.bool)

theorem append_bool {w0 : World} {b : Bool} {ops : Array Oper} {rest : List Oper} {o : Oper} {a : Act} {Q : Exit → Act → World → Prop} (hgd : o.guard = none) (s x : Operand)
    (ho : o.op = .call { callee := .builtin .append, args := #[s, x], argTypes := #[41, 41] }) (B : Nat) (v : Value) (bs : List Bool) (hs : a.eval s = v) (hx : a.eval x = .slice (some ⟨w0.heap.size, 0, none⟩) 1 1)
    (hown : OwnB w0 B v bs) (hB : B ≤ w0.heap.size) (hn : bs.length ≤ 1000000000)
    (hK : ∀ v' w', OwnB w' B v' (bs ++ [b]) → Below B w0 w' → wpList Try.prog ops Q rest (a.put o.dst v') w') :
    wpList Try.prog ops Q (o :: rest) a (w0.alloc (.cells #[.bool b] 4)) := by
  obtain ⟨i0, hi, hz0, hz1, hz2⟩ := info_parts Try.info4
  refine wpList_append_own (w0.alloc (.cells #[.bool b] 4)) hgd s x 41 ho B 4 i0 (.bool false) 1 1 Try.underlying41 hi hz0 hz1 hz2 rfl (by decide) v bs.length _ hs (World.ownsRow.alloc hown _) ⟨w0.heap.size, 0, none⟩ 1 1 [.bool b] hx rfl ?_ ?_ ?_ ?_ ?_ ?_
  · intro j u hj
    match j, hj with
    | 0, hj => simp at hj; subst hj; simp [Addr.add]
  · intro u hu; simp at hu; subst hu; rfl
  · unfold maxLen; omega
  · omega
  · simp; omega
  · intro v' w' h1 h2 _
    refine hK v' w' ?_ ?_
    · unfold OwnB; simp only [List.length_append, List.map_append]; exact h1
    · exact ((Below.refl B w0).alloc hB _).grown h2 (by simp; omega) (fun k hk => (hown.lt k hk).1)

theorem append_u32 {w0 : World} {z : Int} {ops : Array Oper} {rest : List Oper} {o : Oper} {a : Act} {Q : Exit → Act → World → Prop} (hgd : o.guard = none) (s x : Operand)
    (ho : o.op = .call { callee := .builtin .append, args := #[s, x], argTypes := #[22, 22] }) (B : Nat) (v : Value) (cs : List Nat) (u : Nat) (hs : a.eval s = v) (hx : a.eval x = .slice (some ⟨w0.heap.size, 0, none⟩) 1 1)
    (hz : z = (u : Int)) (hown : w0.ownsRow B 38 1 v cs.length (cs.map u32)) (hB : B ≤ w0.heap.size) (hn : cs.length ≤ 1000000000)
    (hK : ∀ v' w', w'.ownsRow B 38 1 v' (cs ++ [u]).length ((cs ++ [u]).map u32) → Below B w0 w' → wpList Try.prog ops Q rest (a.put o.dst v') w') :
    wpList Try.prog ops Q (o :: rest) a (w0.alloc (.cells #[.int .u32 z] 38)) := by
  subst hz
  obtain ⟨i0, hi, hz0, hz1, hz2⟩ := info_parts Try.info38
  refine wpList_append_own (w0.alloc (.cells #[.int .u32 (u : Nat)] 38)) hgd s x 22 ho B 38 i0 (.int .u32 0) 1 4 Try.underlying22 hi hz0 hz1 hz2 rfl (by decide) v cs.length _ hs (World.ownsRow.alloc hown _) ⟨w0.heap.size, 0, none⟩ 1 1 [.int .u32 (u : Nat)] hx rfl ?_ ?_ ?_ ?_ ?_ ?_
  · intro j u hj
    match j, hj with
    | 0, hj => simp at hj; subst hj; simp [Addr.add]
  · intro u hu; simp at hu; subst hu; rfl
  · unfold maxLen; omega
  · omega
  · simp; omega
  · intro v' w' h1 h2 _
    refine hK v' w' ?_ ?_
    · simp only [List.length_append, List.map_append]; exact h1
    · exact ((Below.refl B w0).alloc hB _).grown h2 (by simp; omega) (fun k hk => (hown.lt k hk).1)

/-- what is owned reads as a row -/
theorem brow_own {w : World} {B : Nat} {v : Value} {bs : List Bool} (h : OwnB w B v bs) : ∃ a c, v = .slice a bs.length c ∧ BRow w a bs.length c bs ∧ (∀ g, v.ownBlock = some g → B ≤ g) := by
  have hlt := h.lt
  rcases h.2 with ⟨rfl, h0⟩ | ⟨g, cap, cur, rfl, hBg, hgg, hnc, hcm, _⟩
  · have : bs = [] := List.length_eq_zero_iff.1 h0
    subst this
    exact ⟨none, 0, rfl, brow_nil w, fun g hg => by simp [Value.ownBlock] at hg⟩
  · refine ⟨some ⟨g, 0, none⟩, cap, rfl, ⟨rfl, hnc, hcm, by simp, g, 0, Or.inl rfl, fun i hi => ⟨(hlt g rfl).2, ?_⟩⟩, fun g' hg' => (hlt g' hg').1⟩
    rw [Nat.zero_add, h.cellAt i (by omega)]
    simp [hi]

theorem bcut_own (w0 w : World) (B : Nat) (v : Value) (bs : List Bool) (N : Nat) (h : OwnB w B v bs) (hv : bval bs = N) (hn : bs.length ≤ 1000000000) (hb : Below w0.heap.size w0 w) : Calls Try.prog 51 #[v] w (BNum N w0) := by
  subst hv
  obtain ⟨a, c, rfl, hrow, _⟩ := brow_own h
  refine (bcut_num a _ c bs w hrow hn).mono ?_
  rintro e w' ⟨m, rfl, hm, hmn, hr, rfl⟩
  exact ⟨a, m, c, rfl, hm, hr, hb⟩

/-- k bits of a sum have been told; c: what is carried -/
def BSumAt (xs ys out : List Bool) (k : Nat) (c : Bool) : Prop := out.length = k ∧ bval out + 2 ^ k * bnum c = bval (xs.take k) + bval (ys.take k)

theorem BSumAt.step {xs ys out : List Bool} {k : Nat} {c x y b c' : Bool} (h : BSumAt xs ys out k c) (hx : x = xs.getD k false) (hy : y = ys.getD k false) (hb : bnum b + 2 * bnum c' = bnum x + bnum y + bnum c) : BSumAt xs ys (out ++ [b]) (k + 1) c' := by
  obtain ⟨h1, h2⟩ := h
  refine ⟨by simp [h1], ?_⟩
  rw [bval_snoc, h1, bval_take_next xs, bval_take_next ys, ← hx, ← hy, Nat.pow_succ, Nat.mul_assoc]
  have e : 2 ^ k * (bnum b + 2 * bnum c') = 2 ^ k * (bnum x + bnum y + bnum c) := by rw [hb]
  simp only [Nat.mul_add] at e
  omega

theorem BSumAt.done {xs ys out : List Bool} {k : Nat} (h : BSumAt xs ys out k false) (hx : xs.length ≤ k) (hy : ys.length ≤ k) : bval out = bval xs + bval ys := by
  have h2 := h.2
  rw [List.take_of_length_le hx, List.take_of_length_le hy] at h2
  simpa [bnum] using h2

set_option maxHeartbeats 4000000 in
theorem badd_any (a0 a1 : Option Addr) (n0 c0 n1 c1 : Nat) (xs ys : List Bool) (w : World) (h0 : BRow w a0 n0 c0 xs) (h1 : BRow w a1 n1 c1 ys) (hn0 : n0 ≤ 10000000) (hn1 : n1 ≤ 10000000) :
    Calls Try.prog 41 #[.slice a0 n0 c0, .slice a1 n1 c1] w (BNum (bval xs + bval ys) w) := by
  have HL0 := Lib.hid h0.1
  have HL1 := Lib.hid h1.1
  have H0 := Lib.hid h0; clear h0
  have H1 := Lib.hid h1; clear h1
  obtain ⟨M, hM⟩ : ∃ M : Nat, M = max n0 n1 := ⟨_, rfl⟩
  have hM0 : n0 ≤ M := by omega
  have hM1 : n1 ≤ M := by omega
  have hMb : M ≤ 10000000 := by omega
  have HM := Lib.hid hM; clear hM
  rcases Nat.lt_or_ge n0 n1 with hle | hle
  all_goals
    go_enter Try.func41, Try.ntmps41
    go_wp2
    go_loopw [5, 6, 7] (fun v cv t wr => ∃ (k : Nat) (c : Bool) (out : List Bool), k ≤ 10000001 ∧ t = .int .i64 (k : Int) ∧ cv = .bool c ∧ Hid ((k ≤ M ∨ (k = M + 1 ∧ c = false)) ∧ OwnB wr w.heap.size v out ∧ BSumAt xs ys out k c) ∧ Below w.heap.size w wr) (fun _ _ t _ => (10000002 - (intOf t)).toNat)
    case atStart => exact ⟨0, false, [], by omega, rfl, rfl, ⟨Or.inl (Nat.zero_le _), World.ownsRow_nil _ _ _ _, rfl, by simp [bval, bnum]⟩, Below.refl _ _⟩
    case round =>
      obtain ⟨k, c, out, hk, rfl, rfl, HZ, hbr⟩ := hrel
      have HX := Lib.hid (at_any a0 n0 c0 xs wr (k : Int) k rfl (brow_below (Nat.le_refl _) hbr H0.out) (by omega) (by omega))
      have HY := Lib.hid (at_any a1 n1 c1 ys wr (k : Int) k rfl (brow_below (Nat.le_refl _) hbr H1.out) (by omega) (by omega))
      have HOL : Hid (out.length = k) := HZ.out.2.2.1
      by_cases hkM : k < M
      · have hkI : k < n0 ∨ k < n1 := by have := HM.out; omega
        have hkN : k < max n0 n1 := by have := HM.out; omega
        have hkL : (n0 < n1 ∧ k < n1) ∨ (n1 ≤ n0 ∧ k < n0) := by omega
        clear hkI hkN
        obtain ⟨x, hx⟩ : ∃ x, x = xs.getD k false := ⟨_, rfl⟩
        obtain ⟨y, hy⟩ : ∃ y, y = ys.getD k false := ⟨_, rfl⟩
        rw [← hx] at HX
        rw [← hy] at HY
        have HXE := Lib.hid hx; clear hx
        have HYE := Lib.hid hy; clear hy
        rcases hkL with ⟨hq, hkI⟩ | ⟨hq, hkI⟩
        all_goals first | (exfalso; omega) | skip
        all_goals clear hq
        all_goals (cases x <;> cases y <;> cases c)
        all_goals
          go_wp2_with fail
          refine HX.out.mono ?_
          rintro e w' ⟨rfl, rfl⟩
          go_wp2_with fail
          refine HY.out.mono ?_
          rintro e w' ⟨rfl, rfl⟩
          go_wp2_with (at_builtin; refine append_bool rfl _ _ rfl w.heap.size _ out rfl rfl HZ.out.2.1 hbr.size (by rw [HOL.out]; omega) ?_)
          intro v' w2 hown' hb2
          have HOW := Lib.hid hown'; clear hown'
          go_wp2
          go_roundw
          case rel => first | exact ⟨k + 1, false, _, by omega, by go_num, rfl, ⟨Or.inl hkM, HOW.out, HZ.out.2.2.step HXE.out HYE.out (by decide)⟩, hbr.trans hb2⟩ | exact ⟨k + 1, true, _, by omega, by go_num, rfl, ⟨Or.inl hkM, HOW.out, HZ.out.2.2.step HXE.out HYE.out (by decide)⟩, hbr.trans hb2⟩
          case measure => simp [intOf]; omega
      · cases c with
        | false =>
          have HD : Hid (bval out = bval xs + bval ys) := HZ.out.2.2.done (by rw [HL0.out]; omega) (by rw [HL1.out]; omega)
          have hk1 : n0 ≤ k := by omega
          have hk2 : n1 ≤ k := by omega
          go_wp2_with fail
          refine (bcut_own w wr w.heap.size _ out _ HZ.out.2.1 HD.out (by rw [HOL.out]; omega) hbr).mono ?_
          rintro e w' ⟨a', m, c', rfl, hm, hrow, hb⟩
          have HM' := Lib.hid hm; clear hm
          have HROW := Lib.hid hrow; clear hrow
          have HB := Lib.hid hb; clear hb
          go_wp2
          go_ret
          exact ⟨a', m, c', rfl, HM'.out, HROW.out, HB.out⟩
        | true =>
          have hkE : k ≤ M := by
            rcases HZ.out.1 with h | ⟨_, h⟩
            · exact h
            · cases h
          have HXE : Hid (false = xs.getD k false) := (bgetD_ge xs k (by rw [HL0.out]; omega)).symm
          have HYE : Hid (false = ys.getD k false) := (bgetD_ge ys k (by rw [HL1.out]; omega)).symm
          rw [← HXE.out] at HX
          rw [← HYE.out] at HY
          have hk1 : n0 ≤ k := by omega
          have hk2 : n1 ≤ k := by omega
          go_wp2_with fail
          refine HX.out.mono ?_
          rintro e w' ⟨rfl, rfl⟩
          go_wp2_with fail
          refine HY.out.mono ?_
          rintro e w' ⟨rfl, rfl⟩
          go_wp2_with (at_builtin; refine append_bool rfl _ _ rfl w.heap.size _ out rfl rfl HZ.out.2.1 hbr.size (by rw [HOL.out]; omega) ?_)
          intro v' w2 hown' hb2
          have HOW := Lib.hid hown'; clear hown'
          go_wp2
          go_roundw
          case rel => exact ⟨k + 1, false, _, by omega, by go_num, rfl, ⟨Or.inr ⟨by omega, rfl⟩, HOW.out, HZ.out.2.2.step HXE.out HYE.out (by decide)⟩, hbr.trans hb2⟩
          case measure => simp [intOf]; omega
end Go.Proofs.Ytjpjibdcjmjcgaa
