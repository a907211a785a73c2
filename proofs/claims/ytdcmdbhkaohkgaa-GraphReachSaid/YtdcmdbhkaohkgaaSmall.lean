/- What few, isPlace, Needs, unfound and same tell. No condition but bounds. -/
import Derived.Test.YtdcmdbhkaohkgaaMem
namespace Go.Proofs.Ytdcmdbhkaohkgaa
open Go.RowKit

/-- at most 20 rows of at most 40 -/
def Few (G : List (List Int)) : Prop := G.length ≤ 20 ∧ ∀ i, i < G.length → (G.getD i []).length ≤ 40

def FewPost (G : List (List Int)) (w : World) (e : Ending) (w' : World) : Prop := (∃ b, e = .returned (.bool b) ∧ (b = true → Few G)) ∧ w = w'

set_option maxHeartbeats 400000 in
theorem few_any (a : Option Addr) (n c B : Nat) (G : List (List Int)) (w : World) (hg : GRow w B a n c G) :
    Calls Try.prog 7 #[.slice a n c] w (FewPost G w) := by
  have hm := hg.len_le
  have HG := Lib.hid hg; clear hg
  unfold maxLen at hm
  by_cases hn : n ≤ 20
  · go_enter Try.func7, Try.ntmps7
    go_wp2
    go_loop [3] (fun t => ∃ k : Nat, k ≤ n ∧ t = .int .i64 k ∧ Hid (∀ i, i < k → (G.getD i []).length ≤ 40)) (fun t => n - (intOf t).toNat)
    case atStart => exact ⟨0, Nat.zero_le _, rfl, fun i hi => by omega⟩
    case round =>
      obtain ⟨k, hk, rfl, hz⟩ := hrel
      by_cases hlt : k < n
      · obtain ⟨b, off, A, L, C, rfl, hb, hcell, hrow⟩ := HG.out.at_ hlt
        have hL := hrow.len_le
        unfold maxLen at hL
        have HL : Hid ((G.getD k []).length = L) := hrow.1
        clear hrow
        by_cases h40 : L ≤ 40
        · go_wp2
          go_round
          case rel => exact ⟨k + 1, by omega, by go_num, fun i hi => if h : i = k then by rw [h, HL.out]; exact h40 else hz.out i (by omega)⟩
          case measure => simp [intOf]; omega
        · go_wp2
          go_ret
          exact ⟨⟨false, rfl, fun h => by cases h⟩, rfl⟩
      · go_wp2
        go_ret
        have hl := HG.out.1
        exact ⟨⟨true, rfl, fun _ => ⟨by omega, fun i hi => hz.out i (by omega)⟩⟩, rfl⟩
  · go_enter Try.func7, Try.ntmps7
    go_wp2
    go_ret
    exact ⟨⟨false, rfl, fun h => by cases h⟩, rfl⟩

theorem isPlace_yes (a : Option Addr) (n c : Nat) (J : Int) (w : World) (hn : n ≤ maxLen) (h0 : 0 ≤ J) (h1 : J < n) :
    Calls Try.prog 20 #[.slice a n c, .int .i64 J] w fun e w' => e = .returned (.bool true) ∧ w = w' := by
  unfold maxLen at hn
  go_enter Try.func20, Try.ntmps20
  go_wp2
  go_ret
  exact ⟨rfl, rfl⟩

theorem isPlace_no (a : Option Addr) (n c : Nat) (J : Int) (w : World) (hn : n ≤ maxLen) (h : J < 0 ∨ (n : Int) ≤ J) :
    Calls Try.prog 20 #[.slice a n c, .int .i64 J] w fun e w' => e = .returned (.bool false) ∧ w = w' := by
  unfold maxLen at hn
  by_cases h0 : J < 0
  · go_enter Try.func20, Try.ntmps20
    go_wp2
    go_ret
    exact ⟨rfl, rfl⟩
  · have h1 : (n : Int) ≤ J := by omega
    clear h
    have h0' : 0 ≤ J := by omega
    go_enter Try.func20, Try.ntmps20
    go_wp2
    go_ret
    exact ⟨ret_bool (show decide (J < (n : Int)) = false by rw [decide_eq_false_iff_not]; omega), rfl⟩

/-- does place I need place K? -/
def ndB (G : List (List Int)) (I K : Int) : Bool := decide (0 ≤ I) && decide (I < G.length) && decide (0 ≤ K) && decide (K < G.length) && decide (K ∈ G.getD I.toNat [])

theorem mem_getD {xs : List Int} {K : Int} (h : K ∈ xs) : ∃ i, i < xs.length ∧ xs.getD i 0 = K := by
  obtain ⟨i, hi, e⟩ := List.mem_iff_getElem.1 h
  exact ⟨i, hi, by simp [hi, e]⟩
theorem getD_mem {xs : List Int} {i : Nat} (h : i < xs.length) : xs.getD i 0 ∈ xs := by simp [h]

set_option maxHeartbeats 1000000 in
theorem needs_any (a : Option Addr) (n c B : Nat) (G : List (List Int)) (I K : Int) (w : World) (hg : GRow w B a n c G) :
    Calls Try.prog 10 #[.slice a n c, .int .i64 I, .int .i64 K] w fun e w' => e = .returned (.bool (ndB G I K)) ∧ w = w' := by
  have hm := hg.len_le
  have HN : Hid (G.length = n) := hg.1
  have HG := Lib.hid hg; clear hg
  unfold maxLen at hm
  by_cases hI0 : 0 ≤ I
  rotate_left
  · have HF : Hid (ndB G I K = false) := by show _ = _; unfold ndB; rw [HN.out]; simp; omega
    have hI0' : I < 0 := by omega
    clear hI0
    go_enter Try.func10, Try.ntmps10
    go_wp2
    go_ret
    exact ⟨by rw [HF.out]; rfl, rfl⟩
  by_cases hI1 : I < n
  rotate_left
  · have HF : Hid (ndB G I K = false) := by show _ = _; unfold ndB; rw [HN.out]; simp; omega
    have hI1' : (n : Int) ≤ I := by omega
    clear hI1
    go_enter Try.func10, Try.ntmps10
    go_wp2
    go_ret
    exact ⟨by rw [HF.out]; rfl, rfl⟩
  by_cases hK0 : 0 ≤ K
  rotate_left
  · have HF : Hid (ndB G I K = false) := by show _ = _; unfold ndB; rw [HN.out]; simp; omega
    have hK0' : K < 0 := by omega
    clear hK0
    go_enter Try.func10, Try.ntmps10
    go_wp2
    go_ret
    exact ⟨by rw [HF.out]; rfl, rfl⟩
  by_cases hK1 : K < n
  rotate_left
  · have HF : Hid (ndB G I K = false) := by show _ = _; unfold ndB; rw [HN.out]; simp; omega
    have hK1' : (n : Int) ≤ K := by omega
    clear hK1
    go_enter Try.func10, Try.ntmps10
    go_wp2
    go_ret
    exact ⟨by rw [HF.out]; rfl, rfl⟩
  obtain ⟨i, rfl⟩ : ∃ i : Nat, I = (i : Int) := ⟨I.toNat, by omega⟩
  have hi : i < n := by omega
  obtain ⟨b, off, A, L, C, rfl, hb, hcell, hrow⟩ := HG.out.at_ hi
  have hL := hrow.len_le
  unfold maxLen at hL
  have HL : Hid ((G.getD i []).length = L) := hrow.1
  have HR := Lib.hid hrow; clear hrow
  have HB : Hid (ndB G (i : Int) K = decide (K ∈ G.getD i [])) := by show _ = _; unfold ndB; rw [HN.out]; simp; omega
  go_enter Try.func10, Try.ntmps10
  go_wp2
  go_loop [7] (fun t => ∃ k : Nat, k ≤ L ∧ t = .int .i64 k ∧ Hid (∀ j, j < k → (G.getD i []).getD j 0 ≠ K)) (fun t => L - (intOf t).toNat)
  case atStart => exact ⟨0, Nat.zero_le _, rfl, fun i hi => by omega⟩
  case round =>
    obtain ⟨k, hk, rfl, hz⟩ := hrel
    by_cases hlt : k < L
    · obtain ⟨b2, off2, rfl, hb2, hcell2⟩ := HR.out.at_ hlt
      obtain ⟨X, hX⟩ : ∃ X, X = (G.getD i []).getD k 0 := ⟨_, rfl⟩
      rw [← hX] at hcell2
      have HX := Lib.hid hX; clear hX
      by_cases hXK : X = K
      · have hXK' : (X == K) = true := by simpa using hXK
        have HE : Hid (ndB G (i : Int) K = true) := by
          show _ = _
          rw [HB.out, decide_eq_true_eq, ← hXK, HX.out]
          exact getD_mem (by rw [HL.out]; exact hlt)
        have HXK := Lib.hid hXK; clear hXK
        go_wp2
        go_ret
        exact ⟨by rw [HE.out]; rfl, rfl⟩
      · have hXK' : (X == K) = false := by simpa using hXK
        have HXK := Lib.hid hXK; clear hXK
        go_wp2
        go_round
        case rel => exact ⟨k + 1, by omega, by go_num, fun j hj => if h : j = k then by rw [h, ← HX.out]; exact HXK.out else hz.out j (by omega)⟩
        case measure => simp [intOf]; omega
    · have HE : Hid (ndB G (i : Int) K = false) := by
        show _ = _
        rw [HB.out, decide_eq_false_iff_not]
        intro hmem
        obtain ⟨j, hj, e⟩ := mem_getD hmem
        exact hz.out j (by have := HL.out; omega) e
      go_wp2
      go_ret
      exact ⟨by rw [HE.out]; rfl, rfl⟩

/-- what unfound tells: a row of -1, all of a block of its own -/
def Unf (n : Nat) (w : World) (e : Ending) (w' : World) : Prop := ∃ g, e = .returned (.slice (some ⟨g, 0, none⟩) n n) ∧ w.heap.size ≤ g ∧ IMem w' g (List.replicate n (-1)) ∧ Below w.heap.size w w'

theorem rep_set {n k : Nat} (hk : k < n) (x y : Int) : (List.replicate k x ++ List.replicate (n - k) y).set k x = List.replicate (k + 1) x ++ List.replicate (n - (k + 1)) y := by
  have : n - k = (n - (k + 1)) + 1 := by omega
  rw [this, List.replicate_succ, List.set_append, if_neg (by simp), List.length_replicate, Nat.sub_self, List.set_cons_zero, List.replicate_succ']
  simp

set_option maxHeartbeats 400000 in
theorem unfound_any (a : Option Addr) (n c : Nat) (w : World) (hn : n ≤ 1000000) :
    Calls Try.prog 21 #[.slice a n c] w (Unf n w) := by
  go_enter Try.func21, Try.ntmps21
  go_wp2_with (at_make; refine makeI rfl _ rfl _ n rfl rfl (by omega) ?_)
  intro w1 hm1 hb1
  have HM1 := Lib.hid hm1; clear hm1
  obtain ⟨g, hg⟩ : ∃ g, g = w.heap.size := ⟨_, rfl⟩
  rw [← hg] at HM1 ⊢
  have hgw : w.heap.size ≤ g := by omega
  have HG := Lib.hid hg; clear hg
  go_wp2
  go_loopw [10] (fun t wr => ∃ k : Nat, k ≤ n ∧ t = .int .i64 (k : Int) ∧ Hid (IMem wr g (List.replicate k (-1) ++ List.replicate (n - k) 0)) ∧ Below w.heap.size w wr) (fun t _ => n - (intOf t).toNat)
  case atStart => exact ⟨0, Nat.zero_le _, rfl, by simpa using HM1, hb1⟩
  case round =>
    obtain ⟨k, hk, rfl, hz, hbr⟩ := hrel
    by_cases hlt : k < n
    · have hf := hz.out.free k
      have hcell := hz.out.cell k (by simp; omega)
      go_wp2
      go_roundw
      case rel =>
        refine ⟨k + 1, by omega, by go_num, ?_, hbr.setCell (p := ⟨g, k, none⟩) hgw _⟩
        have := hz.out.set k (-1)
        rw [rep_set hlt] at this
        exact this
      case measure => simp [intOf]; omega
    · obtain rfl : k = n := by omega
      go_wp2
      go_ret
      exact ⟨g, rfl, hgw, by simpa using hz.out, hbr⟩

set_option maxHeartbeats 1000000 in
theorem same_any (a0 : Option Addr) (n0 c0 : Nat) (xs : List Int) (a1 : Option Addr) (n1 c1 : Nat) (ys : List Int) (B : Nat) (w : World) (h0 : IRow w B a0 n0 c0 xs) (h1 : IRow w B a1 n1 c1 ys) :
    Calls Try.prog 18 #[.slice a0 n0 c0, .slice a1 n1 c1] w fun e w' => e = .returned (.bool (decide (xs = ys))) ∧ Below w.heap.size w w' := by
  have hm0 := h0.len_le
  have hm1 := h1.len_le
  have HL0 : Hid (xs.length = n0) := h0.1
  have HL1 : Hid (ys.length = n1) := h1.1
  have H0 := Lib.hid h0; clear h0
  have H1 := Lib.hid h1; clear h1
  unfold maxLen at hm0 hm1
  obtain ⟨R, hR⟩ : ∃ R, R = decide (xs = ys) := ⟨_, rfl⟩
  rw [← hR]
  have HR := Lib.hid hR; clear hR
  by_cases hne : n0 = n1
  rotate_left
  · have hneI : ((n0 : Int) != (n1 : Int)) = true := by rw [bne_iff_ne]; omega
    have HE : Hid (R = false) := by
      show _ = _
      rw [HR.out, decide_eq_false_iff_not]
      intro e
      apply hne
      rw [← HL0.out, ← HL1.out, e]
    clear hne
    go_enter Try.func18, Try.ntmps18
    go_wp2
    go_ret
    exact ⟨by rw [HE.out]; rfl, Below.refl _ _⟩
  · subst hne
    go_enter Try.func18, Try.ntmps18
    go_wp2
    go_loopw [5] (fun t wr => ∃ k : Nat, k ≤ n0 ∧ t = .int .i64 k ∧ Hid (∀ j, j < k → xs.getD j 0 = ys.getD j 0) ∧ Below w.heap.size w wr ∧ Hid (∃ q, wr = w.drewN q)) (fun t _ => n0 - (intOf t).toNat)
    case atStart => exact ⟨0, Nat.zero_le _, rfl, fun i hi => by omega, Below.refl _ _, ⟨0, rfl⟩⟩
    case round =>
      obtain ⟨k, hk, rfl, hz, hbr, hq⟩ := hrel
      by_cases hlt : k < n0
      · obtain ⟨b0, off0, e0, hb0, hcell0⟩ := (H0.out.keep (w' := wr) (fun p _ => by obtain ⟨q, e⟩ := hq.out; rw [e]; rfl)).at_ hlt
        obtain ⟨b1, off1, e1, hb1, hcell1⟩ := (H1.out.keep (w' := wr) (fun p _ => by obtain ⟨q, e⟩ := hq.out; rw [e]; rfl)).at_ hlt
        subst e0
        subst e1
        obtain ⟨X, hX⟩ : ∃ X, X = xs.getD k 0 := ⟨_, rfl⟩
        obtain ⟨Y, hY⟩ : ∃ Y, Y = ys.getD k 0 := ⟨_, rfl⟩
        rw [← hX] at hcell0
        rw [← hY] at hcell1
        have HX := Lib.hid hX; clear hX
        have HY := Lib.hid hY; clear hY
        have hkI : (k : Int) < (n0 : Int) := by omega
        by_cases hXY : X = Y
        · subst hXY
          have hXX : (X != X) = false := by simp
          go_wp2
          go_region
          go_wp2
          go_roundw
          case rel => exact ⟨k + 1, by omega, by go_num, fun j hj => if h : j = k then by rw [h, ← HX.out, ← HY.out] else hz.out j (by omega), hbr.drew, by obtain ⟨q, e⟩ := hq.out; exact ⟨q + 1, by rw [e]; rfl⟩⟩
          case measure => simp [intOf]; omega
        · have hXY' : (X != Y) = true := by simpa using hXY
          have HE : Hid (R = false) := by
            show _ = _
            rw [HR.out, decide_eq_false_iff_not]
            intro e
            apply hXY
            rw [HX.out, HY.out, e]
          clear hXY
          go_wp2
          go_region
          go_wp2
          go_ret
          exact ⟨by rw [HE.out]; rfl, hbr.drew⟩
      · have HE : Hid (R = true) := by
          show _ = _
          rw [HR.out, decide_eq_true_eq]
          apply List.ext_getElem (by rw [HL0.out, HL1.out])
          intro i hi hi'
          have := hz.out i (by have := HL0.out; omega)
          simpa [hi, hi'] using this
        go_wp2
        go_ret
        exact ⟨by rw [HE.out]; rfl, hbr⟩

end Go.Proofs.Ytdcmdbhkaohkgaa
