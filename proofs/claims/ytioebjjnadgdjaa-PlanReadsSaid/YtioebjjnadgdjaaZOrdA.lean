/- What needs tells: of each place how many things it needs. No condition but bounds. -/
import Derived.Test.YtioebjjnadgdjaaZTurn
import Derived.Test.YtioebjjnadgdjaaZGrAToGrF
namespace Go.Proofs.Ytioebjjnadgdjaa
set_option linter.unusedVariables false
set_option linter.unusedSimpArgs false
set_option maxRecDepth 100000
open Go.RowKit Gr


theorem cs_le (T : List (List Int)) (i j : Nat) : cs T i j ≤ tot (T.take i) := by
  unfold cs tot
  generalize T.take i = L
  induction L with
  | nil => simp
  | cons r L ih =>
    simp only [List.map_cons, List.sum_cons]
    have := List.count_le_length (a := (j : Int)) (l := r)
    omega

theorem needRoom {T : List (List Int)} {i p : Nat} {M : List Int} (h : NeedAt T i p M) (hi : i < T.length) (j : Nat) (hj : j < T.length) : 0 ≤ M.getD j 0 ∧ M.getD j 0 ≤ (tot T : Nat) := by
  rw [h.2 j hj]
  have h1 := cs_le T i j
  have h2 := tot_take_le T i hi
  have h3 := List.count_le_length (a := (j : Int)) (l := (T.getD i []).take p)
  have h4 : ((T.getD i []).take p).length ≤ (T.getD i []).length := List.length_take_le' _ _
  omega

theorem needRoomEnd {T : List (List Int)} {M : List Int} (h : NeedAt T T.length 0 M) (j : Nat) (hj : j < T.length) : 0 ≤ M.getD j 0 ∧ M.getD j 0 ≤ (tot T : Nat) := by
  rw [h.2 j hj]
  have h1 := cs_le T T.length j
  rw [List.take_length] at h1
  simp
  omega

def CountPost (T : List (List Int)) (w : World) (e : Ending) (w' : World) : Prop :=
  ∃ g M, e = .returned (.slice (some ⟨g, 0, none⟩) T.length T.length) ∧ w.heap.size ≤ g ∧ IMem w' g M ∧ NeedAt T T.length 0 M ∧ Below w.heap.size w w'

set_option maxHeartbeats 2000000 in
theorem count_any (a : Option Addr) (n c B : Nat) (T : List (List Int)) (w : World) (hg : GRow w B a n c T) (hB : B ≤ w.heap.size) (hn : n ≤ 1000000) (ht : Gr.tot T ≤ 1000000) (hcl : Gr.Clean T) :
    Calls Try.prog 50 #[.slice a n c] w (CountPost T w) := by
  have HL : Hid (T.length = n) := hg.1
  have HG := Lib.hid hg; clear hg
  have HT := Lib.hid ht; clear ht
  have HC := Lib.hid hcl; clear hcl
  go_enter Try.func50, Try.ntmps50
  go_wp2_with (at_make; refine makeI rfl _ rfl _ n rfl rfl (by omega) ?_)
  intro w1 hm1 hb1
  have HM1 := Lib.hid hm1; clear hm1
  obtain ⟨g, hg⟩ : ∃ g, g = w.heap.size := ⟨_, rfl⟩
  rw [← hg] at HM1 ⊢
  have hgw : w.heap.size ≤ g := by omega
  have HGW := Lib.hid hg; clear hg
  go_wp2
  go_loopw [13] (fun t wr => ∃ (i : Nat) (M : List Int), i ≤ n ∧ t = .int .i64 (i : Int) ∧ Hid (IMem wr g M ∧ NeedAt T i 0 M) ∧ Below w.heap.size w wr) (fun t _ => n - (intOf t).toNat)
  case atStart => exact ⟨0, List.replicate n 0, Nat.zero_le _, rfl, ⟨HM1.out, by have := NeedAt.start T; rw [HL.out] at this; exact this⟩, hb1⟩
  case round =>
    obtain ⟨i, M0, hi, rfl, HZ0, hbr0⟩ := hrel
    by_cases hi0 : i < n
    · obtain ⟨wo, rfl⟩ : ∃ wo : World, wo = wr := ⟨_, rfl⟩
      obtain ⟨b, off, A, L, C, rfl, hb, hcell, hrow⟩ := (HG.out.below (hbr0.mono hB)).at_ hi0
      have hL := hrow.len_le
      unfold maxLen at hL
      have HLr : Hid ((T.getD i []).length = L) := hrow.1
      have HR : Hid (IRow wo B A L C (T.getD i [])) := hrow
      clear hrow
      have HBo := Lib.hid hbr0; clear hbr0
      go_wp2
      go_loopw [19] (fun t wr => ∃ (p : Nat) (M : List Int), p ≤ L ∧ t = .int .i64 (p : Int) ∧ Hid (IMem wr g M ∧ NeedAt T i p M) ∧ Below w.heap.size w wr ∧ Hid (Below B wo wr)) (fun t _ => L - (intOf t).toNat)
      case atStart => exact ⟨0, M0, Nat.zero_le _, rfl, HZ0.out, HBo.out, Below.refl _ _⟩
      case round =>
        obtain ⟨p, M, hp, rfl, HZ, hbr, HBr⟩ := hrel
        by_cases hp0 : p < L
        · obtain ⟨b2, off2, rfl, hb2, hcell2⟩ := (HR.out.below HBr.out).at_ hp0
          obtain ⟨k, hk, hkn⟩ := HC.out i (by rw [HL.out]; exact hi0) ((T.getD i []).getD p 0) (getD_mem (by rw [HLr.out]; exact hp0))
          rw [hk] at hcell2
          rw [HL.out] at hkn
          have HK := Lib.hid hk; clear hk
          have hck := HZ.out.1.cell k (by rw [HZ.out.2.1, HL.out]; exact hkn)
          have hfk := HZ.out.1.free k
          have hroom := needRoom HZ.out.2 (by rw [HL.out]; exact hi0) k (by rw [HL.out]; exact hkn)
          obtain ⟨X, hX⟩ : ∃ X, X = M.getD k 0 := ⟨_, rfl⟩
          rw [← hX] at hck hroom
          obtain ⟨hX0, hX1'⟩ := hroom
          have hX1 : X ≤ 1000000 := by have := HT.out; omega
          have HX := Lib.hid hX; clear hX hX1'
          have hkI : (k : Int) < (n : Int) := by omega
          go_wp2
          go_roundw
          case rel => exact ⟨p + 1, _, by omega, by go_num, ⟨HZ.out.1.set k (X + 1), by have := HZ.out.2.add (by rw [HLr.out]; exact hp0) k (by rw [HL.out]; exact hkn) HK.out; rw [← HX.out] at this; exact this⟩, hbr.setCell (p := ⟨g, k, none⟩) hgw _, HBr.out.setCell (p := ⟨g, k, none⟩) (show B ≤ g by omega) _⟩
          case measure => simp [intOf]; omega
        · obtain rfl : p = L := by omega
          go_wp2
          go_roundw
          case rel => exact ⟨i + 1, M, by omega, by go_num, ⟨HZ.out.1, NeedAt.next (by rw [HLr.out]; exact HZ.out.2) (by rw [HL.out]; exact hi0)⟩, hbr⟩
          case measure => simp [intOf]; omega
    · obtain rfl : i = n := by omega
      go_wp2
      go_ret
      exact ⟨g, M0, by rw [HL.out]; rfl, hgw, HZ0.out.1, by rw [HL.out]; exact HZ0.out.2, hbr0⟩

end Go.Proofs.Ytioebjjnadgdjaa
