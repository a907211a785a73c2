/- What follow tells: ten times a number that the call owns, and a digit. -/
import Derived.Test.YtjpjibdcjmjcgaaGcd
namespace Go.Proofs.Ytjpjibdcjmjcgaa
open Go.RowKit Nums

/-- The slice v owns a row of numbers, in a block from B on. -/
def Own (w : World) (B : Nat) (v : Value) (cs : List Nat) : Prop := w.ownsRow B 38 1 v cs.length (cs.map u32)

theorem cell_own {w : World} {B g n cap : Nat} {cs : List Nat} (h : w.ownsRow B 38 1 (.slice (some ⟨g, 0, none⟩) n cap) n (cs.map u32)) (j : Nat) (hj : j < n) : w.cell? ⟨g, j, none⟩ = some (.int .u32 (cs.getD j 0 : Nat)) := by
  have hl : (cs.map u32).length = n := by have := h.1; simpa using this
  rw [h.cellAt j (by omega)]
  have : j < cs.length := by simp at hl; omega
  simp [this, u32]

theorem own_set {w : World} {B g n cap : Nat} {cs : List Nat} (h : w.ownsRow B 38 1 (.slice (some ⟨g, 0, none⟩) n cap) n (cs.map u32)) (j : Nat) (z : Int) (u : Nat) (hz : z = (u : Int)) : (w.setCell ⟨g, j, none⟩ (.int .u32 z)).ownsRow B 38 1 (.slice (some ⟨g, 0, none⟩) n cap) n ((cs.set j u).map u32) := by
  subst hz
  have := (h.stored j (.int .u32 (u : Nat))).1
  rw [List.map_set]
  exact this

def TenAt (cs zs : List Nat) (d k c : Nat) : Prop := val (zs.take k) + 4294967296 ^ k * c = val (cs.take k) * 10 + d ∧ ∀ j, k ≤ j → zs.getD j 0 = cs.getD j 0

theorem TenAt.step {cs zs : List Nat} {d k c x u c' : Nat} (h : TenAt cs zs d k c) (hk : k < zs.length) (hx : x = zs.getD k 0) (hu : u + 4294967296 * c' = c + x * 10) : TenAt cs (zs.set k u) d (k + 1) c' := by
  obtain ⟨h1, h2⟩ := h
  refine ⟨?_, ?_⟩
  · rw [val_set_take zs k u hk, val_take_next cs k, ← h2 k (Nat.le_refl _), ← hx, Nat.pow_succ, Nat.mul_assoc, Nat.add_mul, Nat.mul_assoc]
    have e : 4294967296 ^ k * (u + 4294967296 * c') = 4294967296 ^ k * (c + x * 10) := by rw [hu]
    simp only [Nat.mul_add] at e
    omega
  · intro j hj
    rw [← h2 j (by omega)]
    simp [show k ≠ j by omega]

set_option maxHeartbeats 1000000 in
theorem follow_some (B g n cap : Nat) (cs : List Nat) (D : Int) (d : Nat) (w : World) (hD : D = (d : Int)) (hd : d ≤ 9) (ho : w.ownsRow B 38 1 (.slice (some ⟨g, 0, none⟩) n cap) n (cs.map u32)) (hBg : B ≤ g) (hs : Small cs) (hn : n ≤ 100000000) (hB : B ≤ w.heap.size) :
    Calls Try.prog 48 #[.slice (some ⟨g, 0, none⟩) n cap, .int .u32 D] w fun e w' => ∃ v' cs', e = .returned v' ∧ Own w' B v' cs' ∧ Small cs' ∧ val cs' = val cs * 10 + d ∧ cs'.length ≤ cs.length + 1 ∧ Below B w w' := by
  subst hD
  have HO := Lib.hid ho; clear ho
  have HLC : Hid (cs.length = n) := by have := HO.out.1; simp at this; exact this
  obtain ⟨i0, hi, hz0, hz1, hz2⟩ := info_parts Try.info38
  have HI := Lib.hid hi; clear hi
  have HI0 := Lib.hid hz0; clear hz0
  have HI1 := Lib.hid hz1; clear hz1
  have HI2 := Lib.hid hz2; clear hz2
  go_enter Try.func48, Try.ntmps48
  go_wp2
  go_loopw [5, 11] (fun cv t wr => ∃ (k c : Nat) (zs : List Nat), k ≤ n ∧ t = .int .i64 (k : Int) ∧ cv = .int .u64 (c : Int) ∧ c ≤ 9 ∧ Hid (Small zs ∧ wr.ownsRow B 38 1 (.slice (some ⟨g, 0, none⟩) n cap) n (zs.map u32) ∧ TenAt cs zs d k c ∧ zs.length = n) ∧ Below B w wr) (fun _ t _ => n - (intOf t).toNat)
  case atStart => exact ⟨0, d, cs, Nat.zero_le _, rfl, rfl, hd, ⟨hs, HO.out, ⟨by simp [val], fun _ _ => rfl⟩, HLC.out⟩, Below.refl _ _⟩
  case round =>
    obtain ⟨k, c, zs, hk, rfl, rfl, hc, HZ, hbr⟩ := hrel
    by_cases hk0 : k < n
    · have hcell := cell_own HZ.out.2.1 k hk0
      have hfree := HZ.out.2.1.frozenAt k
      have hx := getD_lt zs HZ.out.1 k
      obtain ⟨x, hxe⟩ : ∃ x, x = zs.getD k 0 := ⟨_, rfl⟩
      rw [← hxe] at hcell hx
      have HXE := Lib.hid hxe; clear hxe
      go_wp2
      go_roundw
      case rel => exact ⟨k + 1, (c + x * 10) / 4294967296, zs.set k ((c + x * 10) % 4294967296), by omega, by go_num, by go_num, by omega, ⟨small_set HZ.out.1 _ _ (by omega), own_set HZ.out.2.1 k _ _ (by omega), HZ.out.2.2.1.step (by rw [HZ.out.2.2.2]; exact hk0) HXE.out (by omega), by simp [HZ.out.2.2.2]⟩, hbr.setCell (by exact hBg) _⟩
      case measure => simp [intOf]; omega
    · obtain rfl : n = k := by omega
      have HV : Hid (val zs + 4294967296 ^ n * c = val cs * 10 + d) := by
        have h := HZ.out.2.2.1.1
        rw [List.take_of_length_le (by rw [HZ.out.2.2.2]; exact Nat.le_refl _), List.take_of_length_le (by rw [HLC.out]; exact Nat.le_refl _)] at h
        exact h
      by_cases hc0 : 0 < c
      · go_wp2_with (at_builtin; refine wpList_append_own _ rfl _ _ 22 rfl B 38 i0 (.int .u32 0) 1 4 Try.underlying22 HI.out HI0.out HI1.out HI2.out rfl (by decide) _ _ _ rfl (HZ.out.2.1.alloc _) ⟨wr.heap.size, 0, none⟩ 1 1 [.int .u32 (c : Int)] rfl rfl ?c1 ?c2 ?c3 ?c4 ?c5 ?_)
        case c1 =>
          intro j u hj
          match j, hj with
          | 0, hj => simp at hj; subst hj; simp [Addr.add]; try omega
        case c2 => intro u hu; simp at hu; subst hu; rfl
        case c3 => unfold maxLen; omega
        case c4 => omega
        case c5 => have := hbr.size; simp; omega
        · intro v' w1 hown' hgrow _
          have HOW := Lib.hid hown'; clear hown'
          have HGR := Lib.hid hgrow; clear hgrow
          go_wp2
          go_ret
          refine ⟨v', zs ++ [c], rfl, ?_, small_append HZ.out.1 (by intro x hx; simp at hx; omega), ?_, by simp [HZ.out.2.2.2, HLC.out], ?_⟩
          · unfold Own
            have := HOW.out
            simp only [List.length_append, List.map_append, HZ.out.2.2.2]
            exact this
          · rw [val_append, HZ.out.2.2.2]; simp [val]; exact HV.out
          · exact (hbr.alloc (Nat.le_trans hB hbr.size) _).grown HGR.out (by have := hbr.size; simp; omega) (by intro k hk; simp [Value.ownBlock] at hk; omega)
      · obtain rfl : c = 0 := by omega
        go_wp2
        go_ret
        refine ⟨_, zs, rfl, by unfold Own; rw [HZ.out.2.2.2]; exact HZ.out.2.1, HZ.out.1, by have := HV.out; simpa using this, by rw [HZ.out.2.2.2, HLC.out]; omega, hbr⟩
set_option maxHeartbeats 1000000 in
theorem follow_none (B : Nat) (D : Int) (d : Nat) (w : World) (hD : D = (d : Int)) (hd : d ≤ 9) (hB : B ≤ w.heap.size) :
    Calls Try.prog 48 #[.slice none 0 0, .int .u32 D] w fun e w' => ∃ v' cs', e = .returned v' ∧ Own w' B v' cs' ∧ Small cs' ∧ val cs' = d ∧ cs'.length ≤ 1 ∧ Below B w w' := by
  subst hD
  obtain ⟨i0, hi, hz0, hz1, hz2⟩ := info_parts Try.info38
  have HI := Lib.hid hi; clear hi
  have HI0 := Lib.hid hz0; clear hz0
  have HI1 := Lib.hid hz1; clear hz1
  have HI2 := Lib.hid hz2; clear hz2
  go_enter Try.func48, Try.ntmps48
  go_wp2
  go_loopw [5, 11] (fun cv t wr => cv = .int .u64 (d : Int) ∧ t = .int .i64 0 ∧ Below B w wr) (fun _ _ _ => 0)
  case atStart => exact ⟨rfl, rfl, Below.refl _ _⟩
  case round =>
    obtain ⟨rfl, rfl, hbr⟩ := hrel
    by_cases hc0 : 0 < d
    · go_wp2_with (at_builtin; refine wpList_append_own _ rfl _ _ 22 rfl B 38 i0 (.int .u32 0) 1 4 Try.underlying22 HI.out HI0.out HI1.out HI2.out rfl (by decide) _ _ _ rfl ((World.ownsRow_nil wr B 38 1).alloc _) ⟨wr.heap.size, 0, none⟩ 1 1 [.int .u32 (d : Int)] rfl rfl ?c1 ?c2 ?c3 ?c4 ?c5 ?_)
      case c1 =>
        intro j u hj
        match j, hj with
        | 0, hj => simp at hj; subst hj; simp [Addr.add]; try omega
      case c2 => intro u hu; simp at hu; subst hu; rfl
      case c3 => unfold maxLen; omega
      case c4 => omega
      case c5 => have := hbr.size; simp; omega
      · intro v' w1 hown' hgrow _
        have HOW := Lib.hid hown'; clear hown'
        have HGR := Lib.hid hgrow; clear hgrow
        go_wp2
        go_ret
        refine ⟨v', [d], rfl, ?_, by intro x hx; simp at hx; omega, by simp [val], by simp, ?_⟩
        · exact HOW.out
        · exact (hbr.alloc (Nat.le_trans hB hbr.size) _).grown HGR.out (by have := hbr.size; simp; omega) (by intro k hk; simp [Value.ownBlock] at hk)
    · obtain rfl : d = 0 := by omega
      go_wp2
      go_ret
      exact ⟨_, [], rfl, World.ownsRow_nil _ _ _ _, (fun x hx => by cases hx), rfl, by simp, hbr⟩

theorem follow_any (B : Nat) (v : Value) (cs : List Nat) (D : Int) (d : Nat) (w : World) (hD : D = (d : Int)) (hd : d ≤ 9) (ho : Own w B v cs) (hs : Small cs) (hn : cs.length ≤ 100000000) (hB : B ≤ w.heap.size) :
    Calls Try.prog 48 #[v, .int .u32 D] w fun e w' => ∃ v' cs', e = .returned v' ∧ Own w' B v' cs' ∧ Small cs' ∧ val cs' = val cs * 10 + d ∧ cs'.length ≤ cs.length + 1 ∧ Below B w w' := by
  rcases ho.2 with ⟨rfl, h0⟩ | ⟨g, cap, cur, rfl, hBg, _⟩
  · have : cs = [] := List.length_eq_zero_iff.1 h0
    subst this
    refine (follow_none B D d w hD hd hB).mono ?_
    rintro e w' ⟨v', cs', h1, h2, h3, h4, h5, h6⟩
    exact ⟨v', cs', h1, h2, h3, by rw [h4]; simp [val], h5, h6⟩
  · exact follow_some B g cs.length cap cs D d w hD hd ho hBg hs hn hB
end Go.Proofs.Ytjpjibdcjmjcgaa
