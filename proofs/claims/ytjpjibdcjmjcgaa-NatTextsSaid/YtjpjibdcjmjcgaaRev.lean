/- What slices.Reverse tells of a row of bytes that the call owns: the row turned round. -/
import Derived.Test.YtjpjibdcjmjcgaaParse
import Derived.BigRegion
namespace Go.Proofs.Ytjpjibdcjmjcgaa
open Go.RowKit Nums

def b8 (c : UInt8) : Value := .int .u8 (c.toNat : Int)
def Own8 (w : World) (B : Nat) (v : Value) (l : List UInt8) : Prop := w.ownsRow B 5 1 v l.length (l.map b8)

theorem own8_cell {w : World} {B g n cap : Nat} {l : List UInt8} (h : w.ownsRow B 5 1 (.slice (some ⟨g, 0, none⟩) n cap) n (l.map b8)) (j : Nat) (hj : j < n) : w.cell? ⟨g, j, none⟩ = some (.int .u8 ((l.getD j 0).toNat : Int)) := by
  have hl : (l.map b8).length = n := by have := h.1; simpa using this
  rw [h.cellAt j (by omega)]
  have : j < l.length := by simp at hl; omega
  simp [this, b8]

theorem own8_set {w : World} {B g n cap : Nat} {l : List UInt8} (h : w.ownsRow B 5 1 (.slice (some ⟨g, 0, none⟩) n cap) n (l.map b8)) (j : Nat) (u : UInt8) : (w.setCell ⟨g, j, none⟩ (.int .u8 (u.toNat : Int))).ownsRow B 5 1 (.slice (some ⟨g, 0, none⟩) n cap) n ((l.set j u).map b8) := by
  have := (h.stored j (.int .u8 (u.toNat : Int))).1
  rw [List.map_set]
  exact this

/-- l with all but the places k to j turned round -/
def RevAt (l zs : List UInt8) (k j : Nat) : Prop := zs.length = l.length ∧ ∀ t, t < l.length → zs.getD t 0 = if k ≤ t ∧ t ≤ j then l.getD t 0 else l.getD (l.length - 1 - t) 0

theorem RevAt.step {l zs : List UInt8} {k j : Nat} (h : RevAt l zs k j) (hkj : k < j) (hl : k + j + 1 = l.length) : RevAt l ((zs.set k (zs.getD j 0)).set j (zs.getD k 0)) (k + 1) (j - 1) := by
  obtain ⟨h1, h2⟩ := h
  refine ⟨by simp [h1], fun t ht => ?_⟩
  have ek := h2 k (by omega)
  have ej := h2 j (by omega)
  rw [if_pos ⟨by omega, by omega⟩] at ek ej
  by_cases e1 : t = j
  · subst e1
    rw [if_neg (by omega), show l.length - 1 - t = k by omega, ← ek]
    have : t < zs.length := by omega
    simp [this]
  · by_cases e2 : t = k
    · subst e2
      rw [if_neg (by omega), show l.length - 1 - t = j by omega, ← ej]
      have : t < zs.length := by omega
      simp [this, Ne.symm e1]
    · have e3 : ((zs.set k (zs.getD j 0)).set j (zs.getD k 0)).getD t 0 = zs.getD t 0 := by
        simp [Ne.symm e1, Ne.symm e2]
      rw [e3, h2 t ht]
      by_cases c : k + 1 ≤ t ∧ t ≤ j - 1
      · rw [if_pos c, if_pos ⟨by omega, by omega⟩]
      · rw [if_neg c, if_neg (by omega)]

theorem RevAt.done {l zs : List UInt8} {k j : Nat} (h : RevAt l zs k j) (hkj : j ≤ k) (hl : k + j + 1 = l.length) : zs = l.reverse := by
  obtain ⟨h1, h2⟩ := h
  apply List.ext_getElem (by simp [h1])
  intro t ht ht'
  have hlt : t < l.length := by omega
  have := h2 t hlt
  have e1 : zs.getD t 0 = zs[t] := by simp [ht]
  rw [e1] at this
  rw [this, List.getElem_reverse]
  have hr : l.length - 1 - t < l.length := by omega
  split
  · rename_i c
    have : l.length - 1 - t = t := by omega
    simp [this, hlt]
  · simp [hr]

theorem own8_drewN {w : World} {B g n cap : Nat} {vs : List Value} (h : w.ownsRow B 5 1 (.slice (some ⟨g, 0, none⟩) n cap) n vs) (q : Nat) : (w.drewN q).ownsRow B 5 1 (.slice (some ⟨g, 0, none⟩) n cap) n vs := h

set_option maxHeartbeats 2000000 in
theorem reverse_any (B g n cap : Nat) (l : List UInt8) (w : World) (ho : w.ownsRow B 5 1 (.slice (some ⟨g, 0, none⟩) n cap) n (l.map b8)) (hBg : B ≤ g) (hn : n ≤ 1000000000) (h0 : 0 < n) :
    Calls Try.prog 50 #[.slice (some ⟨g, 0, none⟩) n cap] w fun e w' => e = .returned (.tuple #[]) ∧ w'.ownsRow B 5 1 (.slice (some ⟨g, 0, none⟩) n cap) n (l.reverse.map b8) ∧ Below B w w' := by
  have HO := Lib.hid ho; clear ho
  have HL : Hid (l.length = n) := by have := HO.out.1; simp at this; exact this
  go_enter Try.func50, Try.ntmps50
  go_wp2
  go_loopw [2, 3] (fun i j wr => ∃ (k m : Nat) (zs : List UInt8), i = .int .i64 (k : Int) ∧ j = .int .i64 (m : Int) ∧ k + m + 1 ≤ n ∧ n ≤ k + m + 1 ∧ Hid (wr.ownsRow B 5 1 (.slice (some ⟨g, 0, none⟩) n cap) n (zs.map b8) ∧ RevAt l zs k m) ∧ Below B w wr) (fun _ j _ => (intOf j).toNat)
  case atStart => exact ⟨0, n - 1, l, rfl, by go_num, by omega, by omega, ⟨HO.out, rfl, fun t ht => by rw [if_pos ⟨by omega, by have := HL.out; omega⟩]⟩, Below.refl _ _⟩
  case round =>
    obtain ⟨k, m, zs, rfl, rfl, hk1, hk2, HZ, hbr⟩ := hrel
    by_cases hkm : k < m
    · have hc0 := own8_cell HZ.out.1 k (by omega)
      have hc1 := own8_cell HZ.out.1 m (by omega)
      have hf0 := HZ.out.1.frozenAt k
      have hf1 := HZ.out.1.frozenAt m
      obtain ⟨x, hx⟩ : ∃ x, x = zs.getD k 0 := ⟨_, rfl⟩
      obtain ⟨y, hy⟩ : ∃ y, y = zs.getD m 0 := ⟨_, rfl⟩
      rw [← hx] at hc0
      rw [← hy] at hc1
      have HX := Lib.hid hx; clear hx
      have HY := Lib.hid hy; clear hy
      have hb0 : (k : Int) < (n : Int) := by omega
      have hb1 : (m : Int) < (n : Int) := by omega
      go_wp2
      go_region
      go_wp2
      go_roundw
      case rel =>
        refine ⟨k + 1, m - 1, (zs.set k y).set m x, by go_num, by go_num, by omega, by omega, ⟨?_, ?_⟩, ?_⟩
        · exact own8_set (own8_set HZ.out.1 k y) m x
        · have h := HZ.out.2.step hkm (by have := HL.out; omega)
          rw [← HX.out, ← HY.out] at h
          exact h
        · exact ((hbr.setCell (p := ⟨g, k, none⟩) hBg _).setCell (p := ⟨g, m, none⟩) hBg _).drew
      case measure => simp [intOf]; omega
    · go_wp2
      go_end0
      have h := HZ.out.2.done (by omega) (by have := HL.out; omega)
      exact ⟨rfl, by rw [← h]; exact HZ.out.1, hbr⟩
end Go.Proofs.Ytjpjibdcjmjcgaa
