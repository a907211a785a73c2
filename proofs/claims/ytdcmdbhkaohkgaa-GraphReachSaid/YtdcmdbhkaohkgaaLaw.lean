/- What the laws of this seat share: a graph that came in; small facts. No condition. -/
import Derived.Test.YtdcmdbhkaohkgaaAwake
import Derived.ProofKit
import Derived.OpenShut
import Derived.ShutString
import Derived.ChangeOld
import Derived.Deep.Matrix
namespace Go.Proofs.Ytdcmdbhkaohkgaa
open Go.ChangeShapes Go.WideShapes Go.ChangeAt Go.RowKit Gr

theorem Try.ownKnob : ownKnob Try.prog.godebug = none := by kernel_rfl
theorem Try.laidOut : laidOutB Try.prog = true := by kernel_rfl
theorem Try.cells24 : Try.prog.cellsOf 24 = 1 := by kernel_rfl
theorem Try.cells3 : Try.prog.cellsOf 3 = 1 := by kernel_rfl

theorem tot_few {G : List (List Int)} (h : Few G) : tot G ≤ 1000000 := by
  have key : ∀ (L : List (List Int)), (∀ i, i < L.length → (L.getD i []).length ≤ 40) → tot L ≤ 40 * L.length := by
    intro L
    induction L with
    | nil => intro _; simp [tot]
    | cons r L ih =>
      intro h
      have h1 := h 0 (by simp)
      have h2 := ih (fun i hi => by have := h (i + 1) (by simp; omega); simpa using this)
      simp [tot] at h1 h2 ⊢
      omega
  have := key G h.2
  have := h.1
  omega

theorem ndB_iff (G : List (List Int)) (i k : Nat) : ndB G (i : Int) (k : Int) = true ↔ E G i k := by
  unfold ndB E
  simp
  constructor
  · rintro ⟨⟨a, b⟩, c⟩; exact ⟨a, b, c⟩
  · rintro ⟨a, b, c⟩; exact ⟨⟨a, b⟩, c⟩

/-- a graph that came in -/
theorem grow_came {H : Type} {enc : TypeId × Value → H} {W : World} {a : Option Addr} {len cap : Nat} {d : DataW H} {p : List MemPlace} (h : DataW.Trod enc Try.prog W 0 (fun _ => true) true 22 (.slice a len cap) d p) : ∃ G, GRow W W.heap.size a len cap G := by
  obtain ⟨fuel, hf⟩ := h
  rcases Go.Deep.open_int_rows Try.underlying22 Try.underlying24 Try.underlying3 Try.cells24 Try.cells3 hf with ⟨hcs, _⟩ | ⟨x, l, c, A, L, C, Z, hcs, _, hl, hm, _, hrows⟩
  · simp [Value.cells] at hcs
    obtain ⟨rfl, rfl, rfl⟩ := hcs
    exact ⟨[], rfl, Nat.le_refl _, Nat.zero_le _, 0, 0, Or.inr (Nat.le_refl _), fun i hi => by omega⟩
  · simp [Value.cells] at hcs
    obtain ⟨rfl, rfl, rfl⟩ := hcs
    refine ⟨(List.range len).map (fun r => (Z r).take (L r)), by simp, hl, hm, ?_⟩
    by_cases h0 : 0 < len
    · obtain ⟨b, off, spot⟩ := x
      have hspot : spot = none := by
        have := (hrows 0 (by omega)).1
        simpa [Addr.add] using World.cell?_spot this
      subst hspot
      refine ⟨b, off, Or.inl rfl, fun i hi => ?_⟩
      obtain ⟨h1, h2, h3, h4, h5, h6, h7⟩ := hrows i (by omega)
      rw [Go.WideShapes.add_plain] at h1
      refine ⟨World.block_lt_of_cell? W ⟨b, off + i, none⟩ h1, A i, L i, C i, h1, ?_⟩
      have e : ((List.range len).map (fun r => (Z r).take (L r))).getD i [] = (Z i).take (L i) := by simp [hi]
      rw [e]
      refine ⟨by simp; omega, h2, h3, ?_⟩
      by_cases hL : 0 < L i
      · cases hA : A i with
        | none => have := h6 hA; omega
        | some a' =>
          obtain ⟨b', off', spot'⟩ := a'
          have hc := (h7 _ hA).2
          have hspot' : spot' = none := by
            have := hc 0 (by omega)
            simpa [Addr.add] using World.cell?_spot this
          subst hspot'
          refine ⟨b', off', Or.inl rfl, fun j hj => ?_⟩
          have h8 := hc j (by omega)
          rw [Go.WideShapes.add_plain] at h8
          refine ⟨World.block_lt_of_cell? W ⟨b', off' + j, none⟩ h8, ?_⟩
          rw [h8]
          congr 2
          have : j < (Z i).length := by omega
          simp [List.getElem?_take, hj]
      · exact ⟨0, 0, Or.inr (by omega), fun j hj => by omega⟩
    · exact ⟨0, 0, Or.inr (by omega), fun i hi => by omega⟩
end Go.Proofs.Ytdcmdbhkaohkgaa
