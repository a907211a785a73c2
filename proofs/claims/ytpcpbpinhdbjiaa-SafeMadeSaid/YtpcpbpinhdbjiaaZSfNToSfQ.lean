/- What Few of law 16 tells. No condition. · The example of law 16. No condition. · The program is laid out; its knob. No condition. -/
import Derived.Test.YtpcpbpinhdbjiaaZSfJToSfL
import Derived.Deep.RegionWith
import Derived.Deep.DeepCutAuto
import Derived.BigRegion
import Derived.Test.YtpcpbpinhdbjiaaZSfAToSfC
namespace Go.Proofs.Ytpcpbpinhdbjiaa
set_option linter.unusedVariables false
set_option linter.unusedSimpArgs false
set_option maxRecDepth 100000
open Go.RowKit

/-- is an instruction short? -/
def fewI (x : InsP) : Bool := decide (x.args.length ≤ 20) && (decide (x.resets.length ≤ 20) && (decide (x.op.size ≤ 20) && (decide (x.lit.mag.length + x.lit.den.length ≤ 4) && decide (x.lit.name.size ≤ 100))))
def fewB (l : List InsP) : Bool := decide (l.length ≤ 60) && l.all fewI
def valS (v : ValM) : Bool := decide (v.mag.length + v.den.length ≤ 4) && decide (v.name.size ≤ 100)
def fewC (c : CodeM) : Bool := fewB c.step && (fewB c.deriv && (fewB c.cross && (decide (c.mems.length ≤ 20) && (decide (c.conts.length ≤ 20) && (c.mems.all valS && c.conts.all valS)))))
/-- what Few tells -/
def FewPost (c : CodeM) (w : World) (e : Ending) (w' : World) : Prop := e = .returned (.bool (fewC c)) ∧ Below w.heap.size w w'
end Go.Proofs.Ytpcpbpinhdbjiaa

namespace Go.Proofs.Ytpcpbpinhdbjiaa
set_option linter.unusedVariables false
set_option linter.unusedSimpArgs false
set_option maxRecDepth 100000
open Go.RowKit

theorem sright_yes (B : Nat) (c : CodeM) (v : CodeV) (w : World) (h : CodeIs w B c v) (hB : B ≤ w.heap.size) (hr : RightC c) : Calls Try.prog 8 #[codeV c v] w fun e w' => e = .returned (.bool true) ∧ Below w.heap.size w w' :=
  (sright_t B c v w h hB).mono fun e w' ⟨b, h1, h2, h3⟩ => ⟨by rw [h1, h2.2 hr], h3⟩
theorem sright_no (B : Nat) (c : CodeM) (v : CodeV) (w : World) (h : CodeIs w B c v) (hB : B ≤ w.heap.size) (hr : ¬ RightC c) : Calls Try.prog 8 #[codeV c v] w fun e w' => e = .returned (.bool false) ∧ Below w.heap.size w w' :=
  (sright_t B c v w h hB).mono fun e w' ⟨b, h1, h2, h3⟩ => by
    cases b with
    | true => exact absurd (h2.1 rfl) hr
    | false => exact ⟨h1, h3⟩
theorem URow.nil (w : World) (B : Nat) : URow w B none 0 0 [] := ⟨rfl, Nat.le_refl _, Nat.zero_le _, (fun _ => rfl), (fun x hx => by simp at hx), Nat.zero_le _, 0, 0, Or.inr (Nat.le_refl _), fun i hi => by omega⟩
theorem irowB1 {w : World} {g T B : Nat} (h : Blk w g T #[.int .i64 0]) (hB : g < B) : IRow w B (some ⟨g, 0, none⟩) 1 1 [0] := by
  refine ⟨rfl, Nat.le_refl _, by unfold maxLen; omega, (fun h => by cases h), g, 0, Or.inl rfl, fun i hi => ⟨hB, ?_⟩⟩
  obtain rfl : i = 0 := by omega
  exact h.cell 0 rfl
theorem Blk.tenO {w : World} {g T : Nat} {u0 u1 u2 u3 u4 u5 u6 u7 u8 u9 : Value} (h : Blk w g T #[u0, u1, u2, u3, u4, u5, u6, u7, u8, u9]) : w.cell? ⟨g, 0, none⟩ = some u0 ∧ w.cell? ⟨g, 1, none⟩ = some u1 ∧ w.cell? ⟨g, 2, none⟩ = some u2 ∧ w.cell? ⟨g, 3, none⟩ = some u3 ∧ w.cell? ⟨g, 4, none⟩ = some u4 ∧ w.cell? ⟨g, 5, none⟩ = some u5 ∧ w.cell? ⟨g, 6, none⟩ = some u6 ∧ w.cell? ⟨g, 7, none⟩ = some u7 ∧ w.cell? ⟨g, 8, none⟩ = some u8 ∧ w.cell? ⟨g, 9, none⟩ = some u9 := ⟨h.cell 0 rfl, h.cell 1 rfl, h.cell 2 rfl, h.cell 3 rfl, h.cell 4 rfl, h.cell 5 rfl, h.cell 6 rfl, h.cell 7 rfl, h.cell 8 rfl, h.cell 9 rfl⟩
def val0 : ValM := ⟨0, false, [], [], ⟨#[]⟩⟩
def insX (op : ByteArray) (args : List Int) : InsP := ⟨op, 0, args, 0, val0, -1, []⟩
theorem intAt0 {w : World} {B b o : Nat} (c : w.cell? ⟨b, o, none⟩ = some (.int .i64 0)) : IntAt w B b o 0 := ⟨c, by decide, by decide⟩
theorem intAtM {w : World} {B b o : Nat} (c : w.cell? ⟨b, o, none⟩ = some (.int .i64 (-1))) : IntAt w B b o (-1) := ⟨c, by decide, by decide⟩
theorem insAt0 {w : World} {B b o : Nat} {op : ByteArray} {A : Option Addr} {n c : Nat} {args : List Int} (hs : op.size ≤ maxLen) (hr : IRow w B A n c args)
    (c0 : w.cell? ⟨b, o, none⟩ = some (.string op)) (c1 : w.cell? ⟨b, o + 1, none⟩ = some (.int .i64 0)) (c2 : w.cell? ⟨b, o + 2, none⟩ = some (.slice A n c)) (c3 : w.cell? ⟨b, o + 3, none⟩ = some (.int .i64 0)) (c4 : w.cell? ⟨b, o + 4, none⟩ = some (.int .i64 0)) (c5 : w.cell? ⟨b, o + 5, none⟩ = some (.bool false)) (c6 : w.cell? ⟨b, o + 6, none⟩ = some (.slice none 0 0)) (c7 : w.cell? ⟨b, o + 7, none⟩ = some (.slice none 0 0)) (c8 : w.cell? ⟨b, o + 8, none⟩ = some (.string ⟨#[]⟩)) (c9 : w.cell? ⟨b, o + 9, none⟩ = some (.int .i64 (-1))) (c10 : w.cell? ⟨b, o + 10, none⟩ = some (.slice none 0 0)) :
    InsAt w B b o (insX op args) :=
  ⟨⟨c0, hs⟩, intAt0 c1, ⟨A, n, c, c2, hr⟩, intAt0 c3, ⟨intAt0 c4, c5, ⟨none, 0, 0, c6, URow.nil _ _⟩, ⟨none, 0, 0, c7, URow.nil _ _⟩, ⟨c8, Nat.zero_le _⟩⟩, intAtM c9, ⟨none, 0, 0, c10, IRow.nil _ _⟩⟩
def goodX : CodeM := ⟨1, 0, 1, 0, 0, [], [], [insX ⟨#[105, 110]⟩ [], insX ⟨#[110, 101, 103]⟩ [0]], [], []⟩
def badX : CodeM := ⟨1, 0, 1, 0, 0, [], [], [insX ⟨#[110, 101, 103]⟩ [0]], [], []⟩
theorem goodX_right : RightC goodX := by
  refine ⟨rfl, rfl, rfl, rfl, rfl, fun i x hx => ?_, fun i x hx => ?_, fun i x hx => ?_⟩
  · match i, hx with
    | 0, hx => obtain rfl : insX ⟨#[105, 110]⟩ [] = x := by simpa [goodX] using hx
               rfl
    | 1, hx => obtain rfl : insX ⟨#[110, 101, 103]⟩ [0] = x := by simpa [goodX] using hx
               rfl
    | k + 2, hx => simp [goodX] at hx
  · simp [goodX] at hx
  · simp [goodX] at hx
theorem badX_wrong : ¬ RightC badX := fun h => by
  have h1 := h.step 0 (insX ⟨#[110, 101, 103]⟩ [0]) rfl
  rw [show stB badX (wTo (badX.step.take 0)) (insX ⟨#[110, 101, 103]⟩ [0]) = false from rfl] at h1
  cases h1
set_option maxHeartbeats 2000000 in
theorem ex_mem (w W6 : World) (hW : W6 = ((((((w.alloc (.cells #[.int .i64 0] 3)).alloc (.cells #[.string ⟨#[105, 110]⟩, .int .i64 0, .slice none 0 0, .int .i64 0, .int .i64 0, .bool false, .slice none 0 0, .slice none 0 0, .string ⟨#[]⟩, .int .i64 (-1), .slice none 0 0, .string ⟨#[110, 101, 103]⟩, .int .i64 0, .slice (some ⟨w.heap.size, 0, none⟩) 1 1, .int .i64 0, .int .i64 0, .bool false, .slice none 0 0, .slice none 0 0, .string ⟨#[]⟩, .int .i64 (-1), .slice none 0 0] 70)).alloc (.cells #[.int .i64 1, .int .i64 0, .int .i64 1, .int .i64 0, .int .i64 0, .slice none 0 0, .slice none 0 0, .slice (some ⟨w.heap.size + 1, 0, none⟩) 2 2, .slice none 0 0, .slice none 0 0] 40)).alloc (.cells #[.int .i64 0] 3)).alloc (.cells #[.string ⟨#[110, 101, 103]⟩, .int .i64 0, .slice (some ⟨w.heap.size + 1 + 1 + 1, 0, none⟩) 1 1, .int .i64 0, .int .i64 0, .bool false, .slice none 0 0, .slice none 0 0, .string ⟨#[]⟩, .int .i64 (-1), .slice none 0 0] 70)).alloc (.cells #[.int .i64 1, .int .i64 0, .int .i64 1, .int .i64 0, .int .i64 0, .slice none 0 0, .slice none 0 0, .slice (some ⟨w.heap.size + 1 + 1 + 1 + 1, 0, none⟩) 1 1, .slice none 0 0, .slice none 0 0] 40))) : Below w.heap.size w W6 ∧ CodeIs W6 W6.heap.size goodX ⟨(none, 0, 0), (none, 0, 0), (some ⟨w.heap.size + 1, 0, none⟩, 2, 2), (none, 0, 0), (none, 0, 0)⟩ ∧ CodeIs W6 W6.heap.size badX ⟨(none, 0, 0), (none, 0, 0), (some ⟨w.heap.size + 1 + 1 + 1 + 1, 0, none⟩, 1, 1), (none, 0, 0), (none, 0, 0)⟩ ∧ Blk W6 (w.heap.size + 1 + 1) 40 #[.int .i64 1, .int .i64 0, .int .i64 1, .int .i64 0, .int .i64 0, .slice none 0 0, .slice none 0 0, .slice (some ⟨w.heap.size + 1, 0, none⟩) 2 2, .slice none 0 0, .slice none 0 0] ∧ Blk W6 (w.heap.size + 1 + 1 + 1 + 1 + 1) 40 #[.int .i64 1, .int .i64 0, .int .i64 1, .int .i64 0, .int .i64 0, .slice none 0 0, .slice none 0 0, .slice (some ⟨w.heap.size + 1 + 1 + 1 + 1, 0, none⟩) 1 1, .slice none 0 0, .slice none 0 0] := by
  obtain ⟨W1, hW1⟩ : ∃ W, W = w.alloc (.cells #[.int .i64 0] 3) := ⟨_, rfl⟩
  rw [← hW1] at hW
  have s1 : W1.heap.size = w.heap.size + 1 := by rw [hW1, size_alloc]
  have k0 : Blk W1 (w.heap.size) 3 #[.int .i64 0] := by
    have := Blk.new w 3 #[.int .i64 0]
    rw [← hW1] at this
    exact this
  have b1 : Below w.heap.size w W1 := by rw [hW1]; exact (Below.refl _ _).alloc (Nat.le_refl _) _
  obtain ⟨W2, hW2⟩ : ∃ W, W = W1.alloc (.cells #[.string ⟨#[105, 110]⟩, .int .i64 0, .slice none 0 0, .int .i64 0, .int .i64 0, .bool false, .slice none 0 0, .slice none 0 0, .string ⟨#[]⟩, .int .i64 (-1), .slice none 0 0, .string ⟨#[110, 101, 103]⟩, .int .i64 0, .slice (some ⟨w.heap.size, 0, none⟩) 1 1, .int .i64 0, .int .i64 0, .bool false, .slice none 0 0, .slice none 0 0, .string ⟨#[]⟩, .int .i64 (-1), .slice none 0 0] 70) := ⟨_, rfl⟩
  rw [← hW2] at hW
  have s2 : W2.heap.size = w.heap.size + 1 + 1 := by rw [hW2, size_alloc, s1]
  have k1 : Blk W2 (w.heap.size + 1) 70 #[.string ⟨#[105, 110]⟩, .int .i64 0, .slice none 0 0, .int .i64 0, .int .i64 0, .bool false, .slice none 0 0, .slice none 0 0, .string ⟨#[]⟩, .int .i64 (-1), .slice none 0 0, .string ⟨#[110, 101, 103]⟩, .int .i64 0, .slice (some ⟨w.heap.size, 0, none⟩) 1 1, .int .i64 0, .int .i64 0, .bool false, .slice none 0 0, .slice none 0 0, .string ⟨#[]⟩, .int .i64 (-1), .slice none 0 0] := by
    have := Blk.new W1 70 #[.string ⟨#[105, 110]⟩, .int .i64 0, .slice none 0 0, .int .i64 0, .int .i64 0, .bool false, .slice none 0 0, .slice none 0 0, .string ⟨#[]⟩, .int .i64 (-1), .slice none 0 0, .string ⟨#[110, 101, 103]⟩, .int .i64 0, .slice (some ⟨w.heap.size, 0, none⟩) 1 1, .int .i64 0, .int .i64 0, .bool false, .slice none 0 0, .slice none 0 0, .string ⟨#[]⟩, .int .i64 (-1), .slice none 0 0]
    rw [← hW2, s1] at this
    exact this
  have b2 : Below W1.heap.size W1 W2 := by rw [hW2]; exact (Below.refl _ _).alloc (Nat.le_refl _) _
  obtain ⟨W3, hW3⟩ : ∃ W, W = W2.alloc (.cells #[.int .i64 1, .int .i64 0, .int .i64 1, .int .i64 0, .int .i64 0, .slice none 0 0, .slice none 0 0, .slice (some ⟨w.heap.size + 1, 0, none⟩) 2 2, .slice none 0 0, .slice none 0 0] 40) := ⟨_, rfl⟩
  rw [← hW3] at hW
  have s3 : W3.heap.size = w.heap.size + 1 + 1 + 1 := by rw [hW3, size_alloc, s2]
  have k2 : Blk W3 (w.heap.size + 1 + 1) 40 #[.int .i64 1, .int .i64 0, .int .i64 1, .int .i64 0, .int .i64 0, .slice none 0 0, .slice none 0 0, .slice (some ⟨w.heap.size + 1, 0, none⟩) 2 2, .slice none 0 0, .slice none 0 0] := by
    have := Blk.new W2 40 #[.int .i64 1, .int .i64 0, .int .i64 1, .int .i64 0, .int .i64 0, .slice none 0 0, .slice none 0 0, .slice (some ⟨w.heap.size + 1, 0, none⟩) 2 2, .slice none 0 0, .slice none 0 0]
    rw [← hW3, s2] at this
    exact this
  have b3 : Below W2.heap.size W2 W3 := by rw [hW3]; exact (Below.refl _ _).alloc (Nat.le_refl _) _
  obtain ⟨W4, hW4⟩ : ∃ W, W = W3.alloc (.cells #[.int .i64 0] 3) := ⟨_, rfl⟩
  rw [← hW4] at hW
  have s4 : W4.heap.size = w.heap.size + 1 + 1 + 1 + 1 := by rw [hW4, size_alloc, s3]
  have k3 : Blk W4 (w.heap.size + 1 + 1 + 1) 3 #[.int .i64 0] := by
    have := Blk.new W3 3 #[.int .i64 0]
    rw [← hW4, s3] at this
    exact this
  have b4 : Below W3.heap.size W3 W4 := by rw [hW4]; exact (Below.refl _ _).alloc (Nat.le_refl _) _
  obtain ⟨W5, hW5⟩ : ∃ W, W = W4.alloc (.cells #[.string ⟨#[110, 101, 103]⟩, .int .i64 0, .slice (some ⟨w.heap.size + 1 + 1 + 1, 0, none⟩) 1 1, .int .i64 0, .int .i64 0, .bool false, .slice none 0 0, .slice none 0 0, .string ⟨#[]⟩, .int .i64 (-1), .slice none 0 0] 70) := ⟨_, rfl⟩
  rw [← hW5] at hW
  have s5 : W5.heap.size = w.heap.size + 1 + 1 + 1 + 1 + 1 := by rw [hW5, size_alloc, s4]
  have k4 : Blk W5 (w.heap.size + 1 + 1 + 1 + 1) 70 #[.string ⟨#[110, 101, 103]⟩, .int .i64 0, .slice (some ⟨w.heap.size + 1 + 1 + 1, 0, none⟩) 1 1, .int .i64 0, .int .i64 0, .bool false, .slice none 0 0, .slice none 0 0, .string ⟨#[]⟩, .int .i64 (-1), .slice none 0 0] := by
    have := Blk.new W4 70 #[.string ⟨#[110, 101, 103]⟩, .int .i64 0, .slice (some ⟨w.heap.size + 1 + 1 + 1, 0, none⟩) 1 1, .int .i64 0, .int .i64 0, .bool false, .slice none 0 0, .slice none 0 0, .string ⟨#[]⟩, .int .i64 (-1), .slice none 0 0]
    rw [← hW5, s4] at this
    exact this
  have b5 : Below W4.heap.size W4 W5 := by rw [hW5]; exact (Below.refl _ _).alloc (Nat.le_refl _) _
  have hW6 := hW
  have s6 : W6.heap.size = w.heap.size + 1 + 1 + 1 + 1 + 1 + 1 := by rw [hW6, size_alloc, s5]
  have k5 : Blk W6 (w.heap.size + 1 + 1 + 1 + 1 + 1) 40 #[.int .i64 1, .int .i64 0, .int .i64 1, .int .i64 0, .int .i64 0, .slice none 0 0, .slice none 0 0, .slice (some ⟨w.heap.size + 1 + 1 + 1 + 1, 0, none⟩) 1 1, .slice none 0 0, .slice none 0 0] := by
    have := Blk.new W5 40 #[.int .i64 1, .int .i64 0, .int .i64 1, .int .i64 0, .int .i64 0, .slice none 0 0, .slice none 0 0, .slice (some ⟨w.heap.size + 1 + 1 + 1 + 1, 0, none⟩) 1 1, .slice none 0 0, .slice none 0 0]
    rw [← hW6, s5] at this
    exact this
  have b6 : Below W5.heap.size W5 W6 := by rw [hW6]; exact (Below.refl _ _).alloc (Nat.le_refl _) _
  replace k0 := k0.later b2
  replace k0 := k0.later b3
  replace k0 := k0.later b4
  replace k0 := k0.later b5
  replace k0 := k0.later b6
  replace k1 := k1.later b3
  replace k1 := k1.later b4
  replace k1 := k1.later b5
  replace k1 := k1.later b6
  replace k2 := k2.later b4
  replace k2 := k2.later b5
  replace k2 := k2.later b6
  replace k3 := k3.later b5
  replace k3 := k3.later b6
  replace k4 := k4.later b6
  have HB6 : Hid (Below w.heap.size w W6) := Lib.hid (b1.trans ((b2.mono (by omega)).trans ((b3.mono (by omega)).trans ((b4.mono (by omega)).trans ((b5.mono (by omega)).trans (b6.mono (by omega)))))))
  have HI2 : Hid (CodeIs W6 W6.heap.size goodX ⟨(none, 0, 0), (none, 0, 0), (some ⟨w.heap.size + 1, 0, none⟩, 2, 2), (none, 0, 0), (none, 0, 0)⟩) := Lib.hid ⟨by decide, by decide, by decide, by decide, by decide, SRow.nil _ _ _ _, SRow.nil _ _ _ _, ⟨rfl, Nat.le_refl _, (show 2 ≤ maxLen from by unfold maxLen; decide), w.heap.size + 1, 0, Or.inl rfl, fun i x hx => ⟨by rw [s6]; omega, by
    match i, hx with
    | 0, hx =>
      obtain rfl : insX ⟨#[105, 110]⟩ [] = x := by simpa [goodX] using hx
      exact insAt0 (by unfold maxLen; decide) (IRow.nil _ _) (k1.cell 0 rfl) (k1.cell 1 rfl) (k1.cell 2 rfl) (k1.cell 3 rfl) (k1.cell 4 rfl) (k1.cell 5 rfl) (k1.cell 6 rfl) (k1.cell 7 rfl) (k1.cell 8 rfl) (k1.cell 9 rfl) (k1.cell 10 rfl)
    | 1, hx =>
      obtain rfl : insX ⟨#[110, 101, 103]⟩ [0] = x := by simpa [goodX] using hx
      exact insAt0 (by unfold maxLen; decide) (irowB1 k0 (by rw [s6]; omega)) (k1.cell 11 rfl) (k1.cell 12 rfl) (k1.cell 13 rfl) (k1.cell 14 rfl) (k1.cell 15 rfl) (k1.cell 16 rfl) (k1.cell 17 rfl) (k1.cell 18 rfl) (k1.cell 19 rfl) (k1.cell 20 rfl) (k1.cell 21 rfl)
    | k + 2, hx => simp [goodX] at hx⟩⟩, SRow.nil _ _ _ _, SRow.nil _ _ _ _⟩
  have HI5 : Hid (CodeIs W6 W6.heap.size badX ⟨(none, 0, 0), (none, 0, 0), (some ⟨w.heap.size + 1 + 1 + 1 + 1, 0, none⟩, 1, 1), (none, 0, 0), (none, 0, 0)⟩) := Lib.hid ⟨by decide, by decide, by decide, by decide, by decide, SRow.nil _ _ _ _, SRow.nil _ _ _ _, ⟨rfl, Nat.le_refl _, (show 1 ≤ maxLen from by unfold maxLen; decide), w.heap.size + 1 + 1 + 1 + 1, 0, Or.inl rfl, fun i x hx => ⟨by rw [s6]; omega, by
    match i, hx with
    | 0, hx =>
      obtain rfl : insX ⟨#[110, 101, 103]⟩ [0] = x := by simpa [badX] using hx
      exact insAt0 (by unfold maxLen; decide) (irowB1 k3 (by rw [s6]; omega)) (k4.cell 0 rfl) (k4.cell 1 rfl) (k4.cell 2 rfl) (k4.cell 3 rfl) (k4.cell 4 rfl) (k4.cell 5 rfl) (k4.cell 6 rfl) (k4.cell 7 rfl) (k4.cell 8 rfl) (k4.cell 9 rfl) (k4.cell 10 rfl)
    | k + 1, hx => simp [badX] at hx⟩⟩, SRow.nil _ _ _ _, SRow.nil _ _ _ _⟩
  exact ⟨HB6.out, HI2.out, HI5.out, k2, k5⟩
set_option maxHeartbeats 2000000 in
theorem awake_t (w : World) : Calls Try.prog 6 #[] w fun e w' => e = .returned (.bool true) ∧ Below w.heap.size w w' := by
  obtain ⟨W6, hW6⟩ : ∃ W6, W6 = ((((((w.alloc (.cells #[.int .i64 0] 3)).alloc (.cells #[.string ⟨#[105, 110]⟩, .int .i64 0, .slice none 0 0, .int .i64 0, .int .i64 0, .bool false, .slice none 0 0, .slice none 0 0, .string ⟨#[]⟩, .int .i64 (-1), .slice none 0 0, .string ⟨#[110, 101, 103]⟩, .int .i64 0, .slice (some ⟨w.heap.size, 0, none⟩) 1 1, .int .i64 0, .int .i64 0, .bool false, .slice none 0 0, .slice none 0 0, .string ⟨#[]⟩, .int .i64 (-1), .slice none 0 0] 70)).alloc (.cells #[.int .i64 1, .int .i64 0, .int .i64 1, .int .i64 0, .int .i64 0, .slice none 0 0, .slice none 0 0, .slice (some ⟨w.heap.size + 1, 0, none⟩) 2 2, .slice none 0 0, .slice none 0 0] 40)).alloc (.cells #[.int .i64 0] 3)).alloc (.cells #[.string ⟨#[110, 101, 103]⟩, .int .i64 0, .slice (some ⟨w.heap.size + 1 + 1 + 1, 0, none⟩) 1 1, .int .i64 0, .int .i64 0, .bool false, .slice none 0 0, .slice none 0 0, .string ⟨#[]⟩, .int .i64 (-1), .slice none 0 0] 70)).alloc (.cells #[.int .i64 1, .int .i64 0, .int .i64 1, .int .i64 0, .int .i64 0, .slice none 0 0, .slice none 0 0, .slice (some ⟨w.heap.size + 1 + 1 + 1 + 1, 0, none⟩) 1 1, .slice none 0 0, .slice none 0 0] 40)) := ⟨_, rfl⟩
  obtain ⟨hb6, hi2, hi5, k2, k5⟩ := ex_mem w W6 hW6
  have HB6 := Lib.hid hb6
  have HI5 := Lib.hid hi5
  have HG : Hid (Calls Try.prog 8 #[.agg #[.int .i64 1, .int .i64 0, .int .i64 1, .int .i64 0, .int .i64 0, .slice none 0 0, .slice none 0 0, .slice (some ⟨w.heap.size + 1, 0, none⟩) 2 2, .slice none 0 0, .slice none 0 0]] W6 fun e w' => e = .returned (.bool true) ∧ Below W6.heap.size W6 w') := Lib.hid (by
    have h := sright_yes W6.heap.size goodX _ W6 hi2 (Nat.le_refl _) goodX_right
    dsimp only [codeV, goodX] at h
    exact h)
  have HN : Hid (∀ w7, Below W6.heap.size W6 w7 → Calls Try.prog 8 #[.agg #[.int .i64 1, .int .i64 0, .int .i64 1, .int .i64 0, .int .i64 0, .slice none 0 0, .slice none 0 0, .slice (some ⟨w.heap.size + 1 + 1 + 1 + 1, 0, none⟩) 1 1, .slice none 0 0, .slice none 0 0]] w7 fun e w' => e = .returned (.bool false) ∧ Below w7.heap.size w7 w') := Lib.hid (fun w7 hb => by
    have h := sright_no W6.heap.size badX _ w7 (HI5.out.below hb) hb.size badX_wrong
    dsimp only [codeV, badX] at h
    exact h)
  have HK2 := Lib.hid k2
  have HK5 := Lib.hid k5
  clear k2 k5 hb6 hi2 hi5
  obtain ⟨m0, m1, m2, m3, m4, m5, m6, m7, m8, m9⟩ := Blk.tenO HK2.out
  obtain ⟨n0, n1, n2, n3, n4, n5, n6, n7, n8, n9⟩ := Blk.tenO HK5.out
  go_enter Try.func6, Try.ntmps6
  go_upto_region 3 with fail
  rw [← hW6]
  clear hW6
  go_wp2_with (first
    | (go_at_call 8; (with_reducible refine HG.out.mono ?_); rintro e w7 ⟨rfl, hb7⟩; have HB7 := Lib.hid (HB6.out.trans (hb7.mono HB6.out.size)); have HN7 := Lib.hid (HN.out w7 hb7); have HK7 := Lib.hid (HK5.out.later hb7); clear hb7 m0 m1 m2 m3 m4 m5 m6 m7 m8 m9 n0 n1 n2 n3 n4 n5 n6 n7 n8 n9; obtain ⟨n0, n1, n2, n3, n4, n5, n6, n7, n8, n9⟩ := Blk.tenO HK7.out)
    | (go_at_call 8; (with_reducible refine HN7.out.mono ?_); rintro e w8 ⟨rfl, hb8⟩; have HB8 := Lib.hid (HB7.out.trans (hb8.mono HB7.out.size)); clear hb8))
  go_ret
  exact ⟨rfl, HB8.out⟩

end Go.Proofs.Ytpcpbpinhdbjiaa

namespace Go.Proofs.Ytpcpbpinhdbjiaa
set_option linter.unusedVariables false
set_option linter.unusedSimpArgs false
set_option maxRecDepth 100000
open Go.RowKit

theorem Try.ownKnob : ownKnob Try.prog.godebug = none := by kernel_rfl
theorem Try.laidOut : laidOutB Try.prog = true := by kernel_rfl

end Go.Proofs.Ytpcpbpinhdbjiaa
