/- What a block of 32-bit numbers that the call made itself holds; the laws for make and copy on it. No condition. -/
import Derived.Test.YtjpjibdcjmjcgaaBase
import Derived.Laws.CopyOwn
namespace Go.Proofs.Ytjpjibdcjmjcgaa
open Go.RowKit Nums

def u32 (x : Nat) : Value := .int .u32 (x : Nat)

/-- Block g is a row of numbers, none of them frozen. -/
def Mem (w : World) (g : Nat) (cs : List Nat) : Prop := w.heap[g]? = some (.cells (cs.map u32).toArray 38 (0, 0))

theorem Mem.lt {w : World} {g : Nat} {cs : List Nat} (h : Mem w g cs) : g < w.heap.size := (Array.getElem?_eq_some_iff.1 h).1

theorem Mem.cell {w : World} {g : Nat} {cs : List Nat} (h : Mem w g cs) (i : Nat) (hi : i < cs.length) : w.cell? ⟨g, i, none⟩ = some (.int .u32 (cs.getD i 0 : Nat)) := by
  rw [cell_of_row w g i _ 38 (0, 0) h]
  simp [hi, u32]

theorem Mem.free {w : World} {g : Nat} {cs : List Nat} (h : Mem w g cs) (i : Nat) : w.frozen? ⟨g, i, none⟩ = false := frozen_of_row w g i _ 38 h

theorem Mem.set {w : World} {g : Nat} {cs : List Nat} (h : Mem w g cs) (i u : Nat) : Mem (w.setCell ⟨g, i, none⟩ (.int .u32 (u : Nat))) g (cs.set i u) := by
  have := heap_setCell_same w g i _ 38 (.int .u32 (u : Nat)) h
  unfold Mem
  rw [this]
  congr 2
  rw [List.setIfInBounds_toArray, List.map_set]
  rfl

theorem Mem.setI {w : World} {g : Nat} {cs : List Nat} (h : Mem w g cs) (i : Nat) (z : Int) (u : Nat) (hz : z = (u : Int)) : Mem (w.setCell ⟨g, i, none⟩ (.int .u32 z)) g (cs.set i u) := by
  subst hz; exact h.set i u

theorem Mem.keep {w w' : World} {g : Nat} {cs : List Nat} (h : Mem w g cs) (e : w'.heap[g]? = w.heap[g]?) : Mem w' g cs := by unfold Mem; rw [e]; exact h

theorem Mem.below {B : Nat} {w w' : World} {g : Nat} {cs : List Nat} (h : Mem w g cs) (hb : Below B w w') (hg : g < B) : Mem w' g cs := h.keep (hb.block g hg)

theorem Mem.row {w : World} {g : Nat} {cs : List Nat} (h : Mem w g cs) (hs : Small cs) (off k c : Nat) (hk : off + k ≤ cs.length) (hkc : k ≤ c) (hc : c ≤ maxLen) : Row w (some ⟨g, off, none⟩) k c ((cs.drop off).take k) := by
  refine ⟨by simp; omega, hkc, hc, by simp, small_take (fun x hx => hs x (List.mem_of_mem_drop hx)) k, g, off, Or.inl rfl, fun i hi => ⟨h.lt, ?_⟩⟩
  rw [h.cell (off + i) (by omega)]
  congr 3
  simp [List.getElem?_take, hi]

theorem Mem.row0 {w : World} {g : Nat} {cs : List Nat} (h : Mem w g cs) (hs : Small cs) (c : Nat) (hkc : cs.length ≤ c) (hc : c ≤ maxLen) : Row w (some ⟨g, 0, none⟩) cs.length c cs := by
  have := h.row hs 0 cs.length c (by omega) hkc hc
  simpa using this

theorem Try.info38 : (Try.prog.info? 38).map (fun i => (i.zero, i.size, i.bytes)) = some (some (.int .u32 0), 1, 4) := by kernel_rfl

/-- make([]uint32, n) -/
theorem make32 {w : World} {ops : Array Oper} {rest : List Oper} {o : Oper} {a : Act} {Q : Exit → Act → World → Prop}
    (hg : o.guard = none) (l : Operand) (hop : o.op = Op.makeSlice 22 l l) (L : Int) (n : Nat) (hl : a.eval l = .int .i64 L) (hL : L = (n : Int)) (hn : n ≤ 1000000000000)
    (hK : ∀ g w', w.heap.size ≤ g → Mem w' g (List.replicate n 0) → Below w.heap.size w w' → wpList Try.prog ops Q rest (a.put o.dst (.slice (some ⟨g, 0, none⟩) n n)) w') :
    wpList Try.prog ops Q (o :: rest) a w := by
  refine wpList_plain hg fun K hK' => ?_
  obtain ⟨i, hi, hz0, hz1, hz2⟩ := info_parts Try.info38
  have hr := run_make (P := Try.prog) w 22 38 i (.int .u32 0) Try.underlying22 hi hz0 .i64 .i64 n n (by omega) (Int.le_refl _) (by rw [hz2]; omega) (by omega)
  simp only [Int.toNat_natCast] at hr
  subst hL
  unfold Oper.wp
  simp [execOp, hop, hl, hr, Result.andThen]
  refine hK' _ _ (hK _ _ (Nat.le_refl _) ?_ ((Below.refl _ _).alloc (Nat.le_refl _) _))
  unfold Mem
  rw [heap_alloc_new]
  congr 2
  rw [hz1, Nat.mul_one]
  apply Array.ext'
  show (madeCells #[Value.int .u32 0] n).toList = _
  rw [toList_madeCells_one]
  simp [u32]

/-- copy(dst, src), dst all of a block of the call's own, src as long. -/
theorem copy32 {w : World} {ops : Array Oper} {rest : List Oper} {o : Oper} {a : Act} {Q : Exit → Act → World → Prop} (hgd : o.guard = none) (d s : Operand)
    (ho : o.op = .call { callee := .builtin .copy, args := #[d, s], argTypes := #[22, 22] })
    (g : Nat) (sp : Option Addr) (n dCap sCap : Nat) (hd : a.eval d = .slice (some ⟨g, 0, none⟩) n dCap) (hs : a.eval s = .slice sp n sCap)
    (cs xs : List Nat) (hg : Mem w g cs) (hn : cs.length = n) (hr : Row w sp n sCap xs)
    (B : Nat) (w0 : World) (hb : Below B w0 w) (hBg : B ≤ g)
    (h : ∀ w', Mem w' g xs → Below B w0 w' → wpList Try.prog ops Q rest (a.put o.dst (goInt n)) w') :
    wpList Try.prog ops Q (o :: rest) a w := by
  obtain ⟨h1, h2, h3, h4, h5, b, off, hor, hc⟩ := hr
  have hl : (xs.map u32).length = n := by simpa using h1
  have := wpList_copy_splice (w0 := w0) (w := w) (ops := ops) (rest := rest) (P := Try.prog) (Q := Q) hgd d s 22 22 ho 38 Try.underlying22 (by obtain ⟨i, hi, hz0, hz1, hz2⟩ := info_parts Try.info38; simp [hi, hz1])
    (some ⟨g, 0, none⟩) sp n dCap n sCap hd hs g 0 (cs.map u32) 38 hg (xs.map u32) (by rw [hl]; exact (Nat.min_self n).symm)
    (by
      intro hp
      refine ⟨rfl, ?_⟩
      rcases hor with rfl | h0
      · refine ⟨_, rfl, ?_⟩
        intro j v hj
        have hjn : j < n := by
          rw [← hl]; exact (List.getElem?_eq_some_iff.1 hj).1
        have e : (⟨b, off, none⟩ : Addr).add j = ⟨b, off + j, none⟩ := by unfold Addr.add; split <;> simp_all
        rw [e, (hc j hjn).2, ← hj]
        simp [List.getElem?_eq_getElem (h1.symm ▸ hjn), u32]
      · omega)
    (by simp; omega) (by intro v hv; simp at hv; obtain ⟨x, _, rfl⟩ := hv; rfl) B hb hBg
    (by
      intro w' hm hbel
      rw [hl]
      refine h w' ?_ hbel
      have hm := hm.out
      unfold Mem
      rw [hm]
      congr 2
      unfold Go.splice
      rw [hl, List.drop_eq_nil_of_le (by simp; omega)]
      simp)
  exact this

set_option maxHeartbeats 400000 in
/-- told: a copy of the number. -/
theorem told_any (a : Option Addr) (n c : Nat) (xs : List Nat) (w : World) (hr : Row w a n c xs) (hn : n ≤ 1000000000) :
    Calls Try.prog 43 #[.slice a n c] w fun e w' => (∃ a' m, e = .returned (.slice a' m m) ∧ m = tl xs ∧ m ≤ n ∧ Row w' a' m m (xs.take m) ∧ ((m = 0 ∧ a' = none) ∨ (0 < m ∧ ∃ g, a' = some ⟨g, 0, none⟩ ∧ w.heap.size ≤ g ∧ Mem w' g (xs.take m)))) ∧ Below w.heap.size w w' := by
  have hs := hr.2.2.2.2.1
  have HR := Lib.hid hr; clear hr
  go_enter Try.func43, Try.ntmps43
  go_wp2_with fail
  refine (cut_row a n c xs w HR.out hn).mono ?_
  rintro e w' ⟨a', m, rfl, hm, hmn, hrow, hor, rfl⟩
  have HM := Lib.hid hm; clear hm
  have HROW := Lib.hid hrow; clear hrow
  have HO := Lib.hid hor; clear hor
  by_cases hm0 : 0 < m
  · go_wp2_with (at_make; refine make32 rfl _ rfl _ m rfl rfl (by omega) ?_)
    intro g w1 hg hmem hbel
    have HG := Lib.hid hmem; clear hmem
    go_wp2_with (with_reducible refine copy32 rfl _ _ rfl g a' m m m rfl rfl _ (xs.take m) HG.out (by simp) (row_below (Nat.le_refl _) hbel HROW.out) w.heap.size w hbel hg ?_)
    intro w2 hm2 hb2
    have HG2 := Lib.hid hm2; clear hm2
    go_wp2
    go_ret
    have hl : (xs.take m).length = m := HROW.out.1
    have hrow2 : Row w2 (some ⟨g, 0, none⟩) m m (xs.take m) := by
      have := HG2.out.row0 (small_take hs m) m (by omega) (by have := HROW.out.2.2.1; exact this)
      rw [hl] at this; exact this
    exact ⟨⟨_, m, rfl, HM.out, hmn, hrow2, Or.inr ⟨hm0, g, rfl, hg, HG2.out⟩⟩, hb2⟩
  · have hm1 : ((m : Int) == 0) = true := by rw [beq_iff_eq]; omega
    go_wp2
    go_ret
    obtain rfl : m = 0 := by omega
    exact ⟨⟨none, 0, rfl, HM.out, Nat.zero_le _, by simpa using row_nil w, Or.inl ⟨rfl, rfl⟩⟩, Below.refl _ _⟩
end Go.Proofs.Ytjpjibdcjmjcgaa
