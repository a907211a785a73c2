/- What livesOf tells. No condition but bounds. -/
import Derived.Test.YtanbekbalfbkcaaZLivMToLstM
import Derived.Test.YtanbekbalfbkcaaZKept
import Derived.Test.YtanbekbalfbkcaaZHpMToHpK
import Derived.BigRegion
namespace Go.Proofs.Ytanbekbalfbkcaa
set_option linter.unusedVariables false
set_option linter.unusedSimpArgs false
set_option maxRecDepth 100000
open Go.RowKit

/-- block g holds the numbers xs, two for each life -/
def JMem (w : World) (g : Nat) (xs : List Int) : Prop := w.heap[g]? = some (.cells (xs.map (Value.int .i64)).toArray 101 (0, 0))
section
variable {w w' : World} {g : Nat} {xs : List Int}
theorem JMem.lt (h : JMem w g xs) : g < w.heap.size := (Array.getElem?_eq_some_iff.1 h).1
theorem JMem.cell (h : JMem w g xs) (i : Nat) (hi : i < xs.length) : w.cell? ⟨g, i, none⟩ = some (.int .i64 (xs.getD i 0)) := by
  rw [cell_of_row w g i _ 101 (0, 0) h]; simp [hi]
theorem JMem.free (h : JMem w g xs) (i : Nat) : w.frozen? ⟨g, i, none⟩ = false := frozen_of_row w g i _ 101 h
theorem JMem.set (h : JMem w g xs) (i : Nat) (u : Int) : JMem (w.setCell ⟨g, i, none⟩ (.int .i64 u)) g (xs.set i u) := by
  have := heap_setCell_same w g i _ 101 (.int .i64 u) h
  unfold JMem
  rw [this]
  congr 2
  rw [List.setIfInBounds_toArray, List.map_set]
theorem JMem.keep (h : JMem w g xs) (e : w'.heap[g]? = w.heap[g]?) : JMem w' g xs := by unfold JMem; rw [e]; exact h
theorem JMem.below {B : Nat} (h : JMem w g xs) (hb : Below B w w') (hg : g < B) : JMem w' g xs := h.keep (hb.block g hg)
theorem JMem.later (h : JMem w g xs) (hb : Below w.heap.size w w') : JMem w' g xs := h.below hb h.lt
theorem JMem.drew (h : JMem w g xs) : JMem w.drew g xs := h.later (Below.refl _ _).drew
end
theorem Try.info101 : (Try.prog.info? 101).map (fun i => (i.zero, i.size, i.bytes)) = some (some (.agg #[.int .i64 0, .int .i64 0]), 2, 16) := by kernel_rfl
/-- make([]life, n) -/
theorem makeL {w : World} {ops : Array Oper} {rest : List Oper} {o : Oper} {a : Act} {Q : Exit → Act → World → Prop}
    (hg : o.guard = none) (l : Operand) (hop : o.op = Op.makeSlice 91 l l) (L : Int) (n : Nat) (hl : a.eval l = .int .i64 L) (hL : L = (n : Int)) (hn : n ≤ 1000000)
    (hK : ∀ w', JMem w' w.heap.size (List.replicate (n * 2) 0) → Below w.heap.size w w' → wpList Try.prog ops Q rest (a.put o.dst (.slice (some ⟨w.heap.size, 0, none⟩) n n)) w') :
    wpList Try.prog ops Q (o :: rest) a w := by
  refine wpList_plain hg fun K hK' => ?_
  obtain ⟨i, hi, hz0, hz1, hz2⟩ := info_parts Try.info101
  have hr := run_make (P := Try.prog) w 91 101 i (.agg #[.int .i64 0, .int .i64 0]) Try.underlying91 hi hz0 .i64 .i64 n n (by omega) (Int.le_refl _) (by rw [hz2]; omega) (by omega)
  simp only [Int.toNat_natCast] at hr
  subst hL
  unfold Oper.wp
  simp [execOp, hop, hl, hr, Result.andThen]
  refine hK' _ _ (hK _ ?_ ((Below.refl _ _).alloc (Nat.le_refl _) _))
  unfold JMem
  rw [heap_alloc_new]
  congr 2
  rw [hz1]
  apply Array.ext
  · simp [madeCells]
  · intro j h1 h2
    have hj : j < n * 2 := by simpa [madeCells] using h1
    have hm : j % 2 = 0 ∨ j % 2 = 1 := by omega
    rcases hm with e | e <;> simp [madeCells, Value.cells, e]

def LivesPost (f : FlatM) (o : List Int) (n : Nat) (w : World) (e : Ending) (w' : World) : Prop :=
  ∃ g xs, e = .returned (.slice (some ⟨g, 0, none⟩) n n) ∧ JMem w' g xs ∧ Lives f o n xs ∧ w.heap.size ≤ g ∧ Below w.heap.size w w'

set_option maxHeartbeats 4000000 in
theorem lives_t (v : FlatV) (f : FlatM) (B : Nat) (A GA : Option Addr) (n c GC : Nat) (o : List Int) (H : List (List Int)) (w : World) (h : FlatIs w B v f) (hB : B ≤ w.heap.size) (hg : goodB f = true) (hs : SmallF f)
    (hO : IRow w w.heap.size A n c o) (hG : GRow w w.heap.size GA n GC H) (ho : Once o n) (hsg : SameG (gOf f) H n) (hpl : ∀ i, i < n → ∀ x ∈ H.getD i [], 0 ≤ x ∧ x < (n : Int)) (hn : v.names.2.1 = n) :
    Calls Try.prog 33 #[flatV v, .slice A n c, .slice GA n GC] w (LivesPost f o n w) := by
  have hn200 : n ≤ 200 := by rw [← hn, ← h.names.1]; exact hs.names
  have HNM : Hid (f.names.length = n) := Lib.hid (h.names.1.trans hn)
  have HEN : Hid (∀ x ∈ endL f, x < (n : Int)) := Lib.hid (by have := endL_lt hg; rw [HNM.out] at this; exact this)
  have HC := Lib.hid (Ctx.mk' h hB)
  have HHB := Lib.hid (And.intro hB (And.intro hg hs))
  have HOO := Lib.hid ho
  have HSG := Lib.hid hsg
  have HPL := Lib.hid hpl
  have HOL := Lib.hid ho.len
  have HHL := Lib.hid hsg.l2
  have HK : Hid (∀ W, Below (w.heap.size + 1) (w.alloc (.cells (fvs v) 29)) W → IRow W w.heap.size A n c o ∧ GRow W w.heap.size GA n GC H ∧ Blk W w.heap.size 29 (fvs v) ∧ FlatIs W B v f ∧ Below w.heap.size w W) := Lib.hid fun W hb => by
    have h1 : Below w.heap.size w W := HC.out.old.trans (hb.mono (Nat.le_succ _))
    exact ⟨hO.below h1, hG.below h1, HC.out.blk.below hb (Nat.lt_succ_self _), h.below (h1.mono hB), h1⟩
  clear h hB hg hs hO hG ho hsg hpl hn
  unfold flatV sl3
  go_enter Try.func33, Try.ntmps33
  go_wp2_with (at_make; refine makeL rfl _ rfl _ n rfl rfl (by omega) ?_)
  intro w2 hm2 hb2
  obtain ⟨g, hgs⟩ : ∃ g, g = w.heap.size + 1 := ⟨_, rfl⟩
  rw [← hgs] at hm2 ⊢
  have HM2 : Hid (JMem w2 g (List.replicate (n * 2) 0)) := Lib.hid hm2
  have HB2 : Hid (Below (w.heap.size + 1) (w.alloc (.cells (fvs v) 29)) w2) := Lib.hid hb2
  have HGS := Lib.hid hgs
  clear hm2 hb2 hgs
  go_wp2_with fail
  go_loopw [22] (fun t wr => ∃ i : Nat, i ≤ n ∧ t = .int .i64 i ∧ Hid (∃ xs, JMem wr g xs ∧ LvA o n i xs) ∧ Hid (Below (w.heap.size + 1) (w.alloc (.cells (fvs v) 29)) wr)) (fun t _ => n - (intOf t).toNat)
  case atStart => exact ⟨0, Nat.zero_le _, rfl, Lib.hid ⟨_, HM2.out, by simp, fun j v hj => by omega⟩, HB2⟩
  case round =>
    obtain ⟨i, hi, rfl, hz, hbr⟩ := hrel
    obtain ⟨xs, hxs, hlv⟩ := hz.out
    have HXS := Lib.hid hxs
    have HLV := Lib.hid hlv
    clear hxs hlv hz
    by_cases hlt : i < n
    · obtain ⟨b, off, rfl, hlb, hcell⟩ := (HK.out _ hbr.out).1.at_ hlt
      obtain ⟨u, hu, hou⟩ := HOO.out.get hlt
      rw [hou] at hcell
      have HOU := Lib.hid hou; clear hou
      have kc0 := HXS.out.cell (u * 2) (by rw [HLV.out.len]; omega)
      have kc1 := HXS.out.cell (u * 2 + 1) (by rw [HLV.out.len]; omega)
      have kf0 := HXS.out.free (u * 2)
      have kf1 := HXS.out.free (u * 2 + 1)
      obtain ⟨K0, hK0⟩ : ∃ K0, K0 = xs.getD (u * 2) 0 := ⟨_, rfl⟩
      obtain ⟨K1, hK1⟩ : ∃ K1, K1 = xs.getD (u * 2 + 1) 0 := ⟨_, rfl⟩
      rw [← hK0] at kc0; rw [← hK1] at kc1
      clear hK0 hK1
      have huI : (u : Int) < (n : Int) := by omega
      go_wp2
      go_roundw
      case rel => exact ⟨i + 1, by omega, by go_num, Lib.hid ⟨_, (HXS.out.set (u * 2) i).set (u * 2 + 1) i, HLV.out.step HOO.out hlt hu HOU.out⟩, Lib.hid ((hbr.out.setCell (p := ⟨g, u * 2, none⟩) (Nat.le_of_eq HGS.out.symm) _).setCell (p := ⟨g, u * 2 + 1, none⟩) (Nat.le_of_eq HGS.out.symm) _)⟩
      case measure => simp [intOf]; omega
    · obtain rfl : i = n := by omega
      have HLB := Lib.hid (HLV.out.done HOO.out H)
      go_wp2_with fail
      obtain ⟨wo, rfl⟩ : ∃ wo : World, wo = wr := ⟨_, rfl⟩
      go_loopw [36] (fun t wr => ∃ k : Nat, k ≤ i ∧ t = .int .i64 k ∧ Hid (∃ xs, JMem wr g xs ∧ LvB H o i k 0 xs) ∧ Hid (Below (w.heap.size + 1) (w.alloc (.cells (fvs v) 29)) wr)) (fun t _ => i - (intOf t).toNat)
      case atStart => exact ⟨0, Nat.zero_le _, rfl, Lib.hid ⟨_, HXS.out, HLB.out⟩, hbr⟩
      case round =>
        clear HXS HLV HLB hbr HM2 HB2
        obtain ⟨k, hk, rfl, hz, hbr⟩ := hrel
        by_cases hlt2 : k < i
        · obtain ⟨wq, rfl⟩ : ∃ wq : World, wq = wr := ⟨_, rfl⟩
          obtain ⟨b, off, A2, L, C, rfl, hlb, hcell, hrow⟩ := (HK.out _ hbr.out).2.1.at_ hlt2
          have hL := hrow.len_le
          unfold maxLen at hL
          have HLr : Hid ((H.getD k []).length = L) := Lib.hid hrow.1
          have HR := Lib.hid hrow
          clear hrow
          go_wp2_with fail
          go_loopw [43] (fun t wr => ∃ p : Nat, p ≤ L ∧ t = .int .i64 p ∧ Hid (∃ xs, JMem wr g xs ∧ LvB H o i k p xs) ∧ Hid (Below (w.heap.size + 1) (w.alloc (.cells (fvs v) 29)) wr) ∧ Hid (Below w.heap.size wq wr)) (fun t _ => L - (intOf t).toNat)
          case atStart => exact ⟨0, Nat.zero_le _, rfl, hz, hbr, Lib.hid (Below.refl _ _)⟩
          case round =>
            clear hz hbr hcell
            obtain ⟨p, hp, rfl, hz, hbr, hbq⟩ := hrel
            obtain ⟨xs, hxs, hlv⟩ := hz.out
            have HXS := Lib.hid hxs
            have HLV := Lib.hid hlv
            clear hxs hlv hz
            by_cases hlt3 : p < L
            · obtain ⟨b3, off3, rfl, hlb3, hcell3⟩ := (HR.out.below hbq.out).at_ hlt3
              have hpu := HPL.out k hlt2 _ (getD_mem (show p < (H.getD k []).length by rw [HLr.out]; exact hlt3))
              obtain ⟨u, hu⟩ : ∃ u : Nat, (H.getD k []).getD p 0 = (u : Int) := ⟨((H.getD k []).getD p 0).toNat, by omega⟩
              rw [hu] at hcell3 hpu
              have huI : (u : Int) < (i : Int) := hpu.2
              have hun : u < i := by omega
              have HADD := Lib.hid (HLV.out.add (by rw [HLr.out]; exact hlt3) hun hu)
              have kc1 := HXS.out.cell (u * 2 + 1) (by rw [HLV.out.len]; omega)
              have kf1 := HXS.out.free (u * 2 + 1)
              have kc2 := HXS.out.cell (k * 2) (by rw [HLV.out.len]; omega)
              rw [HLV.out.fst k hlt2] at kc2
              obtain ⟨M, hM⟩ : ∃ M, M = xs.getD (u * 2 + 1) 0 := ⟨_, rfl⟩
              obtain ⟨F, hF⟩ : ∃ F, F = plc o (k : Int) := ⟨_, rfl⟩
              rw [← hM] at kc1 HADD; rw [← hF] at kc2 HADD
              rw [show max M F = (if M < F then F else M) by split <;> omega] at HADD
              have hkI : (k : Int) < (i : Int) := by omega
              clear hM hF hpu hu
              go_wp2
              go_region
              go_wp2
              go_roundw
              case rel => exact ⟨p + 1, by omega, by go_num, Lib.hid ⟨_, (HXS.out.set (u * 2 + 1) (if M < F then F else M)).drew, HADD.out⟩, Lib.hid (hbr.out.setCell (p := ⟨g, u * 2 + 1, none⟩) (Nat.le_of_eq HGS.out.symm) _).drew, Lib.hid (hbq.out.setCell (p := ⟨g, u * 2 + 1, none⟩) (by have := HGS.out; show w.heap.size ≤ g; omega) _).drew⟩
              case measure => simp [intOf]; omega
            · obtain rfl : p = L := by omega
              have HNX : Hid (LvB H o i (k + 1) 0 xs) := Lib.hid (LvB.next (by rw [HLr.out]; exact HLV.out))
              go_wp2
              go_roundw
              case rel => exact ⟨k + 1, by omega, by go_num, Lib.hid ⟨_, HXS.out, HNX.out⟩, hbr⟩
              case measure => simp [intOf]; omega
        · obtain rfl : k = i := by omega
          obtain ⟨xs, hxs, hlv⟩ := hz.out
          have HXS := Lib.hid hxs
          have HLC := Lib.hid (hlv.done HOO.out HSG.out (endL f))
          obtain ⟨_, _, hfb, his, hbw⟩ := HK.out _ hbr.out
          obtain ⟨f0, f1, f2, f3, f4, f5, f6, f7⟩ := hfb.flat
          have HKT := Lib.hid (kept_t v f B wr his (Nat.le_trans HHB.out.1 hbw.size) HHB.out.2.1 HHB.out.2.2)
          unfold flatV sl3 at HKT
          have HBW := Lib.hid hbw
          clear hxs hlv hz hfb his hbw
          go_wp2_with (go_at_call 47; (with_reducible refine HKT.out.mono ?_); rintro e w5 ⟨v5, rfl, hown, hb5⟩; obtain ⟨A5, c5, e5⟩ := hown.len; subst e5; have HO5 := Lib.hid hown; have HB5 := Lib.hid hb5; clear hown hb5 f0 f1 f2 f3 f4 f5 f6 f7)
          have HX5 := Lib.hid (HXS.out.later HB5.out)
          have HL5 : Hid (Below w.heap.size w w5) := Lib.hid (HBW.out.trans (HB5.out.mono HBW.out.size))
          have HGW : Hid (g < wr.heap.size) := Lib.hid HXS.out.lt
          have hle5 : (endL f).length ≤ 1000000 := by
            have := len_ok HHB.out.2.2 f.mems.length f.conts.length f.cross.length
            unfold endL; simp only [List.length_append]; omega
          obtain ⟨m, hm⟩ : ∃ m, m = (endL f).length := ⟨_, rfl⟩
          rw [← hm] at hle5 ⊢
          have HMM := Lib.hid hm; clear hm
          go_loopw [69] (fun t wr => ∃ j : Nat, j ≤ m ∧ t = .int .i64 j ∧ Hid (∃ xs, JMem wr g xs ∧ LvC (gOf f) o (endL f) k j xs) ∧ Hid (Only [some g] w5 wr) ∧ Hid (Below w.heap.size w wr)) (fun t _ => m - (intOf t).toNat)
          case atStart => exact ⟨0, Nat.zero_le _, rfl, Lib.hid ⟨_, HX5.out, HLC.out⟩, Lib.hid (Only.refl _ _), HL5⟩
          case round =>
            clear hbr HXS HLC HKT HX5 HL5
            obtain ⟨j, hj, rfl, hz, hoj, hbj⟩ := hrel
            obtain ⟨xs, hxs, hlv⟩ := hz.out
            have HXS := Lib.hid hxs
            have HLV := Lib.hid hlv
            clear hxs hlv hz
            by_cases hlt4 : j < m
            · have HOJ := Lib.hid (HO5.out.only hoj.out (fun q hq => by have := HO5.out.lt hq; have := HGW.out; simp; omega))
              obtain ⟨q, cq, eq5, _, hcell5, _, _, _⟩ := HOJ.out.cellAt (i := j) (by rw [← HMM.out]; exact hlt4)
              have eA : A5 = some ⟨q, 0, none⟩ := by injection eq5
              clear eq5
              subst eA
              obtain ⟨X, hX⟩ : ∃ X, X = (endL f).getD j 0 := ⟨_, rfl⟩
              have HXI : Hid ((endL f)[j]? = some X) := Lib.hid (by
                have hjl : j < (endL f).length := by rw [← HMM.out]; exact hlt4
                rw [hX]; simp [hjl])
              have hXn : X < (k : Int) := HEN.out X (by rw [hX]; exact getD_mem (by rw [← HMM.out]; exact hlt4))
              rw [← hX] at hcell5
              clear hX
              by_cases hX0 : X < 0
              · have HSK := Lib.hid (HLV.out.skip HXI.out hX0)
                go_wp2
                go_roundw
                case rel => exact ⟨j + 1, by omega, by go_num, Lib.hid ⟨_, HXS.out, HSK.out⟩, hoj, hbj⟩
                case measure => simp [intOf]; omega
              · obtain ⟨u, rfl⟩ : ∃ u : Nat, X = (u : Int) := ⟨X.toNat, by omega⟩
                have hun : u < k := by omega
                have HPT := Lib.hid (HLV.out.put HXI.out hun)
                have kc1 := HXS.out.cell (u * 2 + 1) (by rw [HLV.out.len]; omega)
                have kf1 := HXS.out.free (u * 2 + 1)
                obtain ⟨M, hM⟩ : ∃ M, M = xs.getD (u * 2 + 1) 0 := ⟨_, rfl⟩
                rw [← hM] at kc1
                clear hM
                go_wp2
                go_roundw
                case rel => exact ⟨j + 1, by omega, by go_num, Lib.hid ⟨_, HXS.out.set (u * 2 + 1) (k : Int), HPT.out⟩, Lib.hid (hoj.out.trans (Only.set (by simp) _ _ _)), Lib.hid (hbj.out.setCell (p := ⟨g, u * 2 + 1, none⟩) (by have := HGS.out; show w.heap.size ≤ g; omega) _)⟩
                case measure => simp [intOf]; omega
            · obtain rfl : j = m := by omega
              have HD : Hid (LivesPost f o k w (.returned (.slice (some ⟨g, 0, none⟩) k k)) wr) := Lib.hid ⟨g, xs, rfl, HXS.out, HLV.out.done HMM.out.symm HOL.out HNM.out, by have := HGS.out; omega, hbj.out⟩
              go_wp2
              go_ret
              exact HD.out

end Go.Proofs.Ytanbekbalfbkcaa
