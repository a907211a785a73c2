/- What Needs of package cause tells. No condition but bounds. -/
import Derived.Test.YtanbekbalfbkcaaZCnC
import Derived.Test.YtanbekbalfbkcaaZPlA
import Derived.Test.YtanbekbalfbkcaaZLivMToLstM
import Derived.Test.YtanbekbalfbkcaaZFlSToFlU
import Derived.Deep.RegionHeld3
namespace Go.Proofs.Ytanbekbalfbkcaa
set_option linter.unusedVariables false
set_option linter.unusedSimpArgs false
set_option maxRecDepth 100000
open Go.RowKit

theorem blk18 {W : World} {g e : Nat} {v : FlatV} {q : FEqM} {a m d : Option Addr × Nat × Nat} (h1 : Blk W g 29 (fvs v)) (h2 : Blk W e 77 (qvs q a m d)) :
    W.cell? ⟨g, 0, none⟩ = some (.slice v.ins.1 v.ins.2.1 v.ins.2.2) ∧ W.cell? ⟨g, 1, none⟩ = some (.slice v.names.1 v.names.2.1 v.names.2.2) ∧ W.cell? ⟨g, 2, none⟩ = some (.slice v.outs.1 v.outs.2.1 v.outs.2.2) ∧ W.cell? ⟨g, 3, none⟩ = some (.slice v.eqs.1 v.eqs.2.1 v.eqs.2.2) ∧ W.cell? ⟨g, 4, none⟩ = some (.slice v.mems.1 v.mems.2.1 v.mems.2.2) ∧ W.cell? ⟨g, 5, none⟩ = some (.slice v.conts.1 v.conts.2.1 v.conts.2.2) ∧ W.cell? ⟨g, 6, none⟩ = some (.slice v.cross.1 v.cross.2.1 v.cross.2.2) ∧ W.cell? ⟨g, 7, none⟩ = some (.slice v.again.1 v.again.2.1 v.again.2.2) ∧ W.cell? ⟨e, 0, none⟩ = some (.int .i64 q.var) ∧ W.cell? ⟨e, 1, none⟩ = some (.string q.op) ∧ W.cell? ⟨e, 2, none⟩ = some (.slice a.1 a.2.1 a.2.2) ∧ W.cell? ⟨e, 3, none⟩ = some (.int .i64 q.k) ∧ W.cell? ⟨e, 4, none⟩ = some (.int .i64 q.lit.kind) ∧ W.cell? ⟨e, 5, none⟩ = some (.bool q.lit.neg) ∧ W.cell? ⟨e, 6, none⟩ = some (.slice m.1 m.2.1 m.2.2) ∧ W.cell? ⟨e, 7, none⟩ = some (.slice d.1 d.2.1 d.2.2) ∧ W.cell? ⟨e, 8, none⟩ = some (.string q.lit.name) ∧ W.cell? ⟨e, 9, none⟩ = some (.int .i64 q.guard) := by
  obtain ⟨f0, f1, f2, f3, f4, f5, f6, f7⟩ := h1.flat
  obtain ⟨e0, e1, e2, e3, e4, e5, e6, e7, e8, e9⟩ := h2.eq
  exact ⟨f0, f1, f2, f3, f4, f5, f6, f7, e0, e1, e2, e3, e4, e5, e6, e7, e8, e9⟩
theorem Blk.keep' {w w' : World} {g T : Nat} {vs : Array Value} (h : Blk w g T vs) (e : w'.heap[g]? = w.heap[g]?) : Blk w' g T vs := e.trans h
/-- rows that say the same as the first k equations' needs -/
structure NTo (f : FlatM) (n k : Nat) (X : List (List Int)) : Prop where
  len : X.length = n
  mem : ∀ i, i < n → ∀ x, x ∈ X.getD i [] ↔ x ∈ (gTo f k).getD i [] ∧ 0 ≤ x
  small : ∀ i, i < n → (X.getD i []).length ≤ 2001
theorem NTo.start (f : FlatM) : NTo f f.names.length 0 (List.replicate f.names.length []) := by
  refine ⟨by simp, fun i hi x => ?_, fun i hi => ?_⟩
  · have : gTo f 0 = List.replicate f.names.length [] := rfl
    rw [this, getD_rep]; simp
  · rw [getD_rep]; simp
theorem setR (X : List (List Int)) (i j : Nat) (r : List Int) (hj : j < X.length) : (X.set j r).getD i [] = if i = j then r else X.getD i [] := by
  by_cases e : i = j
  · subst e; simp [hj]
  · rw [if_neg e]; simp [Ne.symm e]
theorem NTo.put {f : FlatM} {n k j : Nat} {X : List (List Int)} {q : FEqM} {l : List Int} (h : NTo f n k X) (hn : f.names.length = n) (hq : f.eqs[k]? = some q) (hv : q.var = (j : Int)) (hj : j < n)
    (hl : ∀ x, x ∈ l ↔ x ∈ needsL f q ∧ 0 ≤ x) (hs : l.length ≤ 2001) : NTo f n (k + 1) (X.set j l) := by
  have e : gTo f (k + 1) = (gTo f k).set j (needsL f q) := by rw [gTo_succ hq, hv]; rfl
  refine ⟨by rw [List.length_set]; exact h.len, fun i hi x => ?_, fun i hi => ?_⟩
  · rw [e, setR _ _ _ _ (by rw [h.len]; exact hj), setR _ _ _ _ (by rw [gTo_len, hn]; exact hj)]
    by_cases ei : i = j
    · rw [if_pos ei, if_pos ei]; exact hl x
    · rw [if_neg ei, if_neg ei]; exact h.mem i hi x
  · rw [setR _ _ _ _ (by rw [h.len]; exact hj)]
    by_cases ei : i = j
    · rw [if_pos ei]; exact hs
    · rw [if_neg ei]; exact h.small i hi
theorem gTo_places {f : FlatM} (hg : goodB f = true) : ∀ k, k ≤ f.eqs.length → ∀ i, ∀ x ∈ (gTo f k).getD i [], plB x f.names.length = true := by
  intro k
  induction k with
  | zero =>
    intro _ i x hx
    have : gTo f 0 = List.replicate f.names.length [] := rfl
    rw [this, getD_rep] at hx; cases hx
  | succ k ih =>
    intro hk i x hx
    have hq : f.eqs[k]? = some f.eqs[k] := List.getElem?_eq_getElem (by omega)
    rw [gTo_succ hq] at hx
    by_cases hj : (f.eqs[k]).var.toNat < (gTo f k).length
    · rw [setR _ _ _ _ hj] at hx
      by_cases e : i = (f.eqs[k]).var.toNat
      · rw [if_pos e] at hx; exact needs_places hg hq x hx
      · rw [if_neg e] at hx; exact ih (by omega) i x hx
    · rw [List.set_eq_of_length_le (by omega)] at hx; exact ih (by omega) i x hx
theorem NTo.done {f : FlatM} {n k : Nat} {X : List (List Int)} (h : NTo f n k X) (hg : goodB f = true) (hn : f.names.length = n) (hk : f.eqs.length = k) : SameG (gOf f) X n ∧ (∀ i, i < n → ∀ x ∈ X.getD i [], 0 ≤ x ∧ x < (n : Int)) := by
  have hp := gTo_places hg k (by omega)
  rw [hn] at hp
  have e : gOf f = gTo f k := by unfold gOf; rw [hk]
  refine ⟨⟨by rw [e, gTo_len, hn], h.len, fun i hi x => ?_⟩, fun i hi x hx => ?_⟩
  · rw [h.mem i hi x, e]
    exact ⟨fun q => ⟨q, (plB_yes (hp i x q)).1⟩, fun q => q.1⟩
  · exact plB_yes (hp i x ((h.mem i hi x).1 hx).1)
theorem tot_small : ∀ (X : List (List Int)) (M : Nat), (∀ r ∈ X, r.length ≤ M) → Gr.tot X ≤ X.length * M := by
  intro X M
  unfold Gr.tot
  induction X with
  | nil => intro _; simp
  | cons r X ih =>
    intro h
    simp only [List.map_cons, List.sum_cons, List.length_cons]
    have h1 := h r List.mem_cons_self
    have h2 := ih fun r hr => h r (List.mem_cons_of_mem _ hr)
    rw [Nat.add_mul]; omega
theorem NTo.tot {f : FlatM} {n k : Nat} {X : List (List Int)} (h : NTo f n k X) (hn : n ≤ 200) : Gr.tot X ≤ 1000000 := by
  have := tot_small X 2001 fun r hr => by
    obtain ⟨i, hi, e⟩ := List.mem_iff_getElem.1 hr
    have := h.small i (by rw [← h.len]; exact hi)
    simpa [hi, e] using this
  rw [h.len] at this
  have : n * 2001 ≤ 200 * 2001 := Nat.mul_le_mul_right _ hn
  omega

/-- what cause.Needs tells of a good program -/
def CausePost (f : FlatM) (n : Nat) (w : World) (e : Ending) (w' : World) : Prop :=
  ∃ g H, e = .returned (.slice (some ⟨g, 0, none⟩) n n) ∧ GRow w' w'.heap.size (some ⟨g, 0, none⟩) n n H ∧ SameG (gOf f) H n ∧ (∀ i, i < n → ∀ x ∈ H.getD i [], 0 ≤ x ∧ x < (n : Int)) ∧ Gr.tot H ≤ 1000000 ∧ Below w.heap.size w w'
/-- what holds behind each equation -/
structure CnSt (w w2 : World) (f : FlatM) (n k : Nat) (W : World) : Prop where
  rows : ∃ X, Rws W (w.heap.size + 1) X ∧ NTo f n k X
  old : Below (w.heap.size + 1) w2 W

set_option maxHeartbeats 4000000 in
theorem cneeds_t (v : FlatV) (f : FlatM) (B : Nat) (w : World) (h : FlatIs w B v f) (hB : B ≤ w.heap.size) (hg : goodB f = true) (hs : SmallF f) :
    Calls Try.prog 32 #[flatV v] w (CausePost f v.names.2.1 w) := by
  have hm := h.eqs.len_le
  have HN : Hid (f.names.length = v.names.2.1) := Lib.hid h.names.1
  have HE := Lib.hid h.eqs.1
  have hsm : v.names.2.1 ≤ 200 := by rw [← h.names.1]; exact hs.names
  have HKL : Hid (∀ (k : Nat) (q : FEqM), f.eqs[k]? = some q → kL q.op q.k v.ins.2.1 v.mems.2.1 v.conts.2.1 v.cross.2.1 = true ∧ plB q.var v.names.2.1 = true) := Lib.hid fun k q hq => by
    have := goodB_eq hg hq
    rw [h.ins.1, h.mems.1, h.conts.1, h.cross.1, h.names.1] at this
    exact ⟨this.2.2.2, this.1⟩
  have HS := Lib.hid hs
  have HGB := Lib.hid hg
  have HC := Lib.hid (Ctx.mk' h hB)
  have HGC := Lib.hid (good_b v f B true _ HC.out.is (by rw [size_alloc]; omega) (by omega) hg)
  clear h hB hg hs
  unfold maxLen at hm
  unfold flatV sl3 fvs at HGC
  unfold flatV sl3
  go_enter Try.func32, Try.ntmps32
  go_wp2_with (first | (go_at_call 29; (with_reducible refine HGC.out.mono ?_); rintro e w1 ⟨rfl, hb1⟩; have HB1 := Lib.hid hb1; clear hb1; have HK1 := Lib.hid (HC.out.blk.later HB1.out); obtain ⟨f0, f1, f2, f3, f4, f5, f6, f7⟩ := HK1.out.flat) | (at_make; refine makeS rfl _ rfl _ v.names.2.1 rfl rfl (by omega) ?_))
  intro w2 hrw hb2
  obtain ⟨g, hgg⟩ : ∃ g, g = w1.heap.size := ⟨_, rfl⟩
  rw [← hgg] at hrw hb2 ⊢
  have hwg : w.heap.size < g := by rw [hgg]; exact HK1.out.lt
  have HR2 : Hid (Rws w2 g (List.replicate v.names.2.1 [])) := Lib.hid hrw
  have HB2 : Hid (Below g w1 w2) := Lib.hid hb2
  have HWW : Hid (Below w.heap.size w w2) := Lib.hid ((HC.out.old.trans (HB1.out.mono (by simp))).trans (hb2.mono (Nat.le_of_lt hwg)))
  have HKB := Lib.hid (HK1.out.below HB2.out hwg)
  have HIS := Lib.hid ((HC.out.is.below (HB1.out.mono (by rw [size_alloc]; have := HC.out.le; omega))).below (HB2.out.mono (Nat.le_trans HC.out.le (Nat.le_of_lt hwg))))
  have HBG := Lib.hid (Nat.le_trans HC.out.le (Nat.le_of_lt hwg))
  clear hrw hb2 hgg HB1 HK1 f0 f1 f2 f3 f4 f5 f6 f7 HGC
  obtain ⟨f0, f1, f2, f3, f4, f5, f6, f7⟩ := HKB.out.flat
  obtain ⟨W2, hW2⟩ : ∃ W2, w2 = W2 := ⟨_, rfl⟩
  subst hW2
  go_wp2_with fail
  go_loopw [16] (fun t wr => ∃ k : Nat, k ≤ v.eqs.2.1 ∧ t = .int .i64 k ∧ Hid (∃ X, Rws wr g X ∧ NTo f v.names.2.1 k X) ∧ Hid (Below g w2 wr)) (fun t _ => v.eqs.2.1 - (intOf t).toNat)
  case atStart => exact ⟨0, Nat.zero_le _, rfl, Lib.hid ⟨_, HR2.out, by have := NTo.start f; rw [HN.out] at this; exact this⟩, Lib.hid (Below.refl _ _)⟩
  case round =>
    obtain ⟨k, hk, rfl, hz, hbr⟩ := hrel
    clear f0 f1 f2 f3 f4 f5 f6 f7
    by_cases hlt : k < v.eqs.2.1
    · have hfb := HKB.out.below hbr.out hwg
      have his := HIS.out.below (hbr.out.mono HBG.out)
      obtain ⟨⟨var, op, args, kk, lit, guard⟩, hq⟩ := his.eqs.ex hlt
      obtain ⟨b, off, ha, hbB, hat⟩ := his.eqs.at_ hq
      obtain ⟨a, m, d, hrow, hrm, hrd, e0, e1, e2, e3, e4, e5, e6, e7, e8, e9⟩ := hat.cells
      obtain ⟨f0, f1, f2, f3, f4, f5, f6, f7⟩ := hfb.flat
      obtain ⟨X, hrw, hnt⟩ := hz.out
      have hgl : w.heap.size < wr.heap.size := hfb.lt
      have hgs : g < wr.heap.size := hrw.lt
      have hbl : b < wr.heap.size := Nat.lt_of_lt_of_le hbB (Nat.le_trans HBG.out (Nat.le_of_lt hgs))
      have HX := Lib.hid hq
      obtain ⟨hkl, hpl⟩ := HKL.out k _ hq
      obtain ⟨p0, p1⟩ := plB_yes hpl
      simp only at p0 p1 hkl
      obtain ⟨j, rfl⟩ : ∃ j : Nat, var = (j : Int) := ⟨var.toNat, by omega⟩
      have hj : j < v.names.2.1 := by omega
      have hjX : j < X.length := by rw [hnt.len]; exact hj
      have hal : a.2.1 ≤ 1000 := by have := HS.out.args k _ hq; rw [← hrow.1]; simp only at this ⊢; omega
      obtain ⟨W3, hW3⟩ : ∃ W3, W3 = wr.alloc (.cells (qvs ⟨(j : Int), op, args, kk, lit, guard⟩ a m d) 77) := ⟨_, rfl⟩
      have hb3 : Below wr.heap.size wr W3 := by rw [hW3]; exact (Below.refl _ _).alloc (Nat.le_refl _) _
      have HQ3 := Lib.hid (show Blk W3 wr.heap.size 77 (qvs ⟨(j : Int), op, args, kk, lit, guard⟩ a m d) from by rw [hW3]; exact Blk.new _ _ _)
      have HK3 := Lib.hid (hfb.later hb3)
      have hBr : B ≤ wr.heap.size := Nat.le_trans HBG.out (Nat.le_of_lt hgs)
      have CR : Hid (Calls Try.prog 46 #[feqV ⟨(j : Int), op, args, kk, lit, guard⟩ a m d, flatV v] W3.drew (NeedsOfPost f ⟨(j : Int), op, args, kk, lit, guard⟩ W3.drew)) := Lib.hid (needsOf_t ⟨(j : Int), op, args, kk, lit, guard⟩ a m d v f B W3.drew (his.below (hb3.mono hBr).drew) (hrow.below (hb3.mono hBr).drew) (Nat.le_trans hBr hb3.size) hal hkl (fun i x hx => Nat.le_trans (HS.out.resets i x hx) (by omega)) (fun i x hx => Nat.le_trans (HS.out.creset i x hx).1 (by omega)))
      unfold flatV feqV sl3 at CR
      dsimp only at CR
      have HRW := Lib.hid (hrw.later hb3)
      have HNT := Lib.hid hnt
      have HJ := Lib.hid hjX
      have HB3 := Lib.hid hb3
      have HS3 : Hid (wr.heap.size < W3.heap.size) := Lib.hid HQ3.out.lt
      unfold qvs at hW3
      dsimp only at hW3
      simp only at e0 e1 e2 e3 e4 e5 e6 e7 e8 e9
      have HP : Hid ((fun w' => w'.cell? ⟨w.heap.size, 0, none⟩ = some (.slice v.ins.1 v.ins.2.1 v.ins.2.2) ∧ w'.cell? ⟨w.heap.size, 1, none⟩ = some (.slice v.names.1 v.names.2.1 v.names.2.2) ∧ w'.cell? ⟨w.heap.size, 2, none⟩ = some (.slice v.outs.1 v.outs.2.1 v.outs.2.2) ∧ w'.cell? ⟨w.heap.size, 3, none⟩ = some (.slice v.eqs.1 v.eqs.2.1 v.eqs.2.2) ∧ w'.cell? ⟨w.heap.size, 4, none⟩ = some (.slice v.mems.1 v.mems.2.1 v.mems.2.2) ∧ w'.cell? ⟨w.heap.size, 5, none⟩ = some (.slice v.conts.1 v.conts.2.1 v.conts.2.2) ∧ w'.cell? ⟨w.heap.size, 6, none⟩ = some (.slice v.cross.1 v.cross.2.1 v.cross.2.2) ∧ w'.cell? ⟨w.heap.size, 7, none⟩ = some (.slice v.again.1 v.again.2.1 v.again.2.2) ∧ w'.cell? ⟨wr.heap.size, 0, none⟩ = some (.int .i64 (j : Int)) ∧ w'.cell? ⟨wr.heap.size, 1, none⟩ = some (.string op) ∧ w'.cell? ⟨wr.heap.size, 2, none⟩ = some (.slice a.1 a.2.1 a.2.2) ∧ w'.cell? ⟨wr.heap.size, 3, none⟩ = some (.int .i64 kk) ∧ w'.cell? ⟨wr.heap.size, 4, none⟩ = some (.int .i64 lit.kind) ∧ w'.cell? ⟨wr.heap.size, 5, none⟩ = some (.bool lit.neg) ∧ w'.cell? ⟨wr.heap.size, 6, none⟩ = some (.slice m.1 m.2.1 m.2.2) ∧ w'.cell? ⟨wr.heap.size, 7, none⟩ = some (.slice d.1 d.2.1 d.2.2) ∧ w'.cell? ⟨wr.heap.size, 8, none⟩ = some (.string lit.name) ∧ w'.cell? ⟨wr.heap.size, 9, none⟩ = some (.int .i64 guard)) W3.drew) := Lib.hid (blk18 (HK3.out.later (Below.refl _ _).drew) (HQ3.out.later (Below.refl _ _).drew))
      rw [ha] at f3 ⊢
      clear hfb his hat hrow hrm hrd hq ha hkl hpl hjX hrw hnt hz hb3
      go_upto_region 7 with fail
      rw [← hW3]
      clear hW3 f0 f1 f2 f3 f4 f5 f6 f7 e0 e1 e2 e3 e4 e5 e6 e7 e8 e9
      have hgs3 : w.heap.size < W3.heap.size := by have := HS3.out; omega
      have hrs3 : wr.heap.size < W3.heap.size := HS3.out
      first | go_region_held3 (fun w' => w'.cell? ⟨w.heap.size, 0, none⟩ = some (.slice v.ins.1 v.ins.2.1 v.ins.2.2) ∧ w'.cell? ⟨w.heap.size, 1, none⟩ = some (.slice v.names.1 v.names.2.1 v.names.2.2) ∧ w'.cell? ⟨w.heap.size, 2, none⟩ = some (.slice v.outs.1 v.outs.2.1 v.outs.2.2) ∧ w'.cell? ⟨w.heap.size, 3, none⟩ = some (.slice v.eqs.1 v.eqs.2.1 v.eqs.2.2) ∧ w'.cell? ⟨w.heap.size, 4, none⟩ = some (.slice v.mems.1 v.mems.2.1 v.mems.2.2) ∧ w'.cell? ⟨w.heap.size, 5, none⟩ = some (.slice v.conts.1 v.conts.2.1 v.conts.2.2) ∧ w'.cell? ⟨w.heap.size, 6, none⟩ = some (.slice v.cross.1 v.cross.2.1 v.cross.2.2) ∧ w'.cell? ⟨w.heap.size, 7, none⟩ = some (.slice v.again.1 v.again.2.1 v.again.2.2) ∧ w'.cell? ⟨wr.heap.size, 0, none⟩ = some (.int .i64 (j : Int)) ∧ w'.cell? ⟨wr.heap.size, 1, none⟩ = some (.string op) ∧ w'.cell? ⟨wr.heap.size, 2, none⟩ = some (.slice a.1 a.2.1 a.2.2) ∧ w'.cell? ⟨wr.heap.size, 3, none⟩ = some (.int .i64 kk) ∧ w'.cell? ⟨wr.heap.size, 4, none⟩ = some (.int .i64 lit.kind) ∧ w'.cell? ⟨wr.heap.size, 5, none⟩ = some (.bool lit.neg) ∧ w'.cell? ⟨wr.heap.size, 6, none⟩ = some (.slice m.1 m.2.1 m.2.2) ∧ w'.cell? ⟨wr.heap.size, 7, none⟩ = some (.slice d.1 d.2.1 d.2.2) ∧ w'.cell? ⟨wr.heap.size, 8, none⟩ = some (.string lit.name) ∧ w'.cell? ⟨wr.heap.size, 9, none⟩ = some (.int .i64 guard)) (first | exact HP.out | exact HP4.out) ((go_at_call 46; (with_reducible refine CR.out.mono ?_); rintro e w3 ⟨v3, l, rfl, hown, hmem, hlen, hb⟩; have HBW := Lib.hid ((Below.refl W3.heap.size W3).drew.trans hb); replace HP := Lib.hid (blk18 (HK3.out.later HBW.out) (HQ3.out.later HBW.out)); obtain ⟨u0, kc, kf⟩ := (HRW.out.later HBW.out).at_ HJ.out; obtain ⟨a4, n4, c4, hv4⟩ : ∃ a n c, v3 = .slice a n c := (by obtain ⟨a4, c4, e⟩ := hown.len; exact ⟨a4, _, c4, e⟩); subst hv4; have HOW := Lib.hid hown; have HML := Lib.hid (And.intro hmem hlen); have HP4 := Lib.hid (blk18 ((HK3.out.later HBW.out).keep' (Below.heap_setCell w3 ⟨g, j, none⟩ (.slice a4 n4 c4) _ (by simp; omega))) ((HQ3.out.later HBW.out).keep' (Below.heap_setCell w3 ⟨g, j, none⟩ (.slice a4 n4 c4) _ (by simp; omega)))); clear hown hb hmem hlen)) | fail
      go_wp2
      go_roundw
      case rel => exact ⟨k + 1, by omega, by go_num, Lib.hid ⟨_, (HRW.out.later HBW.out).put (HOW.out.more (by show g + 1 ≤ W3.heap.size; omega)) HJ.out, HNT.out.put HN.out HX.out rfl hj HML.out.1 HML.out.2⟩, Lib.hid (((hbr.out.trans (HB3.out.mono (Nat.le_of_lt hgs))).trans (HBW.out.mono (by omega))).setCell (p := ⟨g, j, none⟩) (Nat.le_refl _) _)⟩
      case measure => simp [intOf]; omega
    · obtain rfl : k = v.eqs.2.1 := by omega
      have HD : Hid (CausePost f v.names.2.1 w (.returned (.slice (some ⟨g, 0, none⟩) v.names.2.1 v.names.2.1)) wr) := Lib.hid (by
        obtain ⟨X, hrw, hnt⟩ := hz.out
        obtain ⟨h1, h2⟩ := hnt.done HGB.out HN.out HE.out
        have hgr := hrw.grow (by rw [hnt.len]; omega)
        rw [hnt.len] at hgr
        exact ⟨g, X, rfl, hgr, h1, h2, hnt.tot hsm, HWW.out.trans (hbr.out.mono (Nat.le_of_lt hwg))⟩)
      obtain ⟨f0, f1, f2, f3, f4, f5, f6, f7⟩ := (HKB.out.below hbr.out hwg).flat
      go_wp2
      go_ret
      exact HD.out

end Go.Proofs.Ytanbekbalfbkcaa
