/- Plain lists: what is planned is right; the plan of the example. No condition. · awake tells true. No condition. · What the laws of this seat share: a flat program that came in. No condition. -/
import Derived.Test.YtioebjjnadgdjaaZChA
import Derived.Deep.DeepCutAuto
import Derived.Deep.RegionHeld3
import Derived.Test.YtioebjjnadgdjaaZFlYToFlZ
import Derived.ProofKit
import Derived.OpenShut
import Derived.ShutString
import Derived.ChangeOld
import Derived.Lib.SmallJoins
namespace Go.Proofs.Ytioebjjnadgdjaa
set_option linter.unusedVariables false
set_option linter.unusedSimpArgs false
set_option maxRecDepth 100000
open Go.RowKit Gr

theorem getD_map {l : List Nat} (k : Nat) : (ints l).getD k 0 = ((l.getD k 0 : Nat) : Int) := ints_getD l k
/-- what is planned is right -/
theorem plan_right {f : FlatM} {n : Nat} {out : List Nat} {xs : List Int} {S : Nat} (hg : goodB f = true) (hG : (gOf f).length = n) (h : IsPlan f n out xs S) : RightP f n (ints out) xs (S : Int) := by
  obtain ⟨sls, hs, hlo, hoi⟩ := h.slots
  have ho := h.once
  have hxl := hoi.1
  have hget : ∀ v : Nat, v < n → ∃ k, k < n ∧ (ints out).getD k 0 = (v : Int) ∧ xs.getD v 0 = (sls.getD k 0 : Nat) := fun v hv => by
    obtain ⟨k, hk, e1, e2⟩ := ho.plc hv
    exact ⟨k, hk, e2, hoi.2 k hk v e2⟩
  refine ⟨hg, ho, ⟨hxl, fun x hx => ?_⟩, fun v hv u hu hnd => ?_, fun a ha k hk e => ?_⟩
  · obtain ⟨v, hv, e⟩ := List.mem_iff_getElem.1 hx
    obtain ⟨k, hk, _, e2⟩ := hget v (by omega)
    have : xs.getD v 0 = x := by simp [hv, e]
    rw [this] at e2
    have := hlo.lt k hk
    omega
  · obtain ⟨i, hi, e1, e2⟩ := ho.plc hv
    obtain ⟨j, hj, e3, e4⟩ := ho.plc hu
    rw [e1, e3]
    rw [getD_map] at e2 e4
    have hil : i < out.length := by rw [h.len]; exact hi
    have hsp : out = out.take i ++ out.getD i 0 :: out.drop (i + 1) := by
      have h1 := List.take_append_drop i out
      rw [List.drop_eq_getElem_cons hil] at h1
      conv => lhs; rw [← h1]
      simp [hil]
    have hr := (h.lst _ _ _ hsp).1.2.2 u (by
      have : out.getD i 0 = v := by omega
      rw [this]
      unfold ndB at hnd
      simp only [Bool.and_eq_true, decide_eq_true_eq] at hnd
      exact ⟨by rw [hG]; exact hv, by rw [hG]; exact hu, by simpa using hnd.2⟩)
    obtain ⟨q, hq, eq⟩ := List.mem_iff_getElem.1 hr
    rw [List.length_take] at hq
    have hqi : q < i := by omega
    have e5 : out.getD q 0 = u := by
      rw [List.getElem_take] at eq
      have : q < out.length := by omega
      simp [this, eq]
    have hjq : j = q := nd_inj ho.nd (by rw [ho.len]; exact hj) (by rw [ho.len]; omega) (by rw [getD_map, getD_map, e5]; exact e4)
    omega
  · have han : a < n := ha
    obtain ⟨x, hx, ex⟩ := ho.get (show k < n by omega)
    obtain ⟨y, hy, ey⟩ := ho.get han
    rw [ex, ey, Int.toNat_natCast, Int.toNat_natCast, hoi.2 k (by omega) x ex, hoi.2 a ha y ey] at e
    refine Classical.byContradiction fun hc => ?_
    exact hlo.free a ha k hk (by omega) (by omega)

/-- the plan of the example -/
theorem chain_g : gOf chainM = [[], [0], [1]] := by decide
theorem chain_good : goodB chainM = true := by decide
theorem chain_end : endL chainM = [2] := by decide
theorem chain_lst : IsLst [[], [0], [1]] [0, 1, 2] := by
  have e0 : ∀ k, ¬ E [[], [0], [1]] 0 k := by rintro k ⟨_, _, h⟩; simp at h
  have e1 : ∀ k, E [[], [0], [1]] 1 k → k = 0 := by rintro k ⟨_, _, h⟩; simp at h; omega
  have e2 : ∀ k, E [[], [0], [1]] 2 k → k = 1 := by rintro k ⟨_, _, h⟩; simp at h; omega
  have n1 : E [[], [0], [1]] 1 0 := ⟨by simp, by simp, by simp⟩
  have n2 : E [[], [0], [1]] 2 1 := ⟨by simp, by simp, by simp⟩
  intro a b x e
  match a, e with
  | [], e =>
    simp at e
    obtain ⟨rfl, rfl⟩ := e
    exact ⟨⟨by simp, by simp, fun k hk => (e0 k hk).elim⟩, fun y _ => Nat.zero_le _⟩
  | [p], e =>
    simp at e
    obtain ⟨rfl, rfl, rfl⟩ := e
    refine ⟨⟨by simp, by simp, fun k hk => by rw [e1 k hk]; simp⟩, fun y hy => ?_⟩
    have := hy.2.1
    simp at this; omega
  | [p, q], e =>
    simp at e
    obtain ⟨rfl, rfl, rfl, rfl⟩ := e
    refine ⟨⟨by simp, by simp, fun k hk => by rw [e2 k hk]; simp⟩, fun y hy => ?_⟩
    have := hy.2.1
    simp at this; omega
  | p :: q :: r :: s, e => simp at e
theorem chain_out {out : List Nat} (h : IsLst (gOf chainM) out) (hn : ∀ y, ¬ Rdy (gOf chainM) out y) : out = [0, 1, 2] := by
  rw [chain_g] at h hn
  exact IsLst.one h chain_lst hn (chain_lst.full rfl)
theorem chain_la (v : Nat) (hv : v < 3) : laF chainM [0, 1, 2] v = [1, 2, 3].getD v 0 := by
  match v, hv with
  | 0, _ => decide
  | 1, _ => decide
  | 2, _ => decide
theorem chain_plan {out : List Nat} {xs : List Int} {S : Nat} (h : IsPlan chainM 3 out xs S) : xs = [0, 1, 0] ∧ S = 2 := by
  have ho : out = [0, 1, 2] := chain_out h.lst (h.lst.full (by rw [h.len, chain_g]; rfl))
  subst ho
  obtain ⟨sls, hs, hlo, hoi⟩ := h.slots
  have hL : ∀ k, k < 3 → Lpl (laF chainM (ints [0, 1, 2])) (ints [0, 1, 2]) k = [1, 2, 3].getD k 0 := by
    intro k hk
    match k, hk with
    | 0, _ => exact chain_la 0 (by omega)
    | 1, _ => exact chain_la 1 (by omega)
    | 2, _ => exact chain_la 2 (by omega)
  have hgr : Pl.Greedy 3 (Lpl (laF chainM (ints [0, 1, 2])) (ints [0, 1, 2])) fun k => [0, 1, 0].getD k 0 := by
    refine ⟨fun i hi k hk hl => ?_, fun i hi s hs => ?_⟩
    · rw [hL k (by omega)] at hl
      match i, k, hi, hk with
      | 1, 0, _, _ => simp
      | 2, 0, _, _ => simp at hl
      | 2, 1, _, _ => simp
    · match i, hi with
      | 0, _ => simp at hs
      | 1, _ =>
        have : s = 0 := by simp at hs; omega
        subst this
        exact ⟨0, by omega, rfl, by rw [hL 0 (by omega)]; decide⟩
      | 2, _ => simp at hs
  have hu := hlo.greedy.uniq hgr 3
  have s0 := hu 0 (by omega) (by omega)
  have s1 := hu 1 (by omega) (by omega)
  have s2 := hu 2 (by omega) (by omega)
  have x0 := hoi.2 0 (by omega) 0 rfl
  have x1 := hoi.2 1 (by omega) 1 rfl
  have x2 := hoi.2 2 (by omega) 2 rfl
  have hS : S = 2 := by
    rw [hlo.top]
    show max (max (max 0 (sls.getD 0 0 + 1)) (sls.getD 1 0 + 1)) (sls.getD 2 0 + 1) = 2
    skip
    rw [s0, s1, s2]; decide
  refine ⟨?_, hS⟩
  have hl := hoi.1
  match xs, hl with
  | [a, b, c], _ =>
    skip
    rw [s0] at x0; rw [s1] at x1; rw [s2] at x2
    simp at x0 x1 x2
    rw [x0, x1, x2]
  | [], hl => simp at hl
  | [_], hl => simp at hl
  | [_, _], hl => simp at hl
  | _ :: _ :: _ :: _ :: _, hl => simp at hl
theorem chain_small : SmallF chainM := by
  refine ⟨by decide, by decide, by decide, by decide, by decide, by decide, by decide, by decide, fun i q hq => ?_, fun i m hm => ?_, fun i c hc => ?_, fun i c hc => ?_⟩
  · match i, hq with
    | 0, hq => injection hq with hq; subst hq; decide
    | 1, hq => injection hq with hq; subst hq; decide
    | 2, hq => injection hq with hq; subst hq; decide
    | i + 3, hq => simp [chainM] at hq
  · simp [chainM] at hm
  · simp [chainM] at hc
  · simp [chainM] at hc

end Go.Proofs.Ytioebjjnadgdjaa

namespace Go.Proofs.Ytioebjjnadgdjaa
set_option linter.unusedVariables false
set_option linter.unusedSimpArgs false
set_option maxRecDepth 100000
open Go.RowKit Gr

theorem six {W : World} {A : Option Addr} {b g c : Nat} (h : Blk W b 32 #[.slice A 3 c, .slice (some ⟨g, 0, none⟩) 3 3, .int .i64 2]) (k : IMem W g [0, 1, 0]) :
    W.cell? ⟨b, 0, none⟩ = some (.slice A 3 c) ∧ W.cell? ⟨b, 1, none⟩ = some (.slice (some ⟨g, 0, none⟩) 3 3) ∧ W.cell? ⟨b, 2, none⟩ = some (.int .i64 2) ∧ W.cell? ⟨g, 0, none⟩ = some (.int .i64 0) ∧ W.cell? ⟨g, 1, none⟩ = some (.int .i64 1) ∧ W.cell? ⟨g, 2, none⟩ = some (.int .i64 0) :=
  ⟨h.cell 0 rfl, h.cell 1 rfl, h.cell 2 rfl, k.cell 0 (by decide), k.cell 1 (by decide), k.cell 2 (by decide)⟩
set_option maxHeartbeats 4000000 in
theorem awake_t (w : World) : Calls Try.prog 12 #[] w fun e w' => e = .returned (.bool true) ∧ Below w.heap.size w w' := by
  go_enter Try.func12, Try.ntmps12
  go_wp2_with fail
  refine (chain_t w).mono ?_
  rintro e w1 ⟨v, rfl, hv3, his, hb1⟩
  have HOF := Lib.hid (of_t v chainM w1.heap.size w1 his (Nat.le_refl _) chain_good chain_small)
  rw [hv3] at HOF
  have HB1 := Lib.hid hb1
  clear his hb1
  go_wp2_with fail
  refine HOF.out.mono ?_
  rintro e w2 ⟨ho | ho, hb2⟩
  rotate_left
  · obtain ⟨_, out, hl, hlt, hno⟩ := ho
    have := chain_out hl hno
    subst this
    simp at hlt
  obtain ⟨A, c, g, out, xs, S, rfl, hown, ⟨hmem, hg⟩, hpl⟩ := ho
  obtain ⟨rfl, rfl⟩ := chain_plan hpl
  have HRT := Lib.hid (plan_right chain_good (by rw [chain_g]; rfl) hpl)
  have HOL : Hid (out.length = 3) := Lib.hid hpl.len
  have HOW := Lib.hid hown
  have HME := Lib.hid hmem
  have HB2 : Hid (Below w.heap.size w w2) := Lib.hid (HB1.out.trans (hb2.mono HB1.out.size))
  obtain ⟨W3, hW3⟩ : ∃ W3, W3 = w2.alloc (.cells #[.slice A 3 c, .slice (some ⟨g, 0, none⟩) 3 3, .int .i64 2] 32) := ⟨_, rfl⟩
  obtain ⟨b, hb⟩ : ∃ b, b = w2.heap.size := ⟨_, rfl⟩
  have HK : Hid (Blk W3 b 32 #[.slice A 3 c, .slice (some ⟨g, 0, none⟩) 3 3, .int .i64 2]) := Lib.hid (by rw [hW3, hb]; exact Blk.new _ _ _)
  have hb3 : Below w2.heap.size w2 W3 := by rw [hW3]; exact (Below.refl _ _).alloc (Nat.le_refl _) _
  have HM3 : Hid (IMem W3 g [0, 1, 0]) := Lib.hid (hmem.below hb3 hmem.lt)
  have HO3 := Lib.hid (HOW.out.below hb3 (Nat.le_refl _))
  have HB3 : Hid (Below w.heap.size w W3) := Lib.hid (HB2.out.trans (hb3.mono HB2.out.size))
  have HRI := Lib.hid (fun W (hb : Below W3.heap.size W3 W) (v' : FlatV) (h3 : v'.names.2.1 = 3) (hf : FlatIs W W.heap.size v' chainM) =>
    (rightP_t v' chainM W.heap.size A (some ⟨g, 0, none⟩) 3 c 3 3 2 (ints out) [0, 1, 0] W hf (Nat.le_refl _) ((own_row (HO3.out.below hb (Nat.le_refl _)))) ((HM3.out.below hb HM3.out.lt).irow (HM3.out.below hb HM3.out.lt).lt (Nat.le_refl _) (by unfold maxLen; simp)) chain_small (by omega)).mono fun e w' q => q.tt (by rw [h3]; exact HRT.out))
  unfold planV at HRI ⊢
  clear hown hmem hg hpl hb2 hb3
  go_upto_region 2 with fail
  rw [← hb, ← hW3]
  clear hb hW3
  have HP : Hid ((fun w' => w'.cell? ⟨b, 0, none⟩ = some (.slice A 3 c) ∧ w'.cell? ⟨b, 1, none⟩ = some (.slice (some ⟨g, 0, none⟩) 3 3) ∧ w'.cell? ⟨b, 2, none⟩ = some (.int .i64 2) ∧ w'.cell? ⟨g, 0, none⟩ = some (.int .i64 0) ∧ w'.cell? ⟨g, 1, none⟩ = some (.int .i64 1) ∧ w'.cell? ⟨g, 2, none⟩ = some (.int .i64 0)) W3.drew) := Lib.hid (six (HK.out.later (Below.refl _ _).drew) (HM3.out.below (Below.refl W3.heap.size W3).drew HM3.out.lt))
  first | go_region_held3 (fun w' => w'.cell? ⟨b, 0, none⟩ = some (.slice A 3 c) ∧ w'.cell? ⟨b, 1, none⟩ = some (.slice (some ⟨g, 0, none⟩) 3 3) ∧ w'.cell? ⟨b, 2, none⟩ = some (.int .i64 2) ∧ w'.cell? ⟨g, 0, none⟩ = some (.int .i64 0) ∧ w'.cell? ⟨g, 1, none⟩ = some (.int .i64 1) ∧ w'.cell? ⟨g, 2, none⟩ = some (.int .i64 0)) (exact HP.out) (first
    | (go_at_call 26; (with_reducible refine (chain_t W3.drew).mono ?_); rintro e w4 ⟨v4, rfl, h4, hf4, hb4⟩; have HB4 := Lib.hid ((Below.refl W3.heap.size W3).drew.trans hb4); replace HP := Lib.hid (six (HK.out.later HB4.out) (HM3.out.below HB4.out HM3.out.lt)); have HF4 := Lib.hid (And.intro h4 hf4); clear h4 hf4 hb4)
    | (go_at_call 13; (with_reducible refine (HRI.out w4 HB4.out v4 HF4.out.1 HF4.out.2).mono ?_); rintro e w5 ⟨rfl, hb5⟩; have HB5 := Lib.hid (HB4.out.trans (hb5.mono HB4.out.size)); replace HP := Lib.hid (six (HK.out.later HB5.out) (HM3.out.below HB5.out HM3.out.lt)); clear hb5)) | fail
  have HD : Hid (Below w.heap.size w w5) := Lib.hid (HB3.out.trans (HB5.out.mono HB3.out.size))
  go_wp2
  go_ret
  exact ⟨rfl, HD.out⟩

end Go.Proofs.Ytioebjjnadgdjaa

namespace Go.Proofs.Ytioebjjnadgdjaa
set_option linter.unusedVariables false
set_option linter.unusedSimpArgs false
set_option maxRecDepth 100000
open Go.ChangeShapes Go.WideShapes Go.ChangeAt Go.RowKit Go.Joins

theorem flat_of_trod {H : Type} {enc : TypeId × Value → H} {r : Reach} {b0 : Nat} {W : World} {v : Value} {d : DataW H} {p : List MemPlace} {base : Nat}
    (hv : Value.okWide Try.prog W r b0 29 v) (h : DataW.Trod enc Try.prog W base (fun _ => true) true 29 v d p) : ∃ fv f, v = flatV fv ∧ FlatIs W W.heap.size fv f := by
  obtain ⟨cs, rfl, _⟩ := okWide_struct Try.underlying29 hv
  obtain ⟨fuel, hf⟩ := h
  have ht : Tr W 29 cs.toList := ⟨H, enc, base, _, _, fuel, _, by simpa [Value.cells] using hf⟩
  obtain ⟨fv, f, e, hi⟩ := flat_came ht
  exact ⟨fv, f, by simpa using e, hi⟩
theorem Try.ownKnob : ownKnob Try.prog.godebug = none := by kernel_rfl
theorem Try.laidOut : laidOutB Try.prog = true := by kernel_rfl
section
variable {w : World} {B B' b o : Nat}
theorem URow.more {a : Option Addr} {n c : Nat} {xs : List Nat} (h : URow w B a n c xs) (hB : B ≤ B') : URow w B' a n c xs := by
  obtain ⟨h1, h2, h3, h4, h5, b, off, h6, h7⟩ := h
  exact ⟨h1, h2, h3, h4, h5, b, off, h6, fun i hi => ⟨Nat.lt_of_lt_of_le (h7 i hi).1 hB, (h7 i hi).2⟩⟩
theorem SRow.more {α : Type} {sz : Nat} {R : World → Nat → Nat → Nat → α → Prop} {a : Option Addr} {n c : Nat} {xs : List α} (h : SRow sz R w B a n c xs) (hB : B ≤ B') (hR : ∀ b o x, R w B b o x → R w B' b o x) : SRow sz R w B' a n c xs := by
  obtain ⟨h1, h2, h3, b, off, h6, h7⟩ := h
  exact ⟨h1, h2, h3, b, off, h6, fun i x hx => ⟨Nat.lt_of_lt_of_le (h7 i x hx).1 hB, hR b _ x (h7 i x hx).2⟩⟩
theorem IsAt.more {x : List Int} (h : IsAt w B b o x) (hB : B ≤ B') : IsAt w B' b o x := by
  obtain ⟨A, L, C, h1, h2⟩ := h; exact ⟨A, L, C, h1, h2.more hB⟩
theorem UsAt.more {x : List Nat} (h : UsAt w B b o x) (hB : B ≤ B') : UsAt w B' b o x := by
  obtain ⟨A, L, C, h1, h2⟩ := h; exact ⟨A, L, C, h1, h2.more hB⟩
theorem SsAt.more {α : Type} {sz : Nat} {R : World → Nat → Nat → Nat → α → Prop} {x : List α} (h : SsAt sz R w B b o x) (hB : B ≤ B') (hR : ∀ b o x, R w B b o x → R w B' b o x) : SsAt sz R w B' b o x := by
  obtain ⟨A, L, C, h1, h2⟩ := h; exact ⟨A, L, C, h1, h2.more hB hR⟩
theorem ValAt.more {v : ValM} (h : ValAt w B b o v) (hB : B ≤ B') : ValAt w B' b o v := ⟨h.kind, h.neg, h.mag.more hB, h.den.more hB, h.name⟩
theorem FEqAt.more {v : FEqM} (h : FEqAt w B b o v) (hB : B ≤ B') : FEqAt w B' b o v := ⟨h.var, h.op, h.args.more hB, h.k, h.lit.more hB, h.guard⟩
theorem MemAt.more {v : MemM} (h : MemAt w B b o v) (hB : B ≤ B') : MemAt w B' b o v := ⟨h.init.more hB, h.next, h.guard, h.resets.more hB⟩
theorem SlopeAt.more {v : SlopeM} (h : SlopeAt w B b o v) : SlopeAt w B' b o v := ⟨h.guard, h.var⟩
theorem ContAt.more {v : ContM} (h : ContAt w B b o v) (hB : B ≤ B') : ContAt w B' b o v := ⟨h.init.more hB, h.var, h.guard, h.resets.more hB, h.slopes.more hB fun _ _ _ q => q.more⟩
theorem COpAt.more {v : COpM} (h : COpAt w B b o v) (hB : B ≤ B') : COpAt w B' b o v := ⟨h.op, h.args.more hB⟩
theorem CrossAt.more {v : CrossM} (h : CrossAt w B b o v) (hB : B ≤ B') : CrossAt w B' b o v := ⟨h.guard, h.ops.more hB fun _ _ _ q => q.more hB⟩
theorem FlatIs.more {v : FlatV} {f : FlatM} (h : FlatIs w B v f) (hB : B ≤ B') : FlatIs w B' v f :=
  ⟨h.ins.more hB fun _ _ _ q => q, h.names.more hB fun _ _ _ q => q, h.outs.more hB, h.eqs.more hB fun _ _ _ q => q.more hB, h.mems.more hB fun _ _ _ q => q.more hB, h.conts.more hB fun _ _ _ q => q.more hB, h.cross.more hB fun _ _ _ q => q.more hB, h.again.more hB⟩
end
/-- what each law tells -/
def LawPost (w : World) (e : Ending) (w' : World) : Prop := e = .returned (.bool true) ∧ Below w.heap.size w w'

end Go.Proofs.Ytioebjjnadgdjaa
