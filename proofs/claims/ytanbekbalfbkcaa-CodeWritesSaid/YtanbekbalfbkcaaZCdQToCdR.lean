/- The example of law 15 tells true. No condition. · Plain lists: what the laws of code ask of the three bodies. No condition. -/
import Derived.Test.YtanbekbalfbkcaaZCdNToCdO
import Derived.Test.YtanbekbalfbkcaaZRoAToRpR
import Derived.Deep.DeepCutAuto
namespace Go.Proofs.Ytanbekbalfbkcaa
set_option linter.unusedVariables false
set_option linter.unusedSimpArgs false
set_option maxRecDepth 100000
open Go.RowKit Gr

section
variable {w : World} {B B' b o : Nat}
theorem URow.more {a : Option Addr} {n c : Nat} {xs : List Nat} (h : URow w B a n c xs) (hB : B ≤ B') : URow w B' a n c xs := by
  obtain ⟨h1, h2, h3, h4, h5, h8, b, off, h6, h7⟩ := h
  exact ⟨h1, h2, h3, h4, h5, h8, b, off, h6, fun i hi => ⟨Nat.lt_of_lt_of_le (h7 i hi).1 hB, (h7 i hi).2⟩⟩
theorem SRow.more {α : Type} {sz : Nat} {R : World → Nat → Nat → Nat → α → Prop} {a : Option Addr} {n c : Nat} {xs : List α} (h : SRow sz R w B a n c xs) (hB : B ≤ B') (hR : ∀ b o x, R w B b o x → R w B' b o x) : SRow sz R w B' a n c xs := by
  obtain ⟨h1, h2, h3, b, off, h6, h7⟩ := h
  exact ⟨h1, h2, h3, b, off, h6, fun i x hx => ⟨Nat.lt_of_lt_of_le (h7 i x hx).1 hB, hR b _ x (h7 i x hx).2⟩⟩
theorem IsAt.more {x : List Int} (h : IsAt w B b o x) (hB : B ≤ B') : IsAt w B' b o x := by
  obtain ⟨A, L, C, h1, h2⟩ := h; exact ⟨A, L, C, h1, h2.more hB⟩
theorem UsAt.more {x : List Nat} (h : UsAt w B b o x) (hB : B ≤ B') : UsAt w B' b o x := by
  obtain ⟨A, L, C, h1, h2⟩ := h; exact ⟨A, L, C, h1, h2.more hB⟩
theorem SsAt.more {α : Type} {sz : Nat} {R : World → Nat → Nat → Nat → α → Prop} {x : List α} (h : SsAt sz R w B b o x) (hB : B ≤ B') (hR : ∀ b o x, R w B b o x → R w B' b o x) : SsAt sz R w B' b o x := by
  obtain ⟨A, L, C, h1, h2⟩ := h; exact ⟨A, L, C, h1, h2.more hB hR⟩
theorem ValAt.more {v : ValM} (h : ValAt w B b o v) (hB : B ≤ B') : ValAt w B' b o v := ⟨h.kind, h.neg, h.mag.more hB, h.den.more hB, h.name⟩
theorem FEqAt.more {v : FEqM} (h : FEqAt w B b o v) (hB : B ≤ B') : FEqAt w B' b o v := ⟨h.var, h.op, h.args.more hB, h.k, h.lit.more hB, h.guard⟩
theorem MemAt.more {v : MemM} (h : MemAt w B b o v) (hB : B ≤ B') : MemAt w B' b o v := ⟨h.init.more hB, h.next, h.guard, h.resets.more hB⟩
theorem SlopeAt.more {v : SlopeM} (h : SlopeAt w B b o v) : SlopeAt w B' b o v := ⟨h.guard, h.var⟩
theorem ContAt.more {v : ContM} (h : ContAt w B b o v) (hB : B ≤ B') : ContAt w B' b o v := ⟨h.init.more hB, h.var, h.guard, h.resets.more hB, h.slopes.more hB fun _ _ _ q => q.more⟩
theorem COpAt.more {v : COpM} (h : COpAt w B b o v) (hB : B ≤ B') : COpAt w B' b o v := ⟨h.op, h.args.more hB⟩
theorem CrossAt.more {v : CrossM} (h : CrossAt w B b o v) (hB : B ≤ B') : CrossAt w B' b o v := ⟨h.guard, h.ops.more hB fun _ _ _ q => q.more hB⟩
theorem FlatIs.more {v : FlatV} {f : FlatM} (h : FlatIs w B v f) (hB : B ≤ B') : FlatIs w B' v f :=
  ⟨h.ins.more hB fun _ _ _ q => q, h.names.more hB fun _ _ _ q => q, h.outs.more hB, h.eqs.more hB fun _ _ _ q => q.more hB, h.mems.more hB fun _ _ _ q => q.more hB, h.conts.more hB fun _ _ _ q => q.more hB, h.cross.more hB fun _ _ _ q => q.more hB, h.again.more hB⟩
end
theorem chain_eqs : chainM.eqs = [⟨0, ⟨#[105, 110]⟩, [], 0, noVal, -1⟩, ⟨1, ⟨#[110, 101, 103]⟩, [0], 0, noVal, -1⟩, ⟨2, ⟨#[110, 101, 103]⟩, [1], 0, noVal, -1⟩] := rfl
/-- the example's code: its first instruction reads, its last one is told -/
theorem chain_step {sl : List Int} {xs ys : List InsM} (hl : xs.length = 3) (hq : ∀ i x, xs[i]? = some x → EqIns chainM sl (([0, 1, 2] : List Int).getD i 0) x) (ht : tags ys = endT chainM) : ∃ x0 x3, (xs ++ ys).length = 4 ∧ (xs ++ ys)[0]? = some x0 ∧ (xs ++ ys)[3]? = some x3 ∧ x0.op = ⟨#[105, 110]⟩ ∧ x3.op = ⟨#[111, 117, 116]⟩ := by
  have he : endT chainM = [(⟨#[111, 117, 116]⟩, 0)] := by simp [endT, tg, tgAgain, chainM]
  rw [he] at ht
  match ys, ht with
  | [y], ht =>
    match xs, hl with
    | [a, b, c], _ =>
      refine ⟨a, y, rfl, rfl, rfl, ?_, ?_⟩
      · obtain ⟨i, q, h1, h2, h3, _⟩ := hq 0 a rfl
        rw [chain_eqs] at h1
        simp at h2
        rw [h3]
        match i, h1 with
        | 0, h1 => simp at h1; subst h1; rfl
        | 1, h1 => simp at h1; subst h1; simp at h2
        | 2, h1 => simp at h1; subst h1; simp at h2
        | i + 3, h1 => simp at h1
      · simp [tags] at ht; exact ht.1
    | [], hl => simp at hl
    | [_], hl => simp at hl
    | [_, _], hl => simp at hl
    | _ :: _ :: _ :: _ :: _, hl => simp at hl
  | [], ht => simp [tags] at ht
  | _ :: _ :: _, ht => simp [tags] at ht
set_option maxHeartbeats 4000000 in
theorem awake15_t (w : World) : Calls Try.prog 8 #[] w fun e w' => e = .returned (.bool true) ∧ Below w.heap.size w w' := by
  go_enter Try.func8, Try.ntmps8
  go_wp2_with fail
  refine (chain_t w).mono ?_
  rintro e w1 ⟨v, rfl, hv3, his, hb1⟩
  obtain ⟨W2, hW2⟩ : ∃ W2, W2 = w1.alloc (.cells (fvs v) 29) := ⟨_, rfl⟩
  have hb2 : Below w1.heap.size w1 W2 := by rw [hW2]; exact (Below.refl _ _).alloc (Nat.le_refl _) _
  have HK2 := Lib.hid (show Blk W2 w1.heap.size 29 (fvs v) from by rw [hW2]; exact Blk.new _ _ _)
  have HFI := Lib.hid (fun W (hb : Below W2.heap.size W2 W) => his.below (hb2.trans (hb.mono hb2.size)))
  have HOF := Lib.hid (rof_t v chainM w1.heap.size W2 (his.below hb2) hb2.size chain_good chain_small)
  rw [hv3] at HOF
  have HB2 := Lib.hid (hb1.trans (hb2.mono hb1.size))
  have HL2 := Lib.hid hb2.size
  have HV3 := Lib.hid hv3
  unfold flatV sl3 at HOF
  unfold flatV sl3
  unfold fvs at hW2
  clear his hb1 hb2 hv3
  go_upto_region 2 with fail
  rw [← hW2]
  clear hW2
  obtain ⟨f0, f1, f2, f3, f4, f5, f6, f7⟩ := HK2.out.flat
  go_wp2_with fail
  refine HOF.out.mono ?_
  rintro e w3 ⟨ho | ho, hb3⟩
  rotate_left
  · obtain ⟨_, out, hl, hlt, hno⟩ := ho
    have := chain_out hl hno
    subst this
    simp at hlt
  obtain ⟨A, c, out, g, xs, S, rfl, hown, hmem, hpl⟩ := ho
  obtain ⟨rfl, rfl⟩ := chain_rplan hpl
  have hout : out = [0, 1, 2] := chain_out hpl.lst (hpl.lst.full (by rw [hpl.len, chain_g]; rfl))
  have HRT := Lib.hid (rplan_right chain_good (by rw [chain_g]; rfl) hpl)
  subst hout
  have HB3 := Lib.hid (HB2.out.trans (hb3.mono HB2.out.size))
  obtain ⟨W4, hW4⟩ : ∃ W4, W4 = w3.alloc (.cells #[.slice A 3 c, .slice (some ⟨g, 0, none⟩) 3 3, .int .i64 2] 32) := ⟨_, rfl⟩
  have hb4 : Below w3.heap.size w3 W4 := by rw [hW4]; exact (Below.refl _ _).alloc (Nat.le_refl _) _
  have HK4 := Lib.hid (show Blk W4 w3.heap.size 32 #[.slice A 3 c, .slice (some ⟨g, 0, none⟩) 3 3, .int .i64 2] from by rw [hW4]; exact Blk.new _ _ _)
  have HB4 := Lib.hid (HB3.out.trans (hb4.mono HB3.out.size))
  have HCO := Lib.hid (show Calls Try.prog 7 #[flatV v, planV A 3 c (some ⟨g, 0, none⟩) 3 3 2] W4 (CodeP chainM (ints [0, 1, 2]) [0, 1, 0] 2 v W4) from by
    have := cof_t v chainM w3.heap.size A (some ⟨g, 0, none⟩) c 3 2 (ints [0, 1, 2]) [0, 1, 0] W4 ((HFI.out _ (hb3.trans (hb4.mono hb3.size))).more (Nat.le_trans HL2.out hb3.size)) hb4.size (by rw [HV3.out]; exact hown.below hb4) (by rw [HV3.out]; exact (hmem.below hb4 hmem.lt).irow hmem.lt (by decide) (by unfold maxLen; omega)) chain_small (by omega) (by omega) (by rw [HV3.out]; exact HRT.out)
    rw [HV3.out] at this
    exact this)
  unfold flatV sl3 planV at HCO
  unfold planV
  have HKF := Lib.hid ((HK2.out.later hb3).later hb4)
  clear hown hmem hpl hb3 f0 f1 f2 f3 f4 f5 f6 f7
  go_upto_region 3 with fail
  rw [← hW4]
  clear hW4 hb4
  obtain ⟨f0, f1, f2, f3, f4, f5, f6, f7⟩ := HKF.out.flat
  have p0 := HK4.out.cell 0 rfl
  have p1 := HK4.out.cell 1 rfl
  have p2 := HK4.out.cell 2 rfl
  have hl1 : w1.heap.size < W4.heap.size := HKF.out.lt
  have hl3 : w3.heap.size < W4.heap.size := HK4.out.lt
  go_wp2_with fail
  refine HCO.out.mono ?_
  rintro e w5 ⟨⟨m, cc, ⟨sA, sn, sc⟩, ⟨dA, dn, dc⟩, ⟨xA, xn, xc⟩, xs, ys, ds, zs, rfl, ⟨hsm, hxl, hxq, hty⟩, ⟨hdm, hdt⟩, ⟨hzm, hzt, hzi⟩⟩, hb5⟩
  simp only at hsm hdm hzm
  obtain ⟨x0, x3, hl4, hx0, hx3, ho0, ho3⟩ := chain_step (sl := [0, 1, 0]) (by rw [hxl]; rfl) (fun i x hx => by have := hxq i x hx; simpa [ints] using this) hty
  have hdn : dn = 0 := by rw [← hdm.1, ← tags_len, hdt, tg_len]; rfl
  have hxn : xn = 0 := by
    have := congrArg List.length hzt
    rw [List.length_map, crT_len] at this
    rw [← hzm.1, this]; rfl
  have hsn : sn = 4 := by rw [← hsm.1, hl4]
  subst hdn hxn hsn
  obtain ⟨sb, hsb, hsbl, hc0⟩ := hsm.at_ hx0
  obtain ⟨sb2, hsb2, _, hc3⟩ := hsm.at_ hx3
  subst hsb
  injection hsb2 with hsb2
  injection hsb2 with hsb2
  subst hsb2
  have s0 : w5.cell? ⟨sb, 0, none⟩ = some (.string ⟨#[105, 110]⟩) := by have := hc0 0 (.string x0.op) rfl; rw [ho0] at this; simpa using this
  have s3 : w5.cell? ⟨sb, 33, none⟩ = some (.string ⟨#[111, 117, 116]⟩) := by have := hc3 0 (.string x3.op) rfl; rw [ho3] at this; simpa using this
  have HB5 := Lib.hid (HB4.out.trans (hb5.mono HB4.out.size))
  clear hsm hxl hxq hty hdm hdt hzm hzt hzi hb5 hc0 hc3 f0 f1 f2 f3 f4 f5 f6 f7 p0 p1 p2 hx0 hx3 ho0 ho3
  go_wp2
  go_ret
  exact ⟨rfl, HB5.out.alloc HB5.out.size _⟩

end Go.Proofs.Ytanbekbalfbkcaa

namespace Go.Proofs.Ytanbekbalfbkcaa
set_option linter.unusedVariables false
set_option linter.unusedSimpArgs false
set_option maxRecDepth 100000
open Go.RowKit Gr

def opSlope : ByteArray := ⟨#[115, 108, 111, 112, 101]⟩
def opKeep : ByteArray := ⟨#[107, 101, 101, 112]⟩
def opState : ByteArray := ⟨#[115, 116, 97, 116, 101]⟩
def opOut : ByteArray := ⟨#[111, 117, 116]⟩
def opAgain : ByteArray := ⟨#[97, 103, 97, 105, 110]⟩
/-- no equation of a good program bears a name that code keeps for itself -/
theorem good_op {f : FlatM} (hg : goodB f = true) {i : Nat} {q : FEqM} (hq : f.eqs[i]? = some q) : q.op ≠ opSlope ∧ q.op ≠ askN ∧ q.op ≠ opKeep ∧ q.op ≠ opState ∧ q.op ≠ opOut ∧ q.op ≠ opAgain := by
  have he : enB q.op q.args.length = true := by
    unfold goodB at hg
    rw [Bool.and_eq_true, Bool.and_eq_true, Bool.and_eq_true] at hg
    have he : eqB f q = true := List.all_eq_true.1 hg.1.1.2 q (List.mem_of_getElem? hq)
    unfold eqB at he
    rw [Bool.and_eq_true, Bool.and_eq_true, Bool.and_eq_true] at he
    exact he.1.2
  refine ⟨fun h => ?_, fun h => ?_, fun h => ?_, fun h => ?_, fun h => ?_, fun h => ?_⟩
  all_goals
    rw [h] at he
    exact absurd he (by first
      | (rw [show enB opSlope q.args.length = false from rfl]; simp)
      | (rw [show enB askN q.args.length = false from rfl]; simp)
      | (rw [show enB opKeep q.args.length = false from rfl]; simp)
      | (rw [show enB opState q.args.length = false from rfl]; simp)
      | (rw [show enB opOut q.args.length = false from rfl]; simp)
      | (rw [show enB opAgain q.args.length = false from rfl]; simp))
theorem end_op {f : FlatM} {ys : List InsM} (ht : tags ys = endT f) : ∀ y ∈ ys, y.op = opKeep ∨ y.op = opState ∨ y.op = opOut ∨ y.op = opAgain := by
  intro y hy
  have hm : (y.op, y.k) ∈ endT f := by rw [← ht]; unfold tags; exact List.mem_map.2 ⟨y, hy, rfl⟩
  unfold endT at hm
  rw [List.mem_append, List.mem_append, List.mem_append] at hm
  rcases hm with ((hm | hm) | hm) | hm
  · unfold tg at hm
    obtain ⟨i, _, e⟩ := List.mem_map.1 hm
    injection e with e _
    exact Or.inl e.symm
  · unfold tg at hm
    obtain ⟨i, _, e⟩ := List.mem_map.1 hm
    injection e with e _
    exact Or.inr (Or.inl e.symm)
  · unfold tg at hm
    obtain ⟨i, _, e⟩ := List.mem_map.1 hm
    injection e with e _
    exact Or.inr (Or.inr (Or.inl e.symm))
  · unfold tgAgain at hm
    have e := List.eq_of_mem_replicate hm
    injection e with e _
    exact Or.inr (Or.inr (Or.inr e))
/-- the first body: neither slopes nor questions stand in it -/
theorem step_op {f : FlatM} {sl o : List Int} {xs ys : List InsM} (hg : goodB f = true) (hq : ∀ i x, xs[i]? = some x → EqIns f sl (o.getD i 0) x) (ht : tags ys = endT f) : ∀ x ∈ xs ++ ys, x.op ≠ opSlope ∧ x.op ≠ askN := by
  intro x hx
  rw [List.mem_append] at hx
  rcases hx with hx | hx
  · obtain ⟨i, hi⟩ := List.getElem?_of_mem hx
    obtain ⟨j, q, h1, _, h3, _⟩ := hq i x hi
    have := good_op hg h1
    rw [h3]
    exact ⟨this.1, this.2.1⟩
  · rcases end_op ht x hx with h | h | h | h <;> rw [h] <;> exact ⟨by decide, by decide⟩
theorem step_len {f : FlatM} {n : Nat} {o : List Int} {xs ys : List InsM} (hl : xs.length = o.length) (ho : o.length = n) (ht : tags ys = endT f) : (xs ++ ys).length = n + f.mems.length + f.conts.length + f.outs.length + f.again.length := by
  have := congrArg List.length ht
  rw [tags_len, endT_len] at this
  rw [List.length_append, hl, ho, this]; omega
theorem tg_get (op : ByteArray) (n i : Nat) (hi : i < n) : (tg op n)[i]? = some (op, (i : Int)) := by unfold tg; simp [hi]
/-- the second body -/
theorem deriv_at {n : Nat} {ds : List InsM} (ht : tags ds = tg opSlope n) {i : Nat} {x : InsM} (hx : ds[i]? = some x) : x.op = opSlope ∧ x.k = (i : Int) := by
  have h1 : (tags ds)[i]? = some (x.op, x.k) := by unfold tags; rw [List.getElem?_map, hx]; rfl
  have hi : i < n := by
    have := (List.getElem?_eq_some_iff.1 h1).1
    rw [ht, tg_len] at this
    exact this
  rw [ht, tg_get _ _ _ hi] at h1
  injection h1 with h1
  injection h1 with h1 h2
  exact ⟨h1.symm, h2.symm⟩
/-- how many ask -/
def asksN (zs : List InsM) : Nat := (zs.filter fun z => decide (z.op = askN)).length
theorem asksN_snoc (zs : List InsM) (z : InsM) : asksN (zs ++ [z]) = asksN zs + if z.op = askN then 1 else 0 := by
  unfold asksN
  rw [List.filter_append, List.length_append]
  by_cases h : z.op = askN <;> simp [h]
theorem asksN_marks : ∀ (zs : List InsM), asksN zs = ((zs.map Mark).filter fun m => m.isNone).length
  | [] => rfl
  | z :: zs => by
    have ih := asksN_marks zs
    unfold asksN at ih ⊢
    rw [List.map_cons, List.filter_cons, List.filter_cons]
    by_cases h : z.op = askN
    · simp [Mark, h, ih]
    · simp [Mark, h, ih]
theorem lns_none (F n : Nat) : ((lns F n).filter fun m => m.isNone) = [] := by
  rw [List.filter_eq_nil_iff]
  intro m hm
  unfold lns at hm
  obtain ⟨j, _, rfl⟩ := List.mem_map.1 hm
  simp
theorem crT_asks (f : FlatM) : ∀ k, ((crT f k).filter fun m => m.isNone).length = k
  | 0 => rfl
  | k + 1 => by
    have ih := crT_asks f k
    unfold crT
    rw [List.filter_append, List.filter_append, lns_none, List.length_append, List.length_append, ih]
    rfl
theorem asksN_all {f : FlatM} {zs : List InsM} {k : Nat} (h : zs.map Mark = crT f k) : asksN zs = k := by rw [asksN_marks, h, crT_asks]
theorem cross_len {f : FlatM} {zs : List InsM} {k : Nat} (h : zs.map Mark = crT f k) : zs.length = linesTo f k + k := by
  have := congrArg List.length h
  rwa [List.length_map, crT_len] at this

end Go.Proofs.Ytanbekbalfbkcaa
