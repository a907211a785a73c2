/- IntegerRing holds: sums and products of integers do not hang on their order, and are parted, and what is taken away may be put back. No condition. -/
import Derived.Test.YtbapgkjkhdlngaaIW
import Derived.Deep.DeepCutAuto
namespace Go.Proofs.Ytbapgkjkhdlngaa
open Go.RowKit Nums

theorem keep_pair {W : World} {g1 g2 _g3 h : Nat} {u1 u2 u3 u4 p q : Value} (H : W.cell? ⟨g1, 0, none⟩ = some u1 ∧ W.cell? ⟨g1, 1, none⟩ = some u2 ∧ W.cell? ⟨g2, 0, none⟩ = some u3 ∧ W.cell? ⟨g2, 1, none⟩ = some u4)
    (n1 : h ≠ g1) (n2 : h ≠ g2) :
    ((W.setCell ⟨h, 0, none⟩ p).setCell ⟨h, 1, none⟩ q).cell? ⟨g1, 0, none⟩ = some u1 ∧ ((W.setCell ⟨h, 0, none⟩ p).setCell ⟨h, 1, none⟩ q).cell? ⟨g1, 1, none⟩ = some u2 ∧ ((W.setCell ⟨h, 0, none⟩ p).setCell ⟨h, 1, none⟩ q).cell? ⟨g2, 0, none⟩ = some u3 ∧ ((W.setCell ⟨h, 0, none⟩ p).setCell ⟨h, 1, none⟩ q).cell? ⟨g2, 1, none⟩ = some u4 := by
  obtain ⟨h1, h2, h3, h4⟩ := H
  refine ⟨?_, ?_, ?_, ?_⟩
  · rw [cell_other (by simp), cell_other (by simp)]; exact h1
  · rw [cell_other (by simp), cell_other (by simp)]; exact h2
  · rw [cell_other (by simp), cell_other (by simp)]; exact h3
  · rw [cell_other (by simp), cell_other (by simp)]; exact h4

theorem box_cells {W : World} {g1 g2 : Nat} {u1 u2 u3 u4 : Value} (h1 : Box W g1 u1 u2) (h2 : Box W g2 u3 u4) :
    W.cell? ⟨g1, 0, none⟩ = some u1 ∧ W.cell? ⟨g1, 1, none⟩ = some u2 ∧ W.cell? ⟨g2, 0, none⟩ = some u3 ∧ W.cell? ⟨g2, 1, none⟩ = some u4 := ⟨h1.1, h1.2.1, h2.1, h2.2.1⟩

theorem box_newE {w : World} {g : Nat} {u v : Value} (h : g = w.heap.size) : Box (w.alloc (.cells #[u, v] 24)) g u v := h ▸ box_new w u v

theorem box_next (w : World) (o : Obj) (u v : Value) : Box ((w.alloc o).alloc (.cells #[u, v] 24)) (w.heap.size + 1) u v := by
  have h := box_new (w.alloc o) u v
  rw [show (w.alloc o).heap.size = w.heap.size + 1 from by simp] at h
  exact h

theorem bal2 (w : World) (o p : Obj) : Below w.drew.heap.size w.drew ((w.alloc o).alloc p).drew := by
  have h := (below_two w o p).drew
  exact ⟨h.os, h.tape, h.output, h.size, h.block⟩

theorem Row.putB {W : World} {a : Option Addr} {n c g m d : Nat} {xs : List Nat} {s : Bool} {b : Option Addr} (h : Row W a n c xs) (x : Box W g (.bool s) (.slice b m d)) (p q : Value) :
    Row ((W.setCell ⟨g, 0, none⟩ p).setCell ⟨g, 1, none⟩ q) a n c xs := h.put x.1 x.2.1 p q

def Made2 (w : World) (bs : List (Nat × Value × Value)) (rs : List (Option Addr × Nat × Nat × List Nat)) (S M : Int) (g7 g8 : Nat) (a7 : Option Addr) (m7 c7 : Nat) (a8 : Option Addr) (m8 c8 : Nat) (W : World) : Prop :=
  Box W g7 (.bool (decide (S < 0))) (.slice a7 m7 c7) ∧ m7 ≤ 11 ∧ Row W a7 m7 c7 (limbs S.natAbs) ∧ Box W g8 (.bool (decide (M < 0))) (.slice a8 m8 c8) ∧ m8 ≤ 20 ∧ Row W a8 m8 c8 (limbs M.natAbs) ∧ Keep w bs rs W

set_option maxRecDepth 100000 in
set_option maxHeartbeats 8000000 in
theorem integerRing_in (s0 s1 s2 : Bool) (a0 a1 a2 : Option Addr) (n0 c0 n1 c1 n2 c2 : Nat) (xs ys zs : List Nat) (w : World) (r0 : Row w a0 n0 c0 xs) (r1 : Row w a1 n1 c1 ys) (r2 : Row w a2 n2 c2 zs) (b0 : n0 ≤ 10) (b1 : n1 ≤ 10) (b2 : n2 ≤ 10) :
    Calls Try.prog 7 #[.agg #[.bool s0, .slice a0 n0 c0], .agg #[.bool s1, .slice a1 n1 c1], .agg #[.bool s2, .slice a2 n2 c2]] w fun e w' => e = .returned (.bool true) ∧ Below w.heap.size w w' := by
  obtain ⟨A, hA⟩ : ∃ A, sv s0 (val xs) = A := ⟨_, rfl⟩
  obtain ⟨B, hB⟩ : ∃ B, sv s1 (val ys) = B := ⟨_, rfl⟩
  obtain ⟨C, hC⟩ : ∃ C, sv s2 (val zs) = C := ⟨_, rfl⟩
  have LA := Lib.hid (lenZ_raw r0 b0 hA)
  have LB := Lib.hid (lenZ_raw r1 b1 hB)
  have LC := Lib.hid (lenZ_raw r2 b2 hC)
  obtain ⟨S, eS⟩ : ∃ Z, A + B = Z := ⟨_, rfl⟩
  obtain ⟨M, eM⟩ : ∃ Z, A * B = Z := ⟨_, rfl⟩
  obtain ⟨E, eE⟩ : ∃ Z, S * C = Z := ⟨_, rfl⟩
  obtain ⟨F, eF⟩ : ∃ Z, A * C = Z := ⟨_, rfl⟩
  obtain ⟨G, eG⟩ : ∃ Z, B * C = Z := ⟨_, rfl⟩
  obtain ⟨I, eI⟩ : ∃ Z, S + C = Z := ⟨_, rfl⟩
  obtain ⟨J, eJ⟩ : ∃ Z, B + C = Z := ⟨_, rfl⟩
  obtain ⟨U, eU⟩ : ∃ Z, -A = Z := ⟨_, rfl⟩
  have ES2 : Hid (B + A = S) := by show _ = _; rw [← eS]; omega
  have EM2 : Hid (B * A = M) := by show _ = _; rw [← eM]; exact Int.mul_comm _ _
  have EE2 : Hid (F + G = E) := by show _ = _; rw [← eF, ← eG, ← eE, ← eS, Int.add_mul]
  have EI2 : Hid (A + J = I) := by show _ = _; rw [← eJ, ← eI, ← eS]; omega
  have EA2 : Hid (S - B = A) := by show _ = _; rw [← eS]; omega
  have EU2 : Hid (A + U = 0) := by show _ = _; rw [← eU]; omega
  have S0 : Hid (sgn 0 = 0) := by show _ = _; decide
  have ES := Lib.hid eS; clear eS
  have EM := Lib.hid eM; clear eM
  have EE := Lib.hid eE; clear eE
  have EF := Lib.hid eF; clear eF
  have EG := Lib.hid eG; clear eG
  have EI := Lib.hid eI; clear eI
  have EJ := Lib.hid eJ; clear eJ
  have EU := Lib.hid eU; clear eU
  have LS : Hid ((limbs S.natAbs).length ≤ 11) := lenZ_add LA.out LB.out ES.out
  have LM : Hid ((limbs M.natAbs).length ≤ 20) := lenZ_mul LA.out LB.out EM.out
  have LE : Hid ((limbs E.natAbs).length ≤ 21) := lenZ_mul LS.out LC.out EE.out
  have LI : Hid ((limbs I.natAbs).length ≤ 12) := lenZ_add LS.out (lenZ_le LC.out (by omega)) EI.out
  have L0 : Hid ((limbs (0 : Int).natAbs).length ≤ 11) := by show (limbs 0).length ≤ 11; rw [length_limbs_zero.2 rfl]; omega
  have VA := Lib.hid hA; clear hA
  have VB := Lib.hid hB; clear hB
  have VC := Lib.hid hC; clear hC
  have XX := box_three w (.bool s0) (.slice a0 n0 c0) (.bool s1) (.slice a1 n1 c1) (.bool s2) (.slice a2 n2 c2)
  have XA := Lib.hid XX.1
  have XB := Lib.hid XX.2.1
  have XC := Lib.hid XX.2.2; clear XX
  have HB := Lib.hid (below_three w (.cells #[.bool s0, .slice a0 n0 c0] 24) (.cells #[.bool s1, .slice a1 n1 c1] 24) (.cells #[.bool s2, .slice a2 n2 c2] 24))
  have RA := Lib.hid (r0.later HB.out)
  have RB := Lib.hid (r1.later HB.out)
  have RC := Lib.hid (r2.later HB.out)
  clear r0 r1 r2
  go_enter Try.func7, Try.ntmps7
  go_wp2_with fail
  refine (fewI_yes b0 b1).mono ?_
  rintro e w1 ⟨rfl, hb⟩
  replace XA := Lib.hid (XA.out.later hb)
  replace XB := Lib.hid (XB.out.later hb)
  replace XC := Lib.hid (XC.out.later hb)
  replace RA := Lib.hid (RA.out.later hb)
  replace RB := Lib.hid (RB.out.later hb)
  replace RC := Lib.hid (RC.out.later hb)
  replace HB := Lib.hid (bthen HB.out hb); clear hb
  obtain ⟨kXA0, kXA1, -, -, -⟩ := XA.out
  obtain ⟨kXB0, kXB1, -, -, -⟩ := XB.out
  obtain ⟨kXC0, kXC1, -, -, -⟩ := XC.out
  go_wp2_with fail
  refine (fewI_yes b2 b2).mono ?_
  rintro e w2 ⟨rfl, hb⟩
  clear kXA0 kXA1 kXB0 kXB1 kXC0 kXC1
  replace XA := Lib.hid (XA.out.later hb)
  replace XB := Lib.hid (XB.out.later hb)
  replace XC := Lib.hid (XC.out.later hb)
  replace RA := Lib.hid (RA.out.later hb)
  replace RB := Lib.hid (RB.out.later hb)
  replace RC := Lib.hid (RC.out.later hb)
  replace HB := Lib.hid (bthen HB.out hb); clear hb
  have lw : w.heap.size + 2 < w2.heap.size := XC.out.2.2.2.2
  have KK : Hid (Keep w [(w.heap.size, .bool s0, .slice a0 n0 c0), (w.heap.size + 1, .bool s1, .slice a1 n1 c1), (w.heap.size + 2, .bool s2, .slice a2 n2 c2)] [(a0, n0, c0, xs), (a1, n1, c1, ys), (a2, n2, c2, zs)] w2.drew) := ⟨by
    intro b hm
    simp only [List.mem_cons, List.not_mem_nil, or_false] at hm
    rcases hm with rfl | rfl | rfl
    · exact XA.out.drew
    · exact XB.out.drew
    · exact XC.out.drew, by
    intro r hm
    simp only [List.mem_cons, List.not_mem_nil, or_false] at hm
    rcases hm with rfl | rfl | rfl
    · exact RA.out.later (Below.refl _ _).drew
    · exact RB.out.later (Below.refl _ _).drew
    · exact RC.out.later (Below.refl _ _).drew, HB.out.drew⟩
  clear RA RB RC XC HB
  obtain ⟨kXA0, kXA1, -, -, -⟩ := XA.out
  obtain ⟨kXB0, kXB1, -, -, -⟩ := XB.out
  go_upto_region 3 with fail
  go_cut [7, 8] (fun s7 s8 wx => ∃ (g7 g8 : Nat) (a7 : Option Addr) (m7 c7 : Nat) (a8 : Option Addr) (m8 c8 : Nat), s7 = .pointer (some ⟨g7, 0, none⟩) ∧ s8 = .pointer (some ⟨g8, 0, none⟩) ∧ Hid (Made2 w [(w.heap.size, .bool s0, .slice a0 n0 c0), (w.heap.size + 1, .bool s1, .slice a1 n1 c1), (w.heap.size + 2, .bool s2, .slice a2 n2 c2)] [(a0, n0, c0, xs), (a1, n1, c1, ys), (a2, n2, c2, zs)] S M g7 g8 a7 m7 c7 a8 m8 c8 wx))
  case first =>
    go_region_held3 (fun w' => w'.cell? ⟨w.heap.size, 0, none⟩ = some (.bool s0) ∧ w'.cell? ⟨w.heap.size, 1, none⟩ = some (.slice a0 n0 c0) ∧ w'.cell? ⟨w.heap.size + 1, 0, none⟩ = some (.bool s1) ∧ w'.cell? ⟨w.heap.size + 1, 1, none⟩ = some (.slice a1 n1 c1))
      (first | (refine ⟨?_, ?_, ?_, ?_⟩ <;> with_reducible assumption) | ((refine box_cells ?_ ?_ <;> repeat' (first | with_reducible exact XA.out | with_reducible exact XB.out | with_reducible exact KA.out | with_reducible exact KB.out | with_reducible refine Box.far ?_ ?_ _ _ | with_reducible refine Box.alloc ?_ _ | with_reducible refine Box.drew ?_ | omega)); done) | (go_keep; done))
      (first
        | (go_at_call 18
           (have mk := G2; clear mk)
           refine (mulI 20 M (KK.out.row (a := a0) (n := n0) (c := c0) (xs := xs) (by simp)) (KK.out.row (a := a1) (n := n1) (c := c1) (xs := ys) (by simp)) VA.out VB.out (by omega) (by omega) EM.out LM.out).mono ?_
           rintro e v2 ⟨ap, mp, cp, rfl, bp, hr, hb⟩
           have RP := Lib.hid hr; clear hr
           have RQ := Lib.hid (RQ0.out.later hb)
           replace KK := Lib.hid (KK.out.later hb)
           have XG0 := Lib.hid (YG0.out.later hb)
           have XG1 := Lib.hid (YG1.out.later hb)
           have lv2 : v1.heap.size ≤ v2.heap.size := by have := hb.size; (try simp at this); omega
           clear hb
           obtain ⟨kXG00, kXG01, kXG02, kXG03, kXG04⟩ := XG0.out
           obtain ⟨kXG10, kXG11, kXG12, kXG13, kXG14⟩ := XG1.out
           clear kXA0 kXA1 kXB0 kXB1
           have KA := Lib.hid (KK.out.box (g := w.heap.size) (u := .bool s0) (v := .slice a0 n0 c0) (by simp))
           have KB := Lib.hid (KK.out.box (g := w.heap.size + 1) (u := .bool s1) (v := .slice a1 n1 c1) (by simp))
           obtain ⟨kXA0, kXA1, -, -, -⟩ := KA.out
           obtain ⟨kXB0, kXB1, -, -, -⟩ := KB.out)
        | (go_at_call 18
           (have mk := G1; clear mk)
           (with_reducible show Calls Try.prog 18 _ (World.alloc _ _) _)
           refine (mulI 20 M ((KK.out.row (a := a0) (n := n0) (c := c0) (xs := xs) (by simp)).later (below_one v1 (.cells #[.bool false, .slice none 0 0] 24))) ((KK.out.row (a := a1) (n := n1) (c := c1) (xs := ys) (by simp)).later (below_one v1 (.cells #[.bool false, .slice none 0 0] 24))) VA.out VB.out (by omega) (by omega) EM.out LM.out).mono ?_
           rintro e v2 ⟨ap, mp, cp, rfl, bp, hr, hb⟩
           have RP := Lib.hid hr; clear hr
           have RQ := Lib.hid ((RQ0.out.later (below_one v1 (.cells #[.bool false, .slice none 0 0] 24))).later hb)
           replace KK := Lib.hid ((KK.out.later (below_one v1 (.cells #[.bool false, .slice none 0 0] 24))).later hb)
           have XG0 := Lib.hid ((YG0.out.later (below_one v1 (.cells #[.bool false, .slice none 0 0] 24))).later hb)
           have XH0 : Hid (Box v2 v1.heap.size (.bool false) (.slice none 0 0)) := (box_new v1 (.bool false) (.slice none 0 0)).later hb
           have lv2 : v1.heap.size ≤ v2.heap.size := by have := hb.size; (try simp at this); omega
           clear hb
           obtain ⟨kXG00, kXG01, kXG02, kXG03, kXG04⟩ := XG0.out
           obtain ⟨kXH00, kXH01, kXH02, kXH03, kXH04⟩ := XH0.out
           clear kXA0 kXA1 kXB0 kXB1
           have KA := Lib.hid (KK.out.box (g := w.heap.size) (u := .bool s0) (v := .slice a0 n0 c0) (by simp))
           have KB := Lib.hid (KK.out.box (g := w.heap.size + 1) (u := .bool s1) (v := .slice a1 n1 c1) (by simp))
           obtain ⟨kXA0, kXA1, -, -, -⟩ := KA.out
           obtain ⟨kXB0, kXB1, -, -, -⟩ := KB.out)
        | (go_at_call 18
           (have mk := G1; clear mk)
           refine (mulI 20 M (KK.out.row (a := a0) (n := n0) (c := c0) (xs := xs) (by simp)) (KK.out.row (a := a1) (n := n1) (c := c1) (xs := ys) (by simp)) VA.out VB.out (by omega) (by omega) EM.out LM.out).mono ?_
           rintro e v2 ⟨ap, mp, cp, rfl, bp, hr, hb⟩
           have RP := Lib.hid hr; clear hr
           have RQ := Lib.hid (RQ0.out.later hb)
           replace KK := Lib.hid (KK.out.later hb)
           have XG0 := Lib.hid (YG0.out.later hb)
           have lv2 : v1.heap.size ≤ v2.heap.size := by have := hb.size; (try simp at this); omega
           clear hb
           obtain ⟨kXG00, kXG01, kXG02, kXG03, kXG04⟩ := XG0.out
           clear kXA0 kXA1 kXB0 kXB1
           have KA := Lib.hid (KK.out.box (g := w.heap.size) (u := .bool s0) (v := .slice a0 n0 c0) (by simp))
           have KB := Lib.hid (KK.out.box (g := w.heap.size + 1) (u := .bool s1) (v := .slice a1 n1 c1) (by simp))
           obtain ⟨kXA0, kXA1, -, -, -⟩ := KA.out
           obtain ⟨kXB0, kXB1, -, -, -⟩ := KB.out)
        | (go_at_call 18
           (have mk := G0; clear mk)
           (with_reducible show Calls Try.prog 18 _ (World.alloc (World.alloc _ _) _) _)
           refine (mulI 20 M ((KK.out.row (a := a0) (n := n0) (c := c0) (xs := xs) (by simp)).later (below_two v1 (.cells #[.bool false, .slice none 0 0] 24) (.cells #[.bool false, .slice none 0 0] 24))) ((KK.out.row (a := a1) (n := n1) (c := c1) (xs := ys) (by simp)).later (below_two v1 (.cells #[.bool false, .slice none 0 0] 24) (.cells #[.bool false, .slice none 0 0] 24))) VA.out VB.out (by omega) (by omega) EM.out LM.out).mono ?_
           rintro e v2 ⟨ap, mp, cp, rfl, bp, hr, hb⟩
           have RP := Lib.hid hr; clear hr
           have RQ := Lib.hid ((RQ0.out.later (below_two v1 (.cells #[.bool false, .slice none 0 0] 24) (.cells #[.bool false, .slice none 0 0] 24))).later hb)
           replace KK := Lib.hid ((KK.out.later (below_two v1 (.cells #[.bool false, .slice none 0 0] 24) (.cells #[.bool false, .slice none 0 0] 24))).later hb)
           have XH0 : Hid (Box v2 v1.heap.size (.bool false) (.slice none 0 0)) := ((box_new v1 (.bool false) (.slice none 0 0)).alloc (.cells #[.bool false, .slice none 0 0] 24)).later hb
           have XH1 : Hid (Box v2 (v1.heap.size + 1) (.bool false) (.slice none 0 0)) := (box_next v1 (.cells #[.bool false, .slice none 0 0] 24) (.bool false) (.slice none 0 0)).later hb
           have lv2 : v1.heap.size ≤ v2.heap.size := by have := hb.size; (try simp at this); omega
           clear hb
           obtain ⟨kXH00, kXH01, kXH02, kXH03, kXH04⟩ := XH0.out
           obtain ⟨kXH10, kXH11, kXH12, kXH13, kXH14⟩ := XH1.out
           clear kXA0 kXA1 kXB0 kXB1
           have KA := Lib.hid (KK.out.box (g := w.heap.size) (u := .bool s0) (v := .slice a0 n0 c0) (by simp))
           have KB := Lib.hid (KK.out.box (g := w.heap.size + 1) (u := .bool s1) (v := .slice a1 n1 c1) (by simp))
           obtain ⟨kXA0, kXA1, -, -, -⟩ := KA.out
           obtain ⟨kXB0, kXB1, -, -, -⟩ := KB.out)
        | (go_at_call 18
           (have mk := G0; clear mk)
           (with_reducible show Calls Try.prog 18 _ (World.alloc _ _) _)
           refine (mulI 20 M ((KK.out.row (a := a0) (n := n0) (c := c0) (xs := xs) (by simp)).later (below_one v1 (.cells #[.bool false, .slice none 0 0] 24))) ((KK.out.row (a := a1) (n := n1) (c := c1) (xs := ys) (by simp)).later (below_one v1 (.cells #[.bool false, .slice none 0 0] 24))) VA.out VB.out (by omega) (by omega) EM.out LM.out).mono ?_
           rintro e v2 ⟨ap, mp, cp, rfl, bp, hr, hb⟩
           have RP := Lib.hid hr; clear hr
           have RQ := Lib.hid ((RQ0.out.later (below_one v1 (.cells #[.bool false, .slice none 0 0] 24))).later hb)
           replace KK := Lib.hid ((KK.out.later (below_one v1 (.cells #[.bool false, .slice none 0 0] 24))).later hb)
           have XH0 : Hid (Box v2 v1.heap.size (.bool false) (.slice none 0 0)) := (box_new v1 (.bool false) (.slice none 0 0)).later hb
           have lv2 : v1.heap.size ≤ v2.heap.size := by have := hb.size; (try simp at this); omega
           clear hb
           obtain ⟨kXH00, kXH01, kXH02, kXH03, kXH04⟩ := XH0.out
           clear kXA0 kXA1 kXB0 kXB1
           have KA := Lib.hid (KK.out.box (g := w.heap.size) (u := .bool s0) (v := .slice a0 n0 c0) (by simp))
           have KB := Lib.hid (KK.out.box (g := w.heap.size + 1) (u := .bool s1) (v := .slice a1 n1 c1) (by simp))
           obtain ⟨kXA0, kXA1, -, -, -⟩ := KA.out
           obtain ⟨kXB0, kXB1, -, -, -⟩ := KB.out)
        | (go_at_call 18
           (have mk := G0; clear mk)
           refine (mulI 20 M (KK.out.row (a := a0) (n := n0) (c := c0) (xs := xs) (by simp)) (KK.out.row (a := a1) (n := n1) (c := c1) (xs := ys) (by simp)) VA.out VB.out (by omega) (by omega) EM.out LM.out).mono ?_
           rintro e v2 ⟨ap, mp, cp, rfl, bp, hr, hb⟩
           have RP := Lib.hid hr; clear hr
           have RQ := Lib.hid (RQ0.out.later hb)
           replace KK := Lib.hid (KK.out.later hb)
           have lv2 : v1.heap.size ≤ v2.heap.size := by have := hb.size; (try simp at this); omega
           clear hb
           clear kXA0 kXA1 kXB0 kXB1
           have KA := Lib.hid (KK.out.box (g := w.heap.size) (u := .bool s0) (v := .slice a0 n0 c0) (by simp))
           have KB := Lib.hid (KK.out.box (g := w.heap.size + 1) (u := .bool s1) (v := .slice a1 n1 c1) (by simp))
           obtain ⟨kXA0, kXA1, -, -, -⟩ := KA.out
           obtain ⟨kXB0, kXB1, -, -, -⟩ := KB.out)
        | (go_at_call 14
           (with_reducible show Calls Try.prog 14 _ (World.drew (World.alloc (World.alloc _ _) _)) _)
           refine (addI 11 S ((KK.out.row (a := a0) (n := n0) (c := c0) (xs := xs) (by simp)).later (bal2 w2 (.cells #[.bool false, .slice none 0 0] 24) (.cells #[.bool false, .slice none 0 0] 24))) ((KK.out.row (a := a1) (n := n1) (c := c1) (xs := ys) (by simp)).later (bal2 w2 (.cells #[.bool false, .slice none 0 0] 24) (.cells #[.bool false, .slice none 0 0] 24))) VA.out VB.out (by omega) (by omega) ES.out LS.out).mono ?_
           rintro e v1 ⟨aq, mq, cq, rfl, bq, hr, hb⟩
           have RQ0 := Lib.hid hr; clear hr
           replace KK := Lib.hid ((KK.out.later (bal2 w2 (.cells #[.bool false, .slice none 0 0] 24) (.cells #[.bool false, .slice none 0 0] 24))).later hb)
           have YG0 : Hid (Box v1 w2.heap.size (.bool false) (.slice none 0 0)) := (((box_new w2 (.bool false) (.slice none 0 0)).alloc (.cells #[.bool false, .slice none 0 0] 24)).drew).later hb
           have ly0 : w2.heap.size < v1.heap.size := YG0.out.2.2.2.2
           have YG1 : Hid (Box v1 (w2.heap.size + 1) (.bool false) (.slice none 0 0)) := (box_next w2 (.cells #[.bool false, .slice none 0 0] 24) (.bool false) (.slice none 0 0)).drew.later hb
           have ly1 : w2.heap.size + 1 < v1.heap.size := YG1.out.2.2.2.2
           have lv1 : w2.heap.size ≤ v1.heap.size := by have := hb.size; (try simp at this); omega
           clear hb
           clear kXA0 kXA1 kXB0 kXB1
           have KA := Lib.hid (KK.out.box (g := w.heap.size) (u := .bool s0) (v := .slice a0 n0 c0) (by simp))
           have KB := Lib.hid (KK.out.box (g := w.heap.size + 1) (u := .bool s1) (v := .slice a1 n1 c1) (by simp))
           obtain ⟨kXA0, kXA1, -, -, -⟩ := KA.out
           obtain ⟨kXB0, kXB1, -, -, -⟩ := KB.out
           have G2 : Hid True := trivial)
        | (go_at_call 14
           (with_reducible show Calls Try.prog 14 _ (World.drew (World.alloc _ _)) _)
           refine (addI 11 S ((KK.out.row (a := a0) (n := n0) (c := c0) (xs := xs) (by simp)).later (bal w2 (.cells #[.bool false, .slice none 0 0] 24))) ((KK.out.row (a := a1) (n := n1) (c := c1) (xs := ys) (by simp)).later (bal w2 (.cells #[.bool false, .slice none 0 0] 24))) VA.out VB.out (by omega) (by omega) ES.out LS.out).mono ?_
           rintro e v1 ⟨aq, mq, cq, rfl, bq, hr, hb⟩
           have RQ0 := Lib.hid hr; clear hr
           replace KK := Lib.hid ((KK.out.later (bal w2 (.cells #[.bool false, .slice none 0 0] 24))).later hb)
           have YG0 : Hid (Box v1 w2.heap.size (.bool false) (.slice none 0 0)) := ((box_new w2 (.bool false) (.slice none 0 0)).drew).later hb
           have ly0 : w2.heap.size < v1.heap.size := YG0.out.2.2.2.2
           have lv1 : w2.heap.size ≤ v1.heap.size := by have := hb.size; (try simp at this); omega
           clear hb
           clear kXA0 kXA1 kXB0 kXB1
           have KA := Lib.hid (KK.out.box (g := w.heap.size) (u := .bool s0) (v := .slice a0 n0 c0) (by simp))
           have KB := Lib.hid (KK.out.box (g := w.heap.size + 1) (u := .bool s1) (v := .slice a1 n1 c1) (by simp))
           obtain ⟨kXA0, kXA1, -, -, -⟩ := KA.out
           obtain ⟨kXB0, kXB1, -, -, -⟩ := KB.out
           have G1 : Hid True := trivial)
        | (go_at_call 14
           refine (addI 11 S (KK.out.row (a := a0) (n := n0) (c := c0) (xs := xs) (by simp)) (KK.out.row (a := a1) (n := n1) (c := c1) (xs := ys) (by simp)) VA.out VB.out (by omega) (by omega) ES.out LS.out).mono ?_
           rintro e v1 ⟨aq, mq, cq, rfl, bq, hr, hb⟩
           have RQ0 := Lib.hid hr; clear hr
           replace KK := Lib.hid (KK.out.later hb)
           have lv1 : w2.heap.size ≤ v1.heap.size := by have := hb.size; (try simp at this); omega
           clear hb
           clear kXA0 kXA1 kXB0 kXB1
           have KA := Lib.hid (KK.out.box (g := w.heap.size) (u := .bool s0) (v := .slice a0 n0 c0) (by simp))
           have KB := Lib.hid (KK.out.box (g := w.heap.size + 1) (u := .bool s1) (v := .slice a1 n1 c1) (by simp))
           obtain ⟨kXA0, kXA1, -, -, -⟩ := KA.out
           obtain ⟨kXB0, kXB1, -, -, -⟩ := KB.out
           have G0 : Hid True := trivial))
    all_goals
      go_wp2_with fail
      go_meet
      refine ⟨_, _, aq, mq, cq, ap, mp, cp, rfl, rfl, ?_, bq, ?_, ?_, bp, ?_, ?_⟩
      · repeat' (first | with_reducible exact XG0.out | with_reducible exact XG1.out | with_reducible exact XH0.out | with_reducible exact XH1.out | with_reducible refine box_newE ?_ | with_reducible refine Box.put (u := .bool false) (v := .slice none 0 0) ?_ _ _ | with_reducible refine Box.far ?_ ?_ _ _ | with_reducible refine Box.alloc ?_ _ | omega | (simp; done))
      · repeat' (first | with_reducible exact RQ.out | with_reducible refine Row.later ?_ (below_one _ _) | with_reducible refine Row.putB (s := false) (b := none) (m := 0) (d := 0) ?_ ?_ _ _ | with_reducible exact XG0.out | with_reducible exact XG1.out | with_reducible exact XH0.out | with_reducible exact XH1.out | with_reducible refine box_newE ?_ | with_reducible refine Box.put (u := .bool false) (v := .slice none 0 0) ?_ _ _ | with_reducible refine Box.far ?_ ?_ _ _ | with_reducible refine Box.alloc ?_ _ | omega | (simp; done))
      · repeat' (first | with_reducible exact XG0.out | with_reducible exact XG1.out | with_reducible exact XH0.out | with_reducible exact XH1.out | with_reducible refine box_newE ?_ | with_reducible refine Box.put (u := .bool false) (v := .slice none 0 0) ?_ _ _ | with_reducible refine Box.far ?_ ?_ _ _ | with_reducible refine Box.alloc ?_ _ | omega | (simp; done))
      · repeat' (first | with_reducible exact RP.out | with_reducible refine Row.later ?_ (below_one _ _) | with_reducible refine Row.putB (s := false) (b := none) (m := 0) (d := 0) ?_ ?_ _ _ | with_reducible exact XG0.out | with_reducible exact XG1.out | with_reducible exact XH0.out | with_reducible exact XH1.out | with_reducible refine box_newE ?_ | with_reducible refine Box.put (u := .bool false) (v := .slice none 0 0) ?_ _ _ | with_reducible refine Box.far ?_ ?_ _ _ | with_reducible refine Box.alloc ?_ _ | omega | (simp; done))
      · repeat' (first | with_reducible exact KK.out | with_reducible refine Keep.later ?_ (below_one _ _) | with_reducible refine Keep.put (s := false) (a := none) (n := 0) (c := 0) ?_ ?_ ?_ ?_ _ _ | with_reducible exact XG0.out | with_reducible exact XG1.out | with_reducible exact XH0.out | with_reducible exact XH1.out | with_reducible refine box_newE ?_ | with_reducible refine Box.put (u := .bool false) (v := .slice none 0 0) ?_ _ _ | with_reducible refine Box.far ?_ ?_ _ _ | with_reducible refine Box.alloc ?_ _ | omega | (simp; done) | (intro b hm; simp only [List.mem_cons, List.not_mem_nil, or_false] at hm; rcases hm with rfl | rfl | rfl <;> simp <;> omega))
  case rest =>
    obtain ⟨g7, g8, a7, m7, c7, a8, m8, c8, rfl, rfl, hm⟩ := hcut
    have HM := Lib.hid hm.out; clear hm
    clear KK XA XB kXA0 kXA1 kXB0 kXB1
    have LF : Hid ((limbs F.natAbs).length ≤ 20) := lenZ_mul LA.out LC.out EF.out
    have LG : Hid ((limbs G.natAbs).length ≤ 20) := lenZ_mul LB.out LC.out EG.out
    have LJ : Hid ((limbs J.natAbs).length ≤ 11) := lenZ_add LB.out LC.out EJ.out
    have LU : Hid ((limbs U.natAbs).length ≤ 10) := lenZ_neg LA.out EU.out
    have XA := Lib.hid (HM.out.2.2.2.2.2.2.box (g := w.heap.size) (u := .bool s0) (v := .slice a0 n0 c0) (by simp)).drew
    have RA := Lib.hid (HM.out.2.2.2.2.2.2.row (a := a0) (n := n0) (c := c0) (xs := xs) (by simp)).drew
    have XB := Lib.hid (HM.out.2.2.2.2.2.2.box (g := w.heap.size + 1) (u := .bool s1) (v := .slice a1 n1 c1) (by simp)).drew
    have RB := Lib.hid (HM.out.2.2.2.2.2.2.row (a := a1) (n := n1) (c := c1) (xs := ys) (by simp)).drew
    have XC := Lib.hid (HM.out.2.2.2.2.2.2.box (g := w.heap.size + 2) (u := .bool s2) (v := .slice a2 n2 c2) (by simp)).drew
    have RC := Lib.hid (HM.out.2.2.2.2.2.2.row (a := a2) (n := n2) (c := c2) (xs := zs) (by simp)).drew
    have X7 := Lib.hid HM.out.1.drew
    have R7 := Lib.hid HM.out.2.2.1.drew
    have X8 := Lib.hid HM.out.2.2.2.1.drew
    have R8 := Lib.hid HM.out.2.2.2.2.2.1.drew
    have hm7 := HM.out.2.1
    have hm8 := HM.out.2.2.2.2.1
    have HB := Lib.hid HM.out.2.2.2.2.2.2.2.2.drew
    clear HM
    obtain ⟨kXA0, kXA1, -, -, -⟩ := XA.out
    obtain ⟨kXB0, kXB1, -, -, -⟩ := XB.out
    obtain ⟨kXC0, kXC1, -, -, -⟩ := XC.out
    obtain ⟨kX70, kX71, -, -, -⟩ := X7.out
    obtain ⟨kX80, kX81, -, -, -⟩ := X8.out
    go_wp2_with fail
    go_region_held3 (fun w' => w'.cell? ⟨w.heap.size, 0, none⟩ = some (.bool s0) ∧ w'.cell? ⟨w.heap.size, 1, none⟩ = some (.slice a0 n0 c0) ∧ w'.cell? ⟨w.heap.size + 1, 0, none⟩ = some (.bool s1) ∧ w'.cell? ⟨w.heap.size + 1, 1, none⟩ = some (.slice a1 n1 c1) ∧ w'.cell? ⟨w.heap.size + 2, 0, none⟩ = some (.bool s2) ∧ w'.cell? ⟨w.heap.size + 2, 1, none⟩ = some (.slice a2 n2 c2) ∧ w'.cell? ⟨g7, 0, none⟩ = some (.bool (decide (S < 0))) ∧ w'.cell? ⟨g7, 1, none⟩ = some (.slice a7 m7 c7) ∧ w'.cell? ⟨g8, 0, none⟩ = some (.bool (decide (M < 0))) ∧ w'.cell? ⟨g8, 1, none⟩ = some (.slice a8 m8 c8))
      (first | (refine ⟨?_, ?_, ?_, ?_, ?_, ?_, ?_, ?_, ?_, ?_⟩ <;> with_reducible assumption) | (go_keep; done))
      (first
        | (have mk := G19; clear mk
           rw [if_pos (by rfl)]
           go_simp
           go_at_call 26
           refine (awake_any _).mono ?_
           rintro e w20 ⟨rfl, hb⟩
           replace RA := Lib.hid (RA.out.later hb)
           replace RB := Lib.hid (RB.out.later hb)
           replace RC := Lib.hid (RC.out.later hb)
           replace XA := Lib.hid (XA.out.later hb)
           replace XB := Lib.hid (XB.out.later hb)
           replace XC := Lib.hid (XC.out.later hb)
           replace X7 := Lib.hid (X7.out.later hb)
           replace X8 := Lib.hid (X8.out.later hb)
           clear kXA0 kXA1 kXB0 kXB1 kXC0 kXC1 kX70 kX71 kX80 kX81
           obtain ⟨kXA0, kXA1, -, -, -⟩ := XA.out
           obtain ⟨kXB0, kXB1, -, -, -⟩ := XB.out
           obtain ⟨kXC0, kXC1, -, -, -⟩ := XC.out
           obtain ⟨kX70, kX71, -, -, -⟩ := X7.out
           obtain ⟨kX80, kX81, -, -, -⟩ := X8.out
           replace HB := Lib.hid (bthen HB.out hb); clear hb
           have G20 : Hid True := trivial
           try go_wp2_with fail)
        | (have mk := G18; clear mk
           rw [if_pos (by rfl)]
           go_simp
           go_at_call 24
           refine (signI 0 Rz.out (sv_limbs _) (by omega) S0.out).mono ?_
           rintro e w19 ⟨rfl, hb⟩
           clear Rz
           replace RA := Lib.hid (RA.out.later hb)
           replace RB := Lib.hid (RB.out.later hb)
           replace RC := Lib.hid (RC.out.later hb)
           replace XA := Lib.hid (XA.out.later hb)
           replace XB := Lib.hid (XB.out.later hb)
           replace XC := Lib.hid (XC.out.later hb)
           replace X7 := Lib.hid (X7.out.later hb)
           replace X8 := Lib.hid (X8.out.later hb)
           clear kXA0 kXA1 kXB0 kXB1 kXC0 kXC1 kX70 kX71 kX80 kX81
           obtain ⟨kXA0, kXA1, -, -, -⟩ := XA.out
           obtain ⟨kXB0, kXB1, -, -, -⟩ := XB.out
           obtain ⟨kXC0, kXC1, -, -, -⟩ := XC.out
           obtain ⟨kX70, kX71, -, -, -⟩ := X7.out
           obtain ⟨kX80, kX81, -, -, -⟩ := X8.out
           replace HB := Lib.hid (bthen HB.out hb); clear hb
           have G19 : Hid True := trivial
           try go_wp2_with fail)
        | (have mk := G17; clear mk
           rw [if_pos (by rfl)]
           go_simp
           go_at_call 14
           refine (addI 11 0 RA.out Ru.out VA.out (sv_limbs _) (by omega) (by omega) EU2.out L0.out).mono ?_
           rintro e w18 ⟨az, mz, cz, rfl, bz, hr, hb⟩
           have Rz := Lib.hid hr; clear hr
           clear Ru
           replace RA := Lib.hid (RA.out.later hb)
           replace RB := Lib.hid (RB.out.later hb)
           replace RC := Lib.hid (RC.out.later hb)
           replace XA := Lib.hid (XA.out.later hb)
           replace XB := Lib.hid (XB.out.later hb)
           replace XC := Lib.hid (XC.out.later hb)
           replace X7 := Lib.hid (X7.out.later hb)
           replace X8 := Lib.hid (X8.out.later hb)
           clear kXA0 kXA1 kXB0 kXB1 kXC0 kXC1 kX70 kX71 kX80 kX81
           obtain ⟨kXA0, kXA1, -, -, -⟩ := XA.out
           obtain ⟨kXB0, kXB1, -, -, -⟩ := XB.out
           obtain ⟨kXC0, kXC1, -, -, -⟩ := XC.out
           obtain ⟨kX70, kX71, -, -, -⟩ := X7.out
           obtain ⟨kX80, kX81, -, -, -⟩ := X8.out
           replace HB := Lib.hid (bthen HB.out hb); clear hb
           have G18 : Hid True := trivial
           try go_wp2_with fail)
        | (have mk := G16; clear mk
           rw [if_pos (by rfl)]
           go_simp
           go_at_call 20
           refine (negI 10 U RA.out VA.out (by omega) EU.out LU.out).mono ?_
           rintro e w17 ⟨au, mu, cu, rfl, bu, hr, hb⟩
           have Ru := Lib.hid hr; clear hr
           replace RA := Lib.hid (RA.out.later hb)
           replace RB := Lib.hid (RB.out.later hb)
           replace RC := Lib.hid (RC.out.later hb)
           replace XA := Lib.hid (XA.out.later hb)
           replace XB := Lib.hid (XB.out.later hb)
           replace XC := Lib.hid (XC.out.later hb)
           replace X7 := Lib.hid (X7.out.later hb)
           replace X8 := Lib.hid (X8.out.later hb)
           clear kXA0 kXA1 kXB0 kXB1 kXC0 kXC1 kX70 kX71 kX80 kX81
           obtain ⟨kXA0, kXA1, -, -, -⟩ := XA.out
           obtain ⟨kXB0, kXB1, -, -, -⟩ := XB.out
           obtain ⟨kXC0, kXC1, -, -, -⟩ := XC.out
           obtain ⟨kX70, kX71, -, -, -⟩ := X7.out
           obtain ⟨kX80, kX81, -, -, -⟩ := X8.out
           replace HB := Lib.hid (bthen HB.out hb); clear hb
           have G17 : Hid True := trivial
           try go_wp2_with fail)
        | (have mk := G15; clear mk
           rw [if_pos (by rfl)]
           go_simp
           go_at_call 11
           refine (sameZ Rd.out Re.out rfl (by omega)).mono ?_
           rintro e w16 ⟨rfl, hb⟩
           clear Rd
           clear Re
           replace RA := Lib.hid (RA.out.later hb)
           replace RB := Lib.hid (RB.out.later hb)
           replace RC := Lib.hid (RC.out.later hb)
           replace XA := Lib.hid (XA.out.later hb)
           replace XB := Lib.hid (XB.out.later hb)
           replace XC := Lib.hid (XC.out.later hb)
           replace X7 := Lib.hid (X7.out.later hb)
           replace X8 := Lib.hid (X8.out.later hb)
           clear kXA0 kXA1 kXB0 kXB1 kXC0 kXC1 kX70 kX71 kX80 kX81
           obtain ⟨kXA0, kXA1, -, -, -⟩ := XA.out
           obtain ⟨kXB0, kXB1, -, -, -⟩ := XB.out
           obtain ⟨kXC0, kXC1, -, -, -⟩ := XC.out
           obtain ⟨kX70, kX71, -, -, -⟩ := X7.out
           obtain ⟨kX80, kX81, -, -, -⟩ := X8.out
           replace HB := Lib.hid (bthen HB.out hb); clear hb
           have G16 : Hid True := trivial
           try go_wp2_with fail)
        | (have mk := G14; clear mk
           rw [if_pos (by rfl)]
           go_simp
           go_at_call 12
           refine (normI 10 A RA.out VA.out (by omega) LA.out).mono ?_
           rintro e w15 ⟨ae, me, ce, rfl, be, hr, hb⟩
           have Re := Lib.hid hr; clear hr
           replace RA := Lib.hid (RA.out.later hb)
           replace RB := Lib.hid (RB.out.later hb)
           replace RC := Lib.hid (RC.out.later hb)
           replace Rd := Lib.hid (Rd.out.later hb)
           replace XA := Lib.hid (XA.out.later hb)
           replace XB := Lib.hid (XB.out.later hb)
           replace XC := Lib.hid (XC.out.later hb)
           replace X7 := Lib.hid (X7.out.later hb)
           replace X8 := Lib.hid (X8.out.later hb)
           clear kXA0 kXA1 kXB0 kXB1 kXC0 kXC1 kX70 kX71 kX80 kX81
           obtain ⟨kXA0, kXA1, -, -, -⟩ := XA.out
           obtain ⟨kXB0, kXB1, -, -, -⟩ := XB.out
           obtain ⟨kXC0, kXC1, -, -, -⟩ := XC.out
           obtain ⟨kX70, kX71, -, -, -⟩ := X7.out
           obtain ⟨kX80, kX81, -, -, -⟩ := X8.out
           replace HB := Lib.hid (bthen HB.out hb); clear hb
           have G15 : Hid True := trivial
           try go_wp2_with fail)
        | (have mk := G13; clear mk
           rw [if_pos (by rfl)]
           go_simp
           go_at_call 16
           refine (subI 10 A R7.out RB.out (sv_limbs _) VB.out (by omega) (by omega) EA2.out LA.out).mono ?_
           rintro e w14 ⟨ad, md, cd, rfl, bd, hr, hb⟩
           have Rd := Lib.hid hr; clear hr
           clear R7
           replace RA := Lib.hid (RA.out.later hb)
           replace RB := Lib.hid (RB.out.later hb)
           replace RC := Lib.hid (RC.out.later hb)
           replace XA := Lib.hid (XA.out.later hb)
           replace XB := Lib.hid (XB.out.later hb)
           replace XC := Lib.hid (XC.out.later hb)
           replace X7 := Lib.hid (X7.out.later hb)
           replace X8 := Lib.hid (X8.out.later hb)
           clear kXA0 kXA1 kXB0 kXB1 kXC0 kXC1 kX70 kX71 kX80 kX81
           obtain ⟨kXA0, kXA1, -, -, -⟩ := XA.out
           obtain ⟨kXB0, kXB1, -, -, -⟩ := XB.out
           obtain ⟨kXC0, kXC1, -, -, -⟩ := XC.out
           obtain ⟨kX70, kX71, -, -, -⟩ := X7.out
           obtain ⟨kX80, kX81, -, -, -⟩ := X8.out
           replace HB := Lib.hid (bthen HB.out hb); clear hb
           have G14 : Hid True := trivial
           try go_wp2_with fail)
        | (have mk := G12; clear mk
           rw [if_pos (by rfl)]
           go_simp
           go_at_call 11
           refine (sameZ Rp.out Rr.out rfl (by omega)).mono ?_
           rintro e w13 ⟨rfl, hb⟩
           clear Rp
           clear Rr
           replace RA := Lib.hid (RA.out.later hb)
           replace RB := Lib.hid (RB.out.later hb)
           replace RC := Lib.hid (RC.out.later hb)
           replace R7 := Lib.hid (R7.out.later hb)
           replace XA := Lib.hid (XA.out.later hb)
           replace XB := Lib.hid (XB.out.later hb)
           replace XC := Lib.hid (XC.out.later hb)
           replace X7 := Lib.hid (X7.out.later hb)
           replace X8 := Lib.hid (X8.out.later hb)
           clear kXA0 kXA1 kXB0 kXB1 kXC0 kXC1 kX70 kX71 kX80 kX81
           obtain ⟨kXA0, kXA1, -, -, -⟩ := XA.out
           obtain ⟨kXB0, kXB1, -, -, -⟩ := XB.out
           obtain ⟨kXC0, kXC1, -, -, -⟩ := XC.out
           obtain ⟨kX70, kX71, -, -, -⟩ := X7.out
           obtain ⟨kX80, kX81, -, -, -⟩ := X8.out
           replace HB := Lib.hid (bthen HB.out hb); clear hb
           have G13 : Hid True := trivial
           try go_wp2_with fail)
        | (have mk := G11; clear mk
           rw [if_pos (by rfl)]
           go_simp
           go_at_call 14
           refine (addI 12 I RA.out Rq.out VA.out (sv_limbs _) (by omega) (by omega) EI2.out LI.out).mono ?_
           rintro e w12 ⟨ar, mr, cr, rfl, br, hr, hb⟩
           have Rr := Lib.hid hr; clear hr
           clear Rq
           replace RA := Lib.hid (RA.out.later hb)
           replace RB := Lib.hid (RB.out.later hb)
           replace RC := Lib.hid (RC.out.later hb)
           replace R7 := Lib.hid (R7.out.later hb)
           replace Rp := Lib.hid (Rp.out.later hb)
           replace XA := Lib.hid (XA.out.later hb)
           replace XB := Lib.hid (XB.out.later hb)
           replace XC := Lib.hid (XC.out.later hb)
           replace X7 := Lib.hid (X7.out.later hb)
           replace X8 := Lib.hid (X8.out.later hb)
           clear kXA0 kXA1 kXB0 kXB1 kXC0 kXC1 kX70 kX71 kX80 kX81
           obtain ⟨kXA0, kXA1, -, -, -⟩ := XA.out
           obtain ⟨kXB0, kXB1, -, -, -⟩ := XB.out
           obtain ⟨kXC0, kXC1, -, -, -⟩ := XC.out
           obtain ⟨kX70, kX71, -, -, -⟩ := X7.out
           obtain ⟨kX80, kX81, -, -, -⟩ := X8.out
           replace HB := Lib.hid (bthen HB.out hb); clear hb
           have G12 : Hid True := trivial
           try go_wp2_with fail)
        | (have mk := G10; clear mk
           rw [if_pos (by rfl)]
           go_simp
           go_at_call 14
           refine (addI 11 J RB.out RC.out VB.out VC.out (by omega) (by omega) EJ.out LJ.out).mono ?_
           rintro e w11 ⟨aq, mq, cq, rfl, bq, hr, hb⟩
           have Rq := Lib.hid hr; clear hr
           replace RA := Lib.hid (RA.out.later hb)
           replace RB := Lib.hid (RB.out.later hb)
           replace RC := Lib.hid (RC.out.later hb)
           replace R7 := Lib.hid (R7.out.later hb)
           replace Rp := Lib.hid (Rp.out.later hb)
           replace XA := Lib.hid (XA.out.later hb)
           replace XB := Lib.hid (XB.out.later hb)
           replace XC := Lib.hid (XC.out.later hb)
           replace X7 := Lib.hid (X7.out.later hb)
           replace X8 := Lib.hid (X8.out.later hb)
           clear kXA0 kXA1 kXB0 kXB1 kXC0 kXC1 kX70 kX71 kX80 kX81
           obtain ⟨kXA0, kXA1, -, -, -⟩ := XA.out
           obtain ⟨kXB0, kXB1, -, -, -⟩ := XB.out
           obtain ⟨kXC0, kXC1, -, -, -⟩ := XC.out
           obtain ⟨kX70, kX71, -, -, -⟩ := X7.out
           obtain ⟨kX80, kX81, -, -, -⟩ := X8.out
           replace HB := Lib.hid (bthen HB.out hb); clear hb
           have G11 : Hid True := trivial
           try go_wp2_with fail)
        | (have mk := G9; clear mk
           rw [if_pos (by rfl)]
           go_simp
           go_at_call 14
           refine (addI 12 I R7.out RC.out (sv_limbs _) VC.out (by omega) (by omega) EI.out LI.out).mono ?_
           rintro e w10 ⟨ap, mp, cp, rfl, bp, hr, hb⟩
           have Rp := Lib.hid hr; clear hr
           replace RA := Lib.hid (RA.out.later hb)
           replace RB := Lib.hid (RB.out.later hb)
           replace RC := Lib.hid (RC.out.later hb)
           replace R7 := Lib.hid (R7.out.later hb)
           replace XA := Lib.hid (XA.out.later hb)
           replace XB := Lib.hid (XB.out.later hb)
           replace XC := Lib.hid (XC.out.later hb)
           replace X7 := Lib.hid (X7.out.later hb)
           replace X8 := Lib.hid (X8.out.later hb)
           clear kXA0 kXA1 kXB0 kXB1 kXC0 kXC1 kX70 kX71 kX80 kX81
           obtain ⟨kXA0, kXA1, -, -, -⟩ := XA.out
           obtain ⟨kXB0, kXB1, -, -, -⟩ := XB.out
           obtain ⟨kXC0, kXC1, -, -, -⟩ := XC.out
           obtain ⟨kX70, kX71, -, -, -⟩ := X7.out
           obtain ⟨kX80, kX81, -, -, -⟩ := X8.out
           replace HB := Lib.hid (bthen HB.out hb); clear hb
           have G10 : Hid True := trivial
           try go_wp2_with fail)
        | (have mk := G8; clear mk
           rw [if_pos (by rfl)]
           go_simp
           go_at_call 11
           refine (sameZ R3.out R6.out rfl (by omega)).mono ?_
           rintro e w9 ⟨rfl, hb⟩
           clear R3
           clear R6
           replace RA := Lib.hid (RA.out.later hb)
           replace RB := Lib.hid (RB.out.later hb)
           replace RC := Lib.hid (RC.out.later hb)
           replace R7 := Lib.hid (R7.out.later hb)
           replace XA := Lib.hid (XA.out.later hb)
           replace XB := Lib.hid (XB.out.later hb)
           replace XC := Lib.hid (XC.out.later hb)
           replace X7 := Lib.hid (X7.out.later hb)
           replace X8 := Lib.hid (X8.out.later hb)
           clear kXA0 kXA1 kXB0 kXB1 kXC0 kXC1 kX70 kX71 kX80 kX81
           obtain ⟨kXA0, kXA1, -, -, -⟩ := XA.out
           obtain ⟨kXB0, kXB1, -, -, -⟩ := XB.out
           obtain ⟨kXC0, kXC1, -, -, -⟩ := XC.out
           obtain ⟨kX70, kX71, -, -, -⟩ := X7.out
           obtain ⟨kX80, kX81, -, -, -⟩ := X8.out
           replace HB := Lib.hid (bthen HB.out hb); clear hb
           have G9 : Hid True := trivial
           try go_wp2_with fail)
        | (have mk := G7; clear mk
           rw [if_pos (by rfl)]
           go_simp
           go_at_call 14
           refine (addI 21 E R4.out R5.out (sv_limbs _) (sv_limbs _) (by omega) (by omega) EE2.out LE.out).mono ?_
           rintro e w8 ⟨a6, m6, c6, rfl, b6, hr, hb⟩
           have R6 := Lib.hid hr; clear hr
           clear R4
           clear R5
           replace RA := Lib.hid (RA.out.later hb)
           replace RB := Lib.hid (RB.out.later hb)
           replace RC := Lib.hid (RC.out.later hb)
           replace R7 := Lib.hid (R7.out.later hb)
           replace R3 := Lib.hid (R3.out.later hb)
           replace XA := Lib.hid (XA.out.later hb)
           replace XB := Lib.hid (XB.out.later hb)
           replace XC := Lib.hid (XC.out.later hb)
           replace X7 := Lib.hid (X7.out.later hb)
           replace X8 := Lib.hid (X8.out.later hb)
           clear kXA0 kXA1 kXB0 kXB1 kXC0 kXC1 kX70 kX71 kX80 kX81
           obtain ⟨kXA0, kXA1, -, -, -⟩ := XA.out
           obtain ⟨kXB0, kXB1, -, -, -⟩ := XB.out
           obtain ⟨kXC0, kXC1, -, -, -⟩ := XC.out
           obtain ⟨kX70, kX71, -, -, -⟩ := X7.out
           obtain ⟨kX80, kX81, -, -, -⟩ := X8.out
           replace HB := Lib.hid (bthen HB.out hb); clear hb
           have G8 : Hid True := trivial
           try go_wp2_with fail)
        | (have mk := G6; clear mk
           rw [if_pos (by rfl)]
           go_simp
           go_at_call 18
           refine (mulI 20 G RB.out RC.out VB.out VC.out (by omega) (by omega) EG.out LG.out).mono ?_
           rintro e w7 ⟨a5, m5, c5, rfl, b5, hr, hb⟩
           have R5 := Lib.hid hr; clear hr
           replace RA := Lib.hid (RA.out.later hb)
           replace RB := Lib.hid (RB.out.later hb)
           replace RC := Lib.hid (RC.out.later hb)
           replace R7 := Lib.hid (R7.out.later hb)
           replace R3 := Lib.hid (R3.out.later hb)
           replace R4 := Lib.hid (R4.out.later hb)
           replace XA := Lib.hid (XA.out.later hb)
           replace XB := Lib.hid (XB.out.later hb)
           replace XC := Lib.hid (XC.out.later hb)
           replace X7 := Lib.hid (X7.out.later hb)
           replace X8 := Lib.hid (X8.out.later hb)
           clear kXA0 kXA1 kXB0 kXB1 kXC0 kXC1 kX70 kX71 kX80 kX81
           obtain ⟨kXA0, kXA1, -, -, -⟩ := XA.out
           obtain ⟨kXB0, kXB1, -, -, -⟩ := XB.out
           obtain ⟨kXC0, kXC1, -, -, -⟩ := XC.out
           obtain ⟨kX70, kX71, -, -, -⟩ := X7.out
           obtain ⟨kX80, kX81, -, -, -⟩ := X8.out
           replace HB := Lib.hid (bthen HB.out hb); clear hb
           have G7 : Hid True := trivial
           try go_wp2_with fail)
        | (have mk := G5; clear mk
           rw [if_pos (by rfl)]
           go_simp
           go_at_call 18
           refine (mulI 20 F RA.out RC.out VA.out VC.out (by omega) (by omega) EF.out LF.out).mono ?_
           rintro e w6 ⟨a4, m4, c4, rfl, b4, hr, hb⟩
           have R4 := Lib.hid hr; clear hr
           replace RA := Lib.hid (RA.out.later hb)
           replace RB := Lib.hid (RB.out.later hb)
           replace RC := Lib.hid (RC.out.later hb)
           replace R7 := Lib.hid (R7.out.later hb)
           replace R3 := Lib.hid (R3.out.later hb)
           replace XA := Lib.hid (XA.out.later hb)
           replace XB := Lib.hid (XB.out.later hb)
           replace XC := Lib.hid (XC.out.later hb)
           replace X7 := Lib.hid (X7.out.later hb)
           replace X8 := Lib.hid (X8.out.later hb)
           clear kXA0 kXA1 kXB0 kXB1 kXC0 kXC1 kX70 kX71 kX80 kX81
           obtain ⟨kXA0, kXA1, -, -, -⟩ := XA.out
           obtain ⟨kXB0, kXB1, -, -, -⟩ := XB.out
           obtain ⟨kXC0, kXC1, -, -, -⟩ := XC.out
           obtain ⟨kX70, kX71, -, -, -⟩ := X7.out
           obtain ⟨kX80, kX81, -, -, -⟩ := X8.out
           replace HB := Lib.hid (bthen HB.out hb); clear hb
           have G6 : Hid True := trivial
           try go_wp2_with fail)
        | (have mk := G4; clear mk
           rw [if_pos (by rfl)]
           go_simp
           go_at_call 18
           refine (mulI 21 E R7.out RC.out (sv_limbs _) VC.out (by omega) (by omega) EE.out LE.out).mono ?_
           rintro e w5 ⟨a3, m3, c3, rfl, b3, hr, hb⟩
           have R3 := Lib.hid hr; clear hr
           replace RA := Lib.hid (RA.out.later hb)
           replace RB := Lib.hid (RB.out.later hb)
           replace RC := Lib.hid (RC.out.later hb)
           replace R7 := Lib.hid (R7.out.later hb)
           replace XA := Lib.hid (XA.out.later hb)
           replace XB := Lib.hid (XB.out.later hb)
           replace XC := Lib.hid (XC.out.later hb)
           replace X7 := Lib.hid (X7.out.later hb)
           replace X8 := Lib.hid (X8.out.later hb)
           clear kXA0 kXA1 kXB0 kXB1 kXC0 kXC1 kX70 kX71 kX80 kX81
           obtain ⟨kXA0, kXA1, -, -, -⟩ := XA.out
           obtain ⟨kXB0, kXB1, -, -, -⟩ := XB.out
           obtain ⟨kXC0, kXC1, -, -, -⟩ := XC.out
           obtain ⟨kX70, kX71, -, -, -⟩ := X7.out
           obtain ⟨kX80, kX81, -, -, -⟩ := X8.out
           replace HB := Lib.hid (bthen HB.out hb); clear hb
           have G5 : Hid True := trivial
           try go_wp2_with fail)
        | (have mk := G3; clear mk
           rw [if_pos (by rfl)]
           go_simp
           go_at_call 11
           refine (sameZ R8.out R2.out rfl (by omega)).mono ?_
           rintro e w4 ⟨rfl, hb⟩
           clear R2
           clear R8
           replace RA := Lib.hid (RA.out.later hb)
           replace RB := Lib.hid (RB.out.later hb)
           replace RC := Lib.hid (RC.out.later hb)
           replace R7 := Lib.hid (R7.out.later hb)
           replace XA := Lib.hid (XA.out.later hb)
           replace XB := Lib.hid (XB.out.later hb)
           replace XC := Lib.hid (XC.out.later hb)
           replace X7 := Lib.hid (X7.out.later hb)
           replace X8 := Lib.hid (X8.out.later hb)
           clear kXA0 kXA1 kXB0 kXB1 kXC0 kXC1 kX70 kX71 kX80 kX81
           obtain ⟨kXA0, kXA1, -, -, -⟩ := XA.out
           obtain ⟨kXB0, kXB1, -, -, -⟩ := XB.out
           obtain ⟨kXC0, kXC1, -, -, -⟩ := XC.out
           obtain ⟨kX70, kX71, -, -, -⟩ := X7.out
           obtain ⟨kX80, kX81, -, -, -⟩ := X8.out
           replace HB := Lib.hid (bthen HB.out hb); clear hb
           have G4 : Hid True := trivial
           try go_wp2_with fail)
        | (have mk := G2; clear mk
           rw [if_pos (by rfl)]
           go_simp
           go_at_call 18
           refine (mulI 20 M RB.out RA.out VB.out VA.out (by omega) (by omega) EM2.out LM.out).mono ?_
           rintro e w3 ⟨a2, m2, c2, rfl, b2, hr, hb⟩
           have R2 := Lib.hid hr; clear hr
           replace RA := Lib.hid (RA.out.later hb)
           replace RB := Lib.hid (RB.out.later hb)
           replace RC := Lib.hid (RC.out.later hb)
           replace R7 := Lib.hid (R7.out.later hb)
           replace R8 := Lib.hid (R8.out.later hb)
           replace XA := Lib.hid (XA.out.later hb)
           replace XB := Lib.hid (XB.out.later hb)
           replace XC := Lib.hid (XC.out.later hb)
           replace X7 := Lib.hid (X7.out.later hb)
           replace X8 := Lib.hid (X8.out.later hb)
           clear kXA0 kXA1 kXB0 kXB1 kXC0 kXC1 kX70 kX71 kX80 kX81
           obtain ⟨kXA0, kXA1, -, -, -⟩ := XA.out
           obtain ⟨kXB0, kXB1, -, -, -⟩ := XB.out
           obtain ⟨kXC0, kXC1, -, -, -⟩ := XC.out
           obtain ⟨kX70, kX71, -, -, -⟩ := X7.out
           obtain ⟨kX80, kX81, -, -, -⟩ := X8.out
           replace HB := Lib.hid (bthen HB.out hb); clear hb
           have G3 : Hid True := trivial
           try go_wp2_with fail)
        | (have mk := G1; clear mk
           rw [if_pos (by rfl)]
           go_simp
           go_at_call 11
           refine (sameZ R7.out R1.out rfl (by omega)).mono ?_
           rintro e w2 ⟨rfl, hb⟩
           clear R1
           replace RA := Lib.hid (RA.out.later hb)
           replace RB := Lib.hid (RB.out.later hb)
           replace RC := Lib.hid (RC.out.later hb)
           replace R7 := Lib.hid (R7.out.later hb)
           replace R8 := Lib.hid (R8.out.later hb)
           replace XA := Lib.hid (XA.out.later hb)
           replace XB := Lib.hid (XB.out.later hb)
           replace XC := Lib.hid (XC.out.later hb)
           replace X7 := Lib.hid (X7.out.later hb)
           replace X8 := Lib.hid (X8.out.later hb)
           clear kXA0 kXA1 kXB0 kXB1 kXC0 kXC1 kX70 kX71 kX80 kX81
           obtain ⟨kXA0, kXA1, -, -, -⟩ := XA.out
           obtain ⟨kXB0, kXB1, -, -, -⟩ := XB.out
           obtain ⟨kXC0, kXC1, -, -, -⟩ := XC.out
           obtain ⟨kX70, kX71, -, -, -⟩ := X7.out
           obtain ⟨kX80, kX81, -, -, -⟩ := X8.out
           replace HB := Lib.hid (bthen HB.out hb); clear hb
           have G2 : Hid True := trivial
           try go_wp2_with fail)
        | (skip
           rw [if_pos (by rfl)]
           go_simp
           go_at_call 14
           refine (addI 11 S RB.out RA.out VB.out VA.out (by omega) (by omega) ES2.out LS.out).mono ?_
           rintro e w1 ⟨a1, m1, c1, rfl, b1, hr, hb⟩
           have R1 := Lib.hid hr; clear hr
           replace RA := Lib.hid (RA.out.later hb)
           replace RB := Lib.hid (RB.out.later hb)
           replace RC := Lib.hid (RC.out.later hb)
           replace R7 := Lib.hid (R7.out.later hb)
           replace R8 := Lib.hid (R8.out.later hb)
           replace XA := Lib.hid (XA.out.later hb)
           replace XB := Lib.hid (XB.out.later hb)
           replace XC := Lib.hid (XC.out.later hb)
           replace X7 := Lib.hid (X7.out.later hb)
           replace X8 := Lib.hid (X8.out.later hb)
           clear kXA0 kXA1 kXB0 kXB1 kXC0 kXC1 kX70 kX71 kX80 kX81
           obtain ⟨kXA0, kXA1, -, -, -⟩ := XA.out
           obtain ⟨kXB0, kXB1, -, -, -⟩ := XB.out
           obtain ⟨kXC0, kXC1, -, -, -⟩ := XC.out
           obtain ⟨kX70, kX71, -, -, -⟩ := X7.out
           obtain ⟨kX80, kX81, -, -, -⟩ := X8.out
           replace HB := Lib.hid (bthen HB.out hb); clear hb
           have G1 : Hid True := trivial
           try go_wp2_with fail))
    go_wp2
    go_ret
    exact ⟨rfl, HB.out⟩

end Go.Proofs.Ytbapgkjkhdlngaa
/- IntegerRing: sums and products do not hang on their order, and are parted, and what is taken away may be put back. No condition. -/
namespace Go.Proofs.Ytbapgkjkhdlngaa
open Go.ChangeShapes Go.WideShapes Go.ChangeAt Go.RowKit Nums
open Go.ChangeMaps (open_string shut_string)
set_option linter.unusedVariables false

set_option maxRecDepth 100000 in
set_option maxHeartbeats 2000000 in
theorem integerRing_out (s0 s1 s2 : Bool) (a0 a1 a2 : Option Addr) (n0 c0 n1 c1 n2 c2 : Nat) (w : World) (b0 : n0 ≤ maxLen) (b1 : n1 ≤ maxLen) (b2 : n2 ≤ maxLen) (h : ¬ (n0 ≤ 10 ∧ n1 ≤ 10) ∨ (n0 ≤ 10 ∧ n1 ≤ 10 ∧ ¬ n2 ≤ 10)) :
    Calls Try.prog 7 #[.agg #[.bool s0, .slice a0 n0 c0], .agg #[.bool s1, .slice a1 n1 c1], .agg #[.bool s2, .slice a2 n2 c2]] w fun e w' => e = .returned (.bool true) ∧ Below w.heap.size w w' := by
  have HB := Lib.hid (below_three w (.cells #[.bool s0, .slice a0 n0 c0] 24) (.cells #[.bool s1, .slice a1 n1 c1] 24) (.cells #[.bool s2, .slice a2 n2 c2] 24))
  rcases h with h | ⟨h0, h1, h2⟩
  · have H := Lib.hid h; clear h
    have B0 := Lib.hid b0; clear b0
    have B1 := Lib.hid b1; clear b1
    go_enter Try.func7, Try.ntmps7
    go_wp2_with fail
    refine (fewI_no B0.out B1.out H.out).mono ?_
    rintro e w' ⟨rfl, hb⟩
    replace HB := Lib.hid (bthen HB.out hb); clear hb
    go_wp2
    go_ret
    exact ⟨rfl, HB.out⟩
  · have B2 := Lib.hid b2; clear b2
    have H2 : Hid (¬ (n2 ≤ 10 ∧ n2 ≤ 10)) := fun h => h2 h.1
    clear b0 b1 h2
    have XX := box_three w (.bool s0) (.slice a0 n0 c0) (.bool s1) (.slice a1 n1 c1) (.bool s2) (.slice a2 n2 c2)
    have XC := Lib.hid XX.2.2; clear XX
    go_enter Try.func7, Try.ntmps7
    go_wp2_with fail
    refine (fewI_yes h0 h1).mono ?_
    rintro e w1 ⟨rfl, hb⟩
    obtain ⟨k0, k1, -, -, -⟩ := XC.out.later hb
    replace HB := Lib.hid (bthen HB.out hb); clear hb
    go_wp2_with fail
    refine (fewI_no B2.out B2.out H2.out).mono ?_
    rintro e w' ⟨rfl, hb⟩
    replace HB := Lib.hid (bthen HB.out hb); clear hb
    go_wp2
    go_ret
    exact ⟨rfl, HB.out⟩

theorem integerRing_walk (s0 s1 s2 : Bool) (a0 a1 a2 : Option Addr) (n0 c0 n1 c1 n2 c2 : Nat) (xs ys zs : List Nat) (w : World) (r0 : Row w a0 n0 c0 xs) (r1 : Row w a1 n1 c1 ys) (r2 : Row w a2 n2 c2 zs) :
    Calls Try.prog 7 #[.agg #[.bool s0, .slice a0 n0 c0], .agg #[.bool s1, .slice a1 n1 c1], .agg #[.bool s2, .slice a2 n2 c2]] w fun e w' => e = .returned (.bool true) ∧ Below w.heap.size w w' := by
  by_cases h : n0 ≤ 10 ∧ n1 ≤ 10
  · by_cases h2 : n2 ≤ 10
    · exact integerRing_in s0 s1 s2 a0 a1 a2 n0 c0 n1 c1 n2 c2 xs ys zs w r0 r1 r2 h.1 h.2 h2
    · exact integerRing_out s0 s1 s2 a0 a1 a2 n0 c0 n1 c1 n2 c2 w r0.len_le r1.len_le r2.len_le (Or.inr ⟨h.1, h.2, h2⟩)
  · exact integerRing_out s0 s1 s2 a0 a1 a2 n0 c0 n1 c1 n2 c2 w r0.len_le r1.len_le r2.len_le (Or.inl h)

set_option maxRecDepth 100000 in
theorem integerRing_lifted (os : Os) (started : os.Started) (H : Type) (enc : TypeId × Value → H) :
    ReturnsInHanded {} Try.checked os 7 .any (Rows.integerRingSpec.pre6 enc Try.prog Try.f7 Rows.integerRingRow.domain false) (Rows.integerRingSpec.post enc Try.prog Try.f7 false true false false) := by
  refine returnsInHanded_of_change (C := Try.checked) Try.ownKnob started (by kernel_rfl) Try.func7
    (ChangeSpec.witness6 (enc := enc) (C := Try.checked) false ⟨#[], #[.agg #[.bool false, .slice none 0 0], .agg #[.bool false, .slice none 0 0], .agg #[.bool false, .slice none 0 0]], []⟩ 8 (by kernel_rfl) (by kernel_rfl) (by kernel_rfl) (by kernel_rfl)) ?_
  intro W base args ds gs before hval0 hW hcnd _
  have hval : ∀ (j : Nat) t v, Try.f7.params[j]? = some t → args[j]? = some v → Value.okWide Try.prog W .any base t v := hval0
  have hW' := hW
  obtain ⟨p, q, hA0, hV, rfl, hfz, hnd⟩ := hW
  have hA : DataW.TrodAll enc Try.prog W 0 (fun _ => true) true Try.f7.params.toList args.toList ds p := hA0
  rw [Try.params7] at hA hval
  obtain ⟨v0, vs0, d0, ds0, p0, q0, hargs, rfl, rfl, h0, r0⟩ := trodAll_cons hA
  obtain ⟨v1, vs1, d1, ds1, p1, q1, rfl, rfl, rfl, h1, r1⟩ := trodAll_cons r0
  obtain ⟨v2, vs2, d2, ds2, p2, q2, rfl, rfl, rfl, h2, r2⟩ := trodAll_cons r1
  obtain ⟨rfl, rfl, rfl⟩ := trodAll_nil r2
  obtain rfl : args = #[v0, v1, v2] := by cases args; simp_all
  obtain ⟨rfl, rfl⟩ := trodVars_none hV
  have k0 := h0
  have lt0 : ∀ x ∈ p0, x.block < W.heap.size := by obtain ⟨m, hm⟩ := k0; exact DataW.trod_lt m _ _ _ hm
  obtain ⟨s0, a0, n0, c0, xs0, rfl, w0⟩ := int_of_trod (hval 0 24 v0 rfl rfl) h0
  have k1 := h1
  have lt1 : ∀ x ∈ p1, x.block < W.heap.size := by obtain ⟨m, hm⟩ := k1; exact DataW.trod_lt m _ _ _ hm
  obtain ⟨s1, a1, n1, c1, xs1, rfl, w1⟩ := int_of_trod (hval 1 24 v1 rfl rfl) h1
  have k2 := h2
  have lt2 : ∀ x ∈ p2, x.block < W.heap.size := by obtain ⟨m, hm⟩ := k2; exact DataW.trod_lt m _ _ _ hm
  obtain ⟨s2, a2, n2, c2, xs2, rfl, w2⟩ := int_of_trod (hval 2 24 v2 rfl rfl) h2
  clear hA0 hval0
  refine (integerRing_walk s0 s1 s2 a0 a1 a2 n0 c0 n1 c1 n2 c2 xs0 xs1 xs2 W w0 w1 w2).mono fun e W' ⟨he, bel⟩ => ?_
  subst he
  exact ⟨_, rfl, _, _, _, [], _, [], hW', trodAll_mk1 (shut_bool Try.underlying4 _), (trodAll_cons_mk (Below.trod Try.laidOut (by kernel_rfl) (of_decide_eq_true (by kernel_rfl)) k0 bel lt0) (trodAll_cons_mk (Below.trod Try.laidOut (by kernel_rfl) (of_decide_eq_true (by kernel_rfl)) k1 bel lt1) (trodAll_cons_mk (Below.trod Try.laidOut (by kernel_rfl) (of_decide_eq_true (by kernel_rfl)) k2 bel lt2) trodAll_mk0))), rfl, bel.frame _, fun h => by cases h⟩

theorem integerRing_over : Rows.integerRingRow.holds Try.pinned (OpenSpec.ofChange Rows.integerRingSpec) :=
  OpenClaim.holds_of_wide 7 Try.f7 rfl rfl rfl rfl rfl rfl rfl ⟨rfl, rfl, rfl, rfl, rfl⟩ rfl rfl rfl rfl rfl (by kernel_rfl) Try.func7 (by kernel_rfl)
    (of_decide_eq_true (by kernel_rfl)) (by unfold Func.isWrapper; first | (rw [if_pos (by decide +kernel)]; kernel_rfl) | (rw [if_neg (by decide +kernel)]; exact ⟨rfl, rfl⟩))
    (fun os started H enc _ => integerRing_lifted os started H enc)

theorem integerRing_holds : Rows.IntegerRingSaid := integerRing_over
#print axioms integerRing_holds
end Go.Proofs.Ytbapgkjkhdlngaa
