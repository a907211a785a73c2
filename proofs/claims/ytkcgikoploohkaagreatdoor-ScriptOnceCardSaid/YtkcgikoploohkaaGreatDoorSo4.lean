/- ScriptOnce, walked. -/
import Derived.Test.YtkcgikoploohkaaGreatDoorSo3
import Derived.Deep.DeepCutAuto
import Derived.Laws.EntriesVeiled
namespace Go.Proofs.YtkcgikoploohkaaGreatDoor
set_option linter.unusedVariables false
set_option linter.unusedSimpArgs false
set_option maxRecDepth 100000
open Go.RowKit Go.Shelf Nums

/-- changes that a text tells: their numbers are of few limbs -/
theorem once_lims {S : ScT} (h : OnceS S) {xs : List CM} (e : xs.map CM.told = S.ch) (hf : ∀ x ∈ xs, x.Fit) : ∀ x ∈ xs, x.t.n ≤ 34 ∧ x.t.m ≤ 34 ∧ x.v.n ≤ 34 ∧ x.v.m ≤ 34 ∧ x.nm.size ≤ 2000 := by
  intro x hx
  have hm : x.told ∈ S.ch := by rw [← e]; exact List.mem_map_of_mem hx
  obtain ⟨g1, g2⟩ := h.c _ hm
  have hs : x.nm.size ≤ 2000 := h.s _ hm
  obtain ⟨⟨f1, f2⟩, f3, f4⟩ := hf x hx
  have a := ng_limbs g1
  have b := ng_limbs g2
  have a1 : (limbs x.p.num.natAbs).length ≤ 34 := a.1
  have a2 : (limbs x.p.den).length ≤ 34 := a.2
  have b1 : (limbs x.q.num.natAbs).length ≤ 34 := b.1
  have b2 : (limbs x.q.den).length ≤ 34 := b.2
  exact ⟨by omega, by omega, by omega, by omega, hs⟩
theorem once_h {S : ScT} (h : OnceS S) {v : RV} (hf : v.Fit S.h) : v.n ≤ 34 ∧ v.m ≤ 34 := by
  have a := ng_limbs h.h
  obtain ⟨f1, f2⟩ := hf
  exact ⟨by rw [f1]; exact a.1, by rw [f2]; exact a.2⟩
theorem once_cnt {S : ScT} (h : OnceS S) : 0 ≤ S.cas ∧ S.cas ≤ 999999 ∧ 0 ≤ S.bits ∧ S.bits ≤ 999999 := by
  have ho := h.ok
  unfold okP cntB at ho
  simp only [Bool.and_eq_true, decide_eq_true_eq] at ho
  omega
theorem once_eta {S : ScT} {h : Rat} {cas bits : Int} {ch : List (Rat × ByteArray × Rat)} (e0 : S.h = h) (e1 : cas = S.cas) (e2 : bits = S.bits) (e3 : ch = S.ch) : (⟨h, cas, bits, ch⟩ : ScT) = S := by
  subst e0 e1 e2 e3; rfl
set_option maxHeartbeats 8000000 in
/-- ScriptOnce -/
theorem scriptOnce_walk (a : Option Addr) (n c : Nat) (l : List UInt8) (w : World) (hg : Gl w) (ht : TRow w a n c l) : Calls Tryz.prog 6 #[.slice a n c] w (fun e w' => e = .returned (.bool true) ∧ Below w.heap.size w w') := by
  have HG := Lib.hid hg
  have HT := Lib.hid ht
  have hll := ht.1
  have hcm : c ≤ 9223372036854775807 := by have := ht.2.2.1; unfold maxLen at this; omega
  have hnc := ht.2.1
  by_cases hn : 2000 < n
  · have hnI : (2000 : Int) < (n : Int) := by omega
    clear hn ht hg hll
    go_enter Tryz.func6, Tryz.ntmps6
    go_wp2
    go_ret
    exact ⟨rfl, Below.refl _ _⟩
  have hnI : ¬ (2000 : Int) < (n : Int) := by omega
  have hp := parse_run a n c l w hg ht (by omega)
  have HLL := Lib.hid (show l.length ≤ 2000 by omega)
  clear hn ht hg hll
  cases hP : parseM numS l with
  | inl k =>
    rw [hP] at hp
    have HP := Lib.hid hp
    have hk := parse_bad_line HLL.out hP
    have hk1 : (1 : Int) ≤ (k : Int) := by omega
    have hk2 : (k : Int) ≤ 3000 := by omega
    clear hp hP hk
    go_enter Tryz.func6, Tryz.ntmps6
    go_upto_region 4 with (go_at_call 8; (with_reducible refine HP.out.mono ?_); rintro e w1 ⟨rfl, hb⟩; have HB := Lib.hid hb; have HG1 := Lib.hid (HG.out.later hb); clear hb)
    obtain ⟨W2, hW2⟩ : ∃ W2, W2 = w1.alloc (.cells #[.bool false, .slice none 0 0, .slice none 0 0, .int .i64 0, .int .i64 0, .slice none 0 0] 30) := ⟨_, rfl⟩
    rw [← hW2]
    have hb : Below w1.heap.size w1 W2 := by rw [hW2]; exact below_one _ _
    have HS := Lib.hid (show SBlk W2 w1.heap.size sv0 by rw [hW2]; exact Blk.new _ _ _)
    replace HG1 := Lib.hid (HG1.out.later hb)
    replace HB := Lib.hid (bthen HB.out hb)
    clear hW2 hb HP
    obtain ⟨p0, p1, p2, p3, p4, p5⟩ := HS.out.cells
    unfold sv0 rv0 at p0 p1 p2 p3 p4 p5
    dsimp only at p0 p1 p2 p3 p4 p5
    go_wp2_with (go_at_call 11; (with_reducible refine (awake_t _ HG1.out).mono ?_); rintro e w3 ⟨rfl, hb⟩; replace HB := Lib.hid (bthen HB.out hb); clear hb)
    go_ret
    exact ⟨rfl, HB.out⟩
  | inr S =>
    rw [hP] at hp
    have HP := Lib.hid hp
    have HO := Lib.hid (parse_facts HG.out HLL.out hP)
    clear hp hP
    go_enter Tryz.func6, Tryz.ntmps6
    go_upto_region 4 with (go_at_call 8; (with_reducible refine HP.out.mono ?_); rintro e w1 ⟨v, xs, rfl, hv, hf, hx, e1, e2, e3, hb⟩; have HB := Lib.hid hb; have HG1 := Lib.hid (HG.out.later hb); have HV := Lib.hid hv; have HH := Lib.hid (once_h HO.out hf); have HX := Lib.hid (once_lims HO.out e3 hx); have HE := Lib.hid (show v.cas = S.cas ∧ v.bits = S.bits ∧ xs.map CM.told = S.ch from ⟨e1, e2, e3⟩); clear hv hf hx e1 e2 e3 hb)
    obtain ⟨W2, hW2⟩ : ∃ W2, W2 = w1.alloc (.cells #[.bool v.h.s, .slice v.h.a v.h.n v.h.c, .slice v.h.b v.h.m v.h.d, .int .i64 v.cas, .int .i64 v.bits, .slice v.a v.n v.c] 30) := ⟨_, rfl⟩
    rw [← hW2]
    have hb : Below w1.heap.size w1 W2 := by rw [hW2]; exact below_one _ _
    have HS := Lib.hid (show SBlk W2 w1.heap.size v by rw [hW2]; exact Blk.new _ _ _)
    replace HV := Lib.hid (SV.Is.later HV.out hb)
    replace HG1 := Lib.hid (HG1.out.later hb)
    replace HB := Lib.hid (bthen HB.out hb)
    have HN := Lib.hid (show xs.length ≤ 2000 by rw [← List.length_map (f := CM.told), HE.out.2.2]; exact HO.out.n)
    have HCN := Lib.hid (show -9223372036854775808 ≤ v.cas ∧ v.cas ≤ 9223372036854775807 ∧ -9223372036854775808 ≤ v.bits ∧ v.bits ≤ 9223372036854775807 by have := once_cnt HO.out; have := HE.out; omega)
    have HPR := Lib.hid (print_run v S.h xs W2 HG1.out HV.out ⟨Nat.le_trans HH.out.1 (by decide), Nat.le_trans HH.out.2 (by decide)⟩ (fun x hx => by have := HX.out x hx; omega) (Nat.le_trans HN.out (by decide)) HCN.out)
    rw [once_eta rfl HE.out.1 HE.out.2.1 HE.out.2.2] at HPR
    obtain ⟨g, hg⟩ : ∃ g, w1.heap.size = g := ⟨_, rfl⟩
    rw [hg] at HS ⊢
    clear hW2 hb HP hg
    obtain ⟨p0, p1, p2, p3, p4, p5⟩ := HS.out.cells
    go_upto_region 7 with (go_at_call 13; (with_reducible refine HPR.out.mono ?_); rintro e w3 ⟨h1, -, hb⟩; obtain ⟨a', n', c', rfl, ht⟩ := h1 HO.out.ok; have HT2 := Lib.hid ht; replace HS := Lib.hid (SBlk.later HS.out hb); replace HV := Lib.hid (SV.Is.later HV.out hb); replace HG1 := Lib.hid (Gl.later HG1.out hb); replace HB := Lib.hid (bthen HB.out hb); clear h1 ht hb p0 p1 p2 p3 p4 p5; obtain ⟨p0, p1, p2, p3, p4, p5⟩ := HS.out.cells)
    have hpp := parse_run a' n' c' _ _ HG1.out HT2.out (by rw [← HT2.out.1]; exact HO.out.len)
    rw [once_back HG1.out HO.out] at hpp
    have HP := Lib.hid hpp
    clear hpp
    go_upto_region 8 with (go_at_call 8; (with_reducible refine HP.out.mono ?_); rintro e w4 ⟨u, ys, rfl, hu, hf, hx, e1, e2, e3, hb⟩; replace HS := Lib.hid (SBlk.later HS.out hb); replace HV := Lib.hid (SV.Is.later HV.out hb); replace HG1 := Lib.hid (Gl.later HG1.out hb); replace HB := Lib.hid (bthen HB.out hb); have HU := Lib.hid hu; have HH2 := Lib.hid (once_h HO.out hf); have HX2 := Lib.hid (once_lims HO.out e3 hx); have HE2 := Lib.hid (show u.cas = S.cas ∧ u.bits = S.bits ∧ ys.map CM.told = S.ch from ⟨e1, e2, e3⟩); clear hu hf hx e1 e2 e3 hb)
    obtain ⟨W5, hW5⟩ : ∃ W5, W5 = w4.alloc (.cells #[.bool u.h.s, .slice u.h.a u.h.n u.h.c, .slice u.h.b u.h.m u.h.d, .int .i64 u.cas, .int .i64 u.bits, .slice u.a u.n u.c] 30) := ⟨_, rfl⟩
    rw [← hW5]
    have hb : Below w4.heap.size w4 W5 := by rw [hW5]; exact below_one _ _
    have HS2 := Lib.hid (show SBlk W5 w4.heap.size u by rw [hW5]; exact Blk.new _ _ _)
    replace HU := Lib.hid (SV.Is.later HU.out hb)
    replace HV := Lib.hid (SV.Is.later HV.out hb)
    replace HS := Lib.hid (SBlk.later HS.out hb); replace HG1 := Lib.hid (Gl.later HG1.out hb); replace HB := Lib.hid (bthen HB.out hb)
    clear hW5 hb HP HPR
    clear p0 p1 p2 p3 p4 p5; obtain ⟨p0, p1, p2, p3, p4, p5⟩ := HS.out.cells
    obtain ⟨s0, s1, s2, s3, s4, s5⟩ := HS2.out.cells
    have HQ1 := Lib.hid (show v.cas = u.cas ∧ v.bits = u.bits ∧ xs.map CM.told = ys.map CM.told from ⟨HE.out.1.trans HE2.out.1.symm, HE.out.2.1.trans HE2.out.2.1.symm, HE.out.2.2.trans HE2.out.2.2.symm⟩)
    go_wp2_with (first
      | (go_at_call 10; (with_reducible refine (same_yes v u S.h xs ys _ HV.out HU.out HQ1.out.1 HQ1.out.2.1 HQ1.out.2.2 HH.out HH2.out (fun x hx => by have := HX.out x hx; omega) (fun x hx => by have := HX2.out x hx; omega)).mono ?_); rintro e w6 ⟨rfl, hb⟩; replace HG1 := Lib.hid (Gl.later HG1.out hb); replace HB := Lib.hid (bthen HB.out hb); clear hb)
      | (go_at_call 11; (with_reducible refine (awake_t _ HG1.out).mono ?_); rintro e w7 ⟨rfl, hb⟩; replace HB := Lib.hid (bthen HB.out hb); clear hb))
    go_ret
    exact ⟨rfl, HB.out⟩
theorem Tr.u8 {w : World} {t : TypeId} {cs : List Value} (ht : Tryz.prog.underlying t = some (.int .u8)) (h : Tr w t cs) : ∃ n : Nat, cs = [.int .u8 (n : Int)] ∧ n < 256 := by
  obtain ⟨n, h1, w1⟩ := h.int ht
  simp [Lit.wf, IntKind.min, IntKind.max, IntKind.signed, IntKind.bits, Bool.and_eq_true, decide_eq_true_eq] at w1
  exact ⟨n.toNat, by rw [h1, Int.toNat_of_nonneg w1.1], by omega⟩
/-- rows of bytes that came in -/
theorem bytes_of_tr {w : World} {v : Value} (h : Tr w 22 [v]) : ∃ a n c l, v = .slice a n c ∧ TRow w a n c l := by
  obtain ⟨a, n, c, hv, h1, h2, h2', -, b, off, h3, h4⟩ := h.slice 1 Tryz.underlying22 (by kernel_rfl) (by decide)
  obtain ⟨l, hl, hx⟩ := pick n (fun i (x : UInt8) => b < w.heap.size ∧ w.cell? ⟨b, off + i, none⟩ = some (.int .u8 (x.toNat : Int))) fun i hi => by
    obtain ⟨hb, ds, q1, q2, q3⟩ := h4 i hi
    obtain ⟨x, rfl, hx⟩ := q3.u8 Tryz.underlying5
    refine ⟨UInt8.ofNat x, hb, ?_⟩
    have := q1 0 (by decide)
    rw [UInt8.toNat_ofNat', Nat.mod_eq_of_lt hx]
    simpa using this
  exact ⟨a, n, c, l, by simpa using hv, hl, h1, h2, b, off, h3, hx⟩

end Go.Proofs.YtkcgikoploohkaaGreatDoor
