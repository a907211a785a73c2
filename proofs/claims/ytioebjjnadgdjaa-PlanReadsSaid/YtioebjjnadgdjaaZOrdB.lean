/- What Order tells: the order that has the least one first. No condition but bounds. -/
import Derived.Test.YtioebjjnadgdjaaZOrdA
import Derived.Test.YtioebjjnadgdjaaZLivMToLstM
import Derived.Test.YtioebjjnadgdjaaZHpRAToHpRB
import Derived.Deep.LoopGhost
namespace Go.Proofs.Ytioebjjnadgdjaa
set_option linter.unusedVariables false
set_option linter.unusedSimpArgs false
set_option maxRecDepth 100000
open Go.RowKit Gr HR Hp

/-- a heap behind its box, in order -/
def HQ (w : World) (B gh : Nat) (v : Value) (hs : List Int) : Prop := HB w B gh v hs ∧ IsHp hs hs.length
theorem hpush_q (B gh : Nat) (v : Value) (hs : List Int) (X : Int) (w : World) (h : HQ w B gh v hs) (hB : B ≤ w.heap.size) (hl : hs.length ≤ 900000) :
    Calls Try.prog 39 #[.iface 101 (.pointer (some ⟨gh, 0, none⟩)), .iface 3 (.int .i64 X)] w fun e w' => e = .returned (.tuple #[]) ∧ ∃ v' hs', hs'.Perm (X :: hs) ∧ HQ w' B gh v' hs' ∧ HStep gh v v' w w' :=
  (hpush_any B gh v hs X w h.1 hB hl h.2).mono fun e w' ⟨h1, v', hs', h2, h3, h4, h5⟩ => ⟨h1, v', hs', h2, ⟨h4, h3⟩, h5⟩
theorem hpop_q (B gh : Nat) (v : Value) (hs : List Int) (w : World) (h : HQ w B gh v hs) (h0 : 0 < hs.length) (hl : hs.length ≤ 900000) :
    Calls Try.prog 38 #[.iface 101 (.pointer (some ⟨gh, 0, none⟩))] w fun e w' => ∃ v' X hs', e = .returned (.iface 3 (.int .i64 X)) ∧ ((X :: hs').Perm hs ∧ ∀ y ∈ hs, X ≤ y) ∧ HQ w' B gh v' hs' ∧ HStep gh v v' w w' :=
  (hpop_any B gh v hs w h.1 h0 hl h.2).mono fun e w' ⟨v', X, hs', h1, h2, h3, h4, h5, h6⟩ => ⟨v', X, hs', h1, ⟨h2, h4⟩, ⟨h5, h3⟩, h6⟩

def OrMem (w1 : World) (gm gh : Nat) (vo vh : Value) (out : List Nat) (hs M : List Int) (w : World) : Prop :=
  HQ w (gh + 1) gh vh hs ∧ IMem w gm M ∧ Own w (gh + 1) vo (ints out) ∧ (∀ k, vo.ownBlock = some k → vh.ownBlock ≠ some k) ∧ Below w1.heap.size w1 w ∧ gh + 1 ≤ w.heap.size

theorem OrMem.heap {w1 : World} {gm gh : Nat} {vo vh vh' : Value} {out : List Nat} {hs hs' M : List Int} {w w' : World} (h : OrMem w1 gm gh vo vh out hs M w) (hb : HQ w' (gh + 1) gh vh' hs') (hst : HStep gh vh vh' w w') (h1 : gm < gh) (h2 : w1.heap.size ≤ gh) : OrMem w1 gm gh vo vh' out hs' M w' := by
  obtain ⟨a1, a2, a3, a4, a5, a6⟩ := h
  have hvh : ∀ k, vh.ownBlock = some k → gh + 1 ≤ k := fun k hk => (a1.1.2.lt hk).1
  refine ⟨hb, a2.only hst.1 ?_, a3.only hst.1 ?_, ?_, a5.trans (hst.1.below a5.size ?_), Nat.le_trans a6 hst.1.size⟩
  · simp only [List.mem_cons, List.not_mem_nil, or_false, not_or, Option.some.injEq]
    exact ⟨by omega, fun e => by have := hvh _ e.symm; omega⟩
  · intro k hk
    simp only [List.mem_cons, List.not_mem_nil, or_false, not_or, Option.some.injEq]
    have := a3.lt hk
    exact ⟨by omega, fun e => a4 k hk e.symm⟩
  · intro k hk e
    rcases hst.2 k e with q | q
    · exact a4 k hk q
    · have := a3.lt hk; omega
  · intro j hj
    simp only [List.mem_cons, List.not_mem_nil, or_false, Option.some.injEq] at hj
    rcases hj with q | q
    · omega
    · have := hvh _ q.symm; omega

theorem OrMem.app {w1 : World} {gm gh t : Nat} {vo vh v' : Value} {out : List Nat} {hs M : List Int} {w w' : World} (h : OrMem w1 gm gh vo vh out hs M w) (ho : Own w' (gh + 1) v' (ints out ++ [(t : Int)])) (hb : Only [vo.ownBlock] w w')
    (hf : v'.ownBlock = vo.ownBlock ∨ ∃ k, v'.ownBlock = some k ∧ w.heap.size ≤ k) (h1 : gm < gh) (h2 : w1.heap.size ≤ gh) : OrMem w1 gm gh v' vh (out ++ [t]) hs M w' := by
  obtain ⟨a1, a2, a3, a4, a5, a6⟩ := h
  have hvo : ∀ k, vo.ownBlock = some k → gh + 1 ≤ k := fun k hk => (a3.lt hk).1
  have far : ∀ g, g < gh + 1 → some g ∉ [vo.ownBlock] := fun g hg => by
    simp only [List.mem_singleton]
    intro e; have := hvo _ e.symm; omega
  refine ⟨⟨a1.1.keep hb (far _ (by omega)) ?_, a1.2⟩, a2.only hb (far _ (by omega)), by rw [ints_append]; exact ho, ?_, a5.trans (hb.below a5.size ?_), Nat.le_trans a6 hb.size⟩
  · intro k hk hm
    simp only [List.mem_singleton] at hm
    exact a4 k hm.symm hk
  · intro k hk e
    rcases hf with q | ⟨k', q, hk'⟩
    · exact a4 k (by rw [← q]; exact hk) e
    · rw [q] at hk
      injection hk with hk
      have := a1.1.2.lt e
      omega
  · intro j hj
    simp only [List.mem_singleton] at hj
    have := hvo _ hj.symm; omega

theorem OrMem.set {w1 : World} {gm gh : Nat} {vo vh : Value} {out : List Nat} {hs M : List Int} {w : World} (h : OrMem w1 gm gh vo vh out hs M w) (k : Nat) (X : Int) (h1 : gm < gh) (h2 : w1.heap.size ≤ gm) : OrMem w1 gm gh vo vh out hs (M.set k X) (w.setCell ⟨gm, k, none⟩ (.int .i64 X)) := by
  obtain ⟨a1, a2, a3, a4, a5, a6⟩ := h
  refine ⟨⟨⟨(Below.heap_setCell w _ _ gh (by simp; omega)).trans a1.1.1, a1.1.2.keep fun j hj => Below.heap_setCell w _ _ j ?_⟩, a1.2⟩, a2.set k X, a3.keep fun j hj => Below.heap_setCell w _ _ j ?_, a4, a5.setCell (p := ⟨gm, k, none⟩) h2 _, by simp; exact a6⟩
  · have := a1.1.2.lt hj; simp; omega
  · have := a3.lt hj; simp; omega

def OrdPost (G : List (List Int)) (w : World) (e : Ending) (w' : World) : Prop :=
  ((∃ a c out, e = .returned (.tuple #[.slice a out.length c, .bool true]) ∧ Own w' w.heap.size (.slice a out.length c) (ints out) ∧ IsLst G out ∧ out.length = G.length) ∨ (e = .returned (.tuple #[.slice none 0 0, .bool false]) ∧ ∃ out, IsLst G out ∧ out.length < G.length ∧ ∀ y, ¬ Rdy G out y)) ∧ Below w.heap.size w w'

theorem len_of (v : Value) (hs : List Int) (w : World) (B gh : Nat) (h : HQ w B gh v hs) : Calls Try.prog 51 #[v] w fun e w' => e = .returned (.int .i64 (hs.length : Int)) ∧ w = w' := by
  obtain ⟨a, c, rfl⟩ := h.1.2.len
  exact len_any a hs.length c w

theorem perm_ints_len {hs : List Int} {H : List Nat} (h : hs.Perm (ints H)) : hs.length = H.length := by rw [h.length_eq, ints_len]

theorem perm_pop {X : Int} {hs' hs : List Int} {H : List Nat} (h : hs.Perm (ints H)) (hp : (X :: hs').Perm hs) : ∃ i0 ∈ H, X = (i0 : Int) ∧ hs'.Perm (ints (H.erase i0)) := by
  have h1 := hp.trans h
  have hm : X ∈ ints H := h1.mem_iff.1 (by simp)
  obtain ⟨i0, hi, e⟩ := List.mem_map.1 hm
  refine ⟨i0, hi, e.symm, ?_⟩
  have h2 : (ints H).Perm ((i0 : Int) :: ints (H.erase i0)) := (List.perm_cons_erase hi).map _
  have h3 := h1.trans h2
  rw [← e] at h3
  exact List.Perm.cons_inv h3

theorem perm_min {X : Int} {hs : List Int} {H : List Nat} {i0 : Nat} (h : hs.Perm (ints H)) (hX : X = (i0 : Int)) (hm : ∀ y ∈ hs, X ≤ y) : ∀ y ∈ H, i0 ≤ y := fun y hy => by
  have := hm (y : Int) (h.mem_iff.2 (List.mem_map.2 ⟨y, hy, rfl⟩))
  omega
theorem drop_cons (r : List Int) (p k : Nat) (hp : p < r.length) (hk : r.getD p 0 = (k : Int)) : r.drop p = (k : Int) :: r.drop (p + 1) := by
  rw [List.drop_eq_getElem_cons hp, ← hk]
  congr 1
  simp [hp]

set_option maxHeartbeats 4000000 in
theorem order_any (a : Option Addr) (n c B : Nat) (G : List (List Int)) (w : World) (hg : GRow w B a n c G) (hB : B ≤ w.heap.size) (hn : n ≤ 100000) (ht : Gr.tot G ≤ 1000000) :
    Calls Try.prog 35 #[.slice a n c] w (OrdPost G w) := by
  have HL : Hid (G.length = n) := hg.1
  have HG := Lib.hid hg; clear hg
  go_enter Try.func35, Try.ntmps35
  go_wp2_with fail
  refine (turned_any a n c B G w HG.out hB (by omega) ht).mono ?_
  rintro e w1 ⟨g1, T, rfl, hT, hTT, hb1⟩
  rw [HL.out] at hT ⊢
  have HB1 := Lib.hid hb1; clear hb1
  have HT := Lib.hid hT; clear hT
  have HTT := Lib.hid hTT; clear hTT
  have HLT : Hid (T.length = n) := HTT.out.1.trans HL.out
  go_wp2_with fail
  refine (count_any _ n n w1.heap.size T w1 HT.out (Nat.le_refl _) (by omega) (Nat.le_trans HTT.out.2.1 ht) HTT.out.clean).mono ?_
  rintro e w2 ⟨gm, M, rfl, hgm, hM, hNM, hb2⟩
  rw [HLT.out] at hNM ⊢
  have hgm2 := hM.lt
  have hM2 : Hid (IMem (w2.alloc (.cells #[.slice none 0 0] 100)) gm M) := hM.alloc _
  have hH2 : Hid (HQ (w2.alloc (.cells #[.slice none 0 0] 100)) (w2.heap.size + 1) w2.heap.size (.slice none 0 0) []) := Lib.hid ⟨⟨heap_alloc_new w2 _, Own.nil _ _⟩, IsHp.nil⟩
  have hB2 : Hid (Below w1.heap.size w1 (w2.alloc (.cells #[.slice none 0 0] 100))) := hb2.alloc hb2.size _
  have hs2 : w1.heap.size ≤ w2.heap.size := hb2.size
  have hBd : ∀ j, M.getD j 0 ≤ 1000000 := by
    intro j
    by_cases hj : j < n
    · have := (needRoomEnd (by rw [HLT.out]; exact hNM) j (by rw [HLT.out]; exact hj)).2
      have h2 := HTT.out.2.1
      omega
    · have e : M.getD j 0 = 0 := by
        have : M.length = n := by rw [hNM.1, HLT.out]
        simp [List.getElem?_eq_none (show M.length ≤ j by omega)]
      rw [e]; omega
  have HBD := Lib.hid hBd; clear hBd
  have HNM := Lib.hid hNM; clear hNM
  obtain ⟨gh, hgh⟩ : ∃ gh, gh = w2.heap.size := ⟨_, rfl⟩
  rw [← hgh] at hH2 hs2 hgm2
  have HGH := Lib.hid hgh; clear hgh
  clear hM hb2
  have hs3 : gh + 1 ≤ (w2.alloc (.cells #[.slice none 0 0] 100)).heap.size := by simp; have := HGH.out; omega
  have HS3 := Lib.hid hs3; clear hs3
  go_wp2
  rw [← HGH.out]
  go_loopw [20] (fun t wr => ∃ (i : Nat) (vh : Value) (hs : List Int) (H : List Nat), i ≤ n ∧ t = .int .i64 (i : Int) ∧ Hid (OrMem w1 gm gh (.slice none 0 0) vh [] hs M wr ∧ hs.Perm (ints H) ∧ H.Nodup ∧ ∀ j, j ∈ H ↔ j < i ∧ M.getD j 0 = 0)) (fun t _ => n - (intOf t).toNat)
  case atStart => exact ⟨0, _, [], [], Nat.zero_le _, rfl, ⟨hH2.out, hM2.out, Own.nil _ _, by simp [Value.ownBlock], hB2.out, HS3.out⟩, List.Perm.refl _, by simp, by simp⟩
  case round =>
    clear hH2 hM2 hB2
    obtain ⟨i, vh, hs, H, hi, rfl, HZ⟩ := hrel
    by_cases hi0 : i < n
    · have hcm := HZ.out.1.2.1.cell i (by rw [HNM.out.1, HLT.out]; exact hi0)
      obtain ⟨X, hX⟩ : ∃ X, X = M.getD i 0 := ⟨_, rfl⟩
      rw [← hX] at hcm
      have HX := Lib.hid hX; clear hX
      have hlH : H.length ≤ n := by
        have := nodup_len n H HZ.out.2.2.1 (fun x hx => by have := (HZ.out.2.2.2 x).1 hx; omega)
        exact this
      have hlh : hs.length ≤ 900000 := by rw [perm_ints_len HZ.out.2.1]; omega
      have HLH := Lib.hid hlh; clear hlh hlH
      by_cases hX0 : X = 0
      · have hX1 : (X == 0) = true := by simpa using hX0
        subst hX0
        go_wp2_with fail
        refine (hpush_q (gh + 1) gh vh hs (i : Int) wr HZ.out.1.1 HZ.out.1.2.2.2.2.2 HLH.out).mono ?_
        rintro e w3 ⟨rfl, vh3, hs3, hp3, hb3, hst3⟩
        have hm3 := HZ.out.1.heap hb3 hst3 hgm2 hs2
        have H3 := Lib.hid (And.intro hm3 hp3); clear hm3 hp3 hb3 hst3
        go_wp2
        go_roundw
        case rel =>
          refine ⟨i + 1, vh3, hs3, i :: H, by omega, by go_num, H3.out.1, H3.out.2.trans (List.Perm.cons _ HZ.out.2.1), List.nodup_cons.2 ⟨fun q => by have := (HZ.out.2.2.2 i).1 q; omega, HZ.out.2.2.1⟩, fun j => ?_⟩
          rw [List.mem_cons, HZ.out.2.2.2 j]
          constructor
          · rintro (q | ⟨q, r⟩)
            · rw [q]; exact ⟨by omega, HX.out.symm⟩
            · exact ⟨by omega, r⟩
          · rintro ⟨q, r⟩
            by_cases e : j = i
            · exact Or.inl e
            · exact Or.inr ⟨by omega, r⟩
        case measure => simp [intOf]; omega
      · have hX1 : (X == 0) = false := by simpa using hX0
        have HX0 := Lib.hid hX0; clear hX0
        go_wp2
        go_roundw
        case rel =>
          refine ⟨i + 1, vh, hs, H, by omega, by go_num, HZ.out.1, HZ.out.2.1, HZ.out.2.2.1, fun j => ?_⟩
          rw [HZ.out.2.2.2 j]
          constructor
          · rintro ⟨q, r⟩; exact ⟨by omega, r⟩
          · rintro ⟨q, r⟩
            refine ⟨?_, r⟩
            by_cases e : j = i
            · subst e; exact (HX0.out (HX.out.trans r)).elim
            · omega
        case measure => simp [intOf]; omega
    · have hin : i = n := by omega
      have hka : Ka T [] H M [] := Ka.start (by rw [HLT.out]; exact HNM.out) HZ.out.2.2.1 (by rw [HLT.out, ← hin]; exact HZ.out.2.2.2)
      have HKA := Lib.hid hka; clear hka hin
      go_wp2
      go_loopg [9] n (fun k vo wr => ∃ (vh : Value) (hs : List Int) (out H : List Nat) (M : List Int), Hid (OrMem w1 gm gh vo vh out hs M wr ∧ hs.Perm (ints H) ∧ Ka T out H M [] ∧ (∀ j, M.getD j 0 ≤ 1000000) ∧ IsLst G out) ∧ Hid (n - out.length = k))
      case atStart => exact ⟨vh, hs, [], H, M, ⟨HZ.out.1, HZ.out.2.1, HKA.out, HBD.out, IsLst.nil G⟩, rfl⟩
      case round =>
        clear HZ HKA HBD HNM
        obtain ⟨vh, hs, out, H, M, HZ, HK⟩ := hrel
        have hc := HZ.out.1.1.1.cell
        have hlen := perm_ints_len HZ.out.2.1
        have hkl := HZ.out.2.2.1.len
        rw [HLT.out] at hkl
        obtain ⟨hl, hhl⟩ : ∃ hl, hl = hs.length := ⟨_, rfl⟩
        have HHL := Lib.hid (And.intro hhl hlen); clear hhl hlen
        have HKL := Lib.hid hkl; clear hkl
        go_wp2_with fail
        refine (len_of vh hs wr (gh + 1) gh HZ.out.1.1).mono ?_
        rintro e w' ⟨rfl, rfl⟩
        rw [← HHL.out.1]
        by_cases h0 : 0 < hl
        · have h0I : (0 : Int) < (hl : Int) := by omega
          go_wp2_with fail
          refine (hpop_q (gh + 1) gh vh hs wr HZ.out.1.1 (by rw [← HHL.out.1]; exact h0) (by have := HHL.out.2; have h2 := HKL.out; omega)).mono ?_
          rintro e w3 ⟨vh3, X, hs3, rfl, ⟨hp3, hmin3⟩, hb3, hst3⟩
          obtain ⟨i0, hi0, rfl, hpe⟩ := perm_pop HZ.out.2.1 hp3
          have HLS : Hid (IsLst G (out ++ [i0])) := Lib.hid (HZ.out.2.2.1.least HTT.out HZ.out.2.2.2.2 i0 hi0 (perm_min HZ.out.2.1 rfl hmin3))
          clear hmin3
          have hm3 := HZ.out.1.heap hb3 hst3 hgm2 hs2
          obtain ⟨hka3, hi0l⟩ := HZ.out.2.2.1.pop i0 hi0
          rw [HLT.out] at hi0l
          have H3 := Lib.hid (And.intro hm3 (And.intro hpe hka3)); clear hm3 hpe hka3 hp3 hb3 hst3 hi0
          have hta := assert_int (i0 : Int)
          have HOL : Hid ((ints out).length ≤ 1000000000) := by show _ ≤ _; rw [ints_len]; have := HKL.out; omega
          go_wp2_with (at_builtin; refine appendH rfl _ _ 23 Try.underlying23 rfl (gh + 1) u9 (ints out) (i0 : Int) _ w3.heap.size rfl rfl rfl H3.out.1.2.2.1 H3.out.1.2.2.2.2.2 HOL.out ?_)
          intro v' w4 hown4 honly4 hfr4
          obtain ⟨a4, n4, c4, rfl⟩ : ∃ a n c, v' = .slice a n c := by obtain ⟨a4, c4, e⟩ := hown4.len; exact ⟨a4, _, c4, e⟩
          have hm4 := H3.out.1.app hown4 honly4 hfr4 hgm2 hs2
          have H4 := Lib.hid hm4; clear hm4 hown4 honly4 hfr4
          obtain ⟨b, off, A, L, C, e5, hb5, hcell, hrow⟩ := (HT.out.below H4.out.2.2.2.2.1).at_ hi0l
          injection e5 with e5
          injection e5 with e5 e6
          subst e5 e6
          rw [Nat.zero_add] at hcell
          have hL := hrow.len_le
          unfold maxLen at hL
          have HLr : Hid ((T.getD i0 []).length = L) := hrow.1
          have HR := Lib.hid hrow; clear hrow
          have hi0I : (i0 : Int) < (n : Int) := by omega
          have HBM := Lib.hid HZ.out.2.2.2.1
          clear hta
          go_wp2
          go_loopw [48] (fun t wr => ∃ (p : Nat) (vh : Value) (hs : List Int) (H : List Nat) (M : List Int), p ≤ L ∧ t = .int .i64 (p : Int) ∧ Hid (OrMem w1 gm gh (.slice a4 n4 c4) vh (out ++ [i0]) hs M wr ∧ hs.Perm (ints H) ∧ Ka T (out ++ [i0]) H M ((T.getD i0 []).drop p) ∧ (∀ j, M.getD j 0 ≤ 1000000) ∧ Below w1.heap.size w4 wr)) (fun t _ => L - (intOf t).toNat)
          case atStart => exact ⟨0, vh3, hs3, H.erase i0, M, Nat.zero_le _, rfl, H4.out, H3.out.2.1, by rw [List.drop_zero]; exact H3.out.2.2, HBM.out, Below.refl _ _⟩
          case round =>
            clear HZ H3 H4 HBM hc HHL h0I h0
            obtain ⟨p, vh, hs, H, M, hp, rfl, HZ⟩ := hrel
            by_cases hp0 : p < L
            · obtain ⟨b2, off2, rfl, hb2, hcell2⟩ := (HR.out.below HZ.out.2.2.2.2).at_ hp0
              obtain ⟨k, hk, hkn⟩ := HTT.out.clean i0 (by rw [HLT.out]; exact hi0l) ((T.getD i0 []).getD p 0) (getD_mem (by rw [HLr.out]; exact hp0))
              rw [hk] at hcell2
              rw [HLT.out] at hkn
              have hdrop : (T.getD i0 []).drop p = (k : Int) :: (T.getD i0 []).drop (p + 1) := by
                exact drop_cons _ p k (by rw [HLr.out]; exact hp0) hk
              have hka := HZ.out.2.2.1
              rw [hdrop] at hka
              obtain ⟨hM1, hMa, hMb⟩ := hka.tell (by rw [HLT.out]; exact hkn)
              have hM2 := HZ.out.2.2.2.1 k
              have hck := HZ.out.1.2.1.cell k (by rw [hka.lenM, HLT.out]; exact hkn)
              have hfk := HZ.out.1.2.1.free k
              obtain ⟨X, hX⟩ : ∃ X, X = M.getD k 0 := ⟨_, rfl⟩
              rw [← hX] at hck hM1 hM2 hMa hMb
              have hset := HZ.out.1.set k (X - 1) hgm2 hgm
              have hck2 := hset.2.1.cell k (by rw [List.length_set, hka.lenM, HLT.out]; exact hkn)
              have e2 : (M.set k (X - 1)).getD k 0 = X - 1 := by
                have : k < M.length := by rw [hka.lenM, HLT.out]; exact hkn
                simp [this]
              rw [e2] at hck2
              have hBM : ∀ j, (M.set k (X - 1)).getD j 0 ≤ 1000000 := by
                intro j
                by_cases e : k = j
                · subst e; rw [e2]; omega
                · have : (M.set k (X - 1)).getD j 0 = M.getD j 0 := by simp [e]
                  rw [this]; exact HZ.out.2.2.2.1 j
              have hB9 : Below w1.heap.size w4 (wr.setCell ⟨gm, k, none⟩ (.int .i64 (X - 1))) := HZ.out.2.2.2.2.setCell (p := ⟨gm, k, none⟩) hgm _
              have hlh : hs.length ≤ 900000 := by have h1 := perm_ints_len HZ.out.2.1; have h2 := hka.len; rw [HLT.out] at h2; omega
              have HX := Lib.hid (And.intro hMa (And.intro hMb (And.intro hset (And.intro hBM (And.intro hB9 hlh))))); clear hMa hMb hset hBM hB9 hka hdrop hk hX e2 hlh
              have hkI : (k : Int) < (n : Int) := by omega
              by_cases hX0 : X - 1 = 0
              · have hX1 : (X - 1 == 0) = true := by simpa using hX0
                have HX0 := Lib.hid hX0; clear hX0
                go_wp2_with fail
                refine (hpush_q (gh + 1) gh vh hs (k : Int) _ HX.out.2.2.1.1 HX.out.2.2.1.2.2.2.2.2 HX.out.2.2.2.2.2).mono ?_
                rintro e w6 ⟨rfl, vh6, hs6, hp6, hb6, hst6⟩
                have hm6 := HX.out.2.2.1.heap hb6 hst6 hgm2 hs2
                have hvB : Below w1.heap.size w4 w6 := HX.out.2.2.2.2.1.trans (hst6.1.below (by have := HX.out.2.2.1.2.2.2.2.2; omega) (by
                  intro j hj
                  simp only [List.mem_cons, List.not_mem_nil, or_false, Option.some.injEq] at hj
                  rcases hj with q | q
                  · omega
                  · have := (HX.out.2.2.1.1.1.2.lt q.symm).1; omega))
                have H6 := Lib.hid (And.intro hm6 (And.intro hp6 hvB)); clear hm6 hp6 hb6 hst6 hvB
                go_wp2
                go_roundw
                case rel => exact ⟨p + 1, vh6, hs6, k :: H, M.set k (X - 1), by omega, by go_num, H6.out.1, H6.out.2.1.trans (List.Perm.cons _ HZ.out.2.1), HX.out.2.1 HX0.out _ (List.Perm.refl _), HX.out.2.2.2.1, H6.out.2.2⟩
                case measure => simp [intOf]; omega
              · have hX1 : (X - 1 == 0) = false := by simpa using hX0
                have HX0 := Lib.hid hX0; clear hX0
                go_wp2
                go_roundw
                case rel => exact ⟨p + 1, vh, hs, H, M.set k (X - 1), by omega, by go_num, HX.out.2.2.1, HZ.out.2.1, HX.out.1 HX0.out, HX.out.2.2.2.1, HX.out.2.2.2.2.1⟩
                case measure => simp [intOf]; omega
            · obtain rfl : p = L := by omega
              have hd : (T.getD i0 []).drop p = [] := List.drop_eq_nil_of_le (by rw [HLr.out]; exact Nat.le_refl _)
              have hka : Ka T (out ++ [i0]) H M [] := by have := HZ.out.2.2.1; rw [hd] at this; exact this
              have hkl := hka.len
              rw [HLT.out, List.length_append] at hkl
              have HKA := Lib.hid (And.intro hka hkl); clear hka hkl hd
              go_wp2
              go_roundg (n - (out ++ [i0]).length)
              case measure => have h1 := HK.out; have h2 := HKA.out.2; simp only [List.length_append, List.length_cons, List.length_nil] at h2 ⊢; omega
              case rel => exact ⟨vh, hs, out ++ [i0], H, M, ⟨HZ.out.1, HZ.out.2.1, HKA.out.1, HZ.out.2.2.2.1, HLS.out⟩, rfl⟩
        · obtain rfl : hl = 0 := by omega
          have hH0 : H = [] := List.eq_nil_of_length_eq_zero (by rw [← HHL.out.2, ← HHL.out.1])
          have hka : Ka T out [] M [] := by have := HZ.out.2.2.1; rw [hH0] at this; exact this
          have he1 := HZ.out.2.2.2.2
          have he2 := hka.none HTT.out
          obtain ⟨a7, c7, hv7, hrow7⟩ := HZ.out.1.2.2.1.irow
          rw [ints_len] at hv7
          clear hrow7
          have hrow7 : Own wr w.heap.size u9 (ints out) := HZ.out.1.2.2.1.more (by have := HB1.out.size; omega)
          have hb7 : Below w.heap.size w wr := HB1.out.trans (HZ.out.1.2.2.2.2.1.mono HB1.out.size)
          obtain ⟨ol, hol⟩ : ∃ ol, ol = out.length := ⟨_, rfl⟩
          rw [← hol] at hv7
          rw [hv7] at hrow7
          have H7 := Lib.hid (And.intro he1 (And.intro he2 (And.intro hrow7 (And.intro hb7 hol)))); clear he1 he2 hrow7 hb7 hka hH0 hol
          have holn : ol ≤ n := by have := HKL.out; have h2 := H7.out.2.2.2.2; omega
          subst hv7
          by_cases hlt : ol < n
          · have hltI : (ol : Int) < (n : Int) := by omega
            go_wp2
            go_ret2
            exact ⟨Or.inr ⟨rfl, out, H7.out.1, by rw [← H7.out.2.2.2.2, HL.out]; exact hlt, H7.out.2.1⟩, H7.out.2.2.2.1⟩
          · have hltI : ¬ (ol : Int) < (n : Int) := by omega
            go_wp2
            go_ret2
            refine ⟨Or.inl ⟨a7, c7, out, by rw [← H7.out.2.2.2.2]; rfl, by rw [← H7.out.2.2.2.2]; exact H7.out.2.2.1, H7.out.1, by rw [← H7.out.2.2.2.2, HL.out]; omega⟩, H7.out.2.2.2.1⟩

end Go.Proofs.Ytioebjjnadgdjaa
