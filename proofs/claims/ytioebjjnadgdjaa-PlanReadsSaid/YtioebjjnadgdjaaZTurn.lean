/- What turned tells: of each place which places need it. No condition but bounds. -/
import Derived.Test.YtioebjjnadgdjaaZPlA
import Derived.Test.YtioebjjnadgdjaaZGrAToGrF
namespace Go.Proofs.Ytioebjjnadgdjaa
set_option linter.unusedVariables false
set_option linter.unusedSimpArgs false
set_option maxRecDepth 100000
open Go.RowKit

theorem isPlace_yes (a : Option Addr) (n c : Nat) (J : Int) (w : World) (hn : n ≤ maxLen) (h0 : 0 ≤ J) (h1 : J < n) :
    Calls Try.prog 67 #[.slice a n c, .int .i64 J] w fun e w' => e = .returned (.bool true) ∧ w = w' := by
  unfold maxLen at hn
  go_enter Try.func67, Try.ntmps67
  go_wp2
  go_ret
  exact ⟨rfl, rfl⟩

theorem isPlace_no (a : Option Addr) (n c : Nat) (J : Int) (w : World) (hn : n ≤ maxLen) (h : J < 0 ∨ (n : Int) ≤ J) :
    Calls Try.prog 67 #[.slice a n c, .int .i64 J] w fun e w' => e = .returned (.bool false) ∧ w = w' := by
  unfold maxLen at hn
  by_cases h0 : J < 0
  · go_enter Try.func67, Try.ntmps67
    go_wp2
    go_ret
    exact ⟨rfl, rfl⟩
  · have h1 : (n : Int) ≤ J := by omega
    clear h
    have h0' : 0 ≤ J := by omega
    go_enter Try.func67, Try.ntmps67
    go_wp2
    go_ret
    exact ⟨ret_bool (show decide (J < (n : Int)) = false by rw [decide_eq_false_iff_not]; omega), rfl⟩


/-- block g0 is a row of slices, each a row of the call's own behind g0, no two of them in one block -/
def SRows (w : World) (g0 : Nat) (T : List (List Int)) : Prop :=
  ∃ vs : List Value, w.heap[g0]? = some (.cells vs.toArray 23 (0, 0)) ∧ vs.length = T.length ∧ (∀ j, j < T.length → Own w (g0 + 1) (vs.getD j nilS) (T.getD j [])) ∧
    ∀ i j k, i < T.length → j < T.length → (vs.getD i nilS).ownBlock = some k → (vs.getD j nilS).ownBlock = some k → i = j

theorem SRows.keep {w w' : World} {g0 : Nat} {T : List (List Int)} (h : SRows w g0 T) (hb : Below w.heap.size w w') : SRows w' g0 T := by
  obtain ⟨vs, h1, h2, h3, h4⟩ := h
  exact ⟨vs, (hb.block g0 (Array.getElem?_eq_some_iff.1 h1).1).trans h1, h2, fun j hj => (h3 j hj).below hb (Nat.le_refl _), h4⟩

/-- row j, read, made longer, laid back -/
theorem SRows.at_ {w : World} {g0 : Nat} {T : List (List Int)} (h : SRows w g0 T) {j : Nat} (hj : j < T.length) :
    ∃ v, w.cell? ⟨g0, j, none⟩ = some v ∧ w.frozen? ⟨g0, j, none⟩ = false ∧ Own w (g0 + 1) v (T.getD j []) ∧ g0 < w.heap.size ∧
      ∀ v' w' r, Own w' (g0 + 1) v' r → Only [v.ownBlock] w w' → (v'.ownBlock = v.ownBlock ∨ ∃ k, v'.ownBlock = some k ∧ w.heap.size ≤ k) →
        w'.cell? ⟨g0, j, none⟩ = some v ∧ w'.frozen? ⟨g0, j, none⟩ = false ∧ SRows (w'.setCell ⟨g0, j, none⟩ v') g0 (T.set j r) := by
  obtain ⟨vs, h1, h2, h3, h4⟩ := h
  have hlt : g0 < w.heap.size := (Array.getElem?_eq_some_iff.1 h1).1
  have hjv : j < vs.length := by omega
  have hcell : w.cell? ⟨g0, j, none⟩ = some (vs.getD j nilS) := by rw [cell_of_row w g0 j _ 23 (0, 0) h1]; simp [hjv]
  have hfree : w.frozen? ⟨g0, j, none⟩ = false := frozen_of_row w g0 j _ 23 h1
  refine ⟨vs.getD j nilS, hcell, hfree, h3 j hj, hlt, fun v' w' r ho hb hv => ?_⟩
  have hn : some g0 ∉ [(vs.getD j nilS).ownBlock] := by
    simp only [List.mem_singleton]
    intro e
    have := (h3 j hj).lt e.symm
    omega
  have hb1 : w'.heap[g0]? = some (.cells vs.toArray 23 (0, 0)) := (hb.block g0 hlt hn).trans h1
  refine ⟨(hb.cell (p := ⟨g0, j, none⟩) hlt hn).trans hcell, (hb.frozen (p := ⟨g0, j, none⟩) hlt hn).trans hfree, vs.set j v', ?_, by simp [h2], fun i hi => ?_, fun i i' k hi hi' hk hk' => ?_⟩
  · have := heap_setCell_same w' g0 j _ 23 v' hb1
    rw [this, List.setIfInBounds_toArray]
  · have hi' : i < T.length := by simpa using hi
    by_cases e : j = i
    · subst e
      have e1 : (vs.set j v').getD j nilS = v' := by simp [hjv]
      have e2 : (T.set j r).getD j [] = r := by simp [hj]
      rw [e1, e2]
      exact ho.keep fun k hk => Below.heap_setCell w' _ v' k (by have := ho.lt hk; simp; omega)
    · have e1 : (vs.set j v').getD i nilS = vs.getD i nilS := by simp [e]
      have e2 : (T.set j r).getD i [] = T.getD i [] := by simp [e]
      rw [e1, e2]
      have ho' : Own w' (g0 + 1) (vs.getD i nilS) (T.getD i []) := (h3 i hi').only hb (by
        intro k hk hm
        simp only [List.mem_singleton] at hm
        exact e (h4 j i k hj hi' hm.symm hk))
      exact ho'.keep fun k hk => Below.heap_setCell w' _ v' k (by have := ho'.lt hk; simp; omega)
  · have hi2 : i < T.length := by simpa using hi
    have hi2' : i' < T.length := by simpa using hi'
    have step : ∀ m, m < T.length → j ≠ m → ∀ k, ((vs.set j v').getD m nilS).ownBlock = some k → v'.ownBlock = some k → False := by
      intro m hm hne k hk1 hk2
      have e1 : (vs.set j v').getD m nilS = vs.getD m nilS := by simp [hne]
      rw [e1] at hk1
      rcases hv with e | ⟨k', e, hk'⟩
      · exact hne (h4 j m k hj hm (by rw [← e]; exact hk2) hk1)
      · have := (h3 m hm).lt hk1
        rw [e] at hk2
        injection hk2 with hk2
        omega
    have e0 : (vs.set j v').getD j nilS = v' := by simp [hjv]
    by_cases e : j = i
    · by_cases e' : j = i'
      · omega
      · subst e
        rw [e0] at hk
        exact (step i' hi2' e' k hk' hk).elim
    · by_cases e' : j = i'
      · subst e'
        rw [e0] at hk'
        exact (step i hi2 e k hk hk').elim
      · have e1 : (vs.set j v').getD i nilS = vs.getD i nilS := by simp [e]
        have e2 : (vs.set j v').getD i' nilS = vs.getD i' nilS := by simp [e']
        rw [e1] at hk
        rw [e2] at hk'
        exact h4 i i' k hi2 hi2' hk hk'

theorem SRows.grow {w : World} {g0 : Nat} {T : List (List Int)} (h : SRows w g0 T) (hm : T.length ≤ 1000000) : GRow w w.heap.size (some ⟨g0, 0, none⟩) T.length T.length T := by
  obtain ⟨vs, h1, h2, h3, h4⟩ := h
  refine ⟨rfl, Nat.le_refl _, by unfold maxLen; omega, g0, 0, Or.inl rfl, fun i hi => ⟨(Array.getElem?_eq_some_iff.1 h1).1, ?_⟩⟩
  obtain ⟨a, c, e, hr⟩ := (h3 i hi).irow
  refine ⟨a, _, c, ?_, hr⟩
  rw [Nat.zero_add, cell_of_row w g0 i _ 23 (0, 0) h1, ← e]
  have : i < vs.length := by omega
  simp [this]

/-- make([][]int, n) -/
theorem makeT {w : World} {ops : Array Oper} {rest : List Oper} {o : Oper} {a : Act} {Q : Exit → Act → World → Prop}
    (hg : o.guard = none) (l : Operand) (hop : o.op = Op.makeSlice 58 l l) (L : Int) (n : Nat) (hl : a.eval l = .int .i64 L) (hL : L = (n : Int)) (hn : n ≤ 1000000)
    (hK : ∀ w', SRows w' w.heap.size (List.replicate n []) → Below w.heap.size w w' → wpList Try.prog ops Q rest (a.put o.dst (.slice (some ⟨w.heap.size, 0, none⟩) n n)) w') :
    wpList Try.prog ops Q (o :: rest) a w := by
  refine wpList_plain hg fun K hK' => ?_
  obtain ⟨i, hi, hz0, hz1, hz2⟩ := info_parts Try.info23
  have hr := run_make (P := Try.prog) w 58 23 i (.slice none 0 0) Try.underlying58 hi hz0 .i64 .i64 n n (by omega) (Int.le_refl _) (by rw [hz2]; omega) (by omega)
  simp only [Int.toNat_natCast] at hr
  subst hL
  unfold Oper.wp
  simp [execOp, hop, hl, hr, Result.andThen]
  refine hK' _ _ (hK _ ?_ ((Below.refl _ _).alloc (Nat.le_refl _) _))
  refine ⟨List.replicate n nilS, ?_, by simp, ?_, ?_⟩
  · rw [heap_alloc_new]
    congr 2
    rw [hz1, Nat.mul_one]
    apply Array.ext'
    show (madeCells #[Value.slice none 0 0] n).toList = _
    rw [toList_madeCells_one]
    simp [nilS]
  · intro j hj
    have hj' : j < n := by simpa using hj
    have e1 : (List.replicate n nilS).getD j nilS = nilS := getD_rep _ _ _
    have e2 : (List.replicate n ([] : List Int)).getD j [] = [] := getD_rep _ _ _
    rw [e1, e2]
    exact Own.nil _ _
  · intro i j k hi hj hk
    have e1 : (List.replicate n nilS).getD i nilS = nilS := getD_rep _ _ _
    rw [e1] at hk
    simp [nilS, Value.ownBlock] at hk


/-- what turned tells -/
def TurnPost (G : List (List Int)) (w : World) (e : Ending) (w' : World) : Prop :=
  ∃ g T, e = .returned (.slice (some ⟨g, 0, none⟩) G.length G.length) ∧ GRow w' w'.heap.size (some ⟨g, 0, none⟩) G.length G.length T ∧ Gr.Turn G T ∧ Below w.heap.size w w'

set_option maxHeartbeats 2000000 in
theorem turned_any (a : Option Addr) (n c B : Nat) (G : List (List Int)) (w : World) (hg : GRow w B a n c G) (hB : B ≤ w.heap.size) (hn : n ≤ 1000000) (ht : Gr.tot G ≤ 1000000) :
    Calls Try.prog 49 #[.slice a n c] w (TurnPost G w) := by
  have HL : Hid (G.length = n) := hg.1
  have HG := Lib.hid hg; clear hg
  have HT := Lib.hid ht; clear ht
  go_enter Try.func49, Try.ntmps49
  go_wp2_with (at_make; refine makeT rfl _ rfl _ n rfl rfl (by omega) ?_)
  intro w1 hs1 hb1
  have HS1 := Lib.hid hs1; clear hs1
  obtain ⟨g, hg⟩ : ∃ g, g = w.heap.size := ⟨_, rfl⟩
  rw [← hg] at HS1 ⊢
  have hgw : w.heap.size ≤ g := by omega
  have HGW := Lib.hid hg; clear hg
  go_wp2
  go_loopw [13] (fun t wr => ∃ (i : Nat) (T : List (List Int)), i ≤ n ∧ t = .int .i64 (i : Int) ∧ Hid (SRows wr g T ∧ Gr.TurnAt G i 0 T) ∧ Below w.heap.size w wr) (fun t _ => n - (intOf t).toNat)
  case atStart => exact ⟨0, List.replicate n [], Nat.zero_le _, rfl, ⟨HS1.out, by have := Gr.TurnAt.start G; rw [HL.out] at this; exact this⟩, hb1⟩
  case round =>
    obtain ⟨i, T0, hi, rfl, HZ0, hbr0⟩ := hrel
    by_cases hi0 : i < n
    · obtain ⟨wo, rfl⟩ : ∃ wo : World, wo = wr := ⟨_, rfl⟩
      obtain ⟨b, off, A, L, C, rfl, hb, hcell, hrow⟩ := (HG.out.below (hbr0.mono hB)).at_ hi0
      have hL := hrow.len_le
      unfold maxLen at hL
      have HLr : Hid ((G.getD i []).length = L) := hrow.1
      have HR : Hid (IRow wo B A L C (G.getD i [])) := hrow
      clear hrow
      have HLI : Hid (L ≤ 1000000) := by have h1 := HLr.out; have h2 := Gr.row_le_tot G i; have h3 := HT.out; show _ ≤ _; omega
      have HBo := Lib.hid hbr0; clear hbr0
      go_wp2
      go_loopw [20] (fun t wr => ∃ (p : Nat) (T : List (List Int)), p ≤ L ∧ t = .int .i64 (p : Int) ∧ Hid (SRows wr g T ∧ Gr.TurnAt G i p T) ∧ Below w.heap.size w wr ∧ Hid (Below B wo wr)) (fun t _ => L - (intOf t).toNat)
      case atStart => exact ⟨0, T0, Nat.zero_le _, rfl, HZ0.out, HBo.out, Below.refl _ _⟩
      case round =>
        obtain ⟨p, T, hp, rfl, HZ, hbr, HBr⟩ := hrel
        by_cases hp0 : p < L
        · obtain ⟨b2, off2, rfl, hb2, hcell2⟩ := (HR.out.below HBr.out).at_ hp0
          obtain ⟨X, hX⟩ : ∃ X, X = (G.getD i []).getD p 0 := ⟨_, rfl⟩
          rw [← hX] at hcell2
          have HX := Lib.hid hX; clear hX
          by_cases hval : 0 ≤ X ∧ X < n
          · obtain ⟨hv0, hv1⟩ := hval
            obtain ⟨j, rfl⟩ : ∃ j : Nat, X = (j : Int) := ⟨X.toNat, by omega⟩
            have hj : j < n := by omega
            have hjT : j < T.length := by rw [HZ.out.2.1, HL.out]; exact hj
            obtain ⟨v, hcv, hfv, hov, hgl, hput⟩ := HZ.out.1.at_ hjT
            obtain ⟨a3, c3, hv3⟩ := hov.len
            have hroom := HZ.out.2.room (by rw [HL.out]; exact hi0) (by rw [HLr.out]; omega) j
            have HRO : Hid ((T.getD j []).length ≤ 1000000) := by have := HT.out; show _ ≤ _; omega
            have HPUT := Lib.hid hput; clear hput
            have HOV := Lib.hid hov; clear hov hroom hjT
            have HV3 := Lib.hid hv3; clear hv3
            go_wp2_with fail
            refine (isPlace_yes _ n c (j : Int) wr HG.out.len_le hv0 hv1).mono ?_
            rintro e w' ⟨rfl, rfl⟩
            go_wp2_with (at_builtin; refine appendI rfl _ _ 23 Try.underlying23 rfl (g + 1) v (T.getD j []) (i : Int) _ rfl rfl HOV.out (by omega) (by have := HRO.out; omega) ?_)
            intro v' w2 hown' honly hfr
            obtain ⟨hc2, hf2, hs2⟩ := HPUT.out v' w2 _ hown' honly hfr
            have HS2 := Lib.hid hs2; clear hs2
            have hbel : Below w.heap.size w w2 := hbr.trans (honly.below hbr.size (by
              intro k hk
              simp only [List.mem_singleton] at hk
              have := HOV.out.lt hk.symm
              omega))
            have HBr2 : Hid (Below B wo w2) := HBr.out.trans (honly.below (Nat.le_trans hB hbr.size) (by
              intro k hk
              simp only [List.mem_singleton] at hk
              have := HOV.out.lt hk.symm
              omega))
            obtain ⟨a4, n4, c4, hv4⟩ : ∃ a n c, v' = .slice a n c := by obtain ⟨a4, c4, e⟩ := hown'.len; exact ⟨a4, _, c4, e⟩
            subst hv4
            go_wp2
            go_roundw
            case rel => exact ⟨p + 1, _, by omega, by go_num, ⟨HS2.out, HZ.out.2.add (by rw [HLr.out]; exact hp0) j (by rw [HL.out]; exact hj) HX.out.symm⟩, hbel.setCell (p := ⟨g, j, none⟩) hgw _, HBr2.out.setCell (p := ⟨g, j, none⟩) (show B ≤ g by omega) _⟩
            case measure => simp [intOf]; omega
          · have hnv : X < 0 ∨ (n : Int) ≤ X := by omega
            clear hval
            have HNV := Lib.hid hnv; clear hnv
            go_wp2_with fail
            refine (isPlace_no _ n c X wr HG.out.len_le HNV.out).mono ?_
            rintro e w' ⟨rfl, rfl⟩
            go_wp2
            go_roundw
            case rel => exact ⟨p + 1, T, by omega, by go_num, ⟨HZ.out.1, HZ.out.2.skip (by rw [HLr.out]; exact hp0) (by rw [← HX.out, HL.out]; exact HNV.out)⟩, hbr, HBr.out⟩
            case measure => simp [intOf]; omega
        · obtain rfl : p = L := by omega
          go_wp2
          go_roundw
          case rel => exact ⟨i + 1, T, by omega, by go_num, ⟨HZ.out.1, Gr.TurnAt.next (by rw [HLr.out]; exact HZ.out.2) (by rw [HL.out]; exact hi0)⟩, hbr⟩
          case measure => simp [intOf]; omega
    · obtain rfl : i = n := by omega
      go_wp2
      go_ret
      have hT : Gr.Turn G T0 := Gr.TurnAt.done (by rw [HL.out]; exact HZ0.out.2)
      have hg := HZ0.out.1.grow (by rw [hT.1, HL.out]; exact hn)
      rw [hT.1, HL.out] at hg
      exact ⟨g, T0, by rw [HL.out]; rfl, by rw [HL.out]; exact hg, hT, hbr0⟩

end Go.Proofs.Ytioebjjnadgdjaa
