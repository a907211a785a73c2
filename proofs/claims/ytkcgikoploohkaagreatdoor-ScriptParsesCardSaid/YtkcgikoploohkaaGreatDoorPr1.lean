import Derived.Test.YtkcgikoploohkaaGreatDoorSo4
import Derived.Test.YtkcgikoploohkaaGreatDoorPq4
import Derived.Deep.DeepCutAuto
import Derived.Laws.EntriesVeiled
namespace Go.Proofs.YtkcgikoploohkaaGreatDoor
set_option linter.unusedVariables false
set_option linter.unusedSimpArgs false
set_option maxRecDepth 100000
open Go.RowKit Go.Shelf Nums
theorem TRow.flat {w : World} {b off n c : Nat} {l : List UInt8} (h : TRow w (some ⟨b,off,none⟩) n c l) : ∀ j u,(Lib.byteCells l)[j]? = some u→w.cell? ((⟨b,off,none⟩ : Addr).add j) = some u := by
  obtain ⟨h1,h2,h3,b',off',h4,h5⟩ := h
  intro j u hu
  unfold Lib.byteCells at hu
  rw [List.getElem?_map] at hu
  obtain ⟨x,hx,rfl⟩ := Option.map_eq_some_iff.1 hu
  have hj : j < l.length := (List.getElem?_eq_some_iff.1 hx).1
  have e := h4.resolve_right (by omega)
  injection e with e
  injection e with e1 e2
  subst e1;subst e2
  rw [Go.WideShapes.add_plain]
  exact (h5 j x hx).2
theorem runB (w : World) (ty : TypeId) (g0 : Nat) (hg0 : w.heap[g0]? = some (.cells #[] 5 (0,0))) (a : Option Addr) (n c : Nat) (l : List UInt8) (hr : TRow w a n c l) (hn : n≤2000) :
    ∃ A C w',(Builtin.append_ #[22,22] ty #[.slice (some ⟨g0,0,none⟩) 0 0,.slice a n c]).run Tryz.prog w = .ok (.slice A n C) w'∧TRow w' A n C l∧Below g0 w w' := by
  obtain ⟨i0,hi,hz0,hz1,hz2⟩ := info_parts Tryz.info5
  have hlt : g0 < w.heap.size := (Array.getElem?_eq_some_iff.1 hg0).1
  have hown0 : w.ownsRow g0 5 1 (.slice (some ⟨g0,0,none⟩) 0 0) 0 [] := ⟨rfl,.inr ⟨g0,0,#[],rfl,Nat.le_refl _,hg0,Nat.le_refl _,by unfold maxLen;decide,rfl,rfl⟩⟩
  have hnl := hr.1
  rcases Nat.eq_zero_or_pos n with h0 | h0
  · subst h0
    obtain rfl := List.eq_nil_of_length_eq_zero hnl
    refine ⟨some ⟨g0,0,none⟩,0,w, ?_,⟨rfl,Nat.le_refl _,by unfold maxLen;decide,0,0,.inr (Nat.le_refl _),fun i x hx => by cases hx⟩,Below.refl _ _⟩
    cases a <;> simp [Builtin.append_,run_underlying Tryz.underlying22,sizeOf,typeInfo,hi,hz0,Builtin.lenOf,Builtin.firstCells,loadCells,loadCellsFrom,storeCells,Sem.run_pure]
  · obtain ⟨b,off,ha⟩ : ∃ b off,a = some ⟨b,off,none⟩ := by
      obtain ⟨_,_,_,b,off,h4,_⟩ := hr
      exact ⟨b,off,h4.resolve_right (by omega)⟩
    subst ha
    have hf := hr.flat
    have hlen : (Lib.byteCells l).length = n := by rw [Lib.byteCells_length];exact hnl
    have hone : ∀ u∈Lib.byteCells l,u.oneCell' = true := by
      intro u hu
      unfold Lib.byteCells at hu
      obtain ⟨x,-,rfl⟩ := List.mem_map.1 hu
      rfl
    obtain ⟨v',w',h1,h2,h3,h4,h5⟩ := run_append_own_at (P := Tryz.prog) w g0 22 ty 5 i0 _ 1 1 Tryz.underlying22 hi hz0 hz1 hz2 rfl (by decide) (.slice (some ⟨g0,0,none⟩) 0 0) 0 [] hown0 ⟨b,off,none⟩ n c (Lib.byteCells l) (by rw [hlen];omega) hf hone (by unfold maxLen;omega) (by omega) (by omega)
    have h6 : w'.ownsRow g0 5 1 v' n (Lib.byteCells l) := by simpa using h2
    obtain ⟨A,n',C,hv,ht⟩ := trow_own h6
    have hn' : n' = n := ht.1.symm.trans hnl
    subst hn'
    subst hv
    refine ⟨A,C,w',h1,ht, ?_⟩
    have ho := Only.of_grown h3
    exact ho.below (Nat.le_of_lt hlt) (fun j hj => by
      obtain rfl : j = g0 := by simpa [Value.ownBlock] using hj
      exact Nat.le_refl _)
theorem appendB {w : World} {ops : Array Oper} {rest : List Oper} {o : Oper} {a : Act} {Q : Exit→Act→World→Prop} (hgd : o.guard = none) (s x : Operand)
    (hop : o.op = .call { callee := .builtin .append,args := #[s,x],argTypes := #[22,22] })
    (g0 : Nat) (A0 : Option Addr) (n c : Nat) (l : List UInt8) (hs : a.eval s = .slice (some ⟨g0,0,none⟩) 0 0) (hx : a.eval x = .slice A0 n c) (hg0 : w.heap[g0]? = some (.cells #[] 5 (0,0))) (hr : TRow w A0 n c l) (hn : n≤2000)
    (hK : ∀ A C w',TRow w' A n C l→Below g0 w w'→wpList Tryz.prog ops Q rest (a.put o.dst (.slice A n C)) w') :
    wpList Tryz.prog ops Q (o :: rest) a w := by
  refine wpList_plain hgd fun K hK' => ?_
  obtain ⟨A,C,w',hr',h2,h3⟩ := runB w o.type g0 hg0 A0 n c l hr hn
  unfold Oper.wp execOp
  simp only [hop,resolve,invoke,builtin,Sem.run_bind,Sem.run_pure,Result.andThen_ok,List.map_toArray,List.map_cons,List.map_nil,hs,hx,hr']
  exact hK' _ _ (hK A C w' h2 h3)
theorem sv0_is (w : World) : sv0.Is 0 [] w := ⟨rv0_is w,rfl,Nat.le_refl _,by decide,0,0,.inr (Nat.le_refl _),fun i x hx => by cases hx⟩
theorem scriptParses_walk (a : Option Addr) (n c : Nat) (l : List UInt8) (w : World) (hg : Gl w) (ht : TRow w a n c l) : Calls Tryz.prog 3 #[.slice a n c] w (fun e w' => e = .returned (.bool true)∧Below w.heap.size w w') := by
  have HG := Lib.hid hg
  have HT := Lib.hid ht
  have hll := ht.1
  have hcm : c≤9223372036854775807 := by have := ht.2.2.1;unfold maxLen at this;omega
  have hnc := ht.2.1
  by_cases hn : 2000 < n
  · have hnI : (2000 : Int) < (n : Int) := by omega
    clear hn ht hg hll
    go_enter Tryz.func3,Tryz.ntmps3
    go_wp2
    go_ret
    exact ⟨rfl,Below.refl _ _⟩
  have hnI : ¬ (2000 : Int) < (n : Int) := by omega
  have hnv : n≤2000 := by omega
  have hn6 : n≤65536 := by omega
  have HLL := Lib.hid (show l.length≤2000 by omega)
  clear hn ht hg hll
  cases hP : parseM numS l with
  | inl k =>
    have HPM := Lib.hid hP
    clear hP
    go_enter Tryz.func3,Tryz.ntmps3
    go_upto_region 4 with (first
      | (at_builtin;have hb9 := below_one w (.cells #[] 5);refine appendB rfl _ _ rfl w.heap.size a n c l rfl rfl (Blk.new w 5 #[]) (HT.out.later hb9) hnv ?_;intro A1 C1 w1 ht1 hb1;have HB1 := Lib.hid (hb9.trans hb1);have HT1 := Lib.hid ht1;have HTA := Lib.hid (HT.out.later HB1.out);have HG1 := Lib.hid (HG.out.later HB1.out);clear ht1 hb1 hb9)
      | (go_at_call 8;have hp := parse_run A1 n C1 l w1 HG1.out HT1.out hn6;rw [HPM.out] at hp;(with_reducible refine hp.mono ?_);clear hp;rintro e w2 ⟨rfl,hb⟩;replace HTA := Lib.hid (HTA.out.later hb);replace HG1 := Lib.hid (HG1.out.later hb);replace HB1 := Lib.hid (bthen HB1.out hb);clear hb HT1))
    obtain ⟨W3,hW3⟩ : ∃ W3,W3 = w2.alloc (.cells #[.bool false,.slice none 0 0,.slice none 0 0,.int .i64 0,.int .i64 0,.slice none 0 0] 30) := ⟨_,rfl⟩
    rw [←hW3]
    have hb : Below w2.heap.size w2 W3 := by rw [hW3];exact below_one _ _
    have HS := Lib.hid (show SBlk W3 w2.heap.size sv0 by rw [hW3];exact Blk.new _ _ _)
    replace HTA := Lib.hid (HTA.out.later hb);replace HG1 := Lib.hid (HG1.out.later hb);replace HB1 := Lib.hid (bthen HB1.out hb)
    obtain ⟨g,hg⟩ : ∃ g,w2.heap.size = g := ⟨_,rfl⟩
    rw [hg] at HS ⊢
    clear hW3 hb hg
    go_upto_region 5 with (go_at_call 9;have hp := rparse_run a n c l W3 HG1.out HTA.out hnv;rw [HPM.out] at hp;(with_reducible refine hp.mono ?_);clear hp;rintro e w4 ⟨rfl,hb⟩;replace HS := Lib.hid (SBlk.later HS.out hb);replace HG1 := Lib.hid (HG1.out.later hb);replace HB1 := Lib.hid (bthen HB1.out hb);clear hb HTA)
    obtain ⟨W5,hW5⟩ : ∃ W5,W5 = w4.alloc (.cells #[.bool false,.slice none 0 0,.slice none 0 0,.int .i64 0,.int .i64 0,.slice none 0 0] 30) := ⟨_,rfl⟩
    rw [←hW5]
    have hb : Below w4.heap.size w4 W5 := by rw [hW5];exact below_one _ _
    have HS2 := Lib.hid (show SBlk W5 w4.heap.size sv0 by rw [hW5];exact Blk.new _ _ _)
    replace HS := Lib.hid (SBlk.later HS.out hb);replace HG1 := Lib.hid (HG1.out.later hb);replace HB1 := Lib.hid (bthen HB1.out hb)
    clear hW5 hb
    obtain ⟨p0,p1,p2,p3,p4,p5⟩ := HS.out.cells
    obtain ⟨s0,s1,s2,s3,s4,s5⟩ := HS2.out.cells
    have HSM := Lib.hid (show Calls Tryz.prog 10 #[.agg #[.bool false,.slice none 0 0,.slice none 0 0,.int .i64 0,.int .i64 0,.slice none 0 0],.agg #[.bool false,.slice none 0 0,.slice none 0 0,.int .i64 0,.int .i64 0,.slice none 0 0]] W5 (fun e w' => e = .returned (.bool true)∧Below W5.heap.size W5 w') from same_yes sv0 sv0 0 [] [] W5 (sv0_is W5) (sv0_is W5) rfl rfl rfl ⟨Nat.zero_le _,Nat.zero_le _⟩ ⟨Nat.zero_le _,Nat.zero_le _⟩ (fun x hx => by cases hx) (fun x hx => by cases hx))
    unfold sv0 rv0 at p0 p1 p2 p3 p4 p5 s0 s1 s2 s3 s4 s5
    dsimp only at p0 p1 p2 p3 p4 p5 s0 s1 s2 s3 s4 s5
    go_wp2_with (first
      | (go_at_call 10;(with_reducible refine HSM.out.mono ?_);rintro e w6 ⟨rfl,hb⟩;replace HG1 := Lib.hid (Gl.later HG1.out hb);replace HB1 := Lib.hid (bthen HB1.out hb);clear hb)
      | (go_at_call 11;(with_reducible refine (awake_t _ HG1.out).mono ?_);rintro e w7 ⟨rfl,hb⟩;replace HB1 := Lib.hid (bthen HB1.out hb);clear hb))
    go_ret
    exact ⟨rfl,HB1.out⟩
  | inr S =>
    have HPM := Lib.hid hP
    have HO := Lib.hid (parse_facts HG.out HLL.out hP)
    clear hP
    go_enter Tryz.func3,Tryz.ntmps3
    go_upto_region 4 with (first
      | (at_builtin;have hb9 := below_one w (.cells #[] 5);refine appendB rfl _ _ rfl w.heap.size a n c l rfl rfl (Blk.new w 5 #[]) (HT.out.later hb9) hnv ?_;intro A1 C1 w1 ht1 hb1;have HB1 := Lib.hid (hb9.trans hb1);have HT1 := Lib.hid ht1;have HTA := Lib.hid (HT.out.later HB1.out);have HG1 := Lib.hid (HG.out.later HB1.out);clear ht1 hb1 hb9)
      | (go_at_call 8;have hp := parse_run A1 n C1 l w1 HG1.out HT1.out hn6;rw [HPM.out] at hp;(with_reducible refine hp.mono ?_);clear hp;rintro e w2 ⟨v,xs,rfl,hv,hf,hx,e1,e2,e3,hb⟩;replace HTA := Lib.hid (HTA.out.later hb);replace HG1 := Lib.hid (HG1.out.later hb);replace HB1 := Lib.hid (bthen HB1.out hb);have HV := Lib.hid hv;have HH := Lib.hid (once_h HO.out hf);have HX := Lib.hid (once_lims HO.out e3 hx);have HE := Lib.hid (show v.cas = S.cas∧v.bits = S.bits∧xs.map CM.told = S.ch from ⟨e1,e2,e3⟩);clear hv hf hx e1 e2 e3 hb HT1))
    obtain ⟨W3,hW3⟩ : ∃ W3,W3 = w2.alloc (.cells #[.bool v.h.s,.slice v.h.a v.h.n v.h.c,.slice v.h.b v.h.m v.h.d,.int .i64 v.cas,.int .i64 v.bits,.slice v.a v.n v.c] 30) := ⟨_,rfl⟩
    rw [←hW3]
    have hb : Below w2.heap.size w2 W3 := by rw [hW3];exact below_one _ _
    have HS := Lib.hid (show SBlk W3 w2.heap.size v by rw [hW3];exact Blk.new _ _ _)
    replace HV := Lib.hid (SV.Is.later HV.out hb)
    replace HTA := Lib.hid (HTA.out.later hb);replace HG1 := Lib.hid (HG1.out.later hb);replace HB1 := Lib.hid (bthen HB1.out hb)
    obtain ⟨g,hg⟩ : ∃ g,w2.heap.size = g := ⟨_,rfl⟩
    rw [hg] at HS ⊢
    clear hW3 hb hg
    go_upto_region 5 with (go_at_call 9;have hp := rparse_run a n c l W3 HG1.out HTA.out hnv;rw [HPM.out] at hp;(with_reducible refine hp.mono ?_);clear hp;rintro e w4 ⟨u,ys,rfl,hu,hf,hx,e1,e2,e3,hb⟩;replace HS := Lib.hid (SBlk.later HS.out hb);replace HV := Lib.hid (SV.Is.later HV.out hb);replace HG1 := Lib.hid (HG1.out.later hb);replace HB1 := Lib.hid (bthen HB1.out hb);have HU := Lib.hid hu;have HH2 := Lib.hid (once_h HO.out hf);have HX2 := Lib.hid (once_lims HO.out e3 hx);have HE2 := Lib.hid (show u.cas = S.cas∧u.bits = S.bits∧ys.map CM.told = S.ch from ⟨e1,e2,e3⟩);clear hu hf hx e1 e2 e3 hb HTA)
    obtain ⟨W5,hW5⟩ : ∃ W5,W5 = w4.alloc (.cells #[.bool u.h.s,.slice u.h.a u.h.n u.h.c,.slice u.h.b u.h.m u.h.d,.int .i64 u.cas,.int .i64 u.bits,.slice u.a u.n u.c] 30) := ⟨_,rfl⟩
    rw [←hW5]
    have hb : Below w4.heap.size w4 W5 := by rw [hW5];exact below_one _ _
    have HS2 := Lib.hid (show SBlk W5 w4.heap.size u by rw [hW5];exact Blk.new _ _ _)
    replace HU := Lib.hid (SV.Is.later HU.out hb)
    replace HV := Lib.hid (SV.Is.later HV.out hb)
    replace HS := Lib.hid (SBlk.later HS.out hb);replace HG1 := Lib.hid (Gl.later HG1.out hb);replace HB1 := Lib.hid (bthen HB1.out hb)
    clear hW5 hb
    obtain ⟨p0,p1,p2,p3,p4,p5⟩ := HS.out.cells
    obtain ⟨s0,s1,s2,s3,s4,s5⟩ := HS2.out.cells
    have HQ1 := Lib.hid (show v.cas = u.cas∧v.bits = u.bits∧xs.map CM.told = ys.map CM.told from ⟨HE.out.1.trans HE2.out.1.symm,HE.out.2.1.trans HE2.out.2.1.symm,HE.out.2.2.trans HE2.out.2.2.symm⟩)
    go_wp2_with (first
      | (go_at_call 10;(with_reducible refine (same_yes v u S.h xs ys _ HV.out HU.out HQ1.out.1 HQ1.out.2.1 HQ1.out.2.2 HH.out HH2.out (fun x hx => by have := HX.out x hx;omega) (fun x hx => by have := HX2.out x hx;omega)).mono ?_);rintro e w6 ⟨rfl,hb⟩;replace HG1 := Lib.hid (Gl.later HG1.out hb);replace HB1 := Lib.hid (bthen HB1.out hb);clear hb)
      | (go_at_call 11;(with_reducible refine (awake_t _ HG1.out).mono ?_);rintro e w7 ⟨rfl,hb⟩;replace HB1 := Lib.hid (bthen HB1.out hb);clear hb))
    go_ret
    exact ⟨rfl,HB1.out⟩
end Go.Proofs.YtkcgikoploohkaaGreatDoor
