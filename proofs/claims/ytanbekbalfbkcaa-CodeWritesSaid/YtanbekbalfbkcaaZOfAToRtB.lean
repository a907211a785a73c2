/- Plain parts of plans: last places, slots by variable, what a right plan is. No condition. · What isEachOnce and areSlots tell. No condition but bounds. · What areBehind and areApart tell. No condition but bounds. -/
import Derived.Test.YtanbekbalfbkcaaZLoMToPlanM
import Derived.Test.YtanbekbalfbkcaaZLiv
import Derived.Test.YtanbekbalfbkcaaZCnD
import Derived.Test.YtanbekbalfbkcaaZCdAToCdD
import Derived.Deep.RegionHeld3
import Derived.Laws.ResultCell
import Derived.Laws.Rows
import Derived.Deep.DeepCutAuto
import Derived.Test.YtanbekbalfbkcaaZPlBToPlD
import Derived.Maps.OwnSet
import Derived.Maps.Views
import Derived.BigRegion
namespace Go.Proofs.Ytanbekbalfbkcaa
set_option linter.unusedVariables false
set_option linter.unusedSimpArgs false
set_option maxRecDepth 100000
open Go.RowKit Gr

def LaIs (la : Nat → Nat) (n : Nat) (lv : List Int) : Prop := lv.length = n * 2 ∧ ∀ v, v < n → lv.getD (v * 2 + 1) 0 = (la v : Int)
def OutI (o : List Int) (n i : Nat) (sls : List Nat) (xs : List Int) : Prop := xs.length = n ∧ ∀ k, k < i → ∀ v : Nat, o.getD k 0 = (v : Int) → xs.getD v 0 = (sls.getD k 0 : Nat)
theorem OutI.add {o : List Int} {n i v s : Nat} {sls : List Nat} {xs : List Int} (h : OutI o n i sls xs) (ho : Once o n) (hi : i < n) (hl : sls.length = i) (hv : o.getD i 0 = (v : Int)) (hvn : v < n) : OutI o n (i + 1) (sls ++ [s]) (xs.set v (s : Int)) := by
  refine ⟨by rw [List.length_set]; exact h.1, fun k hk u hu => ?_⟩
  rw [getD_set _ _ _ _ (by rw [h.1]; exact hvn), getD_snoc]
  by_cases e : k = i
  · subst e
    have : u = v := by rw [hv] at hu; omega
    rw [if_pos this, if_neg (by omega), if_pos hl.symm]
  · have : u ≠ v := fun q => e (nd_inj ho.nd (by rw [ho.len]; omega) (by rw [ho.len]; omega) (by rw [hu, hv, q]))
    rw [if_neg this, if_pos (by omega)]
    exact h.2 k (by omega) u hu
def Lpl (la : Nat → Nat) (o : List Int) (i : Nat) : Nat := la (o.getD i 0).toNat
theorem lst_once {G : List (List Int)} {out : List Nat} {n : Nat} (h : IsLst G out) (hl : out.length = n) (hG : G.length = n) : Once (ints out) n where
  len := by rw [ints_len]; exact hl
  pl := fun x hx => by
    obtain ⟨y, hy, rfl⟩ := List.mem_map.1 hx
    have := h.lt y hy
    omega
  nd := intsN_nd _ h.nd
/-- the last places as plain numbers -/
def laF (f : FlatM) (o : List Int) (v : Nat) : Nat := (lastV (gOf f) (endB f) o v).toNat
theorem lastTo_ge (G : List (List Int)) (o : List Int) (x : Nat) : ∀ k, plc o (x : Int) ≤ lastTo G o x k
  | 0 => Int.le_refl _
  | k + 1 => by
    have := lastTo_ge G o x k
    unfold lastTo
    split <;> omega
theorem lastV_ge {f : FlatM} {o : List Int} {n v : Nat} (ho : Once o n) (hv : v < n) : plc o (v : Int) ≤ lastV (gOf f) (endB f) o v := by
  obtain ⟨i, hi, e1, e2⟩ := ho.plc hv
  unfold lastV
  split
  · rw [e1, ho.len]; omega
  · exact lastTo_ge _ _ _ _
theorem laF_eq {f : FlatM} {o : List Int} {n v : Nat} (ho : Once o n) (hv : v < n) : (laF f o v : Int) = lastV (gOf f) (endB f) o v := by
  obtain ⟨i, hi, e1, e2⟩ := ho.plc hv
  have := lastV_ge (f := f) ho hv
  unfold laF
  omega
theorem Lives.la {f : FlatM} {o : List Int} {n : Nat} {xs : List Int} (h : Lives f o n xs) (ho : Once o n) : LaIs (laF f o) n xs :=
  ⟨h.len, fun v hv => by rw [h.lst v hv, laF_eq ho hv]⟩
theorem lpl_ge {f : FlatM} {o : List Int} {n : Nat} (ho : Once o n) : ∀ i, i < n → i ≤ Lpl (laF f o) o i := by
  intro i hi
  obtain ⟨u, hu, e⟩ := ho.get hi
  have h1 := ho.plc_get hi
  rw [e] at h1
  have h2 := lastV_ge (f := f) ho hu
  have h3 := laF_eq (f := f) ho hu
  unfold Lpl
  rw [e]
  simp only [Int.toNat_natCast]
  omega

/-- a plan in memory -/
def planV (A : Option Addr) (n c : Nat) (A2 : Option Addr) (n2 c2 : Nat) (S : Int) : Value := .agg #[.slice A n c, .slice A2 n2 c2, .int .i64 S]
/-- a plan as 14.1 says -/
structure IsPlan (f : FlatM) (n : Nat) (out : List Nat) (xs : List Int) (S : Nat) : Prop where
  lst : IsLst (gOf f) out
  len : out.length = n
  once : Once (ints out) n
  slots : ∃ sls hs, Lo (Lpl (laF f (ints out)) (ints out)) n S sls hs ∧ OutI (ints out) n n sls xs
theorem own_row {w : World} {B : Nat} {A : Option Addr} {n c : Nat} {xs : List Int} (h : Own w B (.slice A n c) xs) : IRow w w.heap.size A n c xs := by
  obtain ⟨a, c', e, hr⟩ := h.irow
  injection e with e1 e2 e3
  subst e1 e2 e3
  exact hr
theorem Try.info32 : (Try.prog.info? 32).map (·.size) = some 3 := by kernel_rfl
/-- a function whose first result lies in a plan's cell returns -/
theorem ret_plan {fn : Func} {p u : Tmp} (h : fn.results = #[.cell p 32, .tmp u]) {a : Act} {w : World} {R : Ending → World → Prop} (g : Nat) (x y z : Value) (hg : Blk w g 32 #[x, y, z]) (hp : a.tmps.getD p undef = .pointer (some ⟨g, 0, none⟩)) (hd : a.defers = [])
    (hR : R (.returned (.tuple #[.agg #[x, y, z], a.tmps.getD u undef])) w) : bodyPost Try.prog fn R .ret a w := by
  refine bodyPost_ret_by (v := .tuple #[.agg #[x, y, z], a.tmps.getD u undef]) ?_ hd hR
  rw [results_cell_tmp h, hp]
  have := run_loadVar_row (P := Try.prog) w g 32 32 #[x, y, z] (0, 0) _ hg Try.underlying32 rfl Try.info32
  simp [asAddr, Result.andThen, this]
theorem Blk.put3 {w : World} {g T : Nat} {a b c : Value} (h : Blk w g T #[a, b, c]) (x y z : Value) : Blk (((w.setCell ⟨g, 0, none⟩ x).setCell ⟨g, 1, none⟩ y).setCell ⟨g, 2, none⟩ z) g T #[x, y, z] := by
  have h1 : Blk w g T [a, b, c].toArray := h
  exact ((h1.put 0 x).put 1 y).put 2 z

end Go.Proofs.Ytanbekbalfbkcaa

namespace Go.Proofs.Ytanbekbalfbkcaa
set_option linter.unusedVariables false
set_option linter.unusedSimpArgs false
set_option maxRecDepth 100000
open Go.RowKit

/-- a call that tells whether P holds, and leaves what was -/
def TellsIf (P : Prop) (w : World) (e : Ending) (w' : World) : Prop := (∃ b, e = .returned (.bool b) ∧ (b = true ↔ P)) ∧ Below w.heap.size w w'
theorem TellsIf.no {P : Prop} {w w' : World} (h : ¬ P) (hb : Below w.heap.size w w') : TellsIf P w (.returned (.bool false)) w' := ⟨⟨false, rfl, by simp [h]⟩, hb⟩
theorem TellsIf.yes {P : Prop} {w w' : World} (h : P) (hb : Below w.heap.size w w') : TellsIf P w (.returned (.bool true)) w' := ⟨⟨true, rfl, by simp [h]⟩, hb⟩
theorem TellsIf.dec {P Q : Prop} [Decidable Q] {w w' : World} (h : Q ↔ P) (hb : Below w.heap.size w w') : TellsIf P w (.returned (.bool (decide Q))) w' := ⟨⟨_, rfl, by rw [decide_eq_true_eq]; exact h⟩, hb⟩
theorem get_of_lt {l : List Int} {k : Nat} (h : k < l.length) : l[k]? = some (l.getD k 0) := by simp [h]
theorem nd_snoc {l : List Int} {x : Int} (h : l.Nodup) (hx : x ∉ l) : (l ++ [x]).Nodup :=
  List.nodup_append.2 ⟨h, by simp, fun a ha b hb e => by simp at hb; subst hb; subst e; exact hx ha⟩

set_option maxHeartbeats 1000000 in
theorem once_t (A : Option Addr) (m c B n : Nat) (o : List Int) (w : World) (h : IRow w B A m c o) (hB : B ≤ w.heap.size) (hn : n ≤ 1000000) :
    Calls Try.prog 30 #[.slice A m c, .int .i64 (n : Int)] w (TellsIf (Once o n) w) := by
  have hm := h.len_le
  unfold maxLen at hm
  have HL : Hid (o.length = m) := Lib.hid h.1
  have HR := Lib.hid h
  clear h
  go_enter Try.func30, Try.ntmps30
  go_wp2_with (at_make; refine makeB rfl _ rfl _ n rfl rfl (by omega) ?_)
  intro w1 hm1 hb1
  obtain ⟨g, hg⟩ : ∃ g, g = w.heap.size := ⟨_, rfl⟩
  rw [← hg] at hm1 hb1 ⊢
  have HM1 := Lib.hid hm1
  have HB1 := Lib.hid hb1
  have HBg : Hid (B ≤ g) := Lib.hid (by omega)
  have HG := Lib.hid hg
  clear hm1 hb1 hg
  go_wp2_with fail
  go_loopw [12] (fun t wr => ∃ k : Nat, k ≤ m ∧ t = .int .i64 k ∧ Hid (∃ bs, BMem wr g bs ∧ EMarks n o k bs ∧ (∀ x ∈ o.take k, 0 ≤ x ∧ x < (n : Int)) ∧ (o.take k).Nodup) ∧ Hid (Below g w wr)) (fun t _ => m - (intOf t).toNat)
  case atStart => exact ⟨0, Nat.zero_le _, rfl, Lib.hid ⟨_, HM1.out, EMarks.start n o, by simp, by simp⟩, HB1⟩
  case round =>
    obtain ⟨k, hk, rfl, hz, hbr⟩ := hrel
    obtain ⟨bs, hbs, hem, hpl, hnd⟩ := hz.out
    have HBS := Lib.hid hbs
    have HEM := Lib.hid hem
    have HPN := Lib.hid (And.intro hpl hnd)
    clear hbs hem hpl hnd hz
    by_cases hlt : k < m
    · obtain ⟨b, off, rfl, hlb, hcell⟩ := (HR.out.below (hbr.out.mono HBg.out)).at_ hlt
      have hkl : k < o.length := by rw [HL.out]; exact hlt
      obtain ⟨X, hX⟩ : ∃ X, X = o.getD k 0 := ⟨_, rfl⟩
      rw [← hX] at hcell
      have HX : Hid (o[k]? = some X) := Lib.hid (by rw [hX]; exact get_of_lt hkl)
      have HXM : Hid (X ∈ o) := Lib.hid (by rw [hX]; exact getD_mem hkl)
      have HTK : Hid (o.take (k + 1) = o.take k ++ [X]) := Lib.hid (by rw [List.take_add_one, HX.out]; rfl)
      clear hX
      by_cases hX0 : X < 0
      · go_wp2
        go_ret
        exact TellsIf.no (fun q => by have := q.pl X HXM.out; omega) (by rw [← HG.out]; exact hbr.out)
      · by_cases hX1 : (n : Int) ≤ X
        · go_wp2
          go_ret
          exact TellsIf.no (fun q => by have := q.pl X HXM.out; omega) (by rw [← HG.out]; exact hbr.out)
        · obtain ⟨j, rfl⟩ : ∃ j : Nat, X = (j : Int) := ⟨X.toNat, by omega⟩
          have hj : j < n := by omega
          have kc := HBS.out.cell j (by rw [HEM.out.1]; exact hj)
          have kf := HBS.out.free j
          rw [HEM.out.2 j hj] at kc
          have hjI : (j : Int) < (n : Int) := by omega
          by_cases hmem : (j : Int) ∈ o.take k
          · have hd : decide ((j : Int) ∈ o.take k) = true := by simpa using hmem
            rw [hd] at kc
            have HMM := Lib.hid hmem
            clear hmem hd
            go_wp2
            go_ret
            refine TellsIf.no (fun q => ?_) (by rw [← HG.out]; exact hbr.out)
            have := q.nd.sublist (List.take_sublist (k + 1) o)
            rw [HTK.out] at this
            exact (List.nodup_append.1 this).2.2 _ HMM.out _ (by simp) rfl
          · have hd : decide ((j : Int) ∈ o.take k) = false := by simpa using hmem
            rw [hd] at kc
            have HMM := Lib.hid hmem
            clear hmem hd
            go_wp2
            go_roundw
            case rel => exact ⟨k + 1, by omega, by go_num, Lib.hid ⟨_, HBS.out.set j true, HEM.out.step HX.out j rfl, by
              rw [HTK.out]
              intro x hx
              rcases List.mem_append.1 hx with q | q
              · exact HPN.out.1 x q
              · simp at q; subst q; omega, by rw [HTK.out]; exact nd_snoc HPN.out.2 HMM.out⟩, Lib.hid (hbr.out.setCell (p := ⟨g, j, none⟩) (Nat.le_refl _) _)⟩
            case measure => simp [intOf]; omega
    · obtain rfl : k = m := by omega
      have HD : Hid (((k : Int) == (n : Int)) = decide (k = n)) := Lib.hid (by
        by_cases e : k = n
        · subst e; simp
        · have : ¬ (k : Int) = (n : Int) := by omega
          simp [e, this])
      have HT : Hid (k = n ↔ Once o n) := Lib.hid (by
        have h1 := HPN.out.1
        have h2 := HPN.out.2
        rw [List.take_of_length_le (by rw [HL.out]; exact Nat.le_refl _)] at h1 h2
        exact ⟨fun e => ⟨HL.out.trans e, h1, h2⟩, fun q => HL.out.symm.trans q.len⟩)
      go_wp2
      go_ret
      have := TellsIf.dec (w := w) (w' := wr) HT.out (by rw [← HG.out]; exact hbr.out)
      rw [← HD.out] at this
      exact this

set_option maxHeartbeats 1000000 in
theorem areSlots_t (A A2 : Option Addr) (m c m2 c2 B n : Nat) (S : Int) (l : List Int) (w : World) (h : IRow w B A2 m2 c2 l) (hB : B ≤ w.heap.size) :
    Calls Try.prog 31 #[planV A m c A2 m2 c2 S, .int .i64 (n : Int)] w (TellsIf (l.length = n ∧ ∀ x ∈ l, 0 ≤ x ∧ x < S) w) := by
  have hm := h.len_le
  unfold maxLen at hm
  have HL : Hid (l.length = m2) := Lib.hid h.1
  obtain ⟨W1, hW1⟩ : ∃ W1, W1 = w.alloc (.cells #[.slice A m c, .slice A2 m2 c2, .int .i64 S] 32) := ⟨_, rfl⟩
  have HB1 : Hid (Below w.heap.size w W1) := Lib.hid (by rw [hW1]; exact (Below.refl _ _).alloc (Nat.le_refl _) _)
  have HK : Hid (Blk W1 w.heap.size 32 #[.slice A m c, .slice A2 m2 c2, .int .i64 S]) := Lib.hid (by rw [hW1]; exact Blk.new _ _ _)
  have HR := Lib.hid (h.below (HB1.out.mono hB))
  clear h
  have r0 := HK.out.cell 0 rfl
  have r1 := HK.out.cell 1 rfl
  have r2 := HK.out.cell 2 rfl
  unfold planV
  go_enter Try.func31, Try.ntmps31
  go_upto_region 1 with fail
  rw [← hW1]
  clear hW1
  go_wp2_with fail
  go_loop [10] (fun t => ∃ k : Nat, k ≤ m2 ∧ t = .int .i64 k ∧ Hid (∀ x ∈ l.take k, 0 ≤ x ∧ x < S)) (fun t => m2 - (intOf t).toNat)
  case atStart => exact ⟨0, Nat.zero_le _, rfl, Lib.hid (by simp)⟩
  case round =>
    obtain ⟨k, hk, rfl, hz⟩ := hrel
    by_cases hlt : k < m2
    · obtain ⟨b, off, rfl, hlb, hcell⟩ := HR.out.at_ hlt
      have hkl : k < l.length := by rw [HL.out]; exact hlt
      obtain ⟨X, hX⟩ : ∃ X, X = l.getD k 0 := ⟨_, rfl⟩
      rw [← hX] at hcell
      have HXM : Hid (X ∈ l) := Lib.hid (by rw [hX]; exact getD_mem hkl)
      have HTK : Hid (l.take (k + 1) = l.take k ++ [X]) := Lib.hid (by rw [List.take_add_one, get_of_lt hkl, ← hX]; rfl)
      clear hX
      by_cases hX0 : X < 0
      · go_wp2
        go_ret
        exact TellsIf.no (fun q => by have := q.2 X HXM.out; omega) HB1.out
      · by_cases hX1 : S ≤ X
        · go_wp2
          go_ret
          exact TellsIf.no (fun q => by have := q.2 X HXM.out; omega) HB1.out
        · have hX2 : X < S := by omega
          have hX3 : 0 ≤ X := by omega
          go_wp2
          go_round
          case rel => exact ⟨k + 1, by omega, by go_num, Lib.hid (by
            rw [HTK.out]
            intro x hx
            rcases List.mem_append.1 hx with q | q
            · exact hz.out x q
            · simp at q; subst q; exact ⟨hX3, hX2⟩)⟩
          case measure => simp [intOf]; omega
    · obtain rfl : k = m2 := by omega
      have HD : Hid (((k : Int) == (n : Int)) = decide (k = n)) := Lib.hid (by
        by_cases e : k = n
        · subst e; simp
        · have : ¬ (k : Int) = (n : Int) := by omega
          simp [e, this])
      have HT : Hid (k = n ↔ l.length = n ∧ ∀ x ∈ l, 0 ≤ x ∧ x < S) := Lib.hid (by
        have h1 := hz.out
        rw [List.take_of_length_le (by rw [HL.out]; exact Nat.le_refl _)] at h1
        rw [HL.out]
        exact ⟨fun e => ⟨e, h1⟩, fun q => q.1⟩)
      go_wp2
      go_ret
      have := TellsIf.dec (w := w) HT.out HB1.out
      rw [← HD.out] at this
      exact this

end Go.Proofs.Ytanbekbalfbkcaa

namespace Go.Proofs.Ytanbekbalfbkcaa
set_option linter.unusedVariables false
set_option linter.unusedSimpArgs false
set_option maxRecDepth 100000
open Go.RowKit

set_option maxHeartbeats 1000000 in
theorem behind_t (GA : Option Addr) (GC gl n B : Nat) (H : List (List Int)) (lv : List Int) (w : World) (hG : GRow w B GA n GC H) (hj : JMem w gl lv) (hl : lv.length = n * 2) (hpl : ∀ i, i < n → ∀ x ∈ H.getD i [], 0 ≤ x ∧ x < (n : Int)) (hn : n ≤ 1000) :
    Calls Try.prog 34 #[.slice GA n GC, .slice (some ⟨gl, 0, none⟩) n n] w (TellsIf (∀ i, i < n → ∀ x ∈ H.getD i [], lv.getD (x.toNat * 2) 0 < lv.getD (i * 2) 0) w) := by
  have HG := Lib.hid hG
  have HJ := Lib.hid hj
  have HL := Lib.hid hl
  have HP := Lib.hid hpl
  clear hG hj hl hpl
  go_enter Try.func34, Try.ntmps34
  go_wp2_with fail
  go_loopw [11] (fun t wr => ∃ i : Nat, i ≤ n ∧ t = .int .i64 i ∧ Hid (∀ j, j < i → ∀ x ∈ H.getD j [], lv.getD (x.toNat * 2) 0 < lv.getD (j * 2) 0) ∧ Hid (∃ q, wr = w.drewN q)) (fun t _ => n - (intOf t).toNat)
  case atStart => exact ⟨0, Nat.zero_le _, rfl, Lib.hid (fun j hj => by omega), Lib.hid ⟨0, rfl⟩⟩
  case round =>
    obtain ⟨i, hi, rfl, hz, hq⟩ := hrel
    obtain ⟨q0, rfl⟩ := hq.out
    by_cases hlt : i < n
    · have HG0 := Lib.hid (HG.out.keep (w' := w.drewN q0) (fun p _ => rfl))
      obtain ⟨b, off, A2, L, C, rfl, hlb, hcell, hrow⟩ := HG0.out.at_ hlt
      have hL := hrow.len_le
      unfold maxLen at hL
      have HLr : Hid ((H.getD i []).length = L) := Lib.hid hrow.1
      have HR : Hid (∀ W : World, (∃ q, W = w.drewN q) → IRow W B A2 L C (H.getD i [])) := Lib.hid fun W ⟨q, e⟩ => by rw [e]; exact hrow.keep fun p _ => rfl
      clear hrow
      go_wp2_with fail
      go_loopw [18] (fun t wr => ∃ p : Nat, p ≤ L ∧ t = .int .i64 p ∧ Hid (∀ x ∈ (H.getD i []).take p, lv.getD (x.toNat * 2) 0 < lv.getD (i * 2) 0) ∧ Hid (∃ q, wr = w.drewN q)) (fun t _ => L - (intOf t).toNat)
      case atStart => exact ⟨0, Nat.zero_le _, rfl, Lib.hid (by simp), hq⟩
      case round =>
        clear hcell
        obtain ⟨p, hp, rfl, hzp, hqp⟩ := hrel
        obtain ⟨q1, rfl⟩ := hqp.out
        by_cases hlt2 : p < L
        · obtain ⟨b3, off3, rfl, hlb3, hcell3⟩ := (HR.out _ ⟨q1, rfl⟩).at_ hlt2
          have hpl : p < (H.getD i []).length := by rw [HLr.out]; exact hlt2
          have hpu := HP.out i hlt _ (getD_mem hpl)
          obtain ⟨u, hu⟩ : ∃ u : Nat, (H.getD i []).getD p 0 = (u : Int) := ⟨((H.getD i []).getD p 0).toNat, by omega⟩
          have HTK : Hid ((H.getD i []).take (p + 1) = (H.getD i []).take p ++ [(u : Int)]) := Lib.hid (by rw [List.take_add_one, get_of_lt hpl, hu]; rfl)
          have HUM : Hid ((u : Int) ∈ H.getD i []) := Lib.hid (by rw [← hu]; exact getD_mem hpl)
          rw [hu] at hcell3 hpu
          have huI : (u : Int) < (n : Int) := hpu.2
          have hun : u < n := by omega
          have c1 := HJ.out.cell (u * 2) (by rw [HL.out]; omega)
          have c2 := HJ.out.cell (i * 2) (by rw [HL.out]; omega)
          obtain ⟨F, hF⟩ : ∃ F, F = lv.getD (u * 2) 0 := ⟨_, rfl⟩
          obtain ⟨M, hM⟩ : ∃ M, M = lv.getD (i * 2) 0 := ⟨_, rfl⟩
          rw [← hF] at c1; rw [← hM] at c2
          have HFM := Lib.hid (And.intro hF hM)
          have hiI : (i : Int) < (n : Int) := by omega
          clear hF hM hu hpu
          by_cases hge : M ≤ F
          · go_wp2
            go_region
            go_wp2
            go_ret
            refine TellsIf.no (fun q => ?_) ⟨rfl, rfl, rfl, Nat.le_refl _, fun _ _ => rfl⟩
            have := q i hlt _ HUM.out
            rw [Int.toNat_natCast, ← HFM.out.1, ← HFM.out.2] at this
            omega
          · have hge2 : F < M := by omega
            clear hge
            go_wp2
            go_region
            go_wp2
            go_roundw
            case rel => exact ⟨p + 1, by omega, by go_num, Lib.hid (by
              rw [HTK.out]
              intro x hx
              rcases List.mem_append.1 hx with q | q
              · exact hzp.out x q
              · simp at q; subst q; rw [Int.toNat_natCast, ← HFM.out.1, ← HFM.out.2]; exact hge2), Lib.hid ⟨q1 + 1, rfl⟩⟩
            case measure => simp [intOf]; omega
        · obtain rfl : p = L := by omega
          go_wp2
          go_roundw
          case rel => exact ⟨i + 1, by omega, by go_num, Lib.hid (fun j hj => by
            by_cases e : j = i
            · subst e
              have := hzp.out
              rw [List.take_of_length_le (by rw [HLr.out]; exact Nat.le_refl _)] at this
              exact this
            · exact hz.out j (by omega)), hqp⟩
          case measure => simp [intOf]; omega
    · obtain rfl : i = n := by omega
      go_wp2
      go_ret
      exact TellsIf.yes hz.out ⟨rfl, rfl, rfl, Nat.le_refl _, fun _ _ => rfl⟩

open Maps
theorem intK : Keyed Try.prog 3 := int_keyed Try.underlying3
/-- who lies in each slot, of the first i places: the one that came last -/
structure LiesI (o sl : List Int) (i : Nat) (D : DataW Unit) : Prop where
  map : IsMap D
  has : ∀ s : Int, Maps.has D (.int .i64 s) = true ↔ ∃ k, k < i ∧ sl.getD (o.getD k 0).toNat 0 = s
  at_ : ∀ s : Int, ∀ k, k < i → sl.getD (o.getD k 0).toNat 0 = s → (∀ k', k < k' → k' < i → sl.getD (o.getD k' 0).toNat 0 ≠ s) → D.atKey (.int .i64 s) (.lit (.int .i64 0)) = .lit (.int .i64 (o.getD k 0))
theorem LiesI.start (o sl : List Int) : LiesI o sl 0 (.map []) := ⟨isMap_empty, fun s => by simp [Maps.has], fun s k hk => by omega⟩
theorem isKeyInt (s : Int) : WideAt.IsKeyLit (.int .i64 s) := by simp [WideAt.IsKeyLit]
theorem keyInt_ne {a b : Int} (h : a ≠ b) : (Lit.int .i64 a) ≠ (Lit.int .i64 b) := fun e => by injection e with _ e; exact h e
theorem LiesI.put {o sl : List Int} {i : Nat} {D : DataW Unit} (h : LiesI o sl i D) : LiesI o sl (i + 1) (D.put (.int .i64 (sl.getD (o.getD i 0).toNat 0)) (.lit (.int .i64 (o.getD i 0)))) := by
  refine ⟨h.map.put _ _, fun s => ?_, fun s k hk he hl => ?_⟩
  · by_cases e : s = sl.getD (o.getD i 0).toNat 0
    · subst e
      rw [has_put_same h.map (isKeyInt _)]
      exact ⟨fun _ => ⟨i, by omega, rfl⟩, fun _ => rfl⟩
    · rw [has_put_other (keyInt_ne e), h.has s]
      constructor
      · rintro ⟨k, h1, h2⟩; exact ⟨k, by omega, h2⟩
      · rintro ⟨k, h1, h2⟩
        by_cases ek : k = i
        · subst ek; exact (e h2.symm).elim
        · exact ⟨k, by omega, h2⟩
  · by_cases e : s = sl.getD (o.getD i 0).toNat 0
    · have : k = i := Classical.byContradiction fun q => hl i (by omega) (by omega) e.symm
      subst this
      rw [e, atKey_put_same h.map (isKeyInt _)]
    · rw [atKey_put_other (keyInt_ne e)]
      have hk' : k ≠ i := fun q => by subst q; exact e he.symm
      exact h.at_ s k (by omega) he fun k' h1 h2 => hl k' h1 (by omega)
/-- the last one of some places of which P holds -/
theorem last_of {P : Nat → Prop} : ∀ i, (∃ k, k < i ∧ P k) → ∃ k, k < i ∧ P k ∧ ∀ k', k < k' → k' < i → ¬ P k' := by
  intro i
  induction i with
  | zero => rintro ⟨k, hk, _⟩; omega
  | succ i ih =>
    rintro ⟨k, hk, hp⟩
    by_cases h : P i
    · exact ⟨i, by omega, h, fun k' h1 h2 => by omega⟩
    · have : k ≠ i := fun e => h (e ▸ hp)
      obtain ⟨k0, h1, h2, h3⟩ := ih ⟨k, by omega, hp⟩
      refine ⟨k0, by omega, h2, fun k' h4 h5 => ?_⟩
      by_cases e : k' = i
      · subst e; exact h
      · exact h3 k' h4 (by omega)
/-- no two of the first i places that lie in one slot live at one time -/
def ApartTo (la : Nat → Nat) (o sl : List Int) (i : Nat) : Prop := ∀ a, a < i → ∀ k, k < a → sl.getD (o.getD k 0).toNat 0 = sl.getD (o.getD a 0).toNat 0 → Lpl la o k < a
theorem ApartTo.more {la : Nat → Nat} {o sl : List Int} {i k0 : Nat} (h : ApartTo la o sl i) (h1 : k0 < i) (hs : sl.getD (o.getD k0 0).toNat 0 = sl.getD (o.getD i 0).toNat 0) (hl : ∀ k', k0 < k' → k' < i → sl.getD (o.getD k' 0).toNat 0 ≠ sl.getD (o.getD i 0).toNat 0) (hla : Lpl la o k0 < i) (hge : k0 ≤ Lpl la o k0) : ApartTo la o sl (i + 1) := by
  intro a ha k hk e
  by_cases ea : a = i
  · subst ea
    rcases Nat.lt_trichotomy k k0 with q | q | q
    · have := h k0 h1 k q (e.trans hs.symm)
      omega
    · subst q; exact hla
    · exact (hl k q hk e).elim
  · exact h a (by omega) k hk e
theorem ApartTo.new {la : Nat → Nat} {o sl : List Int} {i : Nat} (h : ApartTo la o sl i) (hn : ∀ k, k < i → sl.getD (o.getD k 0).toNat 0 ≠ sl.getD (o.getD i 0).toNat 0) : ApartTo la o sl (i + 1) := by
  intro a ha k hk e
  by_cases ea : a = i
  · subst ea; exact (hn k hk e).elim
  · exact h a (by omega) k hk e

set_option maxHeartbeats 4000000 in
theorem apart_t (la : Nat → Nat) (A A2 : Option Addr) (n c c2 gl B : Nat) (S : Int) (o sl lv : List Int) (w : World) (h1 : IRow w B A n c o) (h2 : IRow w B A2 n c2 sl) (hB : B ≤ w.heap.size) (hj : JMem w gl lv) (hla : LaIs la n lv) (ho : Once o n)
    (hsl : ∀ x ∈ sl, 0 ≤ x ∧ x < S) (hS : S ≤ 9223372036854775807) (hge : ∀ i, i < n → i ≤ Lpl la o i) (hn : n ≤ 1000) :
    Calls Try.prog 35 #[planV A n c A2 n c2 S, .slice (some ⟨gl, 0, none⟩) n n] w (TellsIf (ApartTo la o sl n) w) := by
  obtain ⟨W1, hW1⟩ : ∃ W1, W1 = w.alloc (.cells #[.slice A n c, .slice A2 n c2, .int .i64 S] 32) := ⟨_, rfl⟩
  have HB1 : Hid (Below w.heap.size w W1) := Lib.hid (by rw [hW1]; exact (Below.refl _ _).alloc (Nat.le_refl _) _)
  have HK : Hid (Blk W1 w.heap.size 32 #[.slice A n c, .slice A2 n c2, .int .i64 S]) := Lib.hid (by rw [hW1]; exact Blk.new _ _ _)
  have HS1 : Hid (W1.heap.size = w.heap.size + 1) := Lib.hid (by rw [hW1]; simp)
  have HR1 := Lib.hid (h1.below (HB1.out.mono hB))
  have HR2 := Lib.hid (h2.below (HB1.out.mono hB))
  have HJ := Lib.hid (hj.later HB1.out)
  have HLA := Lib.hid hla
  have HON := Lib.hid ho
  have HSL := Lib.hid hsl
  have HGE := Lib.hid hge
  have HL2 := Lib.hid h2.1
  have hglw : gl < w.heap.size := hj.lt
  have HBB := Lib.hid hB
  clear h1 h2 hj hla ho hsl hge hB
  have hmm := @run_makeMap Try.prog
  have r0 := HK.out.cell 0 rfl
  have r1 := HK.out.cell 1 rfl
  have r2 := HK.out.cell 2 rfl
  unfold planV
  go_enter Try.func35, Try.ntmps35
  go_upto_region 1 with fail
  rw [← hW1]
  clear hW1
  have hwl : w.heap.size < W1.heap.size := by have := HS1.out; omega
  go_upto_region 2 with fail
  have HMP : Hid ((W1.alloc (.map #[] 0)).ownsMap Try.prog 3 (plainElem (H := Unit) Try.prog 3) W1.heap.size 0 (.map [])) := Lib.hid (World.ownsMap_made _ _ _ _)
  have HBM : Hid (Below W1.heap.size W1 (W1.alloc (.map #[] 0))) := Lib.hid ((Below.refl _ _).alloc (Nat.le_refl _) _)
  obtain ⟨gb, hgb⟩ : ∃ gb, gb = W1.heap.size := ⟨_, rfl⟩
  obtain ⟨W2, hW2⟩ : ∃ W2, W2 = W1.alloc (.map #[] 0) := ⟨_, rfl⟩
  rw [← hW2, ← hgb] at HMP
  rw [← hW2] at HBM
  rw [← hW2]
  try rw [← hgb]
  have HGB : Hid (w.heap.size + 1 = gb) := Lib.hid (by rw [hgb]; exact HS1.out.symm)
  have HS2 : Hid (gb < W2.heap.size) := Lib.hid (by rw [hW2, hgb]; simp)
  clear hW2 r0 r1 r2
  have HK2 := Lib.hid (HK.out.below HBM.out hwl)
  have hBg : Hid (B ≤ gb) := Lib.hid (by have := HGB.out; have := HBB.out; omega)
  have HR21 := Lib.hid (HR1.out.below (HBM.out.mono (by rw [← hgb]; exact hBg.out)))
  have HR22 := Lib.hid (HR2.out.below (HBM.out.mono (by rw [← hgb]; exact hBg.out)))
  have HJ2 := Lib.hid (HJ.out.later HBM.out)
  have HW2 : Hid (Below w.heap.size w W2) := Lib.hid (HB1.out.trans (HBM.out.mono (by omega)))
  clear hgb HBM HK HJ HR1 HR2
  have r0 := HK2.out.cell 0 rfl
  have r1 := HK2.out.cell 1 rfl
  have r2 := HK2.out.cell 2 rfl
  have hwg : w.heap.size < gb := by have := HGB.out; omega
  go_wp2_with fail
  clear r0 r1 r2
  go_loopw [15] (fun t wr => ∃ i : Nat, i ≤ n ∧ t = .int .i64 (i : Int) ∧ Hid (∃ D : DataW Unit, wr.ownsMap Try.prog 3 (plainElem Try.prog 3) gb i D ∧ LiesI o sl i D) ∧ Hid (ApartTo la o sl i) ∧ Hid (Below gb W2 wr)) (fun t _ => n - (intOf t).toNat)
  case atStart => exact ⟨0, Nat.zero_le _, rfl, Lib.hid ⟨_, HMP.out, LiesI.start o sl⟩, Lib.hid (fun a ha => by omega), Lib.hid (Below.refl _ _)⟩
  case round =>
    obtain ⟨i, hi, rfl, hz, hap, hbr⟩ := hrel
    obtain ⟨D, hom, hli⟩ := hz.out
    have HOM := Lib.hid hom
    have HLI := Lib.hid hli
    clear hom hli hz
    have hkr := HK2.out.below hbr.out hwg
    have r0 := hkr.cell 0 rfl
    have r1 := hkr.cell 1 rfl
    have r2 := hkr.cell 2 rfl
    clear hkr
    have HWR : Hid (Below w.heap.size w wr) := Lib.hid (HW2.out.trans (hbr.out.mono (Nat.le_of_lt hwg)))
    by_cases hlt : i < n
    · obtain ⟨b, off, rfl, hlb, oc⟩ := (HR21.out.below (hbr.out.mono hBg.out)).at_ hlt
      obtain ⟨u, hu, hou⟩ := HON.out.get hlt
      rw [hou] at oc
      have HOU := Lib.hid hou
      obtain ⟨b2, off2, rfl, hlb2, sc⟩ := (HR22.out.below (hbr.out.mono hBg.out)).at_ hu
      have hul : u < sl.length := by rw [HL2.out]; exact hu
      have hs0 := HSL.out _ (getD_mem hul)
      obtain ⟨s, hs⟩ : ∃ s, s = sl.getD u 0 := ⟨_, rfl⟩
      rw [← hs] at sc hs0
      obtain ⟨hs1, hs2⟩ := hs0
      have HSE : Hid (sl.getD (o.getD i 0).toNat 0 = s) := Lib.hid (by rw [HOU.out, Int.toNat_natCast, hs])
      have HPUT : Hid (LiesI o sl (i + 1) (D.put (.int .i64 s) (.lit (.int .i64 (u : Int))))) := Lib.hid (by have := HLI.out.put; rw [HSE.out, HOU.out] at this; exact this)
      have hkey : keyOf Try.prog 3 (.int .i64 s) = some (.int .i64 s) := keyOf_int_mk Try.underlying3 (WalkArith.wf_i64 (by omega))
      have hwfu : (Lit.int .i64 (u : Int)).wf = true := WalkArith.wf_i64 (by omega)
      have huI : (u : Int) < (n : Int) := by omega
      clear hs hou
      by_cases hex : ∃ k, k < i ∧ sl.getD (o.getD k 0).toNat 0 = s
      · obtain ⟨k0, hk0, hks, hkl⟩ := last_of i hex
        have hhas : Maps.has D (.int .i64 s) = true := (HLI.out.has s).2 hex
        have hat := HLI.out.at_ s k0 hk0 hks hkl
        obtain ⟨y, hy, hoy⟩ := HON.out.get (show k0 < n by omega)
        rw [hoy] at hat
        have HHS := Lib.hid hhas
        have HAT := Lib.hid hat
        have lc := (HJ2.out.below hbr.out (by have := HGB.out; omega)).cell (y * 2 + 1) (by rw [HLA.out.1]; omega)
        rw [HLA.out.2 y hy] at lc
        have HLP : Hid (Lpl la o k0 = la y) := Lib.hid (by unfold Lpl; rw [hoy]; simp)
        have HMOR : Hid (la y < i → ApartTo la o sl (i + 1)) := Lib.hid fun q => hap.out.more hk0 (hks.trans HSE.out.symm) (fun k' h1 h2 h3 => hkl k' h1 h2 (h3.trans HSE.out)) (by rw [HLP.out]; exact q) (HGE.out k0 (by omega))
        have HNOT : Hid (i ≤ la y → ¬ ApartTo la o sl n) := Lib.hid fun q h => by
          have := h i hlt k0 hk0 (hks.trans HSE.out.symm)
          rw [HLP.out] at this; omega
        obtain ⟨M, hM⟩ : ∃ M, M = la y := ⟨_, rfl⟩
        rw [← hM] at lc HMOR HNOT
        have hyI : (y : Int) < (n : Int) := by omega
        clear hhas hat hoy hM hex hks hkl
        by_cases hge : i ≤ M
        · have hgeI : (i : Int) ≤ (M : Int) := by omega
          go_wp2_with (at_lookup; refine wpList_lookup_own_ok_int _ rfl _ _ 103 rfl 3 3 .i64 intK Try.underlying103 Try.underlying3 (Try.zeroValue3 _) gb i D rfl HOM.out _ _ rfl hkey ?_; intro cc hat hwc; rw [HAT.out] at hat; obtain rfl : (y : Int) = cc := (by injection hat with h; injection h); rw [HHS.out])
          go_ret
          exact TellsIf.no (HNOT.out hge) HWR.out
        · have hgeI : (M : Int) < (i : Int) := by omega
          go_wp2_with (first | (at_lookup; refine wpList_lookup_own_ok_int _ rfl _ _ 103 rfl 3 3 .i64 intK Try.underlying103 Try.underlying3 (Try.zeroValue3 _) gb i D rfl HOM.out _ _ rfl hkey ?_; intro cc hat hwc; rw [HAT.out] at hat; obtain rfl : (y : Int) = cc := (by injection hat with h; injection h); rw [HHS.out]) | (at_mapUpdate; refine wpList_mapUpdate_own _ rfl _ _ _ 103 rfl 3 3 intK Try.underlying103 _ gb i D rfl HOM.out (by unfold maxLen; omega) _ _ _ rfl rfl hkey _ [] (plainElem_int Try.underlying3 hwfu) ?_; intro w9 hown9 hgrow9))
          have HO9 := Lib.hid hown9
          have HG9 : Hid (Below gb W2 w9) := Lib.hid (hbr.out.grown hgrow9 (by have := hbr.out.size; have := HS2.out; omega) (fun j hj => by cases hj; exact Nat.le_refl _))
          have HAP := Lib.hid (HMOR.out (by omega))
          clear hown9 hgrow9
          go_wp2
          go_roundw
          case rel => exact ⟨i + 1, by omega, by go_num, Lib.hid ⟨_, HO9.out, HPUT.out⟩, HAP, HG9⟩
          case measure => simp [intOf]; omega
      · have hhas : Maps.has D (.int .i64 s) = false := by
          cases hh : Maps.has D (.int .i64 s) with
          | false => rfl
          | true => exact (hex ((HLI.out.has s).1 hh)).elim
        have HHS := Lib.hid hhas
        have HAP : Hid (ApartTo la o sl (i + 1)) := Lib.hid (hap.out.new fun k hk e => hex ⟨k, hk, e.trans HSE.out⟩)
        clear hhas hex
        go_wp2_with (first | (at_lookup; refine wpList_lookup_own_ok_int _ rfl _ _ 103 rfl 3 3 .i64 intK Try.underlying103 Try.underlying3 (Try.zeroValue3 _) gb i D rfl HOM.out _ _ rfl hkey ?_; intro cc hat hwc; rw [HHS.out]) | (at_mapUpdate; refine wpList_mapUpdate_own _ rfl _ _ _ 103 rfl 3 3 intK Try.underlying103 _ gb i D rfl HOM.out (by unfold maxLen; omega) _ _ _ rfl rfl hkey _ [] (plainElem_int Try.underlying3 hwfu) ?_; intro w9 hown9 hgrow9))
        have HO9 := Lib.hid hown9
        have HG9 : Hid (Below gb W2 w9) := Lib.hid (hbr.out.grown hgrow9 (by have := hbr.out.size; have := HS2.out; omega) (fun j hj => by cases hj; exact Nat.le_refl _))
        clear hown9 hgrow9
        go_wp2
        go_roundw
        case rel => exact ⟨i + 1, by omega, by go_num, Lib.hid ⟨_, HO9.out, HPUT.out⟩, HAP, HG9⟩
        case measure => simp [intOf]; omega
    · obtain rfl : i = n := by omega
      go_wp2
      go_ret
      exact TellsIf.yes hap.out HWR.out

end Go.Proofs.Ytanbekbalfbkcaa
