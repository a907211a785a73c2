/- What Of of package plan tells. No condition but bounds. -/
import Derived.Test.YtioebjjnadgdjaaZLyB
import Derived.Test.YtioebjjnadgdjaaZCoA
import Derived.Deep.RegionHeld3
import Derived.Laws.ResultCell
import Derived.Laws.Rows
import Derived.Deep.DeepCutAuto
namespace Go.Proofs.Ytioebjjnadgdjaa
set_option linter.unusedVariables false
set_option linter.unusedSimpArgs false
set_option maxRecDepth 100000
open Go.RowKit Gr

theorem lst_once {G : List (List Int)} {out : List Nat} {n : Nat} (h : IsLst G out) (hl : out.length = n) (hG : G.length = n) : Once (ints out) n where
  len := by rw [ints_len]; exact hl
  pl := fun x hx => by
    obtain ⟨y, hy, rfl⟩ := List.mem_map.1 hx
    have := h.lt y hy
    omega
  nd := intsN_nd _ h.nd
/-- the last places as plain numbers -/
def laF (f : FlatM) (o : List Int) (v : Nat) : Nat := (lastV (gOf f) (endB f) o v).toNat
theorem lastTo_ge (G : List (List Int)) (o : List Int) (x : Nat) : ∀ k, plc o (x : Int) ≤ lastTo G o x k
  | 0 => Int.le_refl _
  | k + 1 => by
    have := lastTo_ge G o x k
    unfold lastTo
    split <;> omega
theorem lastV_ge {f : FlatM} {o : List Int} {n v : Nat} (ho : Once o n) (hv : v < n) : plc o (v : Int) ≤ lastV (gOf f) (endB f) o v := by
  obtain ⟨i, hi, e1, e2⟩ := ho.plc hv
  unfold lastV
  split
  · rw [e1, ho.len]; omega
  · exact lastTo_ge _ _ _ _
theorem laF_eq {f : FlatM} {o : List Int} {n v : Nat} (ho : Once o n) (hv : v < n) : (laF f o v : Int) = lastV (gOf f) (endB f) o v := by
  obtain ⟨i, hi, e1, e2⟩ := ho.plc hv
  have := lastV_ge (f := f) ho hv
  unfold laF
  omega
theorem Lives.la {f : FlatM} {o : List Int} {n : Nat} {xs : List Int} (h : Lives f o n xs) (ho : Once o n) : LaIs (laF f o) n xs :=
  ⟨h.len, fun v hv => by rw [h.lst v hv, laF_eq ho hv]⟩
theorem lpl_ge {f : FlatM} {o : List Int} {n : Nat} (ho : Once o n) : ∀ i, i < n → i ≤ Lpl (laF f o) o i := by
  intro i hi
  obtain ⟨u, hu, e⟩ := ho.get hi
  have h1 := ho.plc_get hi
  rw [e] at h1
  have h2 := lastV_ge (f := f) ho hu
  have h3 := laF_eq (f := f) ho hu
  unfold Lpl
  rw [e]
  simp only [Int.toNat_natCast]
  omega

/-- a plan in memory -/
def planV (A : Option Addr) (n c : Nat) (A2 : Option Addr) (n2 c2 : Nat) (S : Int) : Value := .agg #[.slice A n c, .slice A2 n2 c2, .int .i64 S]
/-- a plan as 14.1 says -/
structure IsPlan (f : FlatM) (n : Nat) (out : List Nat) (xs : List Int) (S : Nat) : Prop where
  lst : IsLst (gOf f) out
  len : out.length = n
  once : Once (ints out) n
  slots : ∃ sls hs, Lo (Lpl (laF f (ints out)) (ints out)) n S sls hs ∧ OutI (ints out) n n sls xs
def OfPost (f : FlatM) (n : Nat) (w : World) (e : Ending) (w' : World) : Prop :=
  ((∃ A c g out xs S, e = .returned (.tuple #[planV A n c (some ⟨g, 0, none⟩) n n (S : Nat), .int .i64 0]) ∧ Own w' w.heap.size (.slice A n c) (ints out) ∧ (IMem w' g xs ∧ w.heap.size ≤ g) ∧ IsPlan f n out xs S) ∨
    (e = .returned (.tuple #[planV none 0 0 none 0 0 0, .int .i64 140]) ∧ ∃ out, IsLst (gOf f) out ∧ out.length < n ∧ ∀ y, ¬ Rdy (gOf f) out y)) ∧ Below w.heap.size w w'
theorem own_row {w : World} {B : Nat} {A : Option Addr} {n c : Nat} {xs : List Int} (h : Own w B (.slice A n c) xs) : IRow w w.heap.size A n c xs := by
  obtain ⟨a, c', e, hr⟩ := h.irow
  injection e with e1 e2 e3
  subst e1 e2 e3
  exact hr
theorem Try.info32 : (Try.prog.info? 32).map (·.size) = some 3 := by kernel_rfl
/-- a function whose first result lies in a plan's cell returns -/
theorem ret_plan {fn : Func} {p u : Tmp} (h : fn.results = #[.cell p 32, .tmp u]) {a : Act} {w : World} {R : Ending → World → Prop} (g : Nat) (x y z : Value) (hg : Blk w g 32 #[x, y, z]) (hp : a.tmps.getD p undef = .pointer (some ⟨g, 0, none⟩)) (hd : a.defers = [])
    (hR : R (.returned (.tuple #[.agg #[x, y, z], a.tmps.getD u undef])) w) : bodyPost Try.prog fn R .ret a w := by
  refine bodyPost_ret_by (v := .tuple #[.agg #[x, y, z], a.tmps.getD u undef]) ?_ hd hR
  rw [results_cell_tmp h, hp]
  have := run_loadVar_row (P := Try.prog) w g 32 32 #[x, y, z] (0, 0) _ hg Try.underlying32 rfl Try.info32
  simp [asAddr, Result.andThen, this]
theorem Blk.put3 {w : World} {g T : Nat} {a b c : Value} (h : Blk w g T #[a, b, c]) (x y z : Value) : Blk (((w.setCell ⟨g, 0, none⟩ x).setCell ⟨g, 1, none⟩ y).setCell ⟨g, 2, none⟩ z) g T #[x, y, z] := by
  have h1 : Blk w g T [a, b, c].toArray := h
  exact ((h1.put 0 x).put 1 y).put 2 z
set_option maxHeartbeats 2000000 in
theorem of_no (v : FlatV) (f : FlatM) (B : Nat) (w : World) (h : FlatIs w B v f) (hB : B ≤ w.heap.size) (hn : v.names.2.1 ≤ 1000000) (hg : goodB f = false) :
    Calls Try.prog 9 #[flatV v] w fun e w' => e = .returned (.tuple #[planV none 0 0 none 0 0 0, .int .i64 1]) ∧ Below w.heap.size w w' := by
  obtain ⟨W1, hW1⟩ : ∃ W1, W1 = (w.alloc (.cells (fvs v) 29)).alloc (.cells #[.slice none 0 0, .slice none 0 0, .int .i64 0] 32) := ⟨_, rfl⟩
  have hb1 : Below w.heap.size w W1 := by rw [hW1]; exact ((Below.refl _ _).alloc (Nat.le_refl _) _).alloc (by simp) _
  have hs1 : W1.heap.size = w.heap.size + 2 := by rw [hW1]; simp
  have HR := Lib.hid (show Blk W1 (w.heap.size + 1) 32 #[.slice none 0 0, .slice none 0 0, .int .i64 0] from by rw [hW1]; have := Blk.new (w.alloc (.cells (fvs v) 29)) 32 #[.slice none 0 0, .slice none 0 0, .int .i64 0]; rw [size_alloc] at this; exact this)
  have HK := Lib.hid (show Blk W1 w.heap.size 29 (fvs v) from by rw [hW1]; exact (Blk.new _ _ _).alloc _)
  have HCO := Lib.hid (corder_no v f B W1 (h.below (hb1.mono hB)) (by omega) hn hg)
  have HB1 := Lib.hid hb1
  have HS1 := Lib.hid hs1
  clear h hB hg hb1 hs1
  obtain ⟨f0, f1, f2, f3, f4, f5, f6, f7⟩ := HK.out.flat
  unfold flatV sl3 at HCO ⊢
  unfold fvs at hW1
  go_enter Try.func9, Try.ntmps9
  go_upto_region 1 with fail
  rw [← hW1]
  clear hW1
  go_upto_region 2 with (go_at_call 19; (with_reducible refine HCO.out.mono ?_); rintro e w2 ⟨rfl, hb2⟩)
  have r0 := (HR.out.later hb2).cell 0 rfl
  have r1 := (HR.out.later hb2).cell 1 rfl
  have r2 := (HR.out.later hb2).cell 2 rfl
  have rf0 := (HR.out.later hb2).free 0
  have rf1 := (HR.out.later hb2).free 1
  have rf2 := (HR.out.later hb2).free 2
  have HB2 : Hid (Below w.heap.size w w2) := Lib.hid (HB1.out.trans (hb2.mono HB1.out.size))
  have HRZ := Lib.hid ((HR.out.later hb2).put3 (.slice none 0 0) (.slice none 0 0) (.int .i64 0))
  have HD : Hid (Below w.heap.size w (((w2.setCell ⟨w.heap.size + 1, 0, none⟩ (.slice none 0 0)).setCell ⟨w.heap.size + 1, 1, none⟩ (.slice none 0 0)).setCell ⟨w.heap.size + 1, 2, none⟩ (.int .i64 0))) := Lib.hid (((HB2.out.setCell (p := ⟨w.heap.size + 1, 0, none⟩) (Nat.le_succ _) _).setCell (p := ⟨w.heap.size + 1, 1, none⟩) (Nat.le_succ _) _).setCell (p := ⟨w.heap.size + 1, 2, none⟩) (Nat.le_succ _) _)
  clear hb2
  go_wp2
  refine ret_plan rfl (w.heap.size + 1) _ _ _ HRZ.out rfl rfl ?_
  exact ⟨rfl, HD.out⟩

set_option maxHeartbeats 4000000 in
theorem of_t (v : FlatV) (f : FlatM) (B : Nat) (w : World) (h : FlatIs w B v f) (hB : B ≤ w.heap.size) (hg : goodB f = true) (hs : SmallF f) :
    Calls Try.prog 9 #[flatV v] w (OfPost f v.names.2.1 w) := by
  have hsm : v.names.2.1 ≤ 200 := by rw [← h.names.1]; exact hs.names
  have HNN : Hid (f.names.length = v.names.2.1) := Lib.hid h.names.1
  obtain ⟨W1, hW1⟩ : ∃ W1, W1 = (w.alloc (.cells (fvs v) 29)).alloc (.cells #[.slice none 0 0, .slice none 0 0, .int .i64 0] 32) := ⟨_, rfl⟩
  have hb1 : Below w.heap.size w W1 := by rw [hW1]; exact ((Below.refl _ _).alloc (Nat.le_refl _) _).alloc (by simp) _
  have hs1 : W1.heap.size = w.heap.size + 2 := by rw [hW1]; simp
  have HR := Lib.hid (show Blk W1 (w.heap.size + 1) 32 #[.slice none 0 0, .slice none 0 0, .int .i64 0] from by rw [hW1]; have := Blk.new (w.alloc (.cells (fvs v) 29)) 32 #[.slice none 0 0, .slice none 0 0, .int .i64 0]; rw [size_alloc] at this; exact this)
  have HK := Lib.hid (show Blk W1 w.heap.size 29 (fvs v) from by rw [hW1]; exact (Blk.new _ _ _).alloc _)
  have HCO := Lib.hid (corder_t v f B W1 (h.below (hb1.mono hB)) (by omega) hg hs)
  have HIS := Lib.hid (fun W (hb : Below w.heap.size w W) => h.below (hb.mono hB))
  have HGS := Lib.hid (And.intro hB (And.intro hg hs))
  have HNC := Lib.hid (fun W (hW : FlatIs W B v f) (hb : B ≤ W.heap.size) => cneeds_t v f B W hW hb hg hs)
  have HB1 := Lib.hid hb1
  have HS1 := Lib.hid hs1
  clear h hB hg hb1 hs1 hs
  obtain ⟨f0, f1, f2, f3, f4, f5, f6, f7⟩ := HK.out.flat
  unfold flatV sl3 at HCO HNC ⊢
  unfold fvs at hW1
  go_enter Try.func9, Try.ntmps9
  go_upto_region 1 with fail
  rw [← hW1]
  clear hW1
  go_wp2_with fail
  refine HCO.out.mono ?_
  clear f0 f1 f2 f3 f4 f5 f6 f7
  rintro e w2 ⟨ho | ho, hb2⟩
  · obtain ⟨A, c, out, rfl, hrow, hlst, hlen⟩ := ho
    have HB2 : Hid (Below w.heap.size w w2) := Lib.hid (HB1.out.trans (hb2.mono HB1.out.size))
    have HK2 := Lib.hid (HK.out.later hb2)
    have HR2 := Lib.hid (HR.out.later hb2)
    have HOW := Lib.hid hrow
    have HO2 := Lib.hid (own_row hrow)
    have HLST := Lib.hid hlst
    have HLEN := Lib.hid hlen
    have HON := Lib.hid (lst_once hlst hlen (show (gOf f).length = v.names.2.1 by unfold gOf; rw [gTo_len]; exact HNN.out))
    have HG2 : Hid (w.heap.size + 1 < w2.heap.size) := Lib.hid HR2.out.lt
    clear hb2 hrow hlst hlen HCO HK HR
    have HP : Hid ((fun w' => w'.cell? ⟨w.heap.size, 0, none⟩ = some (.slice v.ins.1 v.ins.2.1 v.ins.2.2) ∧ w'.cell? ⟨w.heap.size, 1, none⟩ = some (.slice v.names.1 v.names.2.1 v.names.2.2) ∧ w'.cell? ⟨w.heap.size, 2, none⟩ = some (.slice v.outs.1 v.outs.2.1 v.outs.2.2) ∧ w'.cell? ⟨w.heap.size, 3, none⟩ = some (.slice v.eqs.1 v.eqs.2.1 v.eqs.2.2) ∧ w'.cell? ⟨w.heap.size, 4, none⟩ = some (.slice v.mems.1 v.mems.2.1 v.mems.2.2) ∧ w'.cell? ⟨w.heap.size, 5, none⟩ = some (.slice v.conts.1 v.conts.2.1 v.conts.2.2) ∧ w'.cell? ⟨w.heap.size, 6, none⟩ = some (.slice v.cross.1 v.cross.2.1 v.cross.2.2) ∧ w'.cell? ⟨w.heap.size, 7, none⟩ = some (.slice v.again.1 v.again.2.1 v.again.2.2)) w2.drew) := Lib.hid (HK2.out.later (Below.refl _ _).drew).flat
    obtain ⟨f0, f1, f2, f3, f4, f5, f6, f7⟩ := HK2.out.flat
    go_upto_region 4 with fail
    clear f0 f1 f2 f3 f4 f5 f6 f7
    have hgl : w.heap.size < w2.heap.size := HK2.out.lt
    have HBL : Hid (B ≤ w2.heap.size) := Lib.hid (Nat.le_trans HGS.out.1 HB2.out.size)
    have HCN := Lib.hid (HNC.out w2.drew (HIS.out _ HB2.out.drew) HBL.out)
    have HLI := Lib.hid (fun (W : World) (GA : Option Addr) (GC : Nat) (H : List (List Int)) (hW : FlatIs W B v f) (hb : B ≤ W.heap.size) (hO : IRow W W.heap.size A v.names.2.1 c (ints out)) (hG : GRow W W.heap.size GA v.names.2.1 GC H) (hsg : SameG (gOf f) H v.names.2.1) (hpl : ∀ i, i < v.names.2.1 → ∀ x ∈ H.getD i [], 0 ≤ x ∧ x < (v.names.2.1 : Int)) => lives_t v f B A GA v.names.2.1 c GC (ints out) H W hW hb HGS.out.2.1 HGS.out.2.2 hO hG HON.out hsg hpl rfl)
    unfold flatV sl3 at HLI
    first | go_region_held3 (fun w' => w'.cell? ⟨w.heap.size, 0, none⟩ = some (.slice v.ins.1 v.ins.2.1 v.ins.2.2) ∧ w'.cell? ⟨w.heap.size, 1, none⟩ = some (.slice v.names.1 v.names.2.1 v.names.2.2) ∧ w'.cell? ⟨w.heap.size, 2, none⟩ = some (.slice v.outs.1 v.outs.2.1 v.outs.2.2) ∧ w'.cell? ⟨w.heap.size, 3, none⟩ = some (.slice v.eqs.1 v.eqs.2.1 v.eqs.2.2) ∧ w'.cell? ⟨w.heap.size, 4, none⟩ = some (.slice v.mems.1 v.mems.2.1 v.mems.2.2) ∧ w'.cell? ⟨w.heap.size, 5, none⟩ = some (.slice v.conts.1 v.conts.2.1 v.conts.2.2) ∧ w'.cell? ⟨w.heap.size, 6, none⟩ = some (.slice v.cross.1 v.cross.2.1 v.cross.2.2) ∧ w'.cell? ⟨w.heap.size, 7, none⟩ = some (.slice v.again.1 v.again.2.1 v.again.2.2)) (exact HP.out) (first
      | (go_at_call 22; (with_reducible refine HCN.out.mono ?_); rintro e w3 ⟨g3, H, rfl, hgr, hsg, hpl, htot, hb3⟩; have HW3 := Lib.hid ((Below.refl w2.heap.size w2).drew.trans hb3); replace HP := Lib.hid (HK2.out.later HW3.out).flat; have HGR := Lib.hid hgr; have HSG := Lib.hid hsg; have HPL := Lib.hid hpl; clear hgr hsg hpl htot hb3)
      | (go_at_call 21; (with_reducible refine (HLI.out w3 (some ⟨g3, 0, none⟩) v.names.2.1 H (HIS.out _ (HB2.out.trans (HW3.out.mono HB2.out.size))) (Nat.le_trans HBL.out HW3.out.size) ((HO2.out.below HW3.out).more HW3.out.size) HGR.out HSG.out HPL.out).mono ?_); rintro e w4 ⟨g4, lv, rfl, hjm, hlv, hg4, hb4⟩; have HW4 := Lib.hid (HW3.out.trans (hb4.mono HW3.out.size)); replace HP := Lib.hid (HK2.out.later HW4.out).flat; have HJM := Lib.hid hjm; have HLV := Lib.hid hlv; clear hjm hlv hb4)
      | (go_at_call 20; (with_reducible refine (layOut_t (laF f (ints out)) (ints out) A g4 v.names.2.1 c lv w4 ((HO2.out.below HW4.out).more HW4.out.size) HON.out HJM.out (HLV.out.la HON.out) (lpl_ge HON.out) hsm).mono ?_); rintro e w5 ⟨g5, xs, S, sls, hs5, rfl, hm5, hlo5, hoi5, hg5, hb5⟩; have HW5 := Lib.hid (HW4.out.trans (hb5.mono HW4.out.size)); replace HP := Lib.hid (HK2.out.later HW5.out).flat; have HM5 := Lib.hid hm5; have HL5 := Lib.hid (And.intro hlo5 hoi5); have HG5 : Hid (w2.heap.size ≤ g5) := Lib.hid (Nat.le_trans HW4.out.size hg5); clear hm5 hlo5 hoi5 hg5 hb5)) | fail
    have HR5 := Lib.hid (HR2.out.later HW5.out)
    have r0 := HR5.out.cell 0 rfl
    have r1 := HR5.out.cell 1 rfl
    have r2 := HR5.out.cell 2 rfl
    have rf0 := HR5.out.free 0
    have rf1 := HR5.out.free 1
    have rf2 := HR5.out.free 2
    have HRZ := Lib.hid (HR5.out.put3 (.slice A v.names.2.1 c) (.slice (some ⟨g5, 0, none⟩) v.names.2.1 v.names.2.1) (.int .i64 (S : Int)))
    have HS3 : Hid (Only [some (w.heap.size + 1)] w5 (((w5.setCell ⟨w.heap.size + 1, 0, none⟩ (.slice A v.names.2.1 c)).setCell ⟨w.heap.size + 1, 1, none⟩ (.slice (some ⟨g5, 0, none⟩) v.names.2.1 v.names.2.1)).setCell ⟨w.heap.size + 1, 2, none⟩ (.int .i64 (S : Int)))) := Lib.hid (((Only.set (by simp) _ _ _).trans (Only.set (by simp) _ _ _)).trans (Only.set (by simp) _ _ _))
    go_wp2
    refine ret_plan rfl (w.heap.size + 1) _ _ _ HRZ.out rfl rfl ?_
    have hw5 := HW5.out
    have hs1 := HS1.out
    refine ⟨.inl ⟨A, c, g5, out, xs, S, rfl, ?_, ⟨HM5.out.only HS3.out (by simp; have := HG5.out; have := HG2.out; omega), by have := HG5.out; have := HG2.out; omega⟩, HLST.out, HLEN.out, HON.out, sls, hs5, HL5.out.1, HL5.out.2⟩, (HB2.out.trans (hw5.mono HB2.out.size)).trans (HS3.out.below (Nat.le_trans HB2.out.size hw5.size) (by intro j hj; simp at hj; omega))⟩
    exact ((HOW.out.below hw5 (Nat.le_refl _)).only HS3.out (fun k hk => by have := (HOW.out.lt hk).1; simp; omega)).more (by omega)
  · obtain ⟨rfl, hno⟩ := ho
    have HNO := Lib.hid hno
    have HB2 : Hid (Below w.heap.size w w2) := Lib.hid (HB1.out.trans (hb2.mono HB1.out.size))
    have HRZ := Lib.hid ((HR.out.later hb2).put3 (.slice none 0 0) (.slice none 0 0) (.int .i64 0))
    have r0 := (HR.out.later hb2).cell 0 rfl
    have r1 := (HR.out.later hb2).cell 1 rfl
    have r2 := (HR.out.later hb2).cell 2 rfl
    have rf0 := (HR.out.later hb2).free 0
    have rf1 := (HR.out.later hb2).free 1
    have rf2 := (HR.out.later hb2).free 2
    have HD : Hid (Below w.heap.size w (((w2.setCell ⟨w.heap.size + 1, 0, none⟩ (.slice none 0 0)).setCell ⟨w.heap.size + 1, 1, none⟩ (.slice none 0 0)).setCell ⟨w.heap.size + 1, 2, none⟩ (.int .i64 0))) := Lib.hid (((HB2.out.setCell (p := ⟨w.heap.size + 1, 0, none⟩) (Nat.le_succ _) _).setCell (p := ⟨w.heap.size + 1, 1, none⟩) (Nat.le_succ _) _).setCell (p := ⟨w.heap.size + 1, 2, none⟩) (Nat.le_succ _) _)
    clear hb2 hno
    go_wp2
    refine ret_plan rfl (w.heap.size + 1) _ _ _ HRZ.out rfl rfl ?_
    exact ⟨.inr ⟨rfl, HNO.out⟩, HD.out⟩

end Go.Proofs.Ytioebjjnadgdjaa
