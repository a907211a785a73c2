/- The document's Print. -/
import Derived.Test.YtkcgikoploohkaaGreatDoorPa2
import Derived.Test.YtkcgikoploohkaaGreatDoorPa4
import Derived.Test.YtkcgikoploohkaaGreatDoorZSf5ToSf8
import Derived.Deep.DeepCutAuto
import Derived.Laws.EntriesVeiled
import Derived.Laws.IdiomStrings
namespace Go.Proofs.YtkcgikoploohkaaGreatDoor
set_option linter.unusedVariables false
set_option linter.unusedSimpArgs false
set_option maxRecDepth 100000
open Go.RowKit Go.Shelf Nums

theorem rprint_v {r : RV} {k j : Nat} {q : Rat} {w : World} (T : ByteArray) (h : r.Is k j q w) (hk : k ≤ 12) (hj : j ≤ 12) (hT : ratStr q = T) : Calls Tryz.prog 49 #[.agg #[.bool r.s, .slice r.a r.n r.c, .slice r.b r.m r.d]] w fun e w' => e = .returned (.string T) ∧ Below w.heap.size w w' := by
  obtain ⟨xs, ys, h0, h1, hq, hn, hm⟩ := h
  exact rprintR T q h0 h1 hq (by omega) (by omega) hT
/-- []byte(s) -/
theorem str_row (w : World) (s : ByteArray) (hs : s.size ≤ maxLen) : TRow (w.drew.alloc (.cells (bytesRow s (grownCap w s.size 0 5)) 5 ((bytesRow s (grownCap w s.size 0 5)).size, (bytesRow s (grownCap w s.size 0 5)).size + 1))) (some ⟨w.heap.size, 0, none⟩) s.size (grownCap w s.size 0 5) s.data.toList := by
  have hb : (w.drew.alloc (.cells (bytesRow s (grownCap w s.size 0 5)) 5 ((bytesRow s (grownCap w s.size 0 5)).size, (bytesRow s (grownCap w s.size 0 5)).size + 1))).heap[w.heap.size]? = some (.cells (bytesRow s (grownCap w s.size 0 5)) 5 ((bytesRow s (grownCap w s.size 0 5)).size, (bytesRow s (grownCap w s.size 0 5)).size + 1)) := heap_alloc_new w.drew _
  refine ⟨(Lib.size_eq s).symm, grownCap_ge _ _ _ _, grownCap_le_maxLen _ _ _ _ hs, w.heap.size, 0, .inl rfl, fun i x hx => ⟨(Array.getElem?_eq_some_iff.1 hb).1, ?_⟩⟩
  rw [Nat.zero_add, cell_of_row _ _ _ _ _ _ hb]
  have hi : i < s.data.toList.length := (List.getElem?_eq_some_iff.1 hx).1
  have hi' : i < s.data.size := by simpa using hi
  rw [bytesRow_at s _ i hi']
  rw [List.getElem?_eq_getElem hi] at hx
  injection hx with hx
  rw [← hx]
  rfl
/-- c is a and b -/
def Cat (a b c : ByteArray) : Prop := a ++ b = c ∧ a.size + b.size ≤ 9223372036854775807
theorem cat_run {a b c : ByteArray} (h : Cat a b c) (w : World) : (Op.stringOp .add a b).run Tryz.prog w = .ok (.string c) w := by
  rw [run_string_add_sum (w := w) a b h.2, h.1]
theorem cat_size {a b c : ByteArray} (h : Cat a b c) : c.size = a.size + b.size := by rw [← h.1, ByteArray.size_append]
theorem cat_list {a b c : ByteArray} (h : Cat a b c) : c.data.toList = a.data.toList ++ b.data.toList := by rw [← h.1, ByteArray.data_append, Array.toList_append]
theorem cat_ex (a b : ByteArray) (h : a.size + b.size ≤ 9223372036854775807) : ∃ c, Cat a b c := ⟨_, rfl, h⟩
/-- the head of a script's text -/
structure HdT (T D1 D2 : ByteArray) where
  a1 : ByteArray
  a2 : ByteArray
  a3 : ByteArray
  a4 : ByteArray
  a5 : ByteArray
  a6 : ByteArray
  c1 : Cat ⟨#[104, 111, 114, 105, 122, 111, 110, 32]⟩ T a1
  c2 : Cat a1 ⟨#[10, 99, 97, 115, 99, 97, 100, 101, 32]⟩ a2
  c3 : Cat a2 D1 a3
  c4 : Cat a3 ⟨#[10, 98, 105, 116, 115, 32]⟩ a4
  c5 : Cat a4 D2 a5
  c6 : Cat a5 ⟨#[10]⟩ a6
theorem hd_ex (T D1 D2 : ByteArray) (h0 : T.size ≤ 1000) (h1 : D1.size ≤ 1000) (h2 : D2.size ≤ 1000) : ∃ h : HdT T D1 D2, h.a6.size ≤ 4000 := by
  have e0 : (⟨#[104, 111, 114, 105, 122, 111, 110, 32]⟩ : ByteArray).size = 8 := rfl
  have e1 : (⟨#[10, 99, 97, 115, 99, 97, 100, 101, 32]⟩ : ByteArray).size = 9 := rfl
  have e2 : (⟨#[10, 98, 105, 116, 115, 32]⟩ : ByteArray).size = 6 := rfl
  have e3 : (⟨#[10]⟩ : ByteArray).size = 1 := rfl
  obtain ⟨a1, c1⟩ := cat_ex ⟨#[104, 111, 114, 105, 122, 111, 110, 32]⟩ T (by omega)
  have s1 := cat_size c1
  obtain ⟨a2, c2⟩ := cat_ex a1 ⟨#[10, 99, 97, 115, 99, 97, 100, 101, 32]⟩ (by omega)
  have s2 := cat_size c2
  obtain ⟨a3, c3⟩ := cat_ex a2 D1 (by omega)
  have s3 := cat_size c3
  obtain ⟨a4, c4⟩ := cat_ex a3 ⟨#[10, 98, 105, 116, 115, 32]⟩ (by omega)
  have s4 := cat_size c4
  obtain ⟨a5, c5⟩ := cat_ex a4 D2 (by omega)
  have s5 := cat_size c5
  obtain ⟨a6, c6⟩ := cat_ex a5 ⟨#[10]⟩ (by omega)
  have s6 := cat_size c6
  exact ⟨⟨a1, a2, a3, a4, a5, a6, c1, c2, c3, c4, c5, c6⟩, by show a6.size ≤ 4000; omega⟩
/-- a change's line behind a text -/
structure LnT (t T1 nm T2 : ByteArray) where
  a1 : ByteArray
  a2 : ByteArray
  a3 : ByteArray
  a4 : ByteArray
  a5 : ByteArray
  a6 : ByteArray
  a7 : ByteArray
  c1 : Cat t ⟨#[97, 116, 32]⟩ a1
  c2 : Cat a1 T1 a2
  c3 : Cat a2 ⟨#[32]⟩ a3
  c4 : Cat a3 nm a4
  c5 : Cat a4 ⟨#[32, 61, 32]⟩ a5
  c6 : Cat a5 T2 a6
  c7 : Cat a6 ⟨#[10]⟩ a7
theorem ln_ex (t T1 nm T2 : ByteArray) (h : t.size ≤ 100000000) (h0 : T1.size ≤ 1000) (h1 : nm.size ≤ 1000) (h2 : T2.size ≤ 1000) : ∃ l : LnT t T1 nm T2, l.a7.size ≤ t.size + 4000 := by
  have e0 : (⟨#[97, 116, 32]⟩ : ByteArray).size = 3 := rfl
  have e1 : (⟨#[32]⟩ : ByteArray).size = 1 := rfl
  have e2 : (⟨#[32, 61, 32]⟩ : ByteArray).size = 3 := rfl
  have e3 : (⟨#[10]⟩ : ByteArray).size = 1 := rfl
  obtain ⟨a1, c1⟩ := cat_ex t ⟨#[97, 116, 32]⟩ (by omega)
  have s1 := cat_size c1
  obtain ⟨a2, c2⟩ := cat_ex a1 T1 (by omega)
  have s2 := cat_size c2
  obtain ⟨a3, c3⟩ := cat_ex a2 ⟨#[32]⟩ (by omega)
  have s3 := cat_size c3
  obtain ⟨a4, c4⟩ := cat_ex a3 nm (by omega)
  have s4 := cat_size c4
  obtain ⟨a5, c5⟩ := cat_ex a4 ⟨#[32, 61, 32]⟩ (by omega)
  have s5 := cat_size c5
  obtain ⟨a6, c6⟩ := cat_ex a5 T2 (by omega)
  have s6 := cat_size c6
  obtain ⟨a7, c7⟩ := cat_ex a6 ⟨#[10]⟩ (by omega)
  have s7 := cat_size c7
  exact ⟨⟨a1, a2, a3, a4, a5, a6, a7, c1, c2, c3, c4, c5, c6, c7⟩, by show a7.size ≤ t.size + 4000; omega⟩
theorem hd_list {q : Rat} {n m : Int} (h : HdT (ratStr q) (bsL (Lib.itoa n)) (bsL (Lib.itoa m))) : h.a6.data.toList = hd1 q ++ hd2 n ++ hd3 m := by
  rw [cat_list h.c6, cat_list h.c5, cat_list h.c4, cat_list h.c3, cat_list h.c2, cat_list h.c1]
  unfold hd1 hd2 hd3 lineP
  rw [join_two, join_two, join_two, Lib.join_one, Lib.join_one, Lib.join_one]
  simp [bHOR, bCAS, bBITS]
theorem ln_list {t : ByteArray} {x : CM} (h : LnT t (ratStr x.p) x.nm (ratStr x.q)) : h.a7.data.toList = t.data.toList ++ chP x.told := by
  rw [cat_list h.c7, cat_list h.c6, cat_list h.c5, cat_list h.c4, cat_list h.c3, cat_list h.c2, cat_list h.c1]
  unfold chP lineP numL CM.told
  rw [join_two, join_two, join_two, join_two, Lib.join_one]
  simp
/-- Print's state -/
structure RpS (w0 w : World) (v : SV) (t : ByteArray) (l : List UInt8) (b : Nat) : Prop where
  s : SBlk w w0.heap.size v
  k : Below w0.heap.size w0 w
  l : t.data.toList = l
  z : t.size ≤ b
theorem RpS.later {w0 w w' : World} {v : SV} {t : ByteArray} {l : List UInt8} {b : Nat} (h : RpS w0 w v t l b) (hb : Below w.heap.size w w') : RpS w0 w' v t l b := ⟨h.s.later hb, bthen h.k hb, h.l, h.z⟩
theorem okP_no {S : ScT} (h : cntB S.cas = false ∨ cntB S.bits = false) : okP S = false := by
  unfold okP
  rcases h with h | h <;> rw [h] <;> simp
theorem cntB_yes {n : Int} (h0 : 0 ≤ n) (h1 : n ≤ 999999) : cntB n = true := by unfold cntB; rw [decide_eq_true h0, decide_eq_true h1]; rfl
theorem cntB_lo {n : Int} (h0 : n < 0) : cntB n = false := by unfold cntB; rw [decide_eq_false (by omega)]; rfl
theorem cntB_hi {n : Int} (h0 : 999999 < n) : cntB n = false := by unfold cntB; rw [show decide (n ≤ 999999) = false from decide_eq_false (by omega)]; simp
theorem all_next {L : List CM} {k : Nat} {x : CM} (hx : L[k]? = some x) : ((L.take (k + 1)).all fun x => chB x.told) = (((L.take k).all fun x => chB x.told) && chB x.told) := by
  rw [take_next hx, List.all_append]; simp
theorem all_bad {L : List CM} {x : CM} (hx : x ∈ L) (h : chB x.told = false) (q : Rat) (n m : Int) : okP ⟨q, n, m, L.map CM.told⟩ = false := by
  unfold okP
  rw [show (L.map CM.told).all chB = false from List.all_eq_false.2 ⟨x.told, List.mem_map_of_mem hx, by rw [h]; decide⟩]
  simp
theorem all_good {L : List CM} {q : Rat} {n m : Int} (h0 : shortT (ratStr q) = true) (h1 : cntB n = true) (h2 : cntB m = true) (h : (L.all fun x => chB x.told) = true) : okP ⟨q, n, m, L.map CM.told⟩ = true := by
  unfold okP
  rw [h0, h1, h2, List.all_map]
  exact h
set_option maxHeartbeats 8000000 in
theorem rprint_run (v : SV) (h : Rat) (L : List CM) (w : World) (hv : v.Is h L w) (h1 : v.h.n ≤ 12 ∧ v.h.m ≤ 12) (h2 : ∀ x ∈ L, x.t.n ≤ 12 ∧ x.t.m ≤ 12 ∧ x.v.n ≤ 12 ∧ x.v.m ≤ 12 ∧ x.nm.size ≤ 200) (h3 : L.length ≤ 30) :
    Calls Tryz.prog 14 #[.agg #[.bool v.h.s, .slice v.h.a v.h.n v.h.c, .slice v.h.b v.h.m v.h.d, .int .i64 v.cas, .int .i64 v.bits, .slice v.a v.n v.c]] w (PrtRes ⟨h, v.cas, v.bits, L.map CM.told⟩ w) := by
  have HB1 := Lib.hid (below_one w (.cells #[.bool v.h.s, .slice v.h.a v.h.n v.h.c, .slice v.h.b v.h.m v.h.d, .int .i64 v.cas, .int .i64 v.bits, .slice v.a v.n v.c] 30))
  have HS := Lib.hid (show SBlk (w.alloc (.cells #[.bool v.h.s, .slice v.h.a v.h.n v.h.c, .slice v.h.b v.h.m v.h.d, .int .i64 v.cas, .int .i64 v.bits, .slice v.a v.n v.c] 30)) w.heap.size v from Blk.new _ _ _)
  have HV := Lib.hid hv
  have HH := Lib.hid h1
  have HX2 := Lib.hid h2
  have HN := Lib.hid (show L.length = v.n from hv.c.1)
  have hnb : (v.n : Int) ≤ 30 := by have := hv.c.1; omega
  clear hv h1 h2 h3
  obtain ⟨p0, p1, p2, p3, p4, p5⟩ := HS.out.cells
  by_cases z1 : v.cas < 0
  · have HO := Lib.hid (okP_no (S := ⟨h, v.cas, v.bits, L.map CM.told⟩) (.inl (cntB_lo z1)))
    go_enter Tryz.func14, Tryz.ntmps14
    go_wp2
    refine bodyPost_ret (v := .tuple #[.slice none 0 0, .int .i64 1]) (by simp [results, Tryz.results14, go_sem, *]) rfl ?_
    exact ⟨fun h => by rw [HO.out] at h; exact absurd h (by decide), fun _ => rfl, HB1.out⟩
  by_cases z2 : 999999 < v.cas
  · have HO := Lib.hid (okP_no (S := ⟨h, v.cas, v.bits, L.map CM.told⟩) (.inl (cntB_hi z2)))
    go_enter Tryz.func14, Tryz.ntmps14
    go_wp2
    refine bodyPost_ret (v := .tuple #[.slice none 0 0, .int .i64 1]) (by simp [results, Tryz.results14, go_sem, *]) rfl ?_
    exact ⟨fun h => by rw [HO.out] at h; exact absurd h (by decide), fun _ => rfl, HB1.out⟩
  by_cases z3 : v.bits < 0
  · have HO := Lib.hid (okP_no (S := ⟨h, v.cas, v.bits, L.map CM.told⟩) (.inr (cntB_lo z3)))
    go_enter Tryz.func14, Tryz.ntmps14
    go_wp2
    refine bodyPost_ret (v := .tuple #[.slice none 0 0, .int .i64 1]) (by simp [results, Tryz.results14, go_sem, *]) rfl ?_
    exact ⟨fun h => by rw [HO.out] at h; exact absurd h (by decide), fun _ => rfl, HB1.out⟩
  by_cases z4 : 999999 < v.bits
  · have HO := Lib.hid (okP_no (S := ⟨h, v.cas, v.bits, L.map CM.told⟩) (.inr (cntB_hi z4)))
    go_enter Tryz.func14, Tryz.ntmps14
    go_wp2
    refine bodyPost_ret (v := .tuple #[.slice none 0 0, .int .i64 1]) (by simp [results, Tryz.results14, go_sem, *]) rfl ?_
    exact ⟨fun h => by rw [HO.out] at h; exact absurd h (by decide), fun _ => rfl, HB1.out⟩
  have HCN := Lib.hid (show (0 ≤ v.cas ∧ v.cas ≤ 999999) ∧ 0 ≤ v.bits ∧ v.bits ≤ 999999 from ⟨⟨by omega, by omega⟩, by omega, by omega⟩)
  have HL := Lib.hid (is_len12 (HV.out.h) HH.out.1 HH.out.2)
  have HC1 := Lib.hid (cntB_yes HCN.out.1.1 HCN.out.1.2)
  have HC2 := Lib.hid (cntB_yes HCN.out.2.1 HCN.out.2.2)
  have HSH := Lib.hid (show shortT (ratStr h) = true from shortT_small (Nat.le_trans (ratStr_size HL.out.1 HL.out.2) (by decide)))
  obtain ⟨D, hD⟩ := hd_ex (ratStr h) (bsL (Lib.itoa v.cas)) (bsL (Lib.itoa v.bits)) (Nat.le_trans (ratStr_size HL.out.1 HL.out.2) (by decide)) (by rw [bsL_size]; exact itoa_len2 (by have := HCN.out; omega) (by have := HCN.out; omega)) (by rw [bsL_size]; exact itoa_len2 (by have := HCN.out; omega) (by have := HCN.out; omega))
  have HD := Lib.hid (show D.a6.data.toList = hd1 h ++ hd2 v.cas ++ hd3 v.bits ∧ D.a6.size ≤ 4000 from ⟨hd_list D, hD⟩)
  clear hD
  obtain ⟨a1, a2, a3, a4, a5, a6, c1, c2, c3, c4, c5, c6⟩ := D
  have HD2 := Lib.hid (show a6.data.toList = hd1 h ++ hd2 v.cas ++ hd3 v.bits ∧ a6.size ≤ 4000 from HD.out)
  clear HD
  have HT1 := Lib.hid (show ∀ W, Below w.heap.size w W → Calls Tryz.prog 49 #[.agg #[.bool v.h.s, .slice v.h.a v.h.n v.h.c, .slice v.h.b v.h.m v.h.d]] W fun e w' => e = .returned (.string (ratStr h)) ∧ Below W.heap.size W w' from fun W hb => rprint_v (ratStr h) (HV.out.h.later hb) HH.out.1 HH.out.2 rfl)
  have HT2 := Lib.hid (show ∀ W, Calls Tryz.prog 50 #[.int .i64 v.cas] W fun e w' => e = .returned (.string (bsL (Lib.itoa v.cas))) ∧ Below W.heap.size W w' from fun W => digits50_t v.cas W HCN.out.1.1 HCN.out.1.2)
  have HT3 := Lib.hid (show ∀ W, Calls Tryz.prog 50 #[.int .i64 v.bits] W fun e w' => e = .returned (.string (bsL (Lib.itoa v.bits))) ∧ Below W.heap.size W w' from fun W => digits50_t v.bits W HCN.out.2.1 HCN.out.2.2)
  obtain ⟨T, hT⟩ : ∃ T, ratStr h = T := ⟨_, rfl⟩
  obtain ⟨D1, hD1⟩ : ∃ T, bsL (Lib.itoa v.cas) = T := ⟨_, rfl⟩
  obtain ⟨D2, hD2⟩ : ∃ T, bsL (Lib.itoa v.bits) = T := ⟨_, rfl⟩
  rw [hT] at HT1 c1
  rw [hD1] at HT2 c3
  rw [hD2] at HT3 c5
  have k1 := fun w => cat_run c1 w
  have k2 := fun w => cat_run c2 w
  have k3 := fun w => cat_run c3 w
  have k4 := fun w => cat_run c4 w
  have k5 := fun w => cat_run c5 w
  have k6 := fun w => cat_run c6 w
  clear hT hD1 hD2 c1 c2 c3 c4 c5 c6
  go_enter Tryz.func14, Tryz.ntmps14
  go_upto_region 3 with (go_at_call 35; (with_reducible refine (short35_t (HV.out.h.later HB1.out) HH.out.1 HH.out.2).mono ?_); rintro e w1 ⟨rfl, hb⟩; replace HS := Lib.hid (HS.out.later hb); replace HB1 := Lib.hid (bthen HB1.out hb); clear hb p0 p1 p2 p3 p4 p5; obtain ⟨p0, p1, p2, p3, p4, p5⟩ := HS.out.cells)
  go_cut [4] (fun s4 wx => ∃ t : ByteArray, s4 = .string t ∧ Hid (RpS w wx v t (hd1 h ++ hd2 v.cas ++ hd3 v.bits) 4000))
  case first =>
    clear p5
    replace HS := Lib.hid (SBlk.later HS.out (Below.refl _ _).drew)
    replace HB1 := Lib.hid HB1.out.drew
    go_region_held3 (fun w' => w'.cell? ⟨w.heap.size, 0, none⟩ = some (.bool v.h.s) ∧ w'.cell? ⟨w.heap.size, 1, none⟩ = some (.slice v.h.a v.h.n v.h.c) ∧ w'.cell? ⟨w.heap.size, 2, none⟩ = some (.slice v.h.b v.h.m v.h.d) ∧ w'.cell? ⟨w.heap.size, 3, none⟩ = some (.int .i64 v.cas) ∧ w'.cell? ⟨w.heap.size, 4, none⟩ = some (.int .i64 v.bits))
      (first | (refine ⟨?_, ?_, ?_, ?_, ?_⟩ <;> with_reducible assumption) | (go_keep; done))
      (first
        | (go_at_call 49; (refine (HT1.out _ HB1.out).mono ?_); rintro e v1 ⟨rfl, hb⟩; replace HS := Lib.hid (SBlk.later HS.out hb); replace HB1 := Lib.hid (bthen HB1.out hb); clear hb p0 p1 p2 p3 p4; obtain ⟨p0, p1, p2, p3, p4, -⟩ := HS.out.cells)
        | (go_at_call 50; (with_reducible refine (HT2.out _).mono ?_); rintro e v2 ⟨rfl, hb⟩; replace HS := Lib.hid (SBlk.later HS.out hb); replace HB1 := Lib.hid (bthen HB1.out hb); clear hb p0 p1 p2 p3 p4; obtain ⟨p0, p1, p2, p3, p4, -⟩ := HS.out.cells)
        | (go_at_call 50; (with_reducible refine (HT3.out _).mono ?_); rintro e v3 ⟨rfl, hb⟩; replace HS := Lib.hid (SBlk.later HS.out hb); replace HB1 := Lib.hid (bthen HB1.out hb); clear hb p0 p1 p2 p3 p4; obtain ⟨p0, p1, p2, p3, p4, -⟩ := HS.out.cells))
    all_goals
      go_wp2_with fail
      go_meet
      exact ⟨_, rfl, Lib.hid ⟨HS.out, HB1.out, HD2.out.1, HD2.out.2⟩⟩
  case rest =>
    obtain ⟨t, rfl, HQ0⟩ := hcut
    clear HS HB1 p0 p1 p2 p3 p4 p5 k1 k2 k3 k4 k5 k6 HT1 HT2 HT3 HD2
    obtain ⟨p0, p1, p2, p3, p4, p5⟩ := HQ0.out.s.cells
    obtain ⟨W0, rfl⟩ : ∃ W0 : World, W0 = wc := ⟨_, rfl⟩
    obtain ⟨l0, hl0⟩ : ∃ l0, hd1 h ++ hd2 v.cas ++ hd3 v.bits = l0 := ⟨_, rfl⟩
    rw [hl0] at HQ0
    have HL0 := Lib.hid hl0
    clear hl0
    go_upto_region 5 with fail
    go_loopw [4, 5] (fun s i wr => ∃ (k : Nat) (t : ByteArray), k ≤ v.n ∧ i = .int .i64 (k : Int) ∧ s = .string t ∧ Hid (RpS w wr v t (l0 ++ ((L.take k).map fun x => chP x.told).flatten) (4000 + k * 4000)) ∧ Hid (((L.take k).all fun x => chB x.told) = true)) (fun _ i _ => v.n - (intOf i).toNat)
    case atStart => exact ⟨0, t, Nat.zero_le _, rfl, rfl, Lib.hid (by simpa using HQ0.out), Lib.hid rfl⟩
    case round =>
      obtain ⟨k, t2, hk, rfl, rfl, HQ, HA⟩ := hrel
      clear HQ0 p0 p1 p2 p3 p4 p5
      obtain ⟨p0, p1, p2, p3, p4, p5⟩ := HQ.out.s.cells
      by_cases hlt : k < v.n
      · obtain ⟨x, hx⟩ : ∃ x, L[k]? = some x := ⟨_, List.getElem?_eq_getElem (by rw [HN.out]; exact hlt)⟩
        obtain ⟨b, off, ha, hbB0, hat0⟩ := HV.out.c.at_ hx
        have hat := hat0.later hbB0 HQ.out.k
        have HMX := Lib.hid (HX2.out x (List.mem_of_getElem? hx))
        have HX := Lib.hid hx
        have HAT := Lib.hid hat
        obtain ⟨c0, c1, c2, c3, c4, c5, c6, -, -⟩ := hat
        rw [show off + k * 7 + 5 = off + k * 7 + 4 + 1 from rfl] at c5
        rw [show off + k * 7 + 6 = off + k * 7 + 4 + 2 from rfl] at c6
        obtain ⟨W1, hW1⟩ : ∃ W1, W1 = wr.alloc (.cells #[.bool x.t.s, .slice x.t.a x.t.n x.t.c, .slice x.t.b x.t.m x.t.d, .string x.nm, .bool x.v.s, .slice x.v.a x.v.n x.v.c, .slice x.v.b x.v.m x.v.d] 43) := ⟨_, rfl⟩
        have hb1 : Below wr.heap.size wr W1 := by rw [hW1]; exact below_one _ _
        have HK1 := Lib.hid (show Blk W1 wr.heap.size 43 #[.bool x.t.s, .slice x.t.a x.t.n x.t.c, .slice x.t.b x.t.m x.t.d, .string x.nm, .bool x.v.s, .slice x.v.a x.v.n x.v.c, .slice x.v.b x.v.m x.v.d] by rw [hW1]; exact Blk.new _ _ _)
        have HS1 := Lib.hid (HQ.out.later hb1)
        have HXT := Lib.hid (RV.Is.later HAT.out.v hb1)
        have HXV := Lib.hid (RV.Is.later HAT.out.z hb1)
        have HW1 := Lib.hid hW1
        clear hW1 hb1 hx hat0 hbB0
        go_upto_region 8 with fail
        rw [← HW1.out]; clear HW1 c0 c1 c2 c3 c4 c5 c6 p0 p1 p2 p3 p4 p5
        obtain ⟨c0, c1, c2, c3, c4, c5, c6⟩ := HK1.out.sev7
        have HA1 := Lib.hid ha
        clear ha
        cases hnm : nameB x.nm.data.toList with
        | false =>
          have HNM := Lib.hid hnm
          have HO := Lib.hid (all_bad (List.mem_of_getElem? HX.out) (show chB x.told = false by unfold chB CM.told; dsimp only; rw [HNM.out]; rfl) h v.cas v.bits)
          clear hnm
          go_wp2_with (go_at_call 51; (with_reducible refine (name_t _ _ (Nat.le_trans HMX.out.2.2.2.2 (by decide))).mono ?_); rw [HNM.out]; rintro e w3 ⟨rfl, rfl⟩)
          refine bodyPost_ret (v := .tuple #[.slice none 0 0, .int .i64 1]) (by simp [results, Tryz.results14, go_sem, *]) rfl ?_
          exact ⟨fun h => by rw [HO.out] at h; exact absurd h (by decide), fun _ => rfl, HS1.out.k⟩
        | true =>
          have HNM := Lib.hid hnm
          have HLX := Lib.hid (is_len12 HXT.out HMX.out.1 HMX.out.2.1)
          have HLV := Lib.hid (is_len12 HXV.out HMX.out.2.2.1 HMX.out.2.2.2.1)
          have HCB := Lib.hid (show chB x.told = true by unfold chB CM.told; dsimp only; rw [HNM.out, shortT_small (Nat.le_trans (ratStr_size HLX.out.1 HLX.out.2) (by decide)), shortT_small (Nat.le_trans (ratStr_size HLV.out.1 HLV.out.2) (by decide))]; rfl)
          clear hnm
          go_upto_region 10 with (first
            | (go_at_call 51; (with_reducible refine (name_t _ _ (Nat.le_trans HMX.out.2.2.2.2 (by decide))).mono ?_); rw [HNM.out]; rintro e w3 ⟨rfl, rfl⟩)
            | (have mk := G1; go_at_call 35; (with_reducible refine (short35_t HXV.out HMX.out.2.2.1 HMX.out.2.2.2.1).mono ?_); rintro e w5 ⟨rfl, hb⟩; replace HS1 := Lib.hid (HS1.out.later hb); replace HK1 := Lib.hid (Blk.later HK1.out hb); replace HXT := Lib.hid (RV.Is.later HXT.out hb); replace HXV := Lib.hid (RV.Is.later HXV.out hb); clear hb c0 c1 c2 c3 c4 c5 c6; obtain ⟨c0, c1, c2, c3, c4, c5, c6⟩ := HK1.out.sev7)
            | (go_at_call 35; (with_reducible refine (short35_t HXT.out HMX.out.1 HMX.out.2.1).mono ?_); rintro e w4 ⟨rfl, hb⟩; replace HS1 := Lib.hid (HS1.out.later hb); replace HK1 := Lib.hid (Blk.later HK1.out hb); replace HXT := Lib.hid (RV.Is.later HXT.out hb); replace HXV := Lib.hid (RV.Is.later HXV.out hb); clear hb c0 c1 c2 c3 c4 c5 c6; obtain ⟨c0, c1, c2, c3, c4, c5, c6⟩ := HK1.out.sev7; have G1 : Hid True := trivial))
          obtain ⟨Y, hY⟩ := ln_ex t2 (ratStr x.p) x.nm (ratStr x.q) (Nat.le_trans HS1.out.z (by omega)) (Nat.le_trans (ratStr_size HLX.out.1 HLX.out.2) (by decide)) (Nat.le_trans HMX.out.2.2.2.2 (by decide)) (Nat.le_trans (ratStr_size HLV.out.1 HLV.out.2) (by decide))
          have hyl := ln_list Y
          obtain ⟨a1, a2, a3, a4, a5, a6, a7, d1, d2, d3, d4, d5, d6, d7⟩ := Y
          have HY := Lib.hid (show a7.data.toList = t2.data.toList ++ chP x.told ∧ a7.size ≤ t2.size + 4000 from ⟨hyl, hY⟩)
          obtain ⟨T, hT⟩ : ∃ T, ratStr x.p = T := ⟨_, rfl⟩
          obtain ⟨T', hT'⟩ : ∃ T, ratStr x.q = T := ⟨_, rfl⟩
          rw [hT] at d2
          rw [hT'] at d6
          have HT1 := Lib.hid hT
          have HT2 := Lib.hid hT'
          have k1 := fun w => cat_run d1 w
          have k2 := fun w => cat_run d2 w
          have k3 := fun w => cat_run d3 w
          have k4 := fun w => cat_run d4 w
          have k5 := fun w => cat_run d5 w
          have k6 := fun w => cat_run d6 w
          have k7 := fun w => cat_run d7 w
          clear hT hT' d1 d2 d3 d4 d5 d6 d7 hY hyl
          obtain ⟨g, hg⟩ : ∃ g, wr.heap.size = g := ⟨_, rfl⟩
          rw [hg] at HK1 c0 c1 c2 c3 c4 c5 c6 ⊢
          clear hg
          replace HS1 := Lib.hid (HS1.out.later (Below.refl _ _).drew); replace HK1 := Lib.hid (Blk.later HK1.out (Below.refl _ _).drew); replace HXT := Lib.hid (RV.Is.later HXT.out (Below.refl _ _).drew); replace HXV := Lib.hid (RV.Is.later HXV.out (Below.refl _ _).drew)
          go_region_held3 (fun w' => w'.cell? ⟨g, 0, none⟩ = some (.bool x.t.s) ∧ w'.cell? ⟨g, 1, none⟩ = some (.slice x.t.a x.t.n x.t.c) ∧ w'.cell? ⟨g, 2, none⟩ = some (.slice x.t.b x.t.m x.t.d) ∧ w'.cell? ⟨g, 3, none⟩ = some (.string x.nm) ∧ w'.cell? ⟨g, 4, none⟩ = some (.bool x.v.s) ∧ w'.cell? ⟨g, 5, none⟩ = some (.slice x.v.a x.v.n x.v.c) ∧ w'.cell? ⟨g, 6, none⟩ = some (.slice x.v.b x.v.m x.v.d))
            (first | (refine ⟨?_, ?_, ?_, ?_, ?_, ?_, ?_⟩ <;> with_reducible assumption) | (go_keep; done))
            (first
              | (go_at_call 49; (with_reducible refine (rprint_v T HXT.out HMX.out.1 HMX.out.2.1 HT1.out).mono ?_); rintro e v1 ⟨rfl, hb⟩; replace HS1 := Lib.hid (HS1.out.later hb); replace HK1 := Lib.hid (Blk.later HK1.out hb); replace HXT := Lib.hid (RV.Is.later HXT.out hb); replace HXV := Lib.hid (RV.Is.later HXV.out hb); clear hb c0 c1 c2 c3 c4 c5 c6; obtain ⟨c0, c1, c2, c3, c4, c5, c6⟩ := HK1.out.sev7)
              | (go_at_call 49; (with_reducible refine (rprint_v T' HXV.out HMX.out.2.2.1 HMX.out.2.2.2.1 HT2.out).mono ?_); rintro e v2 ⟨rfl, hb⟩; replace HS1 := Lib.hid (HS1.out.later hb); replace HK1 := Lib.hid (Blk.later HK1.out hb); replace HXT := Lib.hid (RV.Is.later HXT.out hb); replace HXV := Lib.hid (RV.Is.later HXV.out hb); clear hb c0 c1 c2 c3 c4 c5 c6; obtain ⟨c0, c1, c2, c3, c4, c5, c6⟩ := HK1.out.sev7))
          all_goals
            have hk1 : (k : Int) + 1 ≤ 9223372036854775807 := by omega
            have HQ2 := Lib.hid (show RpS w _ v a7 (l0 ++ ((L.take (k + 1)).map fun x => chP x.told).flatten) (4000 + (k + 1) * 4000) from ⟨HS1.out.s, HS1.out.k, by rw [HY.out.1, HS1.out.l, take_next HX.out]; simp, by have := HY.out.2; have := HS1.out.z; omega⟩)
            have HA2 := Lib.hid (show ((L.take (k + 1)).all fun x => chB x.told) = true by rw [all_next HX.out, HA.out, HCB.out]; rfl)
            clear HS1 HK1 HXT HXV c0 c1 c2 c3 c4 c5 c6 k1 k2 k3 k4 k5 k6 k7 HQ
            go_wp2_with fail
            go_roundw
            case rel => exact ⟨k + 1, a7, by omega, by go_num, rfl, HQ2, HA2⟩
            case measure => simp [intOf]; omega
      · obtain rfl : k = v.n := by omega
        have kc := fun w s => run_bytes_of_string (P := Tryz.prog) w 9 22 5 s Tryz.underlying9 Tryz.underlying22 Tryz.underlying5
        have HO := Lib.hid (all_good HSH.out HC1.out HC2.out (by have := HA.out; rw [List.take_of_length_le (by rw [HN.out]; exact Nat.le_refl _)] at this; exact this) : okP ⟨h, v.cas, v.bits, L.map CM.told⟩ = true)
        have HPL := Lib.hid (show t2.data.toList = printM ⟨h, v.cas, v.bits, L.map CM.told⟩ by rw [HQ.out.l, ← HL0.out]; exact print_l HN.out)
        have HRW := Lib.hid (str_row wr t2 (Nat.le_trans HQ.out.z (by unfold maxLen; omega)))
        have HBW := Lib.hid (show Below w.heap.size w (wr.drew.alloc (.cells (bytesRow t2 (grownCap wr t2.size 0 5)) 5 ((bytesRow t2 (grownCap wr t2.size 0 5)).size, (bytesRow t2 (grownCap wr t2.size 0 5)).size + 1))) from (HQ.out.k.drew).alloc HQ.out.k.size _)
        go_wp2
        refine bodyPost_ret (v := .tuple #[.slice (some ⟨wr.heap.size, 0, none⟩) t2.size (grownCap wr t2.size 0 5), .int .i64 0]) (by simp [results, Tryz.results14, go_sem, *]) rfl ?_
        exact ⟨fun _ => ⟨_, _, _, rfl, by rw [← HPL.out]; exact HRW.out⟩, fun h => by rw [HO.out] at h; exact absurd h (by decide), HBW.out⟩

end Go.Proofs.YtkcgikoploohkaaGreatDoor
