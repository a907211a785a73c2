import Derived.Test.YtkcgikoploohkaaGreatDoorZSe1ToSe2
import Derived.Test.YtkcgikoploohkaaGreatDoorZSd4
import Derived.Deep.DeepCutAuto
import Derived.Laws.EntriesVeiled
import Derived.Deep.RegionHeld3
import Derived.Lib.ItoaLen
namespace Go.Proofs.YtkcgikoploohkaaGreatDoor
set_option linter.unusedVariables false
set_option linter.unusedSimpArgs false
set_option maxRecDepth 100000
open Go.RowKit Go.Shelf Nums
structure PrSt (w0 w : World) (v : SV) (l : List UInt8) (b : Bool) : Prop where
  s : SBlk w w0.heap.size v
  u : Buf (w0.heap.size + 1) l w
  g : Blk w (w0.heap.size + 1 + 1) 4 #[.bool b]
  k : Below w0.heap.size w0 w
  vs : Gl w
theorem PrSt.later {w0 w w' : World} {v : SV} {l : List UInt8} {b : Bool} (h : PrSt w0 w v l b) (hb : Below w.heap.size w w') : PrSt w0 w' v l b := ⟨h.s.later hb,h.u.later hb,h.g.later hb,h.k.trans (hb.mono h.k.size),h.vs.later hb⟩
theorem PrSt.n9 {w0 w : World} {v : SV} {l : List UInt8} {b : Bool} (h : PrSt w0 w v l b) (h9 : 9≤w0.heap.size) : 9≤w0.heap.size + 1 + 1 := by omega
theorem PrSt.right {w0 w w' : World} {v : SV} {l : List UInt8} {b b' : Bool} (h : PrSt w0 w v l b) (h9 : 9≤w0.heap.size) (ho : Only [w0.heap.size + 1 + 1] w w') (hg : Blk w' (w0.heap.size + 1 + 1) 4 #[.bool b']) : PrSt w0 w' v l b' :=
  ⟨Blk.only h.s ho (by simp;omega),h.u.only ho (fun i hi => by rw [List.mem_singleton] at hi;subst hi;exact ⟨_,_,h.g,by decide,by decide⟩),hg,h.k.trans (ho.below h.k.size (fun j hj => by rw [List.mem_singleton] at hj;omega)),h.vs.only ho (fun i hi => by rw [List.mem_singleton] at hi;omega)⟩
theorem PrSt.put {w0 w w' : World} {v : SV} {l l' : List UInt8} {b : Bool} (h : PrSt w0 w v l b) (h9 : 9≤w0.heap.size) (hu : Buf (w0.heap.size + 1) l' w') (hk : WrK (w0.heap.size + 1) w w') : PrSt w0 w' v l' b :=
  ⟨hk.blk h.s (by decide) (by omega),hu,hk.blk h.g (by decide) (by omega),h.k.trans (hk.b.mono (by omega)),h.vs.below hk.b (by omega)⟩
theorem PrSt.lt {w0 w : World} {v : SV} {l : List UInt8} {b : Bool} (h : PrSt w0 w v l b) : w0.heap.size + 1≤w.heap.size := by have := h.g.lt;omega
theorem PrSt.line_t {w0 w : World} {v : SV} {l : List UInt8} {b : Bool} (h : PrSt w0 w v l b) (h9 : 9≤w0.heap.size) (ws : List ByteArray) (hne : 0 < ws.length) (hn : ws.length≤1000) (hl : l.length≤100000000000) (hw : (Lib.join (ws.map (·.data.toList)) [32]).length≤100000000000) :
    Calls Tryz.prog 39 #[.slice (some ⟨w.heap.size,0,none⟩) ws.length ws.length,.pointer (some ⟨w0.heap.size + 1,0,none⟩)] (w.alloc (.cells (ws.map Value.string).toArray 9)) fun e w' => e = .returned (.tuple #[])∧PrSt w0 w' v (l ++ lineP (ws.map (·.data.toList))) b∧∀ g T vs,Blk w g T vs→T≠5→g≠w0.heap.size + 1→Blk w' g T vs := by
  have h1 := h.later (below_one w (.cells (ws.map Value.string).toArray 9))
  have hz := h1.lt
  refine (put_t (w0.heap.size + 1) l _ _ _ ws _ h1.u (srow_new w ws 9 (by unfold maxLen;omega)) hz hne hn hl hw).mono ?_
  rintro e w' ⟨rfl,h2,h3⟩
  exact ⟨rfl,h1.put h9 h2 h3,fun g T vs hb hT hg => h3.blk (hb.later (below_one _ _)) hT hg⟩
theorem PrSt.nof {w0 w : World} {v : SV} {l : List UInt8} {b : Bool} (h : PrSt w0 w v l b) (h9 : 9≤w0.heap.size) {r : RV} {q : Rat} (hr : r.Is r.n r.m q w0) (hk : r.n≤90) (hj : r.m≤90) :
    Calls Tryz.prog 43 #[.agg #[.bool r.s,.slice r.a r.n r.c,.slice r.b r.m r.d],.pointer (some ⟨w0.heap.size + 1 + 1,0,none⟩)] w fun e w' => e = .returned (.string (ratStr q))∧PrSt w0 w' v l (b && shortT (ratStr q))∧Only [w0.heap.size + 1 + 1] w w' :=
  (nof_t r r.n r.m q _ b w h.vs (hr.later h.k) hk hj h.g).mono fun e w' ⟨he,hg,ho⟩ => ⟨he,h.right h9 ho hg,ho⟩
theorem PrSt.cof {w0 w : World} {v : SV} {l : List UInt8} {b : Bool} (h : PrSt w0 w v l b) (h9 : 9≤w0.heap.size) (n : Int) (h0 : -9223372036854775808≤n) (h1 : n≤9223372036854775807) :
    Calls Tryz.prog 45 #[.int .i64 n,.pointer (some ⟨w0.heap.size + 1 + 1,0,none⟩)] w fun e w' => e = .returned (.string (bsL (Lib.itoa n)))∧PrSt w0 w' v l (b && cntB n) :=
  (cof_t n _ b w h.vs (by omega) h0 h1 h.g).mono fun e w' ⟨he,hg,ho⟩ => ⟨he,h.right h9 ho hg⟩
theorem numL_len {r : RV} {q : Rat} {w : World} (hr : r.Is r.n r.m q w) (hk : r.n≤90) (hj : r.m≤90) : (ratStr q).data.toList.length≤1802 := by
  have hl := is_len hr hk hj
  have := ratStr_sizeX hl.1 hl.2
  have e := Lib.size_eq (ratStr q)
  omega
theorem join2_len (a b : List UInt8) : (Lib.join [a,b] [32]).length = a.length + 1 + b.length := by simp [Lib.join];omega
theorem join5_len (a b c d e : List UInt8) : (Lib.join [a,b,c,d,e] [32]).length = a.length + 1 + (b.length + 1 + (c.length + 1 + (d.length + 1 + e.length))) := by simp [Lib.join];omega
theorem itoa_len2 {n : Int} (h0 : -9223372036854775808≤n) (h1 : n≤9223372036854775807) : (Lib.itoa n).length≤1000 := by
  exact Nat.le_trans (Lib.itoa_length_le n h0 h1) (by omega)
def hd1 (h : Rat) : List UInt8 := [] ++ lineP [bHOR.data.toList,(ratStr h).data.toList]
def hd3 (n : Int) : List UInt8 := lineP [bBITS.data.toList,(bsL (Lib.itoa n)).data.toList]
def hd2 (n : Int) : List UInt8 := lineP [bCAS.data.toList,(bsL (Lib.itoa n)).data.toList]
theorem lineP_len (ws : List (List UInt8)) : (lineP ws).length = (Lib.join ws [32]).length + 1 := by unfold lineP;simp
theorem hd_len3 {h : Rat} {n m : Int} (h1 : (hd1 h ++ hd2 n).length≤4000) (h2 : (Lib.itoa m).length≤1000) : (hd1 h ++ hd2 n ++ hd3 m).length≤10000 := by
  rw [List.length_append]
  unfold hd3;rw [lineP_len,join2_len,bsL_list]
  have : bBITS.data.toList.length = 4 := rfl
  omega
theorem hd_len {h : Rat} {n : Int} (h1 : (ratStr h).data.toList.length≤1802) (h2 : (Lib.itoa n).length≤1000) : (hd1 h).length≤2000∧(hd1 h ++ hd2 n).length≤4000 := by
  have e1 : (hd1 h).length≤2000 := by
    unfold hd1;rw [List.nil_append,lineP_len,join2_len]
    have : bHOR.data.toList.length = 7 := rfl
    omega
  refine ⟨e1, ?_⟩
  rw [List.length_append]
  unfold hd2;rw [lineP_len,join2_len,bsL_list]
  have : bCAS.data.toList.length = 7 := rfl
  omega
def wsC (x : CM) : List ByteArray := [⟨#[97,116]⟩,ratStr x.p,x.nm,⟨#[61]⟩,ratStr x.q]
theorem wsC_len {x : CM} {w : World} (h1 : x.t.Is x.t.n x.t.m x.p w) (h2 : x.v.Is x.v.n x.v.m x.q w) (hm : x.t.n≤90∧x.t.m≤90∧x.v.n≤90∧x.v.m≤90∧x.nm.size≤1000000) : (Lib.join ((wsC x).map (·.data.toList)) [32]).length≤1009999 := by
  have e1 := numL_len h1 hm.1 hm.2.1
  have e2 := numL_len h2 hm.2.2.1 hm.2.2.2.1
  have e3 := Lib.size_eq x.nm
  have e4 := hm.2.2.2.2
  unfold wsC
  simp only [List.map]
  rw [join5_len]
  have : ([97,116] : List UInt8).length = 2 := rfl
  have : ([61] : List UInt8).length = 1 := rfl
  omega
theorem take_next {α : Type} {L : List α} {k : Nat} {x : α} (hx : L[k]? = some x) : L.take (k + 1) = L.take k ++ [x] := by rw [List.take_add_one,hx];rfl
theorem loop_l {L : List CM} {k : Nat} {x : CM} (hx : L[k]? = some x) (l0 : List UInt8) : l0 ++ ((L.take (k + 1)).map fun x => chP x.told).flatten = (l0 ++ ((L.take k).map fun x => chP x.told).flatten) ++ lineP ((wsC x).map (·.data.toList)) := by
  rw [take_next hx,List.map_append,List.flatten_append,List.append_assoc]
  congr 2
  exact List.append_nil _
theorem loop_b {L : List CM} {k : Nat} {x : CM} (hx : L[k]? = some x) (b0 : Bool) : (b0 && (L.take (k + 1)).all fun x => chB x.told) = ((b0 && (L.take k).all fun x => chB x.told) && chB x.told) := by
  rw [take_next hx,List.all_append,←Bool.and_assoc]
  simp
theorem prst_eq {w w' : World} {v : SV} {l l' : List UInt8} {b b' : Bool} (h : PrSt w w' v l b) (hl : l' = l) (hb : b' = b) : PrSt w w' v l' b' := by rw [hl,hb];exact h
def PrtRes (S : ScT) (w : World) (e : Ending) (w' : World) : Prop := (okP S = true→∃ a n c,e = .returned (.tuple #[.slice a n c,.int .i64 0])∧TRow w' a n c (printM S))∧(okP S = false→e = .returned (.tuple #[.slice none 0 0,.int .i64 1]))∧Below w.heap.size w w'
theorem print_l {L : List CM} {h : Rat} {n m : Int} {k : Nat} (hL : L.length = k) : hd1 h ++ hd2 n ++ hd3 m ++ ((L.take k).map fun x => chP x.told).flatten = printM ⟨h,n,m,L.map CM.told⟩ := by
  rw [List.take_of_length_le (by omega)]
  unfold printM
  rw [List.map_map]
  rfl
theorem print_b {L : List CM} {h : Rat} {n m : Int} {k : Nat} (hL : L.length = k) : ((true && shortT (ratStr h) && cntB n && cntB m) && (L.take k).all fun x => chB x.told) = okP ⟨h,n,m,L.map CM.told⟩ := by
  rw [List.take_of_length_le (by omega),Bool.true_and]
  unfold okP
  rw [List.all_map]
  rfl
theorem trow_own {w : World} {B n : Nat} {u : Value} {l : List UInt8} (h : w.ownsRow B 5 1 u n (Lib.byteCells l)) : ∃ a n c,u = .slice a n c∧TRow w a n c l := by
  obtain ⟨h1,h2⟩ := h
  have hl : l.length = n := by rw [Lib.byteCells_length] at h1;omega
  rcases h2 with ⟨rfl,rfl⟩ | ⟨g,cap,cur,rfl,hb,hg,hc,hm,hs,ht⟩
  · exact ⟨none,0,0,rfl,hl,Nat.le_refl _,Nat.zero_le _,0,0,.inr (Nat.le_refl _),fun i x hx => by rw [List.eq_nil_of_length_eq_zero hl] at hx;cases hx⟩
  · refine ⟨_,_,_,rfl,hl,hc,hm,g,0,.inl rfl,fun i x hx => ⟨(Array.getElem?_eq_some_iff.1 hg).1, ?_⟩⟩
    have hk : Blk w g 5 cur := hg
    rw [Nat.zero_add]
    refine hk.cell i ?_
    have hi : i < n := by rw [←hl];exact (List.getElem?_eq_some_iff.1 hx).1
    have e : (Lib.byteCells l)[i]? = some (.int .u8 (x.toNat : Int)) := by unfold Lib.byteCells;rw [List.getElem?_map,hx];rfl
    rw [←ht,List.getElem?_take_of_lt (by omega)] at e
    rw [←Array.getElem?_toList]
    exact e
theorem Blk.sev7 {w : World} {g T : Nat} {a b c d e f i : Value} (h : Blk w g T #[a,b,c,d,e,f,i]) : w.cell? ⟨g,0,none⟩ = some a∧w.cell? ⟨g,1,none⟩ = some b∧w.cell? ⟨g,2,none⟩ = some c∧w.cell? ⟨g,3,none⟩ = some d∧w.cell? ⟨g,4,none⟩ = some e∧w.cell? ⟨g,5,none⟩ = some f∧w.cell? ⟨g,6,none⟩ = some i := ⟨h.cell 0 rfl,h.cell 1 rfl,h.cell 2 rfl,h.cell 3 rfl,h.cell 4 rfl,h.cell 5 rfl,h.cell 6 rfl⟩
set_option maxHeartbeats 8000000 in
theorem print_run (v : SV) (h : Rat) (L : List CM) (w : World) (hg : Gl w) (hv : v.Is h L w) (h1 : v.h.n≤90∧v.h.m≤90) (h2 : ∀ x∈L,x.t.n≤90∧x.t.m≤90∧x.v.n≤90∧x.v.m≤90∧x.nm.size≤1000000) (h3 : L.length≤70000) (hc : -9223372036854775808≤v.cas∧v.cas≤9223372036854775807∧-9223372036854775808≤v.bits∧v.bits≤9223372036854775807) :
    Calls Tryz.prog 13 #[.agg #[.bool v.h.s,.slice v.h.a v.h.n v.h.c,.slice v.h.b v.h.m v.h.d,.int .i64 v.cas,.int .i64 v.bits,.slice v.a v.n v.c]] w (PrtRes ⟨h,v.cas,v.bits,L.map CM.told⟩ w) := by
  obtain ⟨W1,hW1⟩ : ∃ W1,W1 = w.alloc (.cells #[.bool v.h.s,.slice v.h.a v.h.n v.h.c,.slice v.h.b v.h.m v.h.d,.int .i64 v.cas,.int .i64 v.bits,.slice v.a v.n v.c] 30) := ⟨_,rfl⟩
  obtain ⟨W2,hW2⟩ : ∃ W2,W2 = W1.alloc (.cells #[.slice none 0 0,.int .i64 0,.int .i8 0] 69) := ⟨_,rfl⟩
  obtain ⟨W3,hW3⟩ : ∃ W3,W3 = W2.alloc (.cells #[.bool true] 4) := ⟨_,rfl⟩
  have HS0 : Hid (PrSt w W3 v [] true) := by
    have s1 : W1.heap.size = w.heap.size + 1 := by rw [hW1];simp
    have s2 : W2.heap.size = w.heap.size + 1 + 1 := by rw [hW2];simp [s1]
    have b1 : Below w.heap.size w W1 := by rw [hW1];exact below_one _ _
    have b2 : Below W1.heap.size W1 W2 := by rw [hW2];exact below_one _ _
    have b3 : Below W2.heap.size W2 W3 := by rw [hW3];exact below_one _ _
    have k0 : SBlk W1 w.heap.size v := by rw [hW1];exact Blk.mk rfl
    have k1 : Buf (w.heap.size + 1) [] W2 := by
      rw [hW2,←s1]
      exact Lib.fresh_isBuffer 69 5 W1
    exact Lib.hid ⟨(k0.later b2).later b3,k1.later b3,by rw [hW3];exact Blk.mk s2,bthen (bthen b1 b2) b3,((hg.later b1).later b2).later b3⟩
  have HW : Hid (((w.alloc (.cells #[.bool v.h.s,.slice v.h.a v.h.n v.h.c,.slice v.h.b v.h.m v.h.d,.int .i64 v.cas,.int .i64 v.bits,.slice v.a v.n v.c] 30)).alloc (.cells #[.slice none 0 0,.int .i64 0,.int .i8 0] 69)).alloc (.cells #[.bool true] 4) = W3) := Lib.hid (by rw [hW3,hW2,hW1])
  have HV := Lib.hid hv
  have HN := Lib.hid h1
  have HC := Lib.hid hc
  have H9 := Lib.hid hg.s
  clear hW1 hW2 hW3 hg hv h1 hc W1 W2
  go_enter Tryz.func13,Tryz.ntmps13
  go_upto_region 6 with fail
  rw [HW.out];clear HW
  obtain ⟨p0,p1,p2,p3,p4,p5⟩ := HS0.out.s.cells
  have HL1 := Lib.hid (numL_len HV.out.h HN.out.1 HN.out.2)
  have HL2 := Lib.hid (itoa_len2 HC.out.1 HC.out.2.1)
  have HL3 := Lib.hid (itoa_len2 HC.out.2.2.1 HC.out.2.2.2)
  have HLL := Lib.hid (show (hd1 h).length≤2000∧(hd1 h ++ hd2 v.cas).length≤4000 from hd_len HL1.out HL2.out)
  go_wp2_with (first
    | (have mk := HS5;go_at_call 39;(refine (HS5.out.line_t H9.out [bBITS,bsL (Lib.itoa v.bits)] (by simp) (by simp) (Nat.le_trans HLL.out.2 (by omega)) (by have := HL3.out;simp only [List.map];rw [join2_len,bsL_list];have : bBITS.data.toList.length = 4 := rfl;omega)).mono ?_);rintro e w6 ⟨rfl,hp,-⟩;have HS6 := Lib.hid hp;clear hp p0 p1 p2 p3 p4 p5;obtain ⟨p0,p1,p2,p3,p4,p5⟩ := HS6.out.s.cells)
    | (have mk := HS4;go_at_call 45;(with_reducible refine (HS4.out.cof H9.out v.bits HC.out.2.2.1 HC.out.2.2.2).mono ?_);rintro e w5 ⟨rfl,hp⟩;have HS5 := Lib.hid hp;clear hp p0 p1 p2 p3 p4 p5;obtain ⟨p0,p1,p2,p3,p4,p5⟩ := HS5.out.s.cells)
    | (have mk := HS3;go_at_call 39;(refine (HS3.out.line_t H9.out [bCAS,bsL (Lib.itoa v.cas)] (by simp) (by simp) (Nat.le_trans HLL.out.1 (by omega)) (by have := HL2.out;simp only [List.map];rw [join2_len,bsL_list];have : bCAS.data.toList.length = 7 := rfl;omega)).mono ?_);rintro e w4 ⟨rfl,hp,-⟩;have HS4 := Lib.hid hp;clear hp p0 p1 p2 p3 p4 p5;obtain ⟨p0,p1,p2,p3,p4,p5⟩ := HS4.out.s.cells)
    | (have mk := HS2;go_at_call 45;(with_reducible refine (HS2.out.cof H9.out v.cas HC.out.1 HC.out.2.1).mono ?_);rintro e w3 ⟨rfl,hp⟩;have HS3 := Lib.hid hp;clear hp p0 p1 p2 p3 p4 p5;obtain ⟨p0,p1,p2,p3,p4,p5⟩ := HS3.out.s.cells)
    | (have mk := HS1;go_at_call 39;(refine (HS1.out.line_t H9.out [bHOR,ratStr h] (by simp) (by simp) (by simp) (by have := HL1.out;simp only [List.map];rw [join2_len];have : bHOR.data.toList.length = 7 := rfl;omega)).mono ?_);rintro e w2 ⟨rfl,hp,-⟩;have HS2 := Lib.hid hp;clear hp p0 p1 p2 p3 p4 p5;obtain ⟨p0,p1,p2,p3,p4,p5⟩ := HS2.out.s.cells)
    | (have mk := HS0;go_at_call 43;(with_reducible refine (HS0.out.nof H9.out HV.out.h HN.out.1 HN.out.2).mono ?_);rintro e w1 ⟨rfl,hp,-⟩;have HS1 := Lib.hid hp;clear hp p0 p1 p2 p3 p4 p5;obtain ⟨p0,p1,p2,p3,p4,p5⟩ := HS1.out.s.cells))
  obtain ⟨l0,b0,HP,hl0,hb0,hlen⟩ : ∃ l0 b0,Hid (PrSt w w6 v l0 b0)∧l0 = hd1 h ++ hd2 v.cas ++ hd3 v.bits∧b0 = (true && shortT (ratStr h) && cntB v.cas && cntB v.bits)∧l0.length≤10000 := ⟨_,_,HS6,rfl,rfl,hd_len3 HLL.out.2 HL3.out⟩
  clear HS0 HS1 HS2 HS3 HS4 HS5 HS6 HL1 HL2 HL3 HLL p0 p1 p2 p3 p4 p5
  have HL0 := Lib.hid hl0
  have HB0 := Lib.hid hb0
  have HLN := Lib.hid hlen
  have hnL : L.length = v.n := HV.out.c.1
  have hnm : (v.n : Int)≤70000 := by omega
  have HNL := Lib.hid hnL
  have HX2 := Lib.hid h2
  clear hl0 hb0 hlen hnL h2 h3
  go_loopw [38] (fun t wr => ∃ k : Nat,k≤v.n∧t = .int .i64 k∧Hid (PrSt w wr v (l0 ++ ((L.take k).map fun x => chP x.told).flatten) (b0 && (L.take k).all fun x => chB x.told))∧Hid ((l0 ++ ((L.take k).map fun x => chP x.told).flatten).length≤10000 + k * 1010000)) (fun t _ => v.n - (intOf t).toNat)
  case atStart => exact ⟨0,Nat.zero_le _,rfl,Lib.hid (by simpa using HP.out),Lib.hid (by simpa using HLN.out)⟩
  case round =>
    obtain ⟨k,hk,rfl,HQ,HLQ⟩ := hrel
    clear HP
    by_cases hlt : k < v.n
    · obtain ⟨x,hx⟩ : ∃ x,L[k]? = some x := ⟨_,List.getElem?_eq_getElem (by rw [HNL.out];exact hlt)⟩
      obtain ⟨b,off,ha,hbB0,hat0⟩ := HV.out.c.at_ hx
      have HT1 := Lib.hid (show x.t.Is x.t.n x.t.m x.p w from hat0.v)
      have HT2 := Lib.hid (show x.v.Is x.v.n x.v.m x.q w from hat0.z)
      have hat := hat0.later hbB0 HQ.out.k
      clear hat0 hbB0
      have hmx := HX2.out x (List.mem_of_getElem? hx)
      have HX := Lib.hid hx
      have HMX := Lib.hid hmx
      have HAT := Lib.hid hat
      have HJ := Lib.hid (show (Lib.join ((wsC x).map (·.data.toList)) [32]).length≤100000000000 from Nat.le_trans (wsC_len HT1.out HT2.out hmx) (by omega))
      have HJ2 := Lib.hid (wsC_len HT1.out HT2.out hmx)
      have HLB := Lib.hid (show (l0 ++ ((L.take k).map fun x => chP x.told).flatten).length≤100000000000 from Nat.le_trans HLQ.out (by omega))
      clear hx hmx hat
      obtain ⟨c0,c1,c2,c3,c4,c5,c6,-,-⟩ := HAT.out
      rw [show off + k * 7 + 5 = off + k * 7 + 4 + 1 from rfl] at c5
      rw [show off + k * 7 + 6 = off + k * 7 + 4 + 2 from rfl] at c6
      obtain ⟨lq,hlq⟩ : ∃ lq,l0 ++ ((L.take k).map fun x => chP x.told).flatten = lq := ⟨_,rfl⟩
      obtain ⟨bq,hbq⟩ : ∃ bq,(b0 && (L.take k).all fun x => chB x.told) = bq := ⟨_,rfl⟩
      rw [hlq,hbq] at HQ
      rw [hlq] at HLQ HLB
      have HLQ2 := Lib.hid hlq
      have HBQ2 := Lib.hid hbq
      clear hlq hbq
      have p0 : wr.cell? ⟨w.heap.size + 1 + 1,0,none⟩ = some (.bool bq) := HQ.out.g.cell 0 rfl
      have pf := HQ.out.g.free 0
      obtain ⟨W1,hW1⟩ : ∃ W1,W1 = wr.alloc (.cells #[.bool x.t.s,.slice x.t.a x.t.n x.t.c,.slice x.t.b x.t.m x.t.d,.string x.nm,.bool x.v.s,.slice x.v.a x.v.n x.v.c,.slice x.v.b x.v.m x.v.d] 43) := ⟨_,rfl⟩
      have hb1 : Below wr.heap.size wr W1 := by rw [hW1];exact below_one _ _
      have HK1 := Lib.hid (show Blk W1 wr.heap.size 43 #[.bool x.t.s,.slice x.t.a x.t.n x.t.c,.slice x.t.b x.t.m x.t.d,.string x.nm,.bool x.v.s,.slice x.v.a x.v.n x.v.c,.slice x.v.b x.v.m x.v.d] by rw [hW1];exact Blk.new _ _ _)
      have HS1 := Lib.hid (HQ.out.later hb1)
      have hgt : w.heap.size + 1 + 1 < wr.heap.size := HQ.out.g.lt
      have HGT := Lib.hid hgt
      have HBR := Lib.hid hb1
      have HW1 := Lib.hid hW1
      clear hW1 hb1 hgt
      go_upto_region 12 with fail
      rw [←HW1.out];clear HW1 c0 c1 c2 c3 c4 c5 c6 p0 pf
      have p0 : W1.cell? ⟨w.heap.size + 1 + 1,0,none⟩ = some (.bool bq) := HS1.out.g.cell 0 rfl
      have pf := HS1.out.g.free 0
      have c3 : W1.cell? ⟨wr.heap.size,3,none⟩ = some (.string x.nm) := HK1.out.cell 3 rfl
      cases bq
      · have HS2 := Lib.hid (HS1.out.right H9.out (Only.set (List.mem_singleton.2 rfl) 0 _ _) (HS1.out.g.set 0 (.bool false)))
        have HK2 := Lib.hid (Blk.only HK1.out (Only.set (S := [w.heap.size + 1 + 1]) (List.mem_singleton.2 rfl) 0 W1 (.bool false)) (by have := HGT.out;simp;omega))
        obtain ⟨W2,hW2⟩ : ∃ W2,W2 = W1.setCell ⟨w.heap.size + 1 + 1,0,none⟩ (.bool false) := ⟨_,rfl⟩
        rw [←hW2] at HS2 HK2
        have HW2 := Lib.hid hW2
        clear hW2
        go_upto_region 13 with fail
        rw [←HW2.out];clear HW2
        go_wp2_with fail
        replace HS2 := Lib.hid (HS2.out.later (Below.refl _ _).drew)
        replace HK2 := Lib.hid (HK2.out.later (Below.refl _ _).drew)
        clear c3 p0 pf
        obtain ⟨c0,c1,c2,c3,c4,c5,c6⟩ := HK2.out.sev7
        go_region_held3 (fun w' => w'.cell? ⟨wr.heap.size,0,none⟩ = some (.bool x.t.s)∧w'.cell? ⟨wr.heap.size,1,none⟩ = some (.slice x.t.a x.t.n x.t.c)∧w'.cell? ⟨wr.heap.size,2,none⟩ = some (.slice x.t.b x.t.m x.t.d)∧w'.cell? ⟨wr.heap.size,3,none⟩ = some (.string x.nm)∧w'.cell? ⟨wr.heap.size,4,none⟩ = some (.bool x.v.s)∧w'.cell? ⟨wr.heap.size,5,none⟩ = some (.slice x.v.a x.v.n x.v.c)∧w'.cell? ⟨wr.heap.size,6,none⟩ = some (.slice x.v.b x.v.m x.v.d))
          (first | (refine ⟨?_, ?_, ?_, ?_, ?_, ?_, ?_⟩ <;> with_reducible assumption) | (go_keep;done) | (refine ⟨?_, ?_, ?_, ?_, ?_, ?_, ?_⟩ <;> (repeat rw [cell_other (by first | (simp;done) | (simp;omega))]) <;> with_reducible assumption))
          (first
            | (go_at_call 39;(refine (HS2.out.line_t H9.out (wsC x) (by unfold wsC;simp) (by unfold wsC;simp) HLB.out HJ.out).mono ?_);rintro e v3 ⟨rfl,hp,hk⟩;replace HS2 := Lib.hid hp;replace HK2 := Lib.hid (hk _ _ _ HK2.out (by decide) (by have := HGT.out;omega));clear hp hk;clear c0 c1 c2 c3 c4 c5 c6;obtain ⟨c0,c1,c2,c3,c4,c5,c6⟩ := HK2.out.sev7)
            | (go_at_call 43;(with_reducible refine (HS2.out.nof H9.out HT1.out HMX.out.1 HMX.out.2.1).mono ?_);rintro e v1 ⟨rfl,hp,ho⟩;replace HS2 := Lib.hid hp;replace HK2 := Lib.hid (Blk.only HK2.out ho (by have := HGT.out;simp;omega));clear hp ho;clear c0 c1 c2 c3 c4 c5 c6;obtain ⟨c0,c1,c2,c3,c4,c5,c6⟩ := HK2.out.sev7)
            | (go_at_call 43;(with_reducible refine (HS2.out.nof H9.out HT2.out HMX.out.2.2.1 HMX.out.2.2.2.1).mono ?_);rintro e v2 ⟨rfl,hp,ho⟩;replace HS2 := Lib.hid hp;replace HK2 := Lib.hid (Blk.only HK2.out ho (by have := HGT.out;simp;omega));clear hp ho;clear c0 c1 c2 c3 c4 c5 c6;obtain ⟨c0,c1,c2,c3,c4,c5,c6⟩ := HK2.out.sev7))
        all_goals
          have HQ2 : Hid (PrSt w v3 v (l0 ++ ((L.take (k + 1)).map fun x => chP x.told).flatten) (b0 && (L.take (k + 1)).all fun x => chB x.told)) := Lib.hid (prst_eq HS2.out (by rw [loop_l HX.out,HLQ2.out]) (by rw [loop_b HX.out,HBQ2.out];unfold chB CM.told;cases nameB x.nm.data.toList <;> cases shortT (ratStr x.p) <;> cases shortT (ratStr x.q) <;> rfl))
          have HL2 := Lib.hid (show (l0 ++ ((L.take (k + 1)).map fun x => chP x.told).flatten).length≤10000 + (k + 1) * 1010000 by
            have e1 := HJ2.out;have e2 := HLQ.out
            rw [loop_l HX.out,HLQ2.out,List.length_append,lineP_len]
            omega)
          clear HS2 HK2 HS1 HK1 c0 c1 c2 c3 c4 c5 c6 HQ HJ HJ2 HLQ
          have hk1 : (k : Int) + 1≤9223372036854775807 := by omega
          go_wp2_with fail
          have HA := Lib.hid ha
          clear ha
          rw [←HA.out]
          go_roundw
          case rel => exact ⟨k + 1,by omega,by go_num,HQ2,HL2⟩
          case measure => simp [intOf];omega
      · go_upto_region 13 with (go_at_call 47;(with_reducible refine (isName_t _ _).mono ?_);rintro e w7 ⟨rfl,hb⟩;have HS7 := Lib.hid (HS1.out.later hb);have HK7 := Lib.hid (HK1.out.later hb);clear hb p0 pf;have p0 : w7.cell? ⟨w.heap.size + 1 + 1,0,none⟩ = some (.bool true) := HS7.out.g.cell 0 rfl;have pf := HS7.out.g.free 0)
        have HS2 := Lib.hid (HS7.out.right H9.out (Only.set (List.mem_singleton.2 rfl) 0 _ _) (HS7.out.g.set 0 (.bool (nameB x.nm.data.toList))))
        have HK2 := Lib.hid (Blk.only HK7.out (Only.set (S := [w.heap.size + 1 + 1]) (List.mem_singleton.2 rfl) 0 w7 (.bool (nameB x.nm.data.toList))) (by have := HGT.out;simp;omega))
        obtain ⟨W2,hW2⟩ : ∃ W2,W2 = w7.setCell ⟨w.heap.size + 1 + 1,0,none⟩ (.bool (nameB x.nm.data.toList)) := ⟨_,rfl⟩
        rw [←hW2] at HS2 HK2
        have HW2 := Lib.hid hW2
        clear hW2 HS7 HK7
        rw [←HW2.out];clear HW2
        go_wp2_with fail
        replace HS2 := Lib.hid (HS2.out.later (Below.refl _ _).drew)
        replace HK2 := Lib.hid (HK2.out.later (Below.refl _ _).drew)
        clear c3 p0 pf
        obtain ⟨c0,c1,c2,c3,c4,c5,c6⟩ := HK2.out.sev7
        go_region_held3 (fun w' => w'.cell? ⟨wr.heap.size,0,none⟩ = some (.bool x.t.s)∧w'.cell? ⟨wr.heap.size,1,none⟩ = some (.slice x.t.a x.t.n x.t.c)∧w'.cell? ⟨wr.heap.size,2,none⟩ = some (.slice x.t.b x.t.m x.t.d)∧w'.cell? ⟨wr.heap.size,3,none⟩ = some (.string x.nm)∧w'.cell? ⟨wr.heap.size,4,none⟩ = some (.bool x.v.s)∧w'.cell? ⟨wr.heap.size,5,none⟩ = some (.slice x.v.a x.v.n x.v.c)∧w'.cell? ⟨wr.heap.size,6,none⟩ = some (.slice x.v.b x.v.m x.v.d))
          (first | (refine ⟨?_, ?_, ?_, ?_, ?_, ?_, ?_⟩ <;> with_reducible assumption) | (go_keep;done) | (refine ⟨?_, ?_, ?_, ?_, ?_, ?_, ?_⟩ <;> (repeat rw [cell_other (by first | (simp;done) | (simp;omega))]) <;> with_reducible assumption))
          (first
            | (go_at_call 39;(refine (HS2.out.line_t H9.out (wsC x) (by unfold wsC;simp) (by unfold wsC;simp) HLB.out HJ.out).mono ?_);rintro e v3 ⟨rfl,hp,hk⟩;replace HS2 := Lib.hid hp;replace HK2 := Lib.hid (hk _ _ _ HK2.out (by decide) (by have := HGT.out;omega));clear hp hk;clear c0 c1 c2 c3 c4 c5 c6;obtain ⟨c0,c1,c2,c3,c4,c5,c6⟩ := HK2.out.sev7)
            | (go_at_call 43;(with_reducible refine (HS2.out.nof H9.out HT1.out HMX.out.1 HMX.out.2.1).mono ?_);rintro e v1 ⟨rfl,hp,ho⟩;replace HS2 := Lib.hid hp;replace HK2 := Lib.hid (Blk.only HK2.out ho (by have := HGT.out;simp;omega));clear hp ho;clear c0 c1 c2 c3 c4 c5 c6;obtain ⟨c0,c1,c2,c3,c4,c5,c6⟩ := HK2.out.sev7)
            | (go_at_call 43;(with_reducible refine (HS2.out.nof H9.out HT2.out HMX.out.2.2.1 HMX.out.2.2.2.1).mono ?_);rintro e v2 ⟨rfl,hp,ho⟩;replace HS2 := Lib.hid hp;replace HK2 := Lib.hid (Blk.only HK2.out ho (by have := HGT.out;simp;omega));clear hp ho;clear c0 c1 c2 c3 c4 c5 c6;obtain ⟨c0,c1,c2,c3,c4,c5,c6⟩ := HK2.out.sev7))
        all_goals
          have HQ2 : Hid (PrSt w v3 v (l0 ++ ((L.take (k + 1)).map fun x => chP x.told).flatten) (b0 && (L.take (k + 1)).all fun x => chB x.told)) := Lib.hid (prst_eq HS2.out (by rw [loop_l HX.out,HLQ2.out]) (by rw [loop_b HX.out,HBQ2.out];unfold chB CM.told;cases nameB x.nm.data.toList <;> cases shortT (ratStr x.p) <;> cases shortT (ratStr x.q) <;> rfl))
          have HL2 := Lib.hid (show (l0 ++ ((L.take (k + 1)).map fun x => chP x.told).flatten).length≤10000 + (k + 1) * 1010000 by
            have e1 := HJ2.out;have e2 := HLQ.out
            rw [loop_l HX.out,HLQ2.out,List.length_append,lineP_len]
            omega)
          clear HS2 HK2 HS1 HK1 c0 c1 c2 c3 c4 c5 c6 HQ HJ HJ2 HLQ
          have hk1 : (k : Int) + 1≤9223372036854775807 := by omega
          go_wp2_with fail
          have HA := Lib.hid ha
          clear ha
          rw [←HA.out]
          go_roundw
          case rel => exact ⟨k + 1,by omega,by go_num,HQ2,HL2⟩
          case measure => simp [intOf];omega
    · obtain rfl : k = v.n := by omega
      have hl := print_l (h := h) (m := v.bits) (n := v.cas) HNL.out
      have hb := print_b (h := h) (m := v.bits) (n := v.cas) HNL.out
      rw [HL0.out,HB0.out,hl,hb] at HQ
      clear hl hb HLQ
      obtain ⟨b,hbo⟩ : ∃ b,okP ⟨h,v.cas,v.bits,L.map CM.told⟩ = b := ⟨_,rfl⟩
      rw [hbo] at HQ
      have HBO := Lib.hid hbo
      clear hbo
      have p0 : wr.cell? ⟨w.heap.size + 1 + 1,0,none⟩ = some (.bool b) := HQ.out.g.cell 0 rfl
      cases b
      · go_wp2
        refine bodyPost_ret (v := .tuple #[.slice none 0 0,.int .i64 1]) (by simp [results,Tryz.results13,go_sem, *]) rfl ?_
        exact ⟨fun h => by rw [HBO.out] at h;exact absurd h (by decide),fun _ => rfl,HQ.out.k⟩
      · go_wp2_with (go_at_call 48;(refine (Tryz.Buffer_Bytes (w.heap.size + 1) (w.heap.size + 1) _ wr HQ.out.u).mono ?_);rintro e w9 ⟨u9,rfl,hr,n9,hw9⟩;have HR9 := Lib.hid hr;have HB9 := Lib.hid (show Below w.heap.size w w9 from HQ.out.k.trans (by rw [hw9];exact ⟨rfl,rfl,rfl,Nat.le_refl _,fun _ _ => rfl⟩));clear hr hw9)
        obtain ⟨a9,n9',c9,rfl,ht9⟩ := trow_own HR9.out
        refine bodyPost_ret (v := .tuple #[.slice a9 n9' c9,.int .i64 0]) (by simp [results,Tryz.results13,go_sem, *]) rfl ?_
        exact ⟨fun _ => ⟨a9,n9',c9,rfl,ht9⟩,fun h => by rw [HBO.out] at h;exact absurd h (by decide),HB9.out⟩
end Go.Proofs.YtkcgikoploohkaaGreatDoor
