import Derived.Test.YtkcgikoploohkaaGreatDoorZScPToScX
import Derived.Laws.AppendOwn
import Derived.Laws.BytesArg
import Derived.Laws.BytesString
import Derived.Laws.Concat
import Derived.RegionTactic
import Derived.Laws.OwnMore
import Derived.BigRegion
import Derived.Test.YtkcgikoploohkaaGreatDoorZScAToScZ
namespace Go.Proofs.YtkcgikoploohkaaGreatDoor
set_option linter.unusedVariables false
set_option linter.unusedSimpArgs false
set_option maxRecDepth 100000
open Go.RowKit Go.Shelf
theorem Tryz.infoStr : (Tryz.prog.info? 9).map (fun i => (i.zero,i.size,i.bytes)) = some (some (.string ⟨#[]⟩),1,16) := by kernel_rfl
theorem srow_own {w : World} {B n : Nat} {u : Value} {L : List ByteArray} (h : w.ownsRow B 9 1 u n (L.map Value.string)) : ∃ a c,u = .slice a n c∧SRow w a n c L := by
  obtain ⟨h1,h2⟩ := h
  have hl : L.length = n := by rw [List.length_map] at h1;omega
  rcases h2 with ⟨rfl,rfl⟩ | ⟨g,cap,cur,rfl,hb,hg,hc,hm,hs,ht⟩
  · exact ⟨none,0,rfl,hl,Nat.le_refl _,Nat.zero_le _,0,0,.inr (Nat.le_refl _),fun i x hx => by rw [List.eq_nil_of_length_eq_zero hl] at hx;cases hx⟩
  · refine ⟨_,_,rfl,hl,hc,hm,g,0,.inl rfl,fun i x hx => ⟨(Array.getElem?_eq_some_iff.1 hg).1, ?_⟩⟩
    have hk : Blk w g 9 cur := hg
    rw [Nat.zero_add]
    refine hk.cell i ?_
    have hi : i < n := by rw [←hl];exact (List.getElem?_eq_some_iff.1 hx).1
    have e : (L.map Value.string)[i]? = some (.string x) := by rw [List.getElem?_map,hx];rfl
    rw [←ht,List.getElem?_take_of_lt (by omega)] at e
    rw [←Array.getElem?_toList]
    exact e
def BRw (w : World) (a : Option Addr) (n c : Nat) (l : List UInt8) : Prop :=
  l.length = n∧n≤c∧c≤maxLen∧∃ b off,(a = some ⟨b,off,none⟩∨n≤0)∧∀ i x,l[i]? = some x→b < w.heap.size∧w.cell? ⟨b,off + i,none⟩ = some (.int .u8 (x.toNat : Int))
theorem BRw.below {w w' : World} {a : Option Addr} {n c : Nat} {l : List UInt8} (h : BRw w a n c l) (hb : Below w.heap.size w w') : BRw w' a n c l := by
  obtain ⟨h1,h2,h3,b,off,h4,h5⟩ := h
  exact ⟨h1,h2,h3,b,off,h4,fun i x hx => ⟨Nat.lt_of_lt_of_le (h5 i x hx).1 hb.size,(hb.cell (p := ⟨b,off + i,none⟩) (h5 i x hx).1).trans (h5 i x hx).2⟩⟩
theorem BRw.at_ {w : World} {a : Option Addr} {n c : Nat} {l : List UInt8} (h : BRw w a n c l) {i : Nat} {x : UInt8} (hx : l[i]? = some x) : ∃ b off,a = some ⟨b,off,none⟩∧b < w.heap.size∧w.cell? ⟨b,off + i,none⟩ = some (.int .u8 (x.toNat : Int)) := by
  obtain ⟨h1,h2,h3,b,off,h4,h5⟩ := h
  have hi : i < l.length := (List.getElem?_eq_some_iff.1 hx).1
  exact ⟨b,off,h4.resolve_right (by omega),h5 i x hx⟩
theorem one_conv {w : World} {b o : Nat} {x : UInt8} (h : w.cell? ⟨b,o,none⟩ = some (.int .u8 (x.toNat : Int))) (c : Nat) : (convert 22 9 (.slice (some ⟨b,o,none⟩) 1 c)).run Tryz.prog w = .ok (.string ⟨#[x]⟩) w := by
  have := run_convert_bytes_arg (P := Tryz.prog) w 22 5 Tryz.underlying22 Tryz.underlying5 b o 1 c [(x.toNat : Int)] rfl (fun i hi => by
    obtain rfl : i = 0 := by omega
    exact h) 9 Tryz.underlying9
  rw [this]
  congr 2
  unfold strOfNums
  simp
def lnStep (d : UInt8) (st : List ByteArray × ByteArray) (b : UInt8) : List ByteArray × ByteArray := if b = d then (st.1 ++ [st.2],⟨#[]⟩) else (st.1,st.2 ++ ⟨#[b]⟩)
def lnSt (d : UInt8) (l : List UInt8) : List ByteArray × ByteArray := l.foldl (lnStep d) ([],⟨#[]⟩)
theorem lnSt_next (d : UInt8) {l : List UInt8} {k : Nat} {x : UInt8} (h : l[k]? = some x) : lnSt d (l.take (k + 1)) = lnStep d (lnSt d (l.take k)) x := by
  unfold lnSt
  rw [List.take_add_one,h,Option.toList_some,List.foldl_append]
  rfl
theorem lnSt_len (d : UInt8) (l : List UInt8) : (lnSt d l).1.length≤l.length∧(lnSt d l).2.size≤l.length := by
  have : ∀ (l : List UInt8) (st : List ByteArray × ByteArray),(l.foldl (lnStep d) st).1.length≤st.1.length + l.length∧(l.foldl (lnStep d) st).2.size≤st.2.size + l.length := by
    intro l
    induction l with
    | nil => intro st;simp
    | cons b l ih =>
      intro st
      have h := ih (lnStep d st b)
      rw [List.foldl_cons,List.length_cons]
      unfold lnStep at h ⊢
      by_cases hb : b = d
      · rw [if_pos hb] at h ⊢
        dsimp only at h ⊢
        rw [List.length_append,List.length_singleton] at h
        have e : (⟨#[]⟩ : ByteArray).size = 0 := rfl
        rw [e] at h
        omega
      · rw [if_neg hb] at h ⊢
        dsimp only at h ⊢
        rw [ByteArray.size_append] at h
        have e : (⟨#[b]⟩ : ByteArray).size = 1 := rfl
        rw [e] at h
        omega
  have h := this l ([],⟨#[]⟩)
  have e : (⟨#[]⟩ : ByteArray).size = 0 := rfl
  unfold lnSt
  dsimp only [List.length_nil] at h
  rw [e] at h
  omega
def linesM (l : List UInt8) : List ByteArray × Bool := if (lnSt 10 l).2.size = 0 then ((lnSt 10 l).1,true) else ((lnSt 10 l).1 ++ [(lnSt 10 l).2],false)
theorem str_e {s : ByteArray} (h : s.size = 0) : s.toList.isEmpty = true∧s.toList = [] := by
  have : s.toList = [] := by
    rw [ByteArray.toList_eq]
    exact List.eq_nil_of_length_eq_zero (by simpa using h)
  rw [this];exact ⟨rfl,rfl⟩
theorem str_ne {s : ByteArray} (h : s.size≠0) : s.toList.isEmpty = false∧¬ s.toList = [] := by
  have h2 : ¬ s.toList = [] := by
    rw [ByteArray.toList_eq]
    intro e
    have := congrArg List.length e
    exact h (by simpa using this)
  exact ⟨by cases hx : s.toList with | nil => exact absurd hx h2 | cons _ _ => rfl,h2⟩
set_option maxHeartbeats 4000000 in
theorem lines_t (a : Option Addr) (n c : Nat) (l : List UInt8) (w : World) (h : BRw w a n c l) (hn : n≤65536) :
    Calls Tryz.prog 32 #[.slice a n c] w fun e w' => ∃ a' n' c',e = .returned (.tuple #[.slice a' n' c',.bool (linesM l).2])∧SRow w' a' n' c' (linesM l).1∧Below w.heap.size w w' := by
  obtain ⟨i0,hi,hz0,hz1,hz2⟩ := info_parts Tryz.infoStr
  have HL := Lib.hid h.1
  have hcm : c≤9223372036854775807 := by have := h.2.2.1;unfold maxLen at this;omega
  have hnc := h.2.1
  have HR := Lib.hid h
  have hnI : (n : Int)≤65536 := by omega
  clear h
  go_enter Tryz.func32,Tryz.ntmps32
  go_wp2
  go_loopw [4,5,6] (fun v s i wr => ∃ k : Nat,k≤n∧i = .int .i64 (k : Int)∧s = .string (lnSt 10 (l.take k)).2∧Hid (wr.ownsRow w.heap.size 9 1 v (lnSt 10 (l.take k)).1.length ((lnSt 10 (l.take k)).1.map Value.string))∧Hid (Below w.heap.size w wr)) (fun _ _ i _ => n - (intOf i).toNat)
  case atStart => exact ⟨0,Nat.zero_le _,rfl,rfl,Lib.hid ⟨rfl,.inl ⟨rfl,rfl⟩⟩,Lib.hid (Below.refl _ _)⟩
  case round =>
    obtain ⟨k,hk,rfl,rfl,HO,HB⟩ := hrel
    have hln := lnSt_len 10 (l.take k)
    have htk : (l.take k).length = k := by rw [List.length_take,HL.out];omega
    rw [htk] at hln
    have HLN := Lib.hid hln
    clear hln htk
    by_cases hlt : k < n
    · obtain ⟨x, hx⟩ : ∃ x, l[k]? = some x := ⟨_, List.getElem?_eq_getElem (by rw [HL.out]; exact hlt)⟩
      obtain ⟨b,off,ha,hbB,hc0⟩ := HR.out.at_ hx
      have hcell : wr.cell? ⟨b,off + k,none⟩ = some (.int .u8 (x.toNat : Int)) := (HB.out.cell (p := ⟨b,off + k,none⟩) hbB).trans hc0
      have HNX := Lib.hid (lnSt_next 10 hx)
      clear hbB hc0
      subst ha
      by_cases hx10 : x = 10
      · subst hx10
        have e10 : (((10 : UInt8).toNat : Int) == 10) = true := rfl
        have HN2 := Lib.hid (HNX.out.trans (show lnStep 10 (lnSt 10 (l.take k)) 10 = ((lnSt 10 (l.take k)).1 ++ [(lnSt 10 (l.take k)).2],⟨#[]⟩) from if_pos rfl))
        obtain ⟨L,hL⟩ : ∃ L,(lnSt 10 (l.take k)).1 = L := ⟨_,rfl⟩
        obtain ⟨s,hs⟩ : ∃ s,(lnSt 10 (l.take k)).2 = s := ⟨_,rfl⟩
        rw [hL,hs] at HN2
        rw [hL] at HO
        rw [hL,hs] at HLN
        rw [hs]
        clear hL hs HNX hx
        go_wp2_with (at_builtin;refine wpList_append_own _ rfl _ _ 37 rfl w.heap.size 9 i0 (.string ⟨#[]⟩) 1 16 Tryz.underlying37 hi hz0 hz1 hz2 rfl (by decide) _ _ _ rfl (HO.out.alloc _) ⟨wr.heap.size,0,none⟩ 1 1 [.string s] rfl rfl ?c1 ?c2 ?c3 ?c4 ?c5 ?_)
        case c1 =>
          intro j u hj
          match j,hj with
          | 0,hj => simp at hj;subst hj;simp [Addr.add]
        case c2 => intro u hu;simp at hu;subst hu;rfl
        case c3 => have := HLN.out;unfold maxLen;omega
        case c4 => have := HLN.out;omega
        case c5 => have := HB.out.size;simp;omega
        intro v' w2 hown' hgrow' _
        have HO2 := Lib.hid hown'
        have HB2 := Lib.hid (show Below w.heap.size w w2 from (HB.out.alloc HB.out.size _).grown hgrow' (by have := HB.out.size;simp;omega) (fun j hj => (HO.out.lt j hj).1))
        clear hown' hgrow'
        go_wp2
        go_roundw
        case rel => exact ⟨k + 1,by omega,by go_num,by rw [HN2.out],Lib.hid (by rw [HN2.out];simpa using HO2.out),HB2⟩
        case measure => simp [intOf];omega
      · have e10 : ((x.toNat : Int) == 10) = false := by
          rw [beq_eq_false_iff_ne]
          intro e
          exact hx10 (by have : x.toNat = 10 := by omega
                         rw [←UInt8.ofNat_toNat (x := x),this];rfl)
        have HN2 := Lib.hid (HNX.out.trans (show lnStep 10 (lnSt 10 (l.take k)) x = ((lnSt 10 (l.take k)).1,(lnSt 10 (l.take k)).2 ++ ⟨#[x]⟩) from if_neg hx10))
        obtain ⟨L,hL⟩ : ∃ L,(lnSt 10 (l.take k)).1 = L := ⟨_,rfl⟩
        obtain ⟨s,hs⟩ : ∃ s,(lnSt 10 (l.take k)).2 = s := ⟨_,rfl⟩
        rw [hL,hs] at HN2
        rw [hL] at HO
        rw [hL,hs] at HLN
        rw [hs]
        have kcv := fun cap => one_conv hcell cap
        have kad := fun w => run_string_add_sum (P := Tryz.prog) (w := w) s ⟨#[x]⟩ (by have := HLN.out;have e : (⟨#[x]⟩ : ByteArray).size = 1 := rfl;omega)
        obtain ⟨s2,hs2⟩ : ∃ s2,s ++ ⟨#[x]⟩ = s2 := ⟨_,rfl⟩
        rw [hs2] at kad HN2
        have hck : ¬ c = k := by omega
        have hk1 : (k : Int) + 1≤9223372036854775807 := by omega
        have hk2 : (k : Int)≤(k : Int) + 1 := by omega
        have hk3 : (k : Int) + 1≤(c : Int) := by omega
        clear hL hs HNX hx hx10 hs2
        go_wp2
        go_roundw
        case rel => exact ⟨k + 1,by omega,by go_num,by rw [HN2.out],Lib.hid (by rw [HN2.out];exact HO.out),HB⟩
        case measure => simp [intOf];omega
    · obtain rfl : k = n := by omega
      have htk : l.take k = l := List.take_of_length_le (by rw [HL.out];omega)
      rw [htk] at HO HLN ⊢
      have HM := Lib.hid (show linesM l = if (lnSt 10 l).2.size = 0 then ((lnSt 10 l).1,true) else ((lnSt 10 l).1 ++ [(lnSt 10 l).2],false) from rfl)
      obtain ⟨L,hL⟩ : ∃ L,(lnSt 10 l).1 = L := ⟨_,rfl⟩
      obtain ⟨s,hs⟩ : ∃ s,(lnSt 10 l).2 = s := ⟨_,rfl⟩
      rw [hL,hs] at HM HLN
      rw [hL] at HO
      rw [hs]
      clear hL hs htk
      by_cases h0 : s.size = 0
      · rw [if_pos h0] at HM
        obtain ⟨e1,e2⟩ := str_e h0
        obtain ⟨a',c',he,hr⟩ := srow_own HO.out
        subst he
        have HR2 := Lib.hid hr
        clear h0 hr HO
        go_wp2
        go_ret2
        exact ⟨a',L.length,c',by rw [HM.out];rfl,by rw [HM.out];exact HR2.out,HB.out⟩
      · rw [if_neg h0] at HM
        obtain ⟨e1,e2⟩ := str_ne h0
        clear h0
        go_wp2_with (at_builtin;refine wpList_append_own _ rfl _ _ 37 rfl w.heap.size 9 i0 (.string ⟨#[]⟩) 1 16 Tryz.underlying37 hi hz0 hz1 hz2 rfl (by decide) _ _ _ rfl (HO.out.alloc _) ⟨wr.heap.size,0,none⟩ 1 1 [.string s] rfl rfl ?d1 ?d2 ?d3 ?d4 ?d5 ?_)
        case d1 =>
          intro j u hj
          match j,hj with
          | 0,hj => simp at hj;subst hj;simp [Addr.add]
        case d2 => intro u hu;simp at hu;subst hu;rfl
        case d3 => have := HLN.out;unfold maxLen;omega
        case d4 => have := HLN.out;omega
        case d5 => have := HB.out.size;simp;omega
        intro v' w2 hown' hgrow' _
        have hO2 : w2.ownsRow w.heap.size 9 1 v' (L.length + 1) ((L ++ [s]).map Value.string) := by simpa using hown'
        have HB2 := Lib.hid (show Below w.heap.size w w2 from (HB.out.alloc HB.out.size _).grown hgrow' (by have := HB.out.size;simp;omega) (fun j hj => (HO.out.lt j hj).1))
        obtain ⟨a',c',he,hr⟩ := srow_own hO2
        subst he
        have HR2 := Lib.hid hr
        clear hown' hgrow' hr hO2 HO
        go_wp2
        go_ret2
        exact ⟨a',_,c',by rw [HM.out];rfl,by rw [HM.out];exact HR2.out,HB2.out⟩
end Go.Proofs.YtkcgikoploohkaaGreatDoor
namespace Go.Proofs.YtkcgikoploohkaaGreatDoor
set_option linter.unusedVariables false
set_option linter.unusedSimpArgs false
set_option maxRecDepth 100000
open Go.RowKit Go.Shelf
def wordsM (s : ByteArray) : List ByteArray := (lnSt 32 s.data.toList).1 ++ [(lnSt 32 s.data.toList).2]
theorem byte_at (s : ByteArray) (k : Nat) (h : k < s.size) : s.extract k (k + 1) = ⟨#[s[k]]⟩ := by
  apply ByteArray.ext
  apply Array.toList_inj.1
  rw [ByteArray.data_extract,Array.toList_extract,List.extract_eq_take_drop,List.drop_eq_getElem_cons (by simpa using h),show k + 1 - k = 1 by omega]
  rfl
theorem get_qs (s : ByteArray) (k : Nat) (h : k < s.size) : s.data.toList[k]? = some s[k] := by
  rw [List.getElem?_eq_getElem (by simpa using h)];rfl
set_option maxHeartbeats 4000000 in
theorem words_t (s : ByteArray) (w : World) (hs : s.size≤65536) :
    Calls Tryz.prog 33 #[.string s] w fun e w' => ∃ a' n' c',e = .returned (.slice a' n' c')∧SRow w' a' n' c' (wordsM s)∧Below w.heap.size w w' := by
  obtain ⟨i0,hi,hz0,hz1,hz2⟩ := info_parts Tryz.infoStr
  have hsI : (s.size : Int)≤65536 := by omega
  have HS := Lib.hid hs
  go_enter Tryz.func33,Tryz.ntmps33
  go_wp2
  go_loopw [3,4] (fun v i wr => ∃ (k r : Nat) (I : List ByteArray) (c : ByteArray),k≤s.size∧i = .int .i64 (k : Int)∧Hid (lnSt 32 (s.data.toList.take k) = (I,c))∧Hid (I.length = r)∧Hid (wr.ownsRow w.heap.size 9 1 v (r + 1) ((I ++ [c]).map Value.string))∧Hid (Below w.heap.size w wr)) (fun _ i _ => s.size - (intOf i).toNat)
  case atStart =>
    refine ⟨0,0,[],⟨#[]⟩,Nat.zero_le _,rfl,Lib.hid rfl,Lib.hid rfl,Lib.hid ⟨rfl,.inr ⟨w.heap.size,1,_,rfl,Nat.le_refl _,heap_alloc_new _ _,Nat.le_refl _,by unfold maxLen;decide,rfl,rfl⟩⟩,Lib.hid ((Below.refl _ _).alloc (Nat.le_refl _) _)⟩
  case round =>
    obtain ⟨k,r,I,cw,hk,rfl,HE,HI,HO,HB⟩ := hrel
    have hln := lnSt_len 32 (s.data.toList.take k)
    rw [HE.out,HI.out] at hln
    have hkl : (s.data.toList.take k).length≤65536 := by rw [List.length_take];have := HS.out;omega
    have HLN := Lib.hid (show r≤65536∧cw.size≤65536 by have := hln.1;have := hln.2;dsimp only at *;omega)
    clear hln hkl
    obtain ⟨g,cap,cur,rfl,hg⟩ : ∃ g cap cur,u3 = .slice (some ⟨g,0,none⟩) (r + 1) cap∧w.heap.size≤g∧wr.heap[g]? = some (.cells cur 9 (0,0))∧r + 1≤cap∧cap≤maxLen∧cur.size = cap * 1∧cur.toList.take ((r + 1) * 1) = (I ++ [cw]).map Value.string := by
      rcases HO.out.2 with ⟨h,h'⟩ | h
      · omega
      · exact h
    have HG := Lib.hid hg
    have hcap : cap≤9223372036854775807 := by have := hg.2.2.2.1;unfold maxLen at this;omega
    have hcap2 : r + 1≤cap := hg.2.2.1
    clear hg
    by_cases hlt : k < s.size
    · have HNX := Lib.hid (lnSt_next 32 (get_qs s k hlt))
      rw [HE.out] at HNX
      by_cases hx : s[k] = 32
      · have e10 : ((s[k].toNat : Int) == 32) = true := by rw [hx];rfl
        have HN2 := Lib.hid (HNX.out.trans (show lnStep 32 (I,cw) s[k] = (I ++ [cw],⟨#[]⟩) from if_pos hx))
        clear hx HNX
        go_wp2_with (at_builtin;refine wpList_append_own _ rfl _ _ 37 rfl w.heap.size 9 i0 (.string ⟨#[]⟩) 1 16 Tryz.underlying37 hi hz0 hz1 hz2 rfl (by decide) _ _ _ rfl (HO.out.alloc _) ⟨wr.heap.size,0,none⟩ 1 1 [.string ⟨#[]⟩] rfl rfl ?c1 ?c2 ?c3 ?c4 ?c5 ?_)
        case c1 =>
          intro j u hj
          match j,hj with
          | 0,hj => simp at hj;subst hj;simp [Addr.add]
        case c2 => intro u hu;simp at hu;subst hu;rfl
        case c3 => have := HLN.out;unfold maxLen;omega
        case c4 => have := HLN.out;omega
        case c5 => have := HB.out.size;simp;omega
        intro v' w2 hown' hgrow' _
        have HO2 := Lib.hid hown'
        have HB2 := Lib.hid (show Below w.heap.size w w2 from (HB.out.alloc HB.out.size _).grown hgrow' (by have := HB.out.size;simp;omega) (fun j hj => (HO.out.lt j hj).1))
        clear hown' hgrow'
        go_wp2
        go_roundw
        case rel => exact ⟨k + 1,r + 1,I ++ [cw],⟨#[]⟩,by omega,by go_num,HN2,Lib.hid (by rw [List.length_append,HI.out];rfl),Lib.hid (by simpa using HO2.out),HB2⟩
        case measure => simp [intOf];omega
      · have e10 : ((s[k].toNat : Int) == 32) = false := by
          rw [beq_eq_false_iff_ne]
          intro e
          exact hx (by have : s[k].toNat = 32 := by omega
                       rw [←UInt8.ofNat_toNat (x := s[k]),this];rfl)
        have HN2 := Lib.hid (HNX.out.trans (show lnStep 32 (I,cw) s[k] = (I,cw ++ ⟨#[s[k]]⟩) from if_neg hx))
        have hex := byte_at s k hlt
        have kad := fun w => run_string_add_sum (P := Tryz.prog) (w := w) cw ⟨#[s[k]]⟩ (by have := HLN.out;have e : (⟨#[s[k]]⟩ : ByteArray).size = 1 := rfl;omega)
        obtain ⟨x,hxx⟩ : ∃ x : ByteArray,⟨#[s[k]]⟩ = x := ⟨_,rfl⟩
        rw [hxx] at hex kad HN2
        obtain ⟨s2,hs2⟩ : ∃ s2,cw ++ x = s2 := ⟨_,rfl⟩
        rw [hs2] at kad HN2
        have kcell : wr.cell? ⟨g,r,none⟩ = some (.string cw) := by
          rw [HO.out.cellAt r (by omega),List.getElem?_map,List.getElem?_append_right (by rw [HI.out];omega),HI.out,Nat.sub_self];rfl
        have kfr : wr.frozen? ⟨g,r,none⟩ = false := HO.out.frozenAt r
        have hk1 : (k : Int) + 1≤9223372036854775807 := by omega
        have hk2 : (k : Int)≤(k : Int) + 1 := by omega
        have hk3 : (k : Int) + 1≤(s.size : Int) := by omega
        have hr1 : (r : Int) < (r : Int) + 1 := by omega
        have HO2 := Lib.hid (HO.out.stored r (.string s2)).1
        have HB2 := Lib.hid (show Below w.heap.size w (wr.setCell ⟨g,r,none⟩ (.string s2)) from HB.out.setCell (HO.out.lt g rfl).1 _)
        have hlst : ((I ++ [cw]).map Value.string).set r (.string s2) = (I ++ [s2]).map Value.string := by
          rw [List.map_append,List.map_append,List.set_append_right _ _ (by rw [List.length_map,HI.out];omega),List.length_map,HI.out,Nat.sub_self];rfl
        rw [hlst] at HO2
        clear hx HNX hxx hs2 hlst
        go_upto_region 8 with fail
        go_region
        go_wp2
        go_roundw
        case rel => exact ⟨k + 1,r,I,s2,by omega,by go_num,HN2,HI,Lib.hid HO2.out.drew,Lib.hid HB2.out.drew⟩
        case measure => simp [intOf];omega
    · obtain rfl : k = s.size := by omega
      have htk : s.data.toList.take s.size = s.data.toList := List.take_of_length_le (by rw [Lib.size_eq s];exact Nat.le_refl _)
      rw [htk] at HE
      obtain ⟨a',c',he,hr⟩ := srow_own HO.out
      have HR2 := Lib.hid hr
      injection he with he1 he2 he3
      subst he1 he3
      have HM := Lib.hid (show wordsM s = I ++ [cw] by unfold wordsM;rw [HE.out])
      clear hr htk he2
      go_wp2
      go_ret
      exact ⟨_,_,_,rfl,by rw [HM.out];exact HR2.out,HB.out⟩
end Go.Proofs.YtkcgikoploohkaaGreatDoor
namespace Go.Proofs.YtkcgikoploohkaaGreatDoor
set_option linter.unusedVariables false
set_option linter.unusedSimpArgs false
set_option maxRecDepth 100000
open Go.RowKit Go.Shelf
theorem cntO_yes {l : List UInt8} {N : Nat} (h0 : l≠[]) (h1 : l.length≤6) (h2 : ∀ b∈l,48≤b.toNat∧b.toNat≤57) (h3 : Lib.decFrom 0 l = some N) : cntO l = some (N : Int) := by
  unfold cntO
  rw [if_pos ⟨h1,by
    rw [List.any_eq_false]
    intro b hb
    have := h2 b hb
    unfold nodN digN
    simp [this.1,this.2]⟩]
  cases l with
  | nil => exact absurd rfl h0
  | cons b r =>
    have hb := h2 b (List.mem_cons_self ..)
    have n1 : (b == 45) = false := by rw [beq_eq_false_iff_ne];rintro rfl;exact absurd hb.1 (by decide)
    have n2 : (b == 43) = false := by rw [beq_eq_false_iff_ne];rintro rfl;exact absurd hb.1 (by decide)
    simp only [Lib.atoi,n1,n2,Bool.false_eq_true,if_false]
    unfold Lib.decNat
    rw [show (b :: r).isEmpty = false from rfl,if_neg (by decide),h3]
    rfl
theorem cntO_empty : cntO [] = none := by unfold cntO;rw [if_pos ⟨by decide,rfl⟩];rfl
theorem cntO_long {l : List UInt8} (h : 6 < l.length) : cntO l = none := by unfold cntO;rw [if_neg];intro hh;omega
theorem cntO_bad {l : List UInt8} {b : UInt8} (hb : b∈l) (h : b.toNat < 48∨57 < b.toNat) : cntO l = none := by
  unfold cntO
  rw [if_neg]
  intro hh
  have := List.any_eq_false.1 hh.2 b hb
  unfold nodN digN at this
  simp only [Bool.not_eq_true,Bool.not_eq_false',Bool.and_eq_true,decide_eq_true_eq] at this
  omega
def CtRes (o : Option Int) (w : World) (e : Ending) (w' : World) : Prop := ∃ (n : Int) (b : Bool),e = .returned (.tuple #[.int .i64 n,.bool b])∧(if b = true then o = some n else o = none)∧w = w'
set_option maxHeartbeats 4000000 in
theorem number36_t (s : ByteArray) (w : World) (hs : s.size≤1000000) : Calls Tryz.prog 36 #[.string s] w (CtRes (cntO s.data.toList) w) := by
  have hz := Lib.size_eq s
  by_cases z0 : s.size < 1
  · have HO := Lib.hid (show cntO s.data.toList = none by rw [show s.data.toList = [] from List.eq_nil_of_length_eq_zero (by omega)];exact cntO_empty)
    have z1 : (s.size : Int) < 1 := by omega
    clear hz z0
    go_enter Tryz.func36,Tryz.ntmps36
    go_wp2
    go_ret2
    exact ⟨0,false,rfl,HO.out,rfl⟩
  by_cases z2 : 6 < s.size
  · have HO := Lib.hid (show cntO s.data.toList = none from cntO_long (by omega))
    have z1 : ¬ (s.size : Int) < 1 := by omega
    have z3 : (6 : Int) < (s.size : Int) := by omega
    clear hz z0 z2
    go_enter Tryz.func36,Tryz.ntmps36
    go_wp2
    go_ret2
    exact ⟨0,false,rfl,HO.out,rfl⟩
  have z1 : ¬ (s.size : Int) < 1 := by omega
  have z3 : ¬ (6 : Int) < (s.size : Int) := by omega
  have HZ := Lib.hid hz
  have H6 := Lib.hid (show 1≤s.size∧s.size≤6 by omega)
  clear hz z0 z2
  go_enter Tryz.func36,Tryz.ntmps36
  go_wp2
  go_loop [4,5] (fun m i => ∃ k N : Nat,k≤s.size∧i = .int .i64 (k : Int)∧m = .int .i64 (N : Int)∧N≤999999∧Hid (N < 10 ^ k)∧Hid (Lib.decFrom 0 (s.data.toList.take k) = some N)∧Hid (∀ j b,j < k→s.data.toList[j]? = some b→48≤b.toNat∧b.toNat≤57)) (fun _ i => s.size - (intOf i).toNat)
  case atStart => exact ⟨0,0,Nat.zero_le _,rfl,rfl,by decide,Lib.hid (by decide),Lib.hid rfl,Lib.hid (fun j b hj => by omega)⟩
  case round =>
    obtain ⟨k,N,hk,rfl,rfl,hN,HP,HD,HA⟩ := hrel
    by_cases hlt : k < s.size
    · have HC := Lib.hid (get_qs s k hlt)
      have hb255 : s[k].toNat < 256 := UInt8.toNat_lt _
      by_cases zl : s[k].toNat < 48
      · have zlI : (s[k].toNat : Int) < 48 := by omega
        have HO := Lib.hid (cntO_bad (List.mem_of_getElem? HC.out) (.inl zl))
        clear zl hb255
        go_wp2
        go_ret2
        exact ⟨0,false,rfl,HO.out,rfl⟩
      by_cases zh : 57 < s[k].toNat
      · have zlI : ¬ (s[k].toNat : Int) < 48 := by omega
        have zhI : (57 : Int) < (s[k].toNat : Int) := by omega
        have HO := Lib.hid (cntO_bad (List.mem_of_getElem? HC.out) (.inr zh))
        clear zl zh hb255
        go_wp2
        go_ret2
        exact ⟨0,false,rfl,HO.out,rfl⟩
      have zlI : ¬ (s[k].toNat : Int) < 48 := by omega
      have zhI : ¬ (57 : Int) < (s[k].toNat : Int) := by omega
      obtain ⟨d,hd⟩ : ∃ d : Nat,s[k].toNat = d + 48 := ⟨s[k].toNat - 48,by omega⟩
      have hd9 : d≤9 := by omega
      have HDV := Lib.hid (show Lib.digitVal s[k] = some d by unfold Lib.digitVal;rw [if_pos ⟨by omega,by omega⟩];congr 1;omega)
      have HD2 := Lib.hid (Lib.decFrom_take s.data.toList k 0 N s[k] d HD.out HC.out HDV.out)
      have HP2 := Lib.hid (show N * 10 + d < 10 ^ (k + 1) by rw [Nat.pow_succ];have := HP.out;omega)
      have HN2 := Lib.hid (show N * 10 + d≤999999 by
        have h1 : (10 : Nat) ^ (k + 1)≤10 ^ 6 := Nat.pow_le_pow_right (by decide) (by have := H6.out;omega)
        have := HP2.out
        have h6 : (10 : Nat) ^ 6 = 1000000 := by decide
        omega)
      have HA2 := Lib.hid (show ∀ j b,j < k + 1→s.data.toList[j]? = some b→48≤b.toNat∧b.toNat≤57 from fun j b hj hb => by
        rcases Nat.lt_or_ge j k with q | q
        · exact HA.out j b q hb
        · obtain rfl : k = j := by omega
          rw [HC.out] at hb
          injection hb with hb
          subst hb
          omega)
      have hw1 : IntKind.u8.wrap ((s[k].toNat : Int) - 48) = (d : Int) := by
        rw [hd]
        unfold IntKind.wrap
        simp [IntKind.signed,IntKind.bits]
        omega
      have hm1 : 10 * (N : Int)≤9223372036854775807 := by omega
      have hm2 : 10 * (N : Int) + (d : Int)≤9223372036854775807 := by omega
      clear hd zl zh hb255
      go_wp2
      go_round
      case rel => exact ⟨k + 1,N * 10 + d,by omega,by go_num,by go_num,HN2.out,HP2,HD2,HA2⟩
      case measure => simp [intOf];omega
    · obtain rfl : k = s.size := by omega
      have HO := Lib.hid (show cntO s.data.toList = some (N : Int) from cntO_yes (by intro e;have := HZ.out;rw [e] at this;have h0 : s.size = 0 := this;have := H6.out;omega) (by rw [←HZ.out];exact H6.out.2) (fun b hb => by
        obtain ⟨i,hi,e⟩ := List.getElem_of_mem hb
        exact HA.out i b (by rw [HZ.out];exact hi) (by rw [List.getElem?_eq_getElem hi,e])) (by have := HD.out;rw [List.take_of_length_le (by rw [←HZ.out];exact Nat.le_refl _)] at this;exact this))
      go_wp2
      go_ret2
      exact ⟨N,true,rfl,HO.out,rfl⟩
end Go.Proofs.YtkcgikoploohkaaGreatDoor
namespace Go.Proofs.YtkcgikoploohkaaGreatDoor
set_option linter.unusedVariables false
set_option linter.unusedSimpArgs false
set_option maxRecDepth 100000
open Go.RowKit Go.Shelf
theorem ba_app_nil (c : ByteArray) : c ++ (⟨#[]⟩ : ByteArray) = c := by
  apply ByteArray.ext;apply Array.toList_inj.1;rw [ByteArray.data_append,Array.toList_append];simp
theorem bsL_cons (b : UInt8) (l : List UInt8) : (⟨#[b]⟩ : ByteArray) ++ bsL l = bsL (b :: l) := by
  apply ByteArray.ext;apply Array.toList_inj.1;rw [ByteArray.data_append,Array.toList_append];rfl
theorem ln_pre (d : UInt8) (c : ByteArray) : ∀ (l : List UInt8) (I : List ByteArray),l.foldl (lnStep d) (I,c) = (I ++ (l.foldl (lnStep d) ([],c)).1,(l.foldl (lnStep d) ([],c)).2) := by
  intro l
  induction l generalizing c with
  | nil => intro I;simp
  | cons b l ih =>
    intro I
    rw [List.foldl_cons,List.foldl_cons]
    by_cases hb : b = d
    · rw [show lnStep d (I,c) b = (I ++ [c],⟨#[]⟩) from if_pos hb,show lnStep d ([],c) b = ([c],⟨#[]⟩) from if_pos hb,ih _ (I ++ [c]),ih _ [c]]
      simp
    · rw [show lnStep d (I,c) b = (I,c ++ ⟨#[b]⟩) from if_neg hb,show lnStep d ([],c) b = ([],c ++ ⟨#[b]⟩) from if_neg hb,ih _ I]
theorem ln_free (d : UInt8) : ∀ (x : List UInt8) (c : ByteArray),(∀ b∈x,b≠d)→x.foldl (lnStep d) ([],c) = ([],c ++ bsL x)
  | [],c,_ => by rw [List.foldl_nil,show bsL [] = ⟨#[]⟩ from rfl,ba_app_nil]
  | b :: x,c,h => by
    rw [List.foldl_cons,show lnStep d ([],c) b = ([],c ++ ⟨#[b]⟩) from if_neg (h b (List.mem_cons_self ..)),ln_free d x _ (fun y hy => h y (List.mem_cons_of_mem _ hy)),ByteArray.append_assoc,bsL_cons]
theorem cutL_parts {d : UInt8} : ∀ {l x r : List UInt8},cutL d l = some (x,r)→l = x ++ d :: r∧∀ b∈x,b≠d
  | [],x,r,h => by cases h
  | b :: l,x,r,h => by
    by_cases hb : b = d
    · rw [cutL_hit l hb] at h
      injection h with h
      injection h with h1 h2
      subst h1 h2 hb
      exact ⟨rfl,fun b hb => by cases hb⟩
    · rw [cutL_miss l hb] at h
      cases hc : cutL d l with
      | none => rw [hc] at h;cases h
      | some p =>
        obtain ⟨y,r'⟩ := p
        rw [hc] at h
        injection h with h
        injection h with h1 h2
        subst h1 h2
        obtain ⟨e1,e2⟩ := cutL_parts hc
        refine ⟨by rw [e1];rfl,fun c hc => ?_⟩
        rcases List.mem_cons.1 hc with rfl | hc
        · exact hb
        · exact e2 c hc
theorem cutL_no {d : UInt8} : ∀ {l : List UInt8},cutL d l = none→∀ b∈l,b≠d
  | [],_,b,hb => by cases hb
  | c :: l,h,b,hb => by
    by_cases hc : c = d
    · rw [cutL_hit l hc] at h;cases h
    · rw [cutL_miss l hc] at h
      cases hl : cutL d l with
      | some p => rw [hl] at h;cases h
      | none =>
        rcases List.mem_cons.1 hb with rfl | hb
        · exact hc
        · exact cutL_no hl b hb
theorem bs_empty {x : List UInt8} : (⟨#[]⟩ : ByteArray) ++ bsL x = bsL x := by
  apply ByteArray.ext;apply Array.toList_inj.1;rw [ByteArray.data_append,Array.toList_append];rfl
theorem lines_cut {rest x r : List UInt8} (h : cutL 10 rest = some (x,r)) : linesM rest = (bsL x :: (linesM r).1,(linesM r).2) := by
  obtain ⟨e,hx⟩ := cutL_parts h
  have hst : lnSt 10 rest = (bsL x :: (lnSt 10 r).1,(lnSt 10 r).2) := by
    unfold lnSt
    rw [e,List.foldl_append,ln_free 10 x _ hx,List.foldl_cons,bs_empty]
    rw [show lnStep 10 ([],bsL x) 10 = ([bsL x],⟨#[]⟩) from if_pos rfl,ln_pre 10 _ r [bsL x]]
    rfl
  unfold linesM
  rw [hst]
  dsimp only
  split <;> rfl
theorem lines_last {rest : List UInt8} (h0 : rest≠[]) (h : cutL 10 rest = none) : linesM rest = ([bsL rest],false) := by
  have hst : lnSt 10 rest = ([],bsL rest) := by
    unfold lnSt
    rw [ln_free 10 rest _ (cutL_no h),bs_empty]
  unfold linesM
  rw [hst]
  dsimp only
  rw [if_neg]
  · rfl
  · rw [bsL_size]
    intro e
    exact h0 (List.eq_nil_of_length_eq_zero e)
theorem lines_nil : linesM [] = ([],true) := rfl
theorem words_fold : ∀ (l : List UInt8) (c : ByteArray),(l.foldl (lnStep 32) ([],c)).1 ++ [(l.foldl (lnStep 32) ([],c)).2] = (match spl 32 l with | [] => [] | y :: ys => (c ++ bsL y) :: ys.map bsL)
  | [],c => by
    show [c] = [c ++ bsL []]
    rw [show bsL [] = ⟨#[]⟩ from rfl,ba_app_nil]
  | b :: l,c => by
    obtain ⟨y,ys,hs⟩ : ∃ y ys,spl 32 l = y :: ys := by
      have := spl_ne 32 l
      cases hs : spl 32 l with
      | nil => exact absurd hs this
      | cons y ys => exact ⟨y,ys,rfl⟩
    rw [List.foldl_cons]
    by_cases hb : b = 32
    · have ih := words_fold l ⟨#[]⟩
      rw [hs] at ih
      dsimp only at ih
      rw [show lnStep 32 ([],c) b = ([c],⟨#[]⟩) from if_pos hb,ln_pre 32 _ l [c],spl_hit l hb,hs]
      dsimp only
      rw [List.append_assoc,ih,bs_empty,show bsL [] = ⟨#[]⟩ from rfl,ba_app_nil]
      rfl
    · have ih := words_fold l (c ++ ⟨#[b]⟩)
      rw [hs] at ih
      dsimp only at ih
      rw [show lnStep 32 ([],c) b = ([],c ++ ⟨#[b]⟩) from if_neg hb,spl_miss hb hs,ih]
      dsimp only
      rw [ByteArray.append_assoc,bsL_cons]
theorem words_spl (x : List UInt8) : wordsM (bsL x) = (spl 32 x).map bsL := by
  have h := words_fold x ⟨#[]⟩
  unfold wordsM lnSt
  rw [bsL_list,h]
  cases hs : spl 32 x with
  | nil => exact absurd hs (spl_ne 32 x)
  | cons y ys =>
    dsimp only
    rw [bs_empty];rfl
theorem take_yes {rest x r : List UInt8} (h : cutL 10 rest = some (x,r)) : takeM rest = some (wordsM (bsL x),r) := by
  unfold takeM
  rw [h,words_spl]
  rfl
theorem take_no {rest : List UInt8} (h : cutL 10 rest = none) : takeM rest = none := by unfold takeM;rw [h];rfl
end Go.Proofs.YtkcgikoploohkaaGreatDoor
