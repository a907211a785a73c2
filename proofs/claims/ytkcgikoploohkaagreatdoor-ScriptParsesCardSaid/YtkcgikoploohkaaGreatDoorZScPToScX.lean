import Derived.Test.YtkcgikoploohkaaGreatDoorZScMToScO
import Derived.Test.YtkcgikoploohkaaGreatDoorIA
import Derived.Lib.AtoiErrMem
import Derived.Lib.LaidTab
import Derived.RegionTactic
import Derived.ChangeAlike
import Derived.Laws.NewBlocks
namespace Go.Proofs.YtkcgikoploohkaaGreatDoor
set_option linter.unusedVariables false
set_option linter.unusedSimpArgs false
set_option maxRecDepth 100000
open Go.RowKit Go.Shelf
structure Gl (w : World) : Prop where
  m : ∃ m,w.cell? ⟨1,0,none⟩ = some (.int .i64 m)
  e : ∃ te pe,w.cell? ⟨2,0,none⟩ = some (.iface te pe)
  t : Lib.TabIs Tryz.prog w "internal/strconv.uint64pow10" .u64 Lib.pow10Tab
  s : 9≤w.heap.size
theorem Gl.keep {w w' : World} (h : Gl w) (hs : w.heap.size≤w'.heap.size) (hk : ∀ i,i < 9→w'.heap[i]? = w.heap[i]?) : Gl w' := by
  obtain ⟨⟨m,hm⟩,⟨te,pe,he⟩,ht,hz⟩ := h
  refine ⟨⟨m, ?_⟩,⟨te,pe, ?_⟩, ?_,Nat.le_trans hz hs⟩
  · rw [World.cell?_of_block (w := w) (hk 1 (by omega))];exact hm
  · rw [World.cell?_of_block (w := w) (hk 2 (by omega))];exact he
  · unfold Lib.TabIs World.var? at *
    rw [show Tryz.prog.globalNamed "internal/strconv.uint64pow10" = some 4 by kernel_rfl] at *
    simp only [Option.bind_some] at *
    rw [hk 4 (by omega)];exact ht
theorem Gl.later {w w' : World} (h : Gl w) (hb : Below w.heap.size w w') : Gl w' := h.keep hb.size fun i hi => hb.block i (Nat.lt_of_lt_of_le hi h.s)
theorem Gl.below {w w' : World} {B : Nat} (h : Gl w) (hb : Below B w w') (hB : 9≤B) : Gl w' := h.keep hb.size fun i hi => hb.block i (Nat.lt_of_lt_of_le hi hB)
theorem Gl.alloc {w : World} (h : Gl w) (o : Obj) : Gl (w.alloc o) := h.later ((Below.refl _ _).alloc (Nat.le_refl _) o)
theorem Gl.drew {w : World} (h : Gl w) : Gl w.drew := h.later (Below.refl _ _).drew
def CntRes (o : Option Int) (w : World) (e : Ending) (w' : World) : Prop := ∃ (n : Int) (b : Bool),e = .returned (.tuple #[.int .i64 n,.bool b])∧(if b then o = some n else o = none)∧Below w.heap.size w w'
theorem cnt_long {l : List UInt8} (h : 6 < l.length) : cntO l = none := if_neg (fun q => by omega)
theorem cnt_odd {l : List UInt8} (h : (l.any fun x => nodN x.toNat) = true) : cntO l = none := if_neg (fun q => by rw [h] at q;exact absurd q.2 (by decide))
theorem cnt_is {l : List UInt8} (h : l.length≤6) (h2 : (l.any fun x => nodN x.toNat) = false) : cntO l = Lib.atoi l := if_pos ⟨h,h2⟩
set_option maxHeartbeats 2000000 in
theorem count_t (s : ByteArray) (w : World) (hg : Gl w) (hs : s.size≤maxLen) : Calls Tryz.prog 28 #[.string s] w (CntRes (cntO s.data.toList) w) := by
  unfold maxLen at hs
  have hz := Lib.size_eq s
  by_cases h6 : 6 < s.size
  · have h6' : (6 : Int) < (s.size : Int) := by omega
    have HC := Lib.hid (cnt_long (l := s.data.toList) (by omega))
    clear hz h6
    go_enter Tryz.func28,Tryz.ntmps28
    go_wp2
    go_ret2
    exact ⟨_,false,rfl,HC.out,Below.refl _ _⟩
  · have h6' : ¬ (6 : Int) < (s.size : Int) := by omega
    have hl : s.data.toList.length≤6 := by omega
    have hz18 : s.size≤18 := by omega
    have HZ := Lib.hid hz18
    clear hz h6 hz18
    obtain ⟨bo,hbo⟩ : ∃ bo,(s.data.toList.any fun c => nodN c.toNat) = bo := ⟨_,rfl⟩
    have HO := Lib.hid hbo
    cases bo with
    | true =>
      have HC := Lib.hid (cnt_odd hbo)
      clear hbo hl
      go_enter Tryz.func28,Tryz.ntmps28
      go_wp2_with (go_at_call 66;(with_reducible refine (has_nod _ _).mono ?_);rw [HO.out];rintro e w' ⟨rfl,hb⟩)
      go_ret2
      exact ⟨_,false,rfl,HC.out,hb⟩
    | false =>
      have HC := Lib.hid (cnt_is hl hbo)
      clear hbo hl
      have HG := Lib.hid hg
      clear hg
      cases ha : Lib.atoi s.data.toList with
      | some n =>
        have HA := Lib.hid ha
        clear ha
        go_enter Tryz.func28,Tryz.ntmps28
        go_wp2_with (first
          | (go_at_call 66;(with_reducible refine (has_nod _ _).mono ?_);rw [HO.out];rintro e w1 ⟨rfl,hb⟩;have HB := Lib.hid hb;clear hb)
          | (go_at_call 67;(with_reducible refine (Tryz.strconv_Atoi _ _ HZ.out HA.out _).mono ?_);rintro e w2 ⟨rfl,t,hw⟩;have hb2 : Below w1.heap.size w1 w2 := by { rw [hw];exact Lib.bytesWorld_below w1 5 t };have HB2 := Lib.hid (bthen HB.out hb2);clear hw hb2))
        go_region
        all_goals
          go_wp2
          go_ret2
          exact ⟨_,true,rfl,by rw [HC.out];exact HA.out,HB2.out.drew⟩
      | none =>
        have HA := Lib.hid ha
        clear ha
        go_enter Tryz.func28,Tryz.ntmps28
        go_wp2_with (first
          | (go_at_call 66;(with_reducible refine (has_nod _ _).mono ?_);rw [HO.out];rintro e w1 ⟨rfl,hb⟩;have HB := Lib.hid hb;clear hb)
          | (go_at_call 67;obtain ⟨te,pe,hev⟩ := (HG.out.later HB.out).e;(with_reducible refine (Tryz.strconv_Atoi_err _ HZ.out HA.out _ _ hev (Or.inr ⟨te,pe,rfl⟩)).mono ?_);rintro e w2 ⟨N,rfl,-,-,hb⟩;have HB2 := Lib.hid (bthen HB.out hb);clear hb hev))
        go_region
        all_goals
          go_wp2
          go_ret2
          exact ⟨_,false,rfl,by rw [HC.out];exact HA.out,HB2.out.drew⟩
end Go.Proofs.YtkcgikoploohkaaGreatDoor
namespace Go.Proofs.YtkcgikoploohkaaGreatDoor
set_option linter.unusedVariables false
set_option linter.unusedSimpArgs false
set_option maxRecDepth 100000
open Go.RowKit Nums
def Blk (w : World) (g T : Nat) (vs : Array Value) : Prop := w.heap[g]? = some (.cells vs T (0,0))
theorem Blk.cell {w : World} {g T : Nat} {vs : Array Value} (h : Blk w g T vs) (i : Nat) {v : Value} (hv : vs[i]? = some v) : w.cell? ⟨g,i,none⟩ = some v := by
  rw [cell_of_row _ _ _ vs T (0,0) h];exact hv
theorem Blk.free {w : World} {g T : Nat} {vs : Array Value} (h : Blk w g T vs) (i : Nat) : w.frozen? ⟨g,i,none⟩ = false := frozen_of_row w g i _ T h
theorem Blk.lt {w : World} {g T : Nat} {vs : Array Value} (h : Blk w g T vs) : g < w.heap.size := (Array.getElem?_eq_some_iff.1 h).1
theorem Blk.below {w w' : World} {B g T : Nat} {vs : Array Value} (h : Blk w g T vs) (hb : Below B w w') (hg : g < B) : Blk w' g T vs := (hb.block g hg).trans h
theorem Blk.later {w w' : World} {g T : Nat} {vs : Array Value} (h : Blk w g T vs) (hb : Below w.heap.size w w') : Blk w' g T vs := h.below hb h.lt
theorem Blk.new (w : World) (T : Nat) (vs : Array Value) : Blk (w.alloc (.cells vs T)) w.heap.size T vs := heap_alloc_new w _
theorem Blk.alloc {w : World} {g T : Nat} {vs : Array Value} (h : Blk w g T vs) (o : Obj) : Blk (w.alloc o) g T vs := h.later ((Below.refl _ _).alloc (Nat.le_refl _) o)
theorem Blk.drew {w : World} {g T : Nat} {vs : Array Value} (h : Blk w g T vs) : Blk w.drew g T vs := h.later (Below.refl _ _).drew
theorem Blk.sev {w : World} {g T : Nat} {x0 x1 x2 x3 x4 x5 x6 : Value} (h : Blk w g T #[x0,x1,x2,x3,x4,x5,x6]) : w.cell? ⟨g,0,none⟩ = some x0∧w.cell? ⟨g,1,none⟩ = some x1∧w.cell? ⟨g,2,none⟩ = some x2∧w.cell? ⟨g,3,none⟩ = some x3∧w.cell? ⟨g,4,none⟩ = some x4∧w.cell? ⟨g,5,none⟩ = some x5∧w.cell? ⟨g,6,none⟩ = some x6 := ⟨h.cell 0 rfl,h.cell 1 rfl,h.cell 2 rfl,h.cell 3 rfl,h.cell 4 rfl,h.cell 5 rfl,h.cell 6 rfl⟩
theorem Blk.set {w : World} {g T : Nat} {vs : Array Value} (h : Blk w g T vs) (j : Nat) (u : Value) : Blk (w.setCell ⟨g,j,none⟩ u) g T (vs.setIfInBounds j u) := by
  unfold Blk World.setCell at *
  simp only [Array.getElem?_modify,h]
  simp
theorem Blk.other {w : World} {g T h o : Nat} {vs : Array Value} {u : Value} (hb : Blk w g T vs) (hg : g≠h) : Blk (w.setCell ⟨h,o,none⟩ u) g T vs := (Below.heap_setCell w ⟨h,o,none⟩ u g hg).trans hb
theorem Blk.put3 {w : World} {g T : Nat} {a b c : Value} (h : Blk w g T #[a,b,c]) (x y z : Value) : Blk (((w.setCell ⟨g,0,none⟩ x).setCell ⟨g,1,none⟩ y).setCell ⟨g,2,none⟩ z) g T #[x,y,z] := ((h.set 0 x).set 1 y).set 2 z
structure Only (S : List Nat) (w w' : World) : Prop where
  os : w'.os = w.os
  tape : w'.tape = w.tape
  output : w'.output = w.output
  size : w.heap.size≤w'.heap.size
  block : ∀ i,i < w.heap.size→i ∉ S→w'.heap[i]? = w.heap[i]?
theorem Only.refl (S : List Nat) (w : World) : Only S w w := ⟨rfl,rfl,rfl,Nat.le_refl _,fun _ _ _ => rfl⟩
theorem Only.trans {S : List Nat} {a b c : World} (h : Only S a b) (k : Only S b c) : Only S a c :=
  ⟨k.os.trans h.os,k.tape.trans h.tape,k.output.trans h.output,Nat.le_trans h.size k.size,fun i hi hne => (k.block i (Nat.lt_of_lt_of_le hi h.size) hne).trans (h.block i hi hne)⟩
theorem Only.of_below {S : List Nat} {a b : World} (h : Below a.heap.size a b) : Only S a b := ⟨h.os,h.tape,h.output,h.size,fun i hi _ => h.block i hi⟩
theorem Only.below {S : List Nat} {B : Nat} {a b : World} (h : Only S a b) (hB : B≤a.heap.size) (hS : ∀ j,j∈S→B≤j) : Below B a b :=
  ⟨h.os,h.tape,h.output,h.size,fun i hi => h.block i (Nat.lt_of_lt_of_le hi hB) (fun hm => by have := hS i hm;omega)⟩
theorem Only.set {S : List Nat} {g : Nat} (hg : g∈S) (o : Nat) (w : World) (u : Value) : Only S w (w.setCell ⟨g,o,none⟩ u) :=
  ⟨rfl,rfl,rfl,by simp [World.setCell],fun i _ hne => Below.heap_setCell w ⟨g,o,none⟩ u i (fun e => hne (by simp at e;subst e;exact hg))⟩
theorem Only.alloc {S : List Nat} {a w : World} (h : Only S a w) (o : Obj) : Only S a (w.alloc o) := h.trans (Only.of_below ((Below.refl _ _).alloc (Nat.le_refl _) o))
theorem Only.drew {S : List Nat} {a w : World} (h : Only S a w) : Only S a w.drew := ⟨h.os,h.tape,h.output,h.size,h.block⟩
theorem Only.weak {S S' : List Nat} {a b : World} (h : Only S a b) (hs : ∀ j,j∈S→j∈S') : Only S' a b := ⟨h.os,h.tape,h.output,h.size,fun i hi hne => h.block i hi (fun e => hne (hs i e))⟩
theorem Blk.only {S : List Nat} {w w' : World} {g T : Nat} {vs : Array Value} (h : Blk w g T vs) (hb : Only S w w') (hg : g ∉ S) : Blk w' g T vs := (hb.block g h.lt hg).trans h
def SRow (w : World) (a : Option Addr) (n c : Nat) (L : List ByteArray) : Prop :=
  L.length = n∧n≤c∧c≤maxLen∧∃ b off,(a = some ⟨b,off,none⟩∨n≤0)∧∀ i x,L[i]? = some x→b < w.heap.size∧w.cell? ⟨b,off + i,none⟩ = some (.string x)
theorem SRow.later {w w' : World} {a : Option Addr} {n c : Nat} {L : List ByteArray} (h : SRow w a n c L) (hb : Below w.heap.size w w') : SRow w' a n c L := by
  obtain ⟨h1,h2,h3,b,off,h4,h5⟩ := h
  exact ⟨h1,h2,h3,b,off,h4,fun i x hx => ⟨Nat.lt_of_lt_of_le (h5 i x hx).1 hb.size,(hb.cell (p := ⟨b,off + i,none⟩) (h5 i x hx).1).trans (h5 i x hx).2⟩⟩
theorem SRow.at_ {w : World} {a : Option Addr} {n c : Nat} {L : List ByteArray} (h : SRow w a n c L) {i : Nat} {x : ByteArray} (hx : L[i]? = some x) : ∃ b off,a = some ⟨b,off,none⟩∧b < w.heap.size∧w.cell? ⟨b,off + i,none⟩ = some (.string x) := by
  obtain ⟨h1,h2,h3,b,off,h4,h5⟩ := h
  have hi : i < L.length := (List.getElem?_eq_some_iff.1 hx).1
  exact ⟨b,off,h4.resolve_right (by omega),h5 i x hx⟩
end Go.Proofs.YtkcgikoploohkaaGreatDoor
namespace Go.Proofs.YtkcgikoploohkaaGreatDoor
set_option linter.unusedVariables false
set_option linter.unusedSimpArgs false
set_option maxRecDepth 100000
open Go.RowKit Go.Shelf
def bsL (l : List UInt8) : ByteArray := ⟨l.toArray⟩
theorem bsL_list (l : List UInt8) : (bsL l).data.toList = l := rfl
theorem bsL_size (l : List UInt8) : (bsL l).size = l.length := rfl
theorem cut_yes {c : UInt8} {s : ByteArray} {x r : List UInt8} {w : World} (hg : Gl w) (hs : s.size < 4294967281) (h : cutL c s.data.toList = some (x,r)) :
    Calls Tryz.prog 21 #[.string s,.string ⟨#[c]⟩] w fun e w' => e = .returned (.tuple #[.string (bsL x),.string (bsL r),.bool true])∧Below w.heap.size w w' := by
  obtain ⟨m,hm⟩ := hg.m
  refine (Tryz.strings_Cut s ⟨#[c]⟩ m w hs hm).mono ?_
  rw [show ((⟨#[c]⟩ : ByteArray)).data.toList = [c] from rfl,cut_some h]
  rintro e w' ⟨rfl,n,rfl⟩
  exact ⟨rfl,below_drewN' (Below.refl _ _) n⟩
theorem cut_no {c : UInt8} {s : ByteArray} {w : World} (hg : Gl w) (hs : s.size < 4294967281) (h : cutL c s.data.toList = none) :
    Calls Tryz.prog 21 #[.string s,.string ⟨#[c]⟩] w fun e w' => e = .returned (.tuple #[.string s,.string ⟨#[]⟩,.bool false])∧Below w.heap.size w w' := by
  obtain ⟨m,hm⟩ := hg.m
  refine (Tryz.strings_Cut s ⟨#[c]⟩ m w hs hm).mono ?_
  rw [show ((⟨#[c]⟩ : ByteArray)).data.toList = [c] from rfl,cut_none h]
  rintro e w' ⟨rfl,n,rfl⟩
  exact ⟨rfl,below_drewN' (Below.refl _ _) n⟩
theorem pieces_eq (c : UInt8) (s : ByteArray) : Lib.splitB ⟨#[c]⟩ 0 (Lib.countB s ⟨#[c]⟩) s = (spl c s.data.toList).map bsL := by
  rw [←split_bytes c s,List.map_map]
  exact (List.map_id _).symm
theorem srow_new (w : World) (L : List ByteArray) (T : Nat) (hn : L.length≤maxLen) : SRow (w.alloc (.cells (L.map Value.string).toArray T)) (some ⟨w.heap.size,0,none⟩) L.length L.length L := by
  have hk := Blk.new w T (L.map Value.string).toArray
  refine ⟨rfl,Nat.le_refl _,hn,w.heap.size,0,.inl rfl,fun i x hx => ⟨hk.lt, ?_⟩⟩
  rw [Nat.zero_add]
  exact hk.cell i (by simp [hx])
theorem split_t (c : UInt8) (s : ByteArray) (w : World) (hg : Gl w) (hs : s.size < 4294967281) :
    Calls Tryz.prog 22 #[.string s,.string ⟨#[c]⟩] w fun e w' => e = .returned (.slice (some ⟨w.heap.size,0,none⟩) (spl c s.data.toList).length (spl c s.data.toList).length)∧SRow w' (some ⟨w.heap.size,0,none⟩) (spl c s.data.toList).length (spl c s.data.toList).length ((spl c s.data.toList).map bsL)∧Below w.heap.size w w' := by
  obtain ⟨m,hm⟩ := hg.m
  refine (Tryz.strings_Split s ⟨#[c]⟩ m w hs hm (Nat.le_refl 1)).mono ?_
  rw [count_spl,pieces_eq]
  rintro e w' ⟨rfl,rfl⟩
  refine ⟨rfl, ?_,(Below.refl _ _).alloc (Nat.le_refl _) _⟩
  have hl : ((spl c s.data.toList).map bsL).length≤maxLen := by
    have := List.count_le_length (a := c) (l := s.data.toList)
    rw [List.length_map,spl_length]
    have := Lib.size_eq s
    unfold maxLen
    omega
  have := srow_new w ((spl c s.data.toList).map bsL) 9 hl
  rw [List.length_map] at this
  exact this
end Go.Proofs.YtkcgikoploohkaaGreatDoor
