import Derived.Test.YtkcgikoploohkaaGreatDoorZSc2ToSc8
import Derived.Maps.AppendAt
namespace Go.Proofs.YtkcgikoploohkaaGreatDoor
set_option linter.unusedVariables false
set_option linter.unusedSimpArgs false
set_option maxRecDepth 100000
open Go.RowKit Go.Shelf Nums
def CM.cs (x : CM) : List Value := [.bool x.t.s,.slice x.t.a x.t.n x.t.c,.slice x.t.b x.t.m x.t.d,.string x.nm,.bool x.v.s,.slice x.v.a x.v.n x.v.c,.slice x.v.b x.v.m x.v.d]
theorem CM.cs_len (x : CM) : x.cs.length = 7 := rfl
theorem CM.cs_one (x : CM) : ∀ u∈x.cs,u.oneCell' = true := by
  intro u hu
  simp only [CM.cs,List.mem_cons,List.not_mem_nil,or_false] at hu
  rcases hu with rfl | rfl | rfl | rfl | rfl | rfl | rfl <;> rfl
def flatC (xs : List CM) : List Value := xs.flatMap CM.cs
theorem flatC_len (xs : List CM) : (flatC xs).length = xs.length * 7 := by
  induction xs with
  | nil => rfl
  | cons x xs ih => unfold flatC at ih ⊢;simp only [List.flatMap_cons,List.length_append,CM.cs_len,List.length_cons,ih];omega
theorem flatC_append (xs ys : List CM) : flatC (xs ++ ys) = flatC xs ++ flatC ys := List.flatMap_append
theorem flatC_get : ∀ (xs : List CM) (i : Nat) (x : CM),xs[i]? = some x→∀ j,j < 7→(flatC xs)[i * 7 + j]? = x.cs[j]?
  | [],i,x,h => by simp at h
  | y :: ys,0,x,h => by
    intro j hj
    simp at h;subst h
    unfold flatC
    rw [List.flatMap_cons,List.getElem?_append_left (by rw [CM.cs_len];omega)]
    simp
  | y :: ys,i + 1,x,h => by
    intro j hj
    have := flatC_get ys i x (by simpa using h) j hj
    unfold flatC at this ⊢
    rw [List.flatMap_cons,List.getElem?_append_right (by rw [CM.cs_len];omega),CM.cs_len,show (i + 1) * 7 + j - 7 = i * 7 + j by omega]
    exact this
def OwnC (w : World) (B : Nat) (v : Value) (xs : List CM) : Prop := w.ownsRow B 43 7 v xs.length (flatC xs)
section
variable {w w' : World} {B B' : Nat} {v : Value} {xs : List CM}
theorem OwnC.len (h : OwnC w B v xs) : ∃ a c,v = .slice a xs.length c := by
  rcases h.2 with ⟨rfl,h0⟩ | ⟨g,cap,cur,rfl,_⟩
  · exact ⟨none,0,by rw [h0]⟩
  · exact ⟨_,cap,rfl⟩
theorem OwnC.keep (h : OwnC w B v xs) (hk : ∀ k,v.ownBlock = some k→w'.heap[k]? = w.heap[k]?) : OwnC w' B v xs := by
  refine ⟨h.1, ?_⟩
  rcases h.2 with h0 | ⟨g,cap,cur,rfl,hb,hg,hr⟩
  · exact Or.inl h0
  · exact Or.inr ⟨g,cap,cur,rfl,hb,(hk g rfl).trans hg,hr⟩
theorem OwnC.lt (h : OwnC w B v xs) {k : Nat} (hk : v.ownBlock = some k) : B≤k∧k < w.heap.size := World.ownsRow.lt h k hk
theorem OwnC.only {S : List Nat} (h : OwnC w B v xs) (hb : Only S w w') (hv : ∀ k,v.ownBlock = some k→k ∉ S) : OwnC w' B v xs :=
  h.keep fun k hk => hb.block k (h.lt hk).2 (hv k hk)
theorem OwnC.below (h : OwnC w B v xs) (hb : Below B' w w') (hB : w.heap.size≤B') : OwnC w' B v xs :=
  h.keep fun k hk => hb.block k (Nat.lt_of_lt_of_le (h.lt hk).2 hB)
theorem OwnC.later (h : OwnC w B v xs) (hb : Below w.heap.size w w') : OwnC w' B v xs := h.below hb (Nat.le_refl _)
theorem OwnC.nil (w : World) (B : Nat) : OwnC w B (.slice none 0 0) [] := World.ownsRow_nil w B 43 7
theorem OwnC.row (h : OwnC w B v xs) (hx : ∀ x∈xs,x.t.Is x.t.n x.t.m x.p w∧x.v.Is x.v.n x.v.m x.q w) : ∃ a c,v = .slice a xs.length c∧CRow w a xs.length c xs := by
  rcases h.2 with ⟨rfl,h0⟩ | ⟨g,cap,cur,rfl,_,hg,hnc,hcm,_⟩
  · exact ⟨none,0,by rw [h0],rfl,by omega,Nat.zero_le _,0,0,Or.inr (by omega),fun i x hx => by
      have := (List.getElem?_eq_some_iff.1 hx).1
      omega⟩
  · refine ⟨_,cap,rfl,rfl,hnc,hcm,g,0,Or.inl rfl,fun i x hi => ⟨(Array.getElem?_eq_some_iff.1 hg).1, ?_⟩⟩
    have hc : ∀ j u,x.cs[j]? = some u→w.cell? ⟨g,0 + i * 7 + j,none⟩ = some u := by
      intro j u hu
      have hj : j < 7 := by rw [←CM.cs_len x];exact (List.getElem?_eq_some_iff.1 hu).1
      have := h.cells (g := g) rfl (i * 7 + j) u (by rw [flatC_get xs i x hi j hj];exact hu)
      have e : (⟨g,0,none⟩ : Addr).add (i * 7 + j) = ⟨g,0 + i * 7 + j,none⟩ := by rw [Nat.zero_add];unfold Addr.add;split <;> simp_all
      rw [e] at this
      exact this
    have hm := hx x (List.mem_of_getElem? hi)
    exact ⟨hc 0 _ rfl,hc 1 _ rfl,hc 2 _ rfl,hc 3 _ rfl,hc 4 _ rfl,hc 5 _ rfl,hc 6 _ rfl,hm.1,hm.2⟩
end
def cmZ : CM := ⟨⟨false,none,0,0,none,0,0⟩,⟨#[]⟩,⟨false,none,0,0,none,0,0⟩,0,0⟩
theorem Tryz.infoCh : (Tryz.prog.info? 43).map (fun i => (i.zero,i.size,i.bytes)) = some (some (.agg cmZ.cs.toArray),7,128) := by kernel_rfl
theorem Only.of_grown {a b : World} {row : Option Nat} (h : a.grownBy b row) : Only row.toList a b :=
  ⟨h.os,h.tape,h.output,h.size,fun i hi hne => h.block i hi (fun e => hne (by rw [←e];simp))⟩
theorem cell_ch_new (w : World) (x : CM) (T : TypeId) {H : Nat} (hH : w.heap.size = H) : ∀ j u,(flatC [x])[j]? = some u→(w.alloc (.cells x.cs.toArray T)).cell? ((⟨H,0,none⟩ : Addr).add j) = some u := by
  intro j u hu
  subst hH
  have e : (⟨w.heap.size,0,none⟩ : Addr).add j = ⟨w.heap.size,j,none⟩ := by unfold Addr.add;split <;> simp_all
  rw [e,cell_of_row _ w.heap.size j _ T (0,0) (heap_alloc_new w _)]
  simpa [flatC] using hu
def OwnN (w : World) (B : Nat) (v : Value) (xs : List CM) : Prop := OwnC w B v xs∧∀ k,v.ownBlock = some k→NoU w k
theorem noU_cells {w : World} {g T : Nat} {cur : Array Value} {fr : Nat × Nat} (h : w.heap[g]? = some (.cells cur T fr)) (hv : ∀ v∈cur.toList,∀ x,v≠.int .u32 x) : NoU w g := by
  intro o x hc
  rw [cell_of_row _ _ _ cur T fr h] at hc
  obtain ⟨hi,he⟩ := Array.getElem?_eq_some_iff.1 hc
  exact hv _ (by rw [←he];simp) x rfl
theorem noU_of {w : World} {g T : Nat} {cur : Array Value} {fr : Nat × Nat} (h : w.heap[g]? = some (.cells cur T fr)) (hn : NoU w g) : ∀ v∈cur.toList,∀ x,v≠.int .u32 x := by
  intro v hv x e
  subst e
  obtain ⟨i,hi,he⟩ := List.getElem_of_mem hv
  refine hn i x ?_
  rw [cell_of_row _ _ _ cur T fr h,Array.getElem?_eq_getElem (by simpa using hi)]
  simpa using he
theorem noU_cs (x : CM) : ∀ v∈x.cs,∀ z,v≠.int .u32 z := by
  intro v hv z
  simp only [CM.cs,List.mem_cons,List.not_mem_nil,or_false] at hv
  rcases hv with rfl | rfl | rfl | rfl | rfl | rfl | rfl <;> simp
theorem noU_zero (n : Nat) : ∀ v∈(Builtin.zeroCells (Value.agg cmZ.cs.toArray).cells n).toList,∀ z,v≠.int .u32 z := by
  intro v hv z
  unfold Builtin.zeroCells at hv
  simp only [Value.cells,Array.toList_map,List.mem_map] at hv
  obtain ⟨i,-,rfl⟩ := hv
  have hs : cmZ.cs.toArray.size = 7 := rfl
  have hm : i % cmZ.cs.toArray.size < cmZ.cs.toArray.size := Nat.mod_lt _ (by rw [hs];omega)
  rw [getElem!_pos cmZ.cs.toArray _ hm]
  exact noU_cs cmZ _ (by simp) z
theorem runC (w : World) (ty : TypeId) (B : Nat) (v : Value) (xs : List CM) (X : CM) (hown : OwnN w B v xs) (H : Nat) (hX : ∀ j u,X.cs[j]? = some u→w.cell? ((⟨H,0,none⟩ : Addr).add j) = some u) (hB : B≤w.heap.size) (hl : xs.length≤100000000) :
    ∃ v' w',(Builtin.append_ #[28,28] ty #[v,.slice (some ⟨H,0,none⟩) 1 1]).run Tryz.prog w = .ok v' w'∧OwnN w' B v' (xs ++ [X])∧Only v.ownBlock.toList w w'∧(v'.ownBlock = v.ownBlock∨∃ k,v'.ownBlock = some k∧w.heap.size≤k) := by
  obtain ⟨i0,hi,hz0,hz1,hz2⟩ := info_parts Tryz.infoCh
  obtain ⟨v',w',h1,h2,h3,h4,h5⟩ := run_append_own_at (P := Tryz.prog) w B 28 ty 43 i0 _ 7 128 Tryz.underlying28 hi hz0 hz1 hz2 rfl (by decide) v xs.length (flatC xs) hown.1 ⟨H,0,none⟩ 1 1 X.cs rfl hX X.cs_one (by unfold maxLen;omega) (by omega) hB
  refine ⟨v',w',h1,⟨?_, ?_⟩,Only.of_grown h3, ?_⟩
  · unfold OwnC;rw [flatC_append,List.length_append];simpa [flatC] using h2
  · intro k hk
    rcases hown.1.2 with ⟨rfl,h0⟩ | ⟨g,cap,cur,rfl,hb,hg,hnc,hcm,hcs,htake⟩
    · have hr := run_append_nil (P := Tryz.prog) w 28 ty 43 i0 _ Tryz.underlying28 hi hz0 ⟨H,0,none⟩ 1 1 X.cs (by rw [hz1];rfl) hX (by omega) (by omega) (by rw [hz2];omega)
      rw [h1] at hr
      injection hr with e1 e2
      subst e1;subst e2
      obtain rfl : w.heap.size = k := by simpa [Value.ownBlock] using hk
      refine noU_cells (heap_alloc_new w.drew _) (fun u hu x => ?_)
      rw [Array.toList_append,List.mem_append] at hu
      rcases hu with hu | hu
      · exact noU_cs X u (by simpa using hu) x
      · exact noU_zero _ u hu x
    · have hcur := noU_of hg (hown.2 g rfl)
      by_cases hroom : xs.length + 1≤cap
      · have hr := run_append_room (P := Tryz.prog) w 28 ty 43 i0 Tryz.underlying28 hi g xs.length cap cur hg ⟨H,0,none⟩ 1 1 X.cs (by rw [hz1];rfl) hX X.cs_one hroom (by rw [hz1,hcs,CM.cs_len,←Nat.succ_mul];exact Nat.mul_le_mul_right _ hroom)
        rw [h1] at hr
        injection hr with e1 e2
        subst e1;subst e2
        obtain rfl : g = k := by simpa [Value.ownBlock] using hk
        refine noU_cells (setRow_heap w g cur _ 43 _ hg) (fun u hu x => ?_)
        simp only [List.mem_append] at hu
        rcases hu with (hu | hu) | hu
        · exact hcur u (List.mem_of_mem_take hu) x
        · exact noU_cs X u hu x
        · exact hcur u (List.mem_of_mem_drop hu) x
      · have hr := run_append_grow (P := Tryz.prog) w 28 ty 43 i0 _ Tryz.underlying28 hi hz0 ⟨g,0,none⟩ xs.length cap (flatC xs) (by rw [hz1,flatC_len]) (World.ownsRow.cells hown.1 (g := g) rfl) ⟨H,0,none⟩ 1 1 X.cs (by rw [hz1];rfl) hX (by omega) (by omega) (growslice_fits (by omega) (by rw [hz2];omega))
        rw [h1] at hr
        injection hr with e1 e2
        subst e1;subst e2
        obtain rfl : w.heap.size = k := by simpa [Value.ownBlock] using hk
        refine noU_cells (heap_alloc_new w.drew _) (fun u hu x => ?_)
        rw [Array.toList_append,Array.toList_append,List.mem_append,List.mem_append] at hu
        rcases hu with (hu | hu) | hu
        · rw [←htake] at hu
          exact hcur u (List.mem_of_mem_take (by simpa using hu)) x
        · exact noU_cs X u (by simpa using hu) x
        · exact noU_zero _ u hu x
  · rcases h5 with h | h
    · exact Or.inl h
    · exact Or.inr ⟨_,h,Nat.le_refl _⟩
theorem appendC {w : World} {ops : Array Oper} {rest : List Oper} {o : Oper} {a : Act} {Q : Exit→Act→World→Prop} (hgd : o.guard = none) (s x : Operand)
    (hop : o.op = .call { callee := .builtin .append,args := #[s,x],argTypes := #[28,28] })
    (B : Nat) (v : Value) (xs : List CM) (X : CM) (T : TypeId) (H : Nat) (hs : a.eval s = v) (hx : a.eval x = .slice (some ⟨H,0,none⟩) 1 1) (hH : w.heap.size = H) (hown : OwnN (w.alloc (.cells X.cs.toArray T)) B v xs) (hB : B≤H) (hl : xs.length≤100000000)
    (hK : ∀ v' w',OwnN w' B v' (xs ++ [X])→Only v.ownBlock.toList (w.alloc (.cells X.cs.toArray T)) w'→(v'.ownBlock = v.ownBlock∨∃ k,v'.ownBlock = some k∧H≤k)→wpList Tryz.prog ops Q rest (a.put o.dst v') w') :
    wpList Tryz.prog ops Q (o :: rest) a (w.alloc (.cells X.cs.toArray T)) := by
  subst hH
  refine wpList_plain hgd fun K hK' => ?_
  obtain ⟨v',w',hr,h2,h3,h4⟩ := runC (w.alloc (.cells X.cs.toArray T)) o.type B v xs X hown w.heap.size (fun j u hu => cell_ch_new w X T rfl j u (by simpa [flatC] using hu)) (by simp;omega) hl
  unfold Oper.wp execOp
  simp only [hop,resolve,invoke,builtin,Sem.run_bind,Sem.run_pure,Result.andThen_ok,List.map_toArray,List.map_cons,List.map_nil,hs,hx,hr]
  refine hK' _ _ (hK v' w' h2 h3 ?_)
  rcases h4 with h | ⟨k,h,hk⟩
  · exact Or.inl h
  · exact Or.inr ⟨k,h,by simp at hk;omega⟩
end Go.Proofs.YtkcgikoploohkaaGreatDoor
namespace Go.Proofs.YtkcgikoploohkaaGreatDoor
set_option linter.unusedVariables false
set_option linter.unusedSimpArgs false
set_option maxRecDepth 100000
open Go.RowKit Go.Shelf Nums
def SV.sl (v : SV) : Value := .slice v.a v.n v.c
def NumsIn (xs : List CM) (w : World) : Prop := ∀ x∈xs,x.t.Is x.t.n x.t.m x.p w∧x.v.Is x.v.n x.v.m x.q w
theorem NumsIn.only {S : List Nat} {xs : List CM} {w w' : World} (h : NumsIn xs w) (ho : Only S w w') (hS : ∀ g∈S,NoU w g) : NumsIn xs w' := fun x hx => ⟨(h x hx).1.only ho hS,(h x hx).2.only ho hS⟩
theorem NumsIn.later {xs : List CM} {w w' : World} (h : NumsIn xs w) (hb : Below w.heap.size w w') : NumsIn xs w' := fun x hx => ⟨(h x hx).1.later hb,(h x hx).2.later hb⟩
theorem OwnN.keep {w w' : World} {B : Nat} {v : Value} {xs : List CM} (h : OwnN w B v xs) (hk : ∀ k,v.ownBlock = some k→w'.heap[k]? = w.heap[k]?) : OwnN w' B v xs :=
  ⟨h.1.keep hk,fun k hk' o x hc => h.2 k hk' o x (by rw [←World.cell?_of_block (w := w) (w' := w') (a := ⟨k,o,none⟩) (hk k hk')];exact hc)⟩
theorem OwnN.later {w w' : World} {B : Nat} {v : Value} {xs : List CM} (h : OwnN w B v xs) (hb : Below w.heap.size w w') : OwnN w' B v xs := h.keep fun k hk => hb.block k (h.1.lt hk).2
theorem OwnN.only {S : List Nat} {w w' : World} {B : Nat} {v : Value} {xs : List CM} (h : OwnN w B v xs) (hb : Only S w w') (hv : ∀ k,v.ownBlock = some k→k ∉ S) : OwnN w' B v xs := h.keep fun k hk => hb.block k (h.1.lt hk).2 (hv k hk)
theorem OwnN.nil (w : World) (B : Nat) : OwnN w B (.slice none 0 0) [] := ⟨OwnC.nil w B,fun k hk => by simp [Value.ownBlock] at hk⟩
theorem OwnN.ne {w : World} {B g T : Nat} {v : Value} {xs : List CM} {vs : Array Value} (h : OwnN w B v xs) (hg : Blk w g T vs) (hT : T≠43) : ∀ k,v.ownBlock = some k→k≠g := by
  intro k hk e
  subst e
  rcases h.1.2 with ⟨rfl,h0⟩ | ⟨g',cap,cur,rfl,hb,hg',_⟩
  · simp [Value.ownBlock] at hk
  · obtain rfl : g' = k := by simpa [Value.ownBlock] using hk
    unfold Blk at hg
    rw [hg'] at hg
    injection hg with hg
    injection hg with _ hg
    exact hT hg.symm
theorem OwnN.sl {w : World} {B : Nat} {v : Value} {xs : List CM} (h : OwnN w B v xs) : ∃ a c,v = .slice a xs.length c := h.1.len
theorem OwnN.notin {w : World} {B g T : Nat} {v : Value} {xs : List CM} {vs : Array Value} (h : OwnN w B v xs) (hg : Blk w g T vs) (hT : T≠43) : g ∉ v.ownBlock.toList := fun hm => h.ne hg hT g (by simpa using hm) rfl
def YX (v : SV) (B : Nat) (xs : List CM) (L : List ByteArray) (v' : SV) (w' : World) : Prop := ∃ x : CM,changeM numS L = some x.told∧x.Fit∧v' = { v with a := v'.a,n := v'.n,c := v'.c }∧OwnN w' B v'.sl (xs ++ [x])∧NumsIn (xs ++ [x]) w'
def NX (L : List ByteArray) : Prop := changeM numS L = none
def ownS (g : Nat) (v : SV) : List Nat := g :: v.sl.ownBlock.toList
set_option maxHeartbeats 4000000 in
theorem rdX_t (a : Option Addr) (n c : Nat) (L : List ByteArray) (g B : Nat) (v : SV) (xs : List CM) (w : World) (hg : Gl w) (h : SRow w a n c L) (hs : SBlk w g v) (hz : ∀ x∈L,x.size≤1000000) (ho : OwnN w B v.sl xs) (hn : NumsIn xs w) (hB : B≤w.heap.size) (hl : xs.length≤1000000) :
    Calls Tryz.prog 30 #[.slice a n c,.pointer (some ⟨g,0,none⟩)] w (OutG (YX v B xs L) (NX L) (ownS g v) g w) := by
  have HG := Lib.hid hg
  have HR := Lib.hid h
  have HS := Lib.hid hs
  have HZ := Lib.hid hz
  have HO := Lib.hid ho
  have HN := Lib.hid hn
  have HL := Lib.hid hl
  have HB0 := Lib.hid hB
  clear hg h hs hz ho hn hl hB
  go_enter Tryz.func30,Tryz.ntmps30
  go_wp2_with (first | (go_at_call 31;(with_reducible refine (change_t _ _ _ L _ HG.out HR.out HZ.out).mono ?_);rintro e w2 ⟨xx,b,rfl,ht,hv,hok,hb⟩;have HT := Lib.hid ht;have HV := Lib.hid hv;have HK := Lib.hid hok;have HB := Lib.hid hb;have hb2 := bthen hb (below_one w2 (.cells #[.bool xx.t.s,.slice xx.t.a xx.t.n xx.t.c,.slice xx.t.b xx.t.m xx.t.d,.string xx.nm,.bool xx.v.s,.slice xx.v.a xx.v.n xx.v.c,.slice xx.v.b xx.v.m xx.v.d] 43));have HS2 := Lib.hid (HS.out.later hb2);have HX := Lib.hid (Blk.new w2 43 #[.bool xx.t.s,.slice xx.t.a xx.t.n xx.t.c,.slice xx.t.b xx.t.m xx.t.d,.string xx.nm,.bool xx.v.s,.slice xx.v.a xx.v.n xx.v.c,.slice xx.v.b xx.v.m xx.v.d]);obtain ⟨x0,x1,x2,x3,x4,x5,x6⟩ := HX.out.sev;obtain ⟨-,-,-,-,-,k5⟩ := HS2.out.cells;have kf := Blk.free HS2.out;clear ht hv hok hb hb2) | (at_builtin;have hw3 := below_one (w2.alloc (.cells #[.bool xx.t.s,.slice xx.t.a xx.t.n xx.t.c,.slice xx.t.b xx.t.m xx.t.d,.string xx.nm,.bool xx.v.s,.slice xx.v.a xx.v.n xx.v.c,.slice xx.v.b xx.v.m xx.v.d] 43)) (.cells #[.bool xx.t.s,.slice xx.t.a xx.t.n xx.t.c,.slice xx.t.b xx.t.m xx.t.d,.string xx.nm,.bool xx.v.s,.slice xx.v.a xx.v.n xx.v.c,.slice xx.v.b xx.v.m xx.v.d] 43);have hb3 := bthen (bthen HB.out (below_one w2 (.cells #[.bool xx.t.s,.slice xx.t.a xx.t.n xx.t.c,.slice xx.t.b xx.t.m xx.t.d,.string xx.nm,.bool xx.v.s,.slice xx.v.a xx.v.n xx.v.c,.slice xx.v.b xx.v.m xx.v.d] 43))) hw3;refine appendC rfl _ _ rfl B v.sl xs xx 43 (w2.heap.size + 1) rfl rfl (by simp) (HO.out.later hb3) (Nat.le_trans HB0.out (Nat.le_trans HB.out.size (by omega))) (by have := HL.out;omega) ?_;intro v3 w3 hown honly hat;obtain ⟨a3,c3,hv3⟩ := hown.sl;obtain ⟨n3,hn3⟩ : ∃ n,(xs ++ [xx]).length = n := ⟨_,rfl⟩;rw [hn3] at hv3;subst hv3;clear hn3;have HO3 := Lib.hid hown;have HY3 := Lib.hid honly;have HS3 := Lib.hid (HS2.out.later hw3);have HB3 := Lib.hid hb3;have HS4 := Lib.hid (show SBlk w3 g v from Blk.only HS3.out HY3.out ((HO.out.later hb3).notin HS3.out (by decide)));obtain ⟨-,-,-,-,-,k5'⟩ := HS4.out.cells;have kf' := Blk.free HS4.out;clear hown honly hat hw3 hb3 k5 kf x0 x1 x2 x3 x4 x5 x6))
  go_ret
  have hset : Only [g] w3 (w3.setCell ⟨g,5,none⟩ (.slice a3 n3 c3)) := Only.set (List.mem_singleton.2 rfl) 5 _ _
  have hon : Only (ownS g v) w (w3.setCell ⟨g,5,none⟩ (.slice a3 n3 c3)) :=
    ((Only.of_below HB3.out).trans (HY3.out.weak (fun j hj => List.mem_cons_of_mem _ hj))).trans (hset.weak (fun j hj => by rw [List.mem_singleton] at hj;subst hj;exact List.mem_cons_self))
  have hnx : NumsIn (xs ++ [xx]) w3 := by
    have h1 : NumsIn (xs ++ [xx]) ((w2.alloc (.cells #[.bool xx.t.s,.slice xx.t.a xx.t.n xx.t.c,.slice xx.t.b xx.t.m xx.t.d,.string xx.nm,.bool xx.v.s,.slice xx.v.a xx.v.n xx.v.c,.slice xx.v.b xx.v.m xx.v.d] 43)).alloc (.cells #[.bool xx.t.s,.slice xx.t.a xx.t.n xx.t.c,.slice xx.t.b xx.t.m xx.t.d,.string xx.nm,.bool xx.v.s,.slice xx.v.a xx.v.n xx.v.c,.slice xx.v.b xx.v.m xx.v.d] 43)) := by
      intro y hy
      rcases List.mem_append.1 hy with hy | hy
      · exact (HN.out.later HB3.out) y hy
      · rw [List.mem_singleton] at hy
        rw [hy]
        have hb := bthen (below_one w2 (.cells #[.bool xx.t.s,.slice xx.t.a xx.t.n xx.t.c,.slice xx.t.b xx.t.m xx.t.d,.string xx.nm,.bool xx.v.s,.slice xx.v.a xx.v.n xx.v.c,.slice xx.v.b xx.v.m xx.v.d] 43)) (below_one (w2.alloc (.cells #[.bool xx.t.s,.slice xx.t.a xx.t.n xx.t.c,.slice xx.t.b xx.t.m xx.t.d,.string xx.nm,.bool xx.v.s,.slice xx.v.a xx.v.n xx.v.c,.slice xx.v.b xx.v.m xx.v.d] 43)) (.cells #[.bool xx.t.s,.slice xx.t.a xx.t.n xx.t.c,.slice xx.t.b xx.t.m xx.t.d,.string xx.nm,.bool xx.v.s,.slice xx.v.a xx.v.n xx.v.c,.slice xx.v.b xx.v.m xx.v.d] 43))
        exact ⟨HT.out.later hb,HV.out.later hb⟩
    refine h1.only HY3.out (fun k hk => ?_)
    exact (HO.out.later HB3.out).2 k (by simpa using hk)
  refine ⟨{ v with a := a3,n := n3,c := c3 },b,rfl,Blk.set HS4.out 5 _, ?_,hon⟩
  cases b
  · exact HK.out
  · obtain ⟨e1,e2⟩ : changeM numS L = some xx.told∧xx.Fit := HK.out
    refine ⟨xx,e1,e2,rfl,HO3.out.only hset (fun k hk => ?_),hnx.only hset (noU_one HS4.out.noU)⟩
    rw [List.mem_singleton]
    exact HO3.out.ne HS4.out (by decide) k hk
end Go.Proofs.YtkcgikoploohkaaGreatDoor
