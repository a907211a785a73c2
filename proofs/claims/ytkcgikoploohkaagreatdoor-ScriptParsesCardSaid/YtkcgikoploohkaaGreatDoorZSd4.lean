import Derived.Test.YtkcgikoploohkaaGreatDoorZSc9ToSd3
import Derived.Test.YtkcgikoploohkaaGreatDoorZSd1ToSd2
import Derived.Laws.BytesArg
namespace Go.Proofs.YtkcgikoploohkaaGreatDoor
set_option linter.unusedVariables false
set_option linter.unusedSimpArgs false
set_option maxRecDepth 100000
open Go.RowKit Go.Shelf Nums
def TRow (w : World) (a : Option Addr) (n c : Nat) (l : List UInt8) : Prop :=
  l.length = n∧n≤c∧c≤maxLen∧∃ b off,(a = some ⟨b,off,none⟩∨n≤0)∧∀ i x,l[i]? = some x→b < w.heap.size∧w.cell? ⟨b,off + i,none⟩ = some (.int .u8 (x.toNat : Int))
theorem TRow.later {w w' : World} {a : Option Addr} {n c : Nat} {l : List UInt8} (h : TRow w a n c l) (hb : Below w.heap.size w w') : TRow w' a n c l := by
  obtain ⟨h1,h2,h3,b,off,h4,h5⟩ := h
  exact ⟨h1,h2,h3,b,off,h4,fun i x hx => ⟨Nat.lt_of_lt_of_le (h5 i x hx).1 hb.size,(hb.cell (p := ⟨b,off + i,none⟩) (h5 i x hx).1).trans (h5 i x hx).2⟩⟩
theorem TRow.conv {w : World} {a : Option Addr} {n c : Nat} {l : List UInt8} (h : TRow w a n c l) : (convert 22 9 (.slice a n c)).run Tryz.prog w = .ok (.string (bsL l)) w := by
  obtain ⟨h1,h2,h3,b,off,h4,h5⟩ := h
  rcases h4 with rfl | h4
  · have := run_convert_bytes_arg (P := Tryz.prog) w 22 5 Tryz.underlying22 Tryz.underlying5 b off n c (l.map fun x => (x.toNat : Int)) (by simp [h1]) (fun i hi => by
      have hx : l[i]? = some (l[i]'(by omega)) := List.getElem?_eq_getElem (by omega)
      rw [(h5 i _ hx).2]
      congr 1
      simp [List.getD_eq_getElem?_getD,hx]) 9 Tryz.underlying9
    rw [this]
    congr 2
    unfold strOfNums bsL
    congr 2
    rw [List.map_map]
    exact (List.map_congr_left (fun x _ => by simp)).trans (List.map_id _)
  · have hl : l = [] := List.eq_nil_of_length_eq_zero (by omega)
    have hn : n = 0 := by omega
    subst hl;subst hn
    rw [run_convert_bytes_string w 22 9 5 a 0 c Tryz.underlying22 Tryz.underlying5 Tryz.underlying9]
    cases a with
    | none => simp [Conv.bytesToString];rfl
    | some ad =>
      have := run_bytesToString (P := Tryz.prog) w ad 0 c [] (by simp [loadCells,loadCellsFrom])
      rw [this];rfl
def sv0 : SV := ⟨rv0,0,0,none,0,0⟩
def endM (h : Rat) (c t : Int) : Nat ⊕ List (Rat × ByteArray × Rat)→Nat ⊕ ScT
  | .inl k => .inl k
  | .inr L => .inr ⟨h,c,t,L⟩
def ParRes (o : Nat ⊕ ScT) (w : World) (e : Ending) (w' : World) : Prop := match o with
  | .inl k => e = .returned (.tuple #[.agg #[.bool false,.slice none 0 0,.slice none 0 0,.int .i64 0,.int .i64 0,.slice none 0 0],.int .i64 200,.int .i64 (k : Int)])∧Below w.heap.size w w'
  | .inr S => ∃ (v : SV) (xs : List CM),e = .returned (.tuple #[.agg #[.bool v.h.s,.slice v.h.a v.h.n v.h.c,.slice v.h.b v.h.m v.h.d,.int .i64 v.cas,.int .i64 v.bits,.slice v.a v.n v.c],.int .i64 0,.int .i64 0])∧v.Is S.h xs w'∧v.h.Fit S.h∧(∀ x∈xs,x.Fit)∧v.cas = S.cas∧v.bits = S.bits∧xs.map CM.told = S.ch∧Below w.heap.size w w'
structure PSt (w0 w : World) (p0 g gr gl gt : Nat) (v : SV) (rest : List UInt8) (k : Nat) : Prop where
  st : St w g gr gl v rest k
  z : SBlk w p0 sv0
  t : Blk w gt 51 #[.func (.func 20) #[] #[.pointer (some ⟨gr,0,none⟩),.pointer (some ⟨gl,0,none⟩)]]
  b : Below w0.heap.size w0 w
  vs : Gl w
  hi : w0.heap.size≤p0∧w0.heap.size≤g∧w0.heap.size≤gr∧w0.heap.size≤gl∧w0.heap.size≤gt
  ne : p0≠g∧p0≠gr∧p0≠gl∧gt≠g∧gt≠gr∧gt≠gl
  n9 : 9≤w0.heap.size
theorem PSt.step {w0 w w' : World} {p0 g gr gl gt : Nat} {v v' : SV} {rest rest' : List UInt8} {k : Nat} {S : List Nat} (h : PSt w0 w p0 g gr gl gt v rest k) (hs : St w' g gr gl v' rest' (k + 1)) (ho : Only (gr :: gl :: S) w w') (hS : ∀ i∈S,w0.heap.size≤i∧i≠p0∧i≠gt) : PSt w0 w' p0 g gr gl gt v' rest' (k + 1) := by
  refine ⟨hs,Blk.only h.z ho ?_,h.t.only ho ?_,h.b.trans (ho.below h.b.size ?_), ?_,h.hi,h.ne,h.n9⟩
  · intro hm
    rcases List.mem_cons.1 hm with e | hm
    · exact h.ne.2.1 e
    · rcases List.mem_cons.1 hm with e | hm
      · exact h.ne.2.2.1 e
      · exact (hS _ hm).2.1 rfl
  · intro hm
    rcases List.mem_cons.1 hm with e | hm
    · exact h.ne.2.2.2.2.1 e
    · rcases List.mem_cons.1 hm with e | hm
      · exact h.ne.2.2.2.2.2 e
      · exact (hS _ hm).2.2 rfl
  · intro j hm
    rcases List.mem_cons.1 hm with e | hm
    · subst e;exact h.hi.2.2.1
    · rcases List.mem_cons.1 hm with e | hm
      · subst e;exact h.hi.2.2.2.1
      · exact (hS _ hm).1
  · refine h.vs.keep ho.size fun i hi => ho.block i (Nat.lt_of_lt_of_le hi h.vs.s) ?_
    intro hm
    rcases List.mem_cons.1 hm with e | hm
    · have := h.st.b.2.1;omega
    · rcases List.mem_cons.1 hm with e | hm
      · have := h.st.b.2.2;omega
      · have := (hS _ hm).1;have := h.n9;omega
theorem takeM_len {rest r : List UInt8} {L : List ByteArray} (h : takeM rest = some (L,r)) : r.length + 1≤rest.length := by
  unfold takeM at h
  cases hc : cutL 10 rest with
  | none => rw [hc] at h;cases h
  | some x =>
    rw [hc] at h
    injection h with h
    injection h with h1 h2
    have := cutL_len (x := x.1) (r := x.2) hc
    rw [←h2];omega
theorem lineM_yes {α : Type} {f : List ByteArray→Option α} {rest r : List UInt8} {L : List ByteArray} {x : α} (h : takeM rest = some (L,r)) (hx : f L = some x) : lineM f rest = some (x,r) := by unfold lineM;rw [h];dsimp only;rw [hx];rfl
theorem lineM_no {α : Type} {f : List ByteArray→Option α} {rest : List UInt8} (h : takeM rest = none∨∃ L r,takeM rest = some (L,r)∧f L = none) : lineM f rest = none := by
  unfold lineM
  rcases h with h | ⟨L,r,h,hx⟩
  · rw [h]
  · rw [h];dsimp only;rw [hx];rfl
def PInv (o : Nat ⊕ ScT) (w0 : World) (p0 g gr gl gt : Nat) (f : Nat) (ok : Bool) (w : World) : Prop :=
  ∃ (v : SV) (rest : List UInt8) (k : Nat),PSt w0 w p0 g gr gl gt v rest k∧IfB ok (k + rest.length≤65600∧∃ (h : Rat) (xs : List CM),OwnN w w0.heap.size v.sl xs∧NumsIn xs w∧(∀ x∈xs,x.Fit)∧v.h.Is v.h.n v.h.m h w∧v.h.Fit h∧xs.length≤k∧rest.length < f∧o = endM h v.cas v.bits (loopM numS f rest k (xs.map CM.told))) (o = .inl k)
theorem Blk.mk {w : World} {g T : Nat} {vs : Array Value} (h : w.heap.size = g) : Blk (w.alloc (.cells vs T)) g T vs := by subst h;exact Blk.new w T vs
theorem notin_one {x g : Nat} (h : x≠g) : x ∉ [g] := by simpa using h
theorem hd_step {Y : List ByteArray→SV→World→Prop} {N : List ByteArray→Prop} {w0 w w' : World} {p0 g gr gl gt : Nat} {v : SV} {rest : List UInt8} {k : Nat} {e : Ending} (h : PSt w0 w p0 g gr gl gt v rest k) (ht : TkOut Y N [g] g gr gl rest k w e w') :
    ∃ (b : Bool) (v' : SV) (rest' : List UInt8),e = .returned (.bool b)∧PSt w0 w' p0 g gr gl gt v' rest' (k + 1)∧IfB b (∃ L,takeM rest = some (L,rest')∧Y L v' w') (takeM rest = none∨∃ L r,takeM rest = some (L,r)∧N L)∧(∀ (r : RV) (q : Rat),r.Is r.n r.m q w→r.Is r.n r.m q w') := by
  obtain ⟨v',b,rest',he,hs,hi,ho⟩ := ht
  refine ⟨b,v',rest',he,h.step hs ho (fun i hm => ?_),hi,fun r q hr => hr.only ho (fun i hm => ?_)⟩
  rotate_left
  · rcases List.mem_cons.1 hm with e | hm
    · subst e;exact Blk.noU h.st.r (by simp)
    · rcases List.mem_cons.1 hm with e | hm
      · subst e;exact Blk.noU h.st.l (by simp)
      · rw [List.mem_singleton] at hm;subst hm;exact h.st.s.noU
  rw [List.mem_singleton] at hm
  subst hm
  exact ⟨h.hi.2.1,fun e => h.ne.1 e.symm,fun e => h.ne.2.2.2.1 e.symm⟩
theorem parse_0 {l : List UInt8} (h : lineM (wordM bHOR numS) l = none) : parseM numS l = .inl 1 := by unfold parseM;rw [h]
theorem parse_1 {l r1 : List UInt8} {q : Rat} (h : lineM (wordM bHOR numS) l = some (q,r1)) (h1 : lineM (wordM bCAS cntS) r1 = none) : parseM numS l = .inl 2 := by unfold parseM;rw [h];dsimp only;rw [h1]
theorem parse_2 {l r1 r2 : List UInt8} {q : Rat} {c : Int} (h : lineM (wordM bHOR numS) l = some (q,r1)) (h1 : lineM (wordM bCAS cntS) r1 = some (c,r2)) (h2 : lineM (wordM bBITS cntS) r2 = none) : parseM numS l = .inl 3 := by unfold parseM;rw [h];dsimp only;rw [h1];dsimp only;rw [h2]
theorem parse_3 {l r1 r2 r3 : List UInt8} {q : Rat} {c t : Int} (h : lineM (wordM bHOR numS) l = some (q,r1)) (h1 : lineM (wordM bCAS cntS) r1 = some (c,r2)) (h2 : lineM (wordM bBITS cntS) r2 = some (t,r3)) : parseM numS l = endM q c t (loopM numS (r3.length + 1) r3 3 []) := by
  unfold parseM;rw [h];dsimp only;rw [h1];dsimp only;rw [h2];dsimp only
  cases loopM numS (r3.length + 1) r3 3 [] <;> rfl
theorem pinv_0 {l : List UInt8} {w0 w : World} {p0 g gr gl gt k : Nat} {v : SV} {rest : List UInt8} (f : Nat) (h : PSt w0 w p0 g gr gl gt v rest k) (ho : parseM numS l = .inl k) : PInv (parseM numS l) w0 p0 g gr gl gt f false w := ⟨v,rest,k,h,ho⟩
theorem pinv_3 {l r1 r2 r3 : List UInt8} {w0 w : World} {p0 g gr gl gt : Nat} {v1 v2 v3 : SV} {L1 L2 L3 : List ByteArray} {w1 w2 : World} (h : PSt w0 w p0 g gr gl gt v3 r3 3) (hl : l.length≤65536)
    (t1 : takeM l = some (L1,r1)) (y1 : YH sv0 L1 v1 w1) (t2 : takeM r1 = some (L2,r2)) (y2 : YC v1 L2 v2 w2) (t3 : takeM r2 = some (L3,r3)) (y3 : YB v2 L3 v3 w)
    (hh : ∀ q,v1.h.Is v1.h.n v1.h.m q w1→v1.h.Is v1.h.n v1.h.m q w) : PInv (parseM numS l) w0 p0 g gr gl gt (r3.length + 1) true w := by
  obtain ⟨q,a1,a2,a3,a4⟩ := y1
  obtain ⟨c,b1,b2⟩ := y2
  obtain ⟨t,c1,c2⟩ := y3
  have l1 := takeM_len t1
  have l2 := takeM_len t2
  have l3 := takeM_len t3
  have e : v3 = { v1 with cas := c,bits := t } := by rw [c2,b2]
  refine ⟨v3,r3,3,h,by omega,q,[], ?_,fun x hx => (by cases hx),fun x hx => (by cases hx), ?_, ?_,by simp,by omega, ?_⟩
  · rw [e,a2];exact OwnN.nil _ _
  · rw [e];exact hh q a3
  · rw [e];exact a4
  · rw [parse_3 (lineM_yes t1 a1) (lineM_yes t2 b1) (lineM_yes t3 c1),e];rfl
theorem loopM_end {num : ByteArray→Option Rat} {f k : Nat} {acc : List (Rat × ByteArray × Rat)} (h : 0 < f) : loopM num f [] k acc = .inr acc := by
  cases f with
  | zero => omega
  | succ f => unfold loopM;rw [if_pos rfl]
theorem loopM_no {num : ByteArray→Option Rat} {f k : Nat} {rest : List UInt8} {acc : List (Rat × ByteArray × Rat)} (hr : rest≠[]) (h : lineM (changeM num) rest = none) : loopM num (f + 1) rest k acc = .inl (k + 1) := by
  rw [loopM,if_neg hr,h]
theorem loopM_yes {num : ByteArray→Option Rat} {f k : Nat} {rest r : List UInt8} {acc : List (Rat × ByteArray × Rat)} {x : Rat × ByteArray × Rat} (hr : rest≠[]) (h : lineM (changeM num) rest = some (x,r)) : loopM num (f + 1) rest k acc = loopM num f r (k + 1) (acc ++ [x]) := by
  rw [loopM,if_neg hr,h]
theorem ch_step {o : Nat ⊕ ScT} {w0 w w' : World} {p0 g gr gl gt f k : Nat} {v : SV} {rest : List UInt8} {h : Rat} {xs : List CM} {e : Ending} (hp : PSt w0 w p0 g gr gl gt v rest k) (ho : OwnN w w0.heap.size v.sl xs) (hf : ∀ x∈xs,x.Fit) (hh : v.h.Is v.h.n v.h.m h w) (hh2 : v.h.Fit h) (hk : xs.length≤k) (hlo : k + rest.length≤65600) (hfu : rest.length < f + 1) (hr : rest≠[])
    (hoo : o = endM h v.cas v.bits (loopM numS (f + 1) rest k (xs.map CM.told))) (ht : TkOut (YX v w0.heap.size xs) NX (ownS g v) g gr gl rest k w e w') : ∃ b,e = .returned (.bool b)∧PInv o w0 p0 g gr gl gt f b w' := by
  obtain ⟨v',b,rest',he,hs,hi,hon⟩ := ht
  have hne : ∀ i∈ownS g v,w0.heap.size≤i∧i≠p0∧i≠gt := by
    intro i hm
    rcases List.mem_cons.1 hm with e | hm
    · subst e;exact ⟨hp.hi.2.1,fun e => hp.ne.1 e.symm,fun e => hp.ne.2.2.2.1 e.symm⟩
    · have hm : v.sl.ownBlock = some i := by simpa using hm
      exact ⟨(ho.1.lt hm).1,ho.ne hp.z (by decide) i hm,ho.ne hp.t (by decide) i hm⟩
  refine ⟨b,he,v',rest',k + 1,hp.step hs hon hne, ?_⟩
  cases b
  · exact (show o = .inl (k + 1) by rw [hoo,loopM_no hr (lineM_no hi)];rfl)
  · obtain ⟨L,t1,x,c1,c2,c3,c4,c5⟩ : ∃ L,takeM rest = some (L,rest')∧YX v w0.heap.size xs L v' w' := hi
    have hl := takeM_len t1
    have hnoU : ∀ i∈gr :: gl :: ownS g v,NoU w i := by
      intro i hm
      rcases List.mem_cons.1 hm with e | hm
      · subst e;exact Blk.noU hp.st.r (by simp)
      · rcases List.mem_cons.1 hm with e | hm
        · subst e;exact Blk.noU hp.st.l (by simp)
        · rcases List.mem_cons.1 hm with e | hm
          · subst e;exact hp.st.s.noU
          · exact ho.2 i (by simpa using hm)
    have hh' := hh.only hon hnoU
    refine ⟨by omega,h,xs ++ [x],c4,c5,fun y hy => ?_, ?_, ?_,by simp;omega,by omega, ?_⟩
    · rcases List.mem_append.1 hy with hy | hy
      · exact hf y hy
      · rw [List.mem_singleton] at hy;rw [hy];exact c2
    · rw [c3];exact hh'
    · rw [c3];exact hh2
    · rw [hoo,loopM_yes hr (lineM_yes t1 c1),c3,List.map_append];rfl
end Go.Proofs.YtkcgikoploohkaaGreatDoor
