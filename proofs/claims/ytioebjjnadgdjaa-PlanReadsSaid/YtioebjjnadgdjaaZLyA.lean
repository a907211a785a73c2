/- What lies in memory while slots are laid out. No condition. -/
import Derived.Test.YtioebjjnadgdjaaZLvA
import Derived.Test.YtioebjjnadgdjaaZHpFAToHpFB
import Derived.ArgAppend
import Derived.BigRegion
namespace Go.Proofs.Ytioebjjnadgdjaa
set_option linter.unusedVariables false
set_option linter.unusedSimpArgs false
set_option maxRecDepth 100000
open Go.RowKit

/-- append(row, x) where there is room: the row a part of a block -/
theorem appendP {w : World} {ops : Array Oper} {rest : List Oper} {o : Oper} {a : Act} {Q : Exit → Act → World → Prop} (hgd : o.guard = none) (s x : Operand)
    (hop : o.op = .call { callee := .builtin .append, args := #[s, x], argTypes := #[23, 23] })
    (b off n cap : Nat) (X : Int) (T : TypeId) (H : Nat) (hs : a.eval s = .slice (some ⟨b, off, none⟩) n cap) (hx : a.eval x = .slice (some ⟨H, 0, none⟩) 1 1) (hH : w.heap.size = H) (hroom : n + 1 ≤ cap) (hb : b < w.heap.size)
    (hc : (w.cell? ⟨b, off + n, none⟩).isSome = true) (hf : w.frozen? ⟨b, off + n, none⟩ = false)
    (hK : wpList Try.prog ops Q rest (a.put o.dst (.slice (some ⟨b, off, none⟩) (n + 1) cap)) ((w.alloc (.cells #[.int .i64 X] T)).setCell ⟨b, off + n, none⟩ (.int .i64 X))) :
    wpList Try.prog ops Q (o :: rest) a (w.alloc (.cells #[.int .i64 X] T)) := by
  subst hH
  obtain ⟨i0, hi, hz0, hz1, hz2⟩ := info_parts Try.info3
  refine wpList_plain hgd fun K hK' => ?_
  have hcell : (w.alloc (.cells #[.int .i64 X] T)).cell? ⟨b, off + n, none⟩ = w.cell? ⟨b, off + n, none⟩ := ((Below.refl w.heap.size w).alloc (Nat.le_refl _) _).cell (p := ⟨b, off + n, none⟩) hb
  have hfr : (w.alloc (.cells #[.int .i64 X] T)).frozen? ⟨b, off + n, none⟩ = w.frozen? ⟨b, off + n, none⟩ := ((Below.refl w.heap.size w).alloc (Nat.le_refl _) _).frozen (p := ⟨b, off + n, none⟩) hb
  have hrun := run_append_room_cells (P := Try.prog) (w.alloc (.cells #[.int .i64 X] T)) 23 o.type 3 i0 Try.underlying23 hi b off n cap ⟨w.heap.size, 0, none⟩ 1 1 [.int .i64 X] (by rw [hz1]; rfl) (cell_one_new w _ _) (by intro u hu; simp at hu; subst hu; rfl) hroom
    (fun j hj => by simp at hj; subst hj; rw [hz1, Nat.mul_one, Nat.add_zero, hcell]; exact hc) (fun j hj => by simp at hj; subst hj; rw [hz1, Nat.mul_one, Nat.add_zero, hfr]; exact hf)
  rw [hz1, Nat.mul_one] at hrun
  unfold Oper.wp
  simp [execOp, hop, resolve, invoke, builtin, hs, hx, hrun, Result.andThen]
  have e : (w.alloc (.cells #[.int .i64 X] T)).setCells b (off + n) [.int .i64 X] = (w.alloc (.cells #[.int .i64 X] T)).setCell ⟨b, off + n, none⟩ (.int .i64 X) := by
    simp [World.setCells]
  rw [e]
  exact hK' _ _ hK

/-- what lies in memory while slots are laid out -/
structure LyM (w : World) (B go gh gw gr : Nat) (W : World) (vh : Value) (hs xs ws : List Int) (vs : List Value) : Prop where
  out : IMem W go xs
  hp : HF.HB W B gh vh hs
  wh : IMem W gw ws
  hd : Blk W gr 23 vs.toArray
  old : Below w.heap.size w W
  size : B ≤ W.heap.size
structure LyO (w : World) (B go gh gw gr : Nat) : Prop where
  a : w.heap.size ≤ go
  b : go < gh
  c : gh < gw
  d : gw < gr
  e : gr < B
section
variable {w W W' : World} {B go gh gw gr : Nat} {vh vh' : Value} {hs hs' xs ws : List Int} {vs : List Value}
theorem LyM.heap (h : LyM w B go gh gw gr W vh hs xs ws vs) (o : LyO w B go gh gw gr) (hb : HF.HB W' B gh vh' hs') (hst : HStep gh vh vh' W W') : LyM w B go gh gw gr W' vh' hs' xs ws vs := by
  have := o.a; have := o.b; have := o.c; have := o.d; have := o.e
  have hv : ∀ k, vh.ownBlock = some k → B ≤ k := fun k hk => (h.hp.2.lt hk).1
  have far : ∀ g, g ≠ gh → g < B → some g ∉ [some gh, vh.ownBlock] := fun g h1 h2 hm => by
    simp only [List.mem_cons, List.not_mem_nil, or_false, Option.some.injEq] at hm
    rcases hm with q | q
    · exact h1 q
    · have := hv g q.symm; omega
  refine ⟨h.out.only hst.1 (far _ (by omega) (by omega)), hb, h.wh.only hst.1 (far _ (by omega) (by omega)), (hst.1.block gr h.hd.lt (far _ (by omega) (by omega))).trans h.hd, h.old.trans (hst.1.below (Nat.le_trans (by omega) h.size) fun j hj => ?_), Nat.le_trans h.size hst.1.size⟩
  simp only [List.mem_cons, List.not_mem_nil, or_false, Option.some.injEq] at hj
  rcases hj with q | q
  · omega
  · have := hv j q.symm; omega
theorem LyM.later (h : LyM w B go gh gw gr W vh hs xs ws vs) (o : LyO w B go gh gw gr) (hb : Below W.heap.size W W') : LyM w B go gh gw gr W' vh hs xs ws vs :=
  ⟨h.out.below hb h.out.lt, h.hp.keep (S := []) (Only.of_below hb) (by simp) (by simp), h.wh.below hb h.wh.lt, h.hd.later hb, h.old.trans (hb.mono h.old.size), Nat.le_trans h.size hb.size⟩
theorem LyM.alloc (h : LyM w B go gh gw gr W vh hs xs ws vs) (o : LyO w B go gh gw gr) (ob : Obj) : LyM w B go gh gw gr (W.alloc ob) vh hs xs ws vs := h.later o ((Below.refl _ _).alloc (Nat.le_refl _) _)
theorem LyM.hpset (h : LyM w B go gh gw gr W vh hs xs ws vs) (g j : Nat) (u : Value) (h1 : g ≠ gh) (h2 : g < B) : HF.HB (W.setCell ⟨g, j, none⟩ u) B gh vh hs :=
  h.hp.keep (S := [some g]) (Only.set (by simp) _ _ _) (by simp; exact fun e => h1 e.symm) (fun k hk => by have := (h.hp.2.lt hk).1; simp; omega)
theorem LyM.setOut (h : LyM w B go gh gw gr W vh hs xs ws vs) (o : LyO w B go gh gw gr) (k : Nat) (u : Int) : LyM w B go gh gw gr (W.setCell ⟨go, k, none⟩ (.int .i64 u)) vh hs (xs.set k u) ws vs := by
  have := o.a; have := o.b; have := o.c; have := o.d; have := o.e
  exact ⟨h.out.set k u, h.hpset go k _ (by omega) (by omega), h.wh.setOther (by simp; omega) _, (Below.heap_setCell W _ _ gr (by simp; omega)).trans h.hd, h.old.setCell (p := ⟨go, k, none⟩) (by show w.heap.size ≤ go; omega) _, by simp; exact h.size⟩
theorem LyM.setWh (h : LyM w B go gh gw gr W vh hs xs ws vs) (o : LyO w B go gh gw gr) (k : Nat) (u : Int) : LyM w B go gh gw gr (W.setCell ⟨gw, k, none⟩ (.int .i64 u)) vh hs xs (ws.set k u) vs := by
  have := o.a; have := o.b; have := o.c; have := o.d; have := o.e
  exact ⟨h.out.setOther (by simp; omega) _, h.hpset gw k _ (by omega) (by omega), h.wh.set k u, (Below.heap_setCell W _ _ gr (by simp; omega)).trans h.hd, h.old.setCell (p := ⟨gw, k, none⟩) (by show w.heap.size ≤ gw; omega) _, by simp; exact h.size⟩
theorem LyM.setHd (h : LyM w B go gh gw gr W vh hs xs ws vs) (o : LyO w B go gh gw gr) (k : Nat) (u : Value) : LyM w B go gh gw gr (W.setCell ⟨gr, k, none⟩ u) vh hs xs ws (vs.set k u) := by
  have := o.a; have := o.b; have := o.c; have := o.d; have := o.e
  exact ⟨h.out.setOther (by simp; omega) _, h.hpset gr k _ (by omega) (by omega), h.wh.setOther (by simp; omega) _, h.hd.put k u, h.old.setCell (p := ⟨gr, k, none⟩) (by show w.heap.size ≤ gr; omega) _, by simp; exact h.size⟩
end
/-- the rows of those that come free, as far as they are laid -/
structure LfI (la : Nat → Nat) (n gw : Nat) (lf : Nat → List Nat) (ws : List Int) (vs : List Value) : Prop where
  wl : ws.length = n
  vl : vs.length = n
  row : ∀ j, j < n → RowAt la n gw vs j (lf j).length
  room : ∀ j, j < n → (lf j).length ≤ cntTo la n j
  cont : ∀ j, j < n → ∀ t, t < (lf j).length → ws.getD (preTo la n j + t) 0 = ((lf j).getD t 0 : Nat)
theorem LfI.ext {la : Nat → Nat} {n gw : Nat} {lf lf' : Nat → List Nat} {ws : List Int} {vs : List Value} (h : LfI la n gw lf ws vs) (e : ∀ j, j < n → lf' j = lf j) : LfI la n gw lf' ws vs :=
  ⟨h.wl, h.vl, fun j hj => by rw [e j hj]; exact h.row j hj, fun j hj => by rw [e j hj]; exact h.room j hj, fun j hj => by rw [e j hj]; exact h.cont j hj⟩
/-- one row grows by one -/
theorem LfI.add {la : Nat → Nat} {n gw : Nat} {lf lf' : Nat → List Nat} {ws : List Int} {vs : List Value} (h : LfI la n gw lf ws vs) {j s : Nat} (hj : j < n) (hr : (lf j).length + 1 ≤ cntTo la n j)
    (e1 : lf' j = lf j ++ [s]) (e2 : ∀ i, i < n → i ≠ j → lf' i = lf i) :
    LfI la n gw lf' (ws.set (preTo la n j + (lf j).length) (s : Int)) (vs.set j (.slice (some ⟨gw, preTo la n j, none⟩) ((lf j).length + 1) (cntTo la n j))) := by
  have hpl : preTo la n j + (lf j).length < ws.length := by
    rw [h.wl]
    have := preTo_succ la n j
    have := preTo_le la n (j + 1)
    omega
  refine ⟨by rw [List.length_set]; exact h.wl, by rw [List.length_set]; exact h.vl, fun i hi => ?_, fun i hi => ?_, fun i hi t ht => ?_⟩
  · by_cases e : i = j
    · subst e
      rw [e1, List.length_append]
      exact RowAt.put (by rw [h.vl]; exact hi) fun _ => rfl
    · rw [e2 i hi e]; exact (h.row i hi).other _ e
  · by_cases e : i = j
    · subst e; rw [e1]; simpa using hr
    · rw [e2 i hi e]; exact h.room i hi
  · rw [getD_set _ _ _ _ hpl]
    by_cases e : i = j
    · subst e
      rw [e1, List.length_append] at ht
      rw [e1]
      by_cases et : t = (lf i).length
      · subst et; rw [if_pos rfl]; simp
      · have htl : t < (lf i).length := by simp at ht; omega
        rw [if_neg (by omega), h.cont i hi t htl]
        simp [List.getElem?_append_left htl]
    · rw [e2 i hi e] at ht ⊢
      have h1 := h.room i hi
      have h2 := h.room j hj
      have : preTo la n i + t ≠ preTo la n j + (lf j).length := by
        rcases Nat.lt_or_gt_of_ne e with q | q
        · have := preTo_room la n q; omega
        · have := preTo_room la n q; omega
      rw [if_neg this]; exact h.cont i hi t ht
/-- each variable's slot, as far as it is laid -/
def OutI (o : List Int) (n i : Nat) (sls : List Nat) (xs : List Int) : Prop := xs.length = n ∧ ∀ k, k < i → ∀ v : Nat, o.getD k 0 = (v : Int) → xs.getD v 0 = (sls.getD k 0 : Nat)
theorem OutI.add {o : List Int} {n i v s : Nat} {sls : List Nat} {xs : List Int} (h : OutI o n i sls xs) (ho : Once o n) (hi : i < n) (hl : sls.length = i) (hv : o.getD i 0 = (v : Int)) (hvn : v < n) : OutI o n (i + 1) (sls ++ [s]) (xs.set v (s : Int)) := by
  refine ⟨by rw [List.length_set]; exact h.1, fun k hk u hu => ?_⟩
  rw [getD_set _ _ _ _ (by rw [h.1]; exact hvn), getD_snoc]
  by_cases e : k = i
  · subst e
    have : u = v := by rw [hv] at hu; omega
    rw [if_pos this, if_neg (by omega), if_pos hl.symm]
  · have : u ≠ v := fun q => e (nd_inj ho.nd (by rw [ho.len]; omega) (by rw [ho.len]; omega) (by rw [hu, hv, q]))
    rw [if_neg this, if_pos (by omega)]
    exact h.2 k (by omega) u hu
/-- the last place of the variable at a place -/
def Lpl (la : Nat → Nat) (o : List Int) (i : Nat) : Nat := la (o.getD i 0).toNat
theorem lpl_room {la : Nat → Nat} {o : List Int} {n i j : Nat} {sls : List Nat} (ho : Once o n) (hi : i < n) (hj : Lpl la o i = j) : (leftAt (Lpl la o) sls i j).length + 1 ≤ cntTo la n j := by
  refine left_room (ov := fun i => (o.getD i 0).toNat) (fun a b ha hb e => ?_) (fun a ha => ?_) (fun a ha => rfl) hi hj
  · obtain ⟨x, hx, ex⟩ := ho.get ha
    obtain ⟨y, hy, ey⟩ := ho.get hb
    simp only [ex, ey] at e
    exact nd_inj ho.nd (by rw [ho.len]; exact ha) (by rw [ho.len]; exact hb) (by rw [ex, ey]; omega)
  · obtain ⟨x, hx, ex⟩ := ho.get ha
    simp only [ex]; omega
/-- all that holds ahead of place i -/
def LyR (la : Nat → Nat) (o : List Int) (n i S : Nat) (w : World) (B go gh gw gr : Nat) (W : World) : Prop :=
  ∃ vh hs xs ws vs sls, LyM w B go gh gw gr W vh hs xs ws vs ∧ Hp.IsHp hs hs.length ∧ Lo (Lpl la o) i S sls hs ∧ OutI o n i sls xs ∧ LfI la n gw (leftAt (Lpl la o) sls i) ws vs
def LayPost (la : Nat → Nat) (o : List Int) (n : Nat) (w : World) (e : Ending) (w' : World) : Prop :=
  ∃ (go : Nat) (xs : List Int) (S : Nat) (sls : List Nat) (hs : List Int), e = .returned (.tuple #[.slice (some ⟨go, 0, none⟩) n n, .int .i64 (S : Int)]) ∧ IMem w' go xs ∧ Lo (Lpl la o) n S sls hs ∧ OutI o n n sls xs ∧ w.heap.size ≤ go ∧ Below w.heap.size w w'

end Go.Proofs.Ytioebjjnadgdjaa
