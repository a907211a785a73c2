/- What code ends with, as plain lists; appending an instruction. No condition but bounds. · What ends tells. No condition but bounds. · What step tells. No condition but bounds. -/
import Derived.Test.YtanbekbalfbkcaaZCdFToCdG
import Derived.Test.YtanbekbalfbkcaaZPlBToPlD
import Derived.Deep.RegionHeld3
import Derived.Deep.DeepCutAuto
namespace Go.Proofs.Ytanbekbalfbkcaa
set_option linter.unusedVariables false
set_option linter.unusedSimpArgs false
set_option maxRecDepth 100000
open Go.RowKit

def tags (xs : List InsM) : List (ByteArray × Int) := xs.map fun x => (x.op, x.k)
def tg (op : ByteArray) (n : Nat) : List (ByteArray × Int) := (List.range n).map fun (i : Nat) => (op, (i : Int))
theorem tg_succ (op : ByteArray) (n : Nat) : tg op (n + 1) = tg op n ++ [(op, (n : Int))] := by unfold tg; rw [List.range_succ, List.map_append]; rfl
theorem tg_len (op : ByteArray) (n : Nat) : (tg op n).length = n := by unfold tg; simp
theorem tags_add (xs : List InsM) (x : InsM) : tags (xs ++ [x]) = tags xs ++ [(x.op, x.k)] := by unfold tags; rw [List.map_append]; rfl
theorem tags_len (xs : List InsM) : (tags xs).length = xs.length := by unfold tags; simp
def tgAgain (n : Nat) : List (ByteArray × Int) := List.replicate n (⟨#[97, 103, 97, 105, 110]⟩, (0 : Int))
def endT (f : FlatM) : List (ByteArray × Int) := tg ⟨#[107, 101, 101, 112]⟩ f.mems.length ++ tg ⟨#[115, 116, 97, 116, 101]⟩ f.conts.length ++ tg ⟨#[111, 117, 116]⟩ f.outs.length ++ tgAgain f.again.length
/-- what ends tells: an instruction for each memory, state, output and again -/
def EndsPost (f : FlatM) (w : World) (e : Ending) (w' : World) : Prop := ∃ v' xs, e = .returned v' ∧ OwnS w' w.heap.size v' xs ∧ tags xs = endT f ∧ Below w.heap.size w w'
theorem keepn3 {W w3 : World} {C : Nat} {p0 p1 p2 : Addr} {x0 x1 x2 : Value} (h : W.cell? p0 = some x0 ∧ W.cell? p1 = some x1 ∧ W.cell? p2 = some x2) (hb : Below C W w3) (h0 : p0.block < C) (h1 : p1.block < C) (h2 : p2.block < C) : w3.cell? p0 = some x0 ∧ w3.cell? p1 = some x1 ∧ w3.cell? p2 = some x2 := ⟨(hb.cell h0).trans h.1, (hb.cell h1).trans h.2.1, (hb.cell h2).trans h.2.2⟩
/-- an append to a row that lies apart from block e leaves e's cells -/
theorem keepx3 {W0 W w3 : World} {B e : Nat} {o0 o1 o2 : Nat} {x0 x1 x2 : Value} {u : Value} {xs : List InsM} (h : W.cell? ⟨e, o0, none⟩ = some x0 ∧ W.cell? ⟨e, o1, none⟩ = some x1 ∧ W.cell? ⟨e, o2, none⟩ = some x2) (ho : Only [u.ownBlock] W w3) (h0 : OwnS W0 B u xs) (h1 : OwnS W B u xs) (hb : Below W0.heap.size W0 W) (he : e < W0.heap.size) (hne : u.ownBlock ≠ some e) : w3.cell? ⟨e, o0, none⟩ = some x0 ∧ w3.cell? ⟨e, o1, none⟩ = some x1 ∧ w3.cell? ⟨e, o2, none⟩ = some x2 :=
  have hc : ∀ o, w3.cell? ⟨e, o, none⟩ = W.cell? ⟨e, o, none⟩ := fun o => ho.cell (p := ⟨e, o, none⟩) (Nat.lt_of_lt_of_le he hb.size) (by simp; exact fun q => hne q.symm)
  ⟨(hc _).trans h.1, (hc _).trans h.2.1, (hc _).trans h.2.2⟩
theorem stepY {w : World} {ops : Array Oper} {o : Oper} {a : Act} {K : Act → World → Prop} {Q : Exit → Act → World → Prop} {E : Prop} {cs : Array Value} (hgd : o.guard = none) (s x : Operand)
    (hop : o.op = .call { callee := .builtin .append, args := #[s, x], argTypes := #[37, 37] })
    (B : Nat) (v : Value) (xs : List InsM) (X : InsM) (T : TypeId) (H : Nat) (hs : a.eval s = v) (hx : a.eval x = .slice (some ⟨H, 0, none⟩) 1 1) (hH : w.heap.size = H) (hcs : X.cs.toArray = cs) (hown : OwnS w B v xs) (hB : B ≤ H) (hl : xs.length ≤ 100000000)
    (hK : ∀ v' w', OwnS w' B v' (xs ++ [X]) → Only [v.ownBlock] w w' → (v'.ownBlock = v.ownBlock ∨ ∃ k, v'.ownBlock = some k ∧ H ≤ k) → K (a.put o.dst v') w') :
    if Region.wanted o (yielded ops a.tmps) = true then Oper.wp Try.prog o a (w.alloc (.cells cs T)) K Q else E := by
  subst hcs
  exact stepX hgd s x hop B v xs X T H hs hx hH hown hB hl hK
theorem appendY {w : World} {ops : Array Oper} {rest : List Oper} {o : Oper} {a : Act} {Q : Exit → Act → World → Prop} {cs : Array Value} (hgd : o.guard = none) (s x : Operand)
    (hop : o.op = .call { callee := .builtin .append, args := #[s, x], argTypes := #[37, 37] })
    (B : Nat) (v : Value) (xs : List InsM) (X : InsM) (T : TypeId) (H : Nat) (hs : a.eval s = v) (hx : a.eval x = .slice (some ⟨H, 0, none⟩) 1 1) (hH : w.heap.size = H) (hcs : X.cs.toArray = cs) (hown : OwnS w B v xs) (hB : B ≤ H) (hl : xs.length ≤ 100000000)
    (hK : ∀ v' w', OwnS w' B v' (xs ++ [X]) → Only [v.ownBlock] w w' → (v'.ownBlock = v.ownBlock ∨ ∃ k, v'.ownBlock = some k ∧ H ≤ k) → wpList Try.prog ops Q rest (a.put o.dst v') w') :
    wpList Try.prog ops Q (o :: rest) a (w.alloc (.cells cs T)) := by
  subst hcs
  exact appendX hgd s x hop B v xs X T H hs hx hH hown hB hl hK
theorem tgAgain_succ (n : Nat) : tgAgain (n + 1) = tgAgain n ++ [(⟨#[97, 103, 97, 105, 110]⟩, (0 : Int))] := by unfold tgAgain; rw [List.replicate_succ']
theorem own_far {w : World} {B : Nat} {u : Value} {xs : List InsM} (h : OwnS w B u xs) : u.ownBlock ≠ some w.heap.size := fun e => by have := (h.lt e).2; omega

end Go.Proofs.Ytanbekbalfbkcaa

namespace Go.Proofs.Ytanbekbalfbkcaa
set_option linter.unusedVariables false
set_option linter.unusedSimpArgs false
set_option maxRecDepth 100000
open Go.RowKit

set_option maxHeartbeats 8000000 in
theorem ends_t (g B : Nat) (v : FlatV) (f : FlatM) (A2 : Option Addr) (n2 c2 : Nat) (ss : List Int) (w : World) (hk : CM w B g v f A2 n2 c2 ss) :
    Calls Try.prog 38 #[.pointer (some ⟨g, 0, none⟩)] w (EndsPost f w) := by
  have HM := Lib.hid hk
  have hmM := hk.mkr.is.mems.len_le
  have hmC := hk.mkr.is.conts.len_le
  have hmO := hk.mkr.is.outs.len_le
  have hmA := hk.mkr.is.again.len_le
  have hn2 := hk.le
  have HLEN : Hid (v.mems.2.1 ≤ 100 ∧ v.conts.2.1 ≤ 20 ∧ v.outs.2.1 ≤ 50 ∧ v.again.2.1 ≤ 50) := Lib.hid ⟨by rw [← hk.mkr.is.mems.1]; exact hk.small.mems, by rw [← hk.mkr.is.conts.1]; exact hk.small.conts, by rw [← hk.mkr.is.outs.1]; exact hk.small.outs, by rw [← hk.mkr.is.again.1]; exact hk.small.again⟩
  have HGM : Hid (∀ (i : Nat) (x : MemM), f.mems[i]? = some x → x.next < (n2 : Int) ∧ x.guard < (n2 : Int) ∧ x.resets.length ≤ 1000 ∧ ∀ y ∈ x.resets, y < (n2 : Int)) := Lib.hid fun i x hx => by
    have h := (goodB_parts hk.good).2.2.1 x (List.mem_of_getElem? hx)
    unfold memB at h
    rw [Bool.and_eq_true, Bool.and_eq_true, hk.names] at h
    have h2 := good_memR hk.good hk.names hk.small i x hx
    exact ⟨(plB_yes h.1.1).2, guB_lt h.1.2, h2.1, h2.2⟩
  have HGC : Hid (∀ (i : Nat) (x : ContM), f.conts[i]? = some x → x.var < (n2 : Int) ∧ x.guard < (n2 : Int) ∧ x.resets.length ≤ 1000 ∧ ∀ y ∈ x.resets, y < (n2 : Int)) := Lib.hid fun i x hx => by
    have h := (goodB_parts hk.good).2.2.2.1 x (List.mem_of_getElem? hx)
    unfold contB at h
    rw [Bool.and_eq_true, Bool.and_eq_true, Bool.and_eq_true, hk.names] at h
    have h2 := good_contR hk.good hk.names hk.small i x hx
    exact ⟨(plB_yes h.1.1.1).2, guB_lt h.1.1.2, h2.1, h2.2⟩
  have HGOo : Hid (∀ x ∈ f.outs, x < (n2 : Int)) := Lib.hid fun x hx => by have := plB_yes ((goodB_parts hk.good).1 x hx); rw [hk.names] at this; exact this.2
  have HGOa : Hid (∀ x ∈ f.again, x < (n2 : Int)) := Lib.hid fun x hx => by have := plB_yes ((goodB_parts hk.good).2.1 x hx); rw [hk.names] at this; exact this.2
  have HBB := Lib.hid hk.mkr.hB
  clear hk
  unfold maxLen at hmM hmC hmO hmA
  go_enter Try.func38, Try.ntmps38
  obtain ⟨m0, m1, m2, m3, m4, m5, m6, m7, m8⟩ := (HM.out).mkr.cells
  obtain ⟨EA, hEA⟩ : ∃ EA, EA = v.mems.1 := ⟨_, rfl⟩
  rw [← hEA] at m4
  have HEA := Lib.hid hEA
  clear hEA
  go_wp2_with fail
  clear m0 m1 m2 m3 m4 m5 m6 m7 m8
  go_loopw [3, 18] (fun u t wr => ∃ (k : Nat) (xs : List InsM) (a3 : Option Addr) (n3 c3 : Nat), k ≤ v.mems.2.1 ∧ u = .slice a3 n3 c3 ∧ t = .int .i64 k ∧ Hid (tags xs = [] ++ tg ⟨#[107, 101, 101, 112]⟩ k) ∧ Hid (OwnS wr w.heap.size (.slice a3 n3 c3) xs) ∧ Hid (Below w.heap.size w wr)) (fun _ t _ => v.mems.2.1 - (intOf t).toNat)
  case atStart => exact ⟨0, [], none, 0, 0, Nat.zero_le _, rfl, rfl, Lib.hid rfl, Lib.hid (OwnS.nil _ _), Lib.hid (Below.refl _ _)⟩
  case round =>
  
  
    obtain ⟨k, xs, a3, n3, c3, hk, rfl, rfl, HT, HO, HB⟩ := hrel
    have hxl : xs.length ≤ 1000 := by
      rw [← tags_len, HT.out]
      have := HLEN.out
      simp only [List.length_append, List.length_nil, tg_len, tgAgain, List.length_replicate]
      omega
    by_cases hlt : k < v.mems.2.1
    · have hMr := HM.out.later HB.out
      obtain ⟨x, hx⟩ := hMr.mkr.is.mems.ex hlt
      obtain ⟨b, off, ha, hbB, hat⟩ := hMr.mkr.is.mems.at_ hx
      have hgd := HGM.out k x hx
      obtain ⟨hg1, hg2, hg3, hg4⟩ := hgd
      obtain ⟨m, d, r, _, _, hrr, e0, e1, e2, e3, e4, e5, e6, e7⟩ := hat.cells
      have ha' := HEA.out.trans ha
      subst ha'
      have hbl : b < wr.heap.size := Nat.lt_of_lt_of_le hbB hMr.mkr.hB
      obtain ⟨W3, hW3⟩ : ∃ W3, W3 = wr.alloc (.cells (memvs x m d r) 66) := ⟨_, rfl⟩
      have hb3 : Below wr.heap.size wr W3 := by rw [hW3]; exact (Below.refl _ _).alloc (Nat.le_refl _) _
      have HK3 := Lib.hid (show Blk W3 wr.heap.size 66 (memvs x m d r) from by rw [hW3]; exact Blk.new _ _ _)
      have hwC : wr.heap.size < W3.heap.size := HK3.out.lt
      have HB3 := Lib.hid (HB.out.trans (hb3.mono HB.out.size))
      have hba : Below W3.heap.size W3 (W3.alloc (.cells #[.int .i64 x.next] 3)).drew := ((Below.refl _ _).alloc (Nat.le_refl _) _).drew
      have HBA := Lib.hid hba
      have HMW := Lib.hid (fun W (hb : Below W3.heap.size W3 W) => (HM.out.later (HB3.out.trans (hb.mono HB3.out.size))).mkr)
      have HT1 := Lib.hid (turnM_t g B v f A2 n2 c2 ss (some ⟨W3.heap.size, 0, none⟩) 1 1 [x.next] (W3.alloc (.cells #[.int .i64 x.next] 3)).drew (HMW.out _ HBA.out) ((irow1 W3 x.next 3).below (Below.refl _ _).drew) (by simp [World.drew]) (by omega) (by intro y hy; simp at hy; subst hy; exact hg1))
      have HSG := Lib.hid (fun W (hb : Below W3.heap.size W3 W) => slot_t g n2 c2 B A2 ss x.guard W (HMW.out W hb).cells.2.2.2.2.2.2.2.2 (HMW.out W hb).row hg2)
      have HT3 := Lib.hid (fun W (hb : Below W3.heap.size W3 W) => turnM_t g B v f A2 n2 c2 ss r.1 r.2.1 r.2.2 x.resets W (HMW.out W hb) (hrr.below ((hb3.trans (hb.mono hb3.size)).mono hMr.mkr.hB)) (HMW.out W hb).hB (by rw [← hrr.1]; omega) hg4)
      have HO3 := Lib.hid (HO.out.later hb3)
      have HP : Hid (W3.drew.cell? ⟨wr.heap.size, 5, none⟩ = some (.int .i64 x.next) ∧ W3.drew.cell? ⟨wr.heap.size, 6, none⟩ = some (.int .i64 x.guard) ∧ W3.drew.cell? ⟨wr.heap.size, 7, none⟩ = some (.slice r.1 r.2.1 r.2.2)) := Lib.hid ⟨HK3.out.cell 5 rfl, HK3.out.cell 6 rfl, HK3.out.cell 7 rfl⟩
      have HPa : Hid ((W3.alloc (.cells #[.int .i64 x.next] 3)).drew.cell? ⟨wr.heap.size, 5, none⟩ = some (.int .i64 x.next) ∧ (W3.alloc (.cells #[.int .i64 x.next] 3)).drew.cell? ⟨wr.heap.size, 6, none⟩ = some (.int .i64 x.guard) ∧ (W3.alloc (.cells #[.int .i64 x.next] 3)).drew.cell? ⟨wr.heap.size, 7, none⟩ = some (.slice r.1 r.2.1 r.2.2)) := Lib.hid (keepn3 HP.out ((Below.refl W3.heap.size W3.drew).alloc (Nat.le_refl _) _) hwC hwC hwC)
      unfold memvs at hW3
      clear hMr hx ha hat hb3 hba hrr    hg1 hg2 hg3 hg4
      go_upto_region 5 with fail
      rw [← hW3]
      clear hW3 e0 e1 e2 e3 e4 e5 e6 e7
      go_region_held3 (fun w' => w'.cell? ⟨wr.heap.size, 5, none⟩ = some (.int .i64 x.next) ∧ w'.cell? ⟨wr.heap.size, 6, none⟩ = some (.int .i64 x.guard) ∧ w'.cell? ⟨wr.heap.size, 7, none⟩ = some (.slice r.1 r.2.1 r.2.2)) (first | with_reducible exact HP.out | with_reducible exact HPa.out | with_reducible exact HPb.out | with_reducible exact HPc.out | with_reducible exact HPd.out | with_reducible exact HPe.out) (first
        | (go_at_call 49; first
            | ((with_reducible refine HT1.out.mono ?_); rintro e w4 ⟨v4, l4, rfl, hown4, hl4, hb4⟩; obtain ⟨a4, n4, c4, hv4⟩ := own_slice hown4; subst hv4; have HB4 := Lib.hid (HBA.out.trans (hb4.mono HBA.out.size)); have HPb := Lib.hid (keepn3 HPa.out (hb4.mono HBA.out.size) hwC hwC hwC); clear hown4 hb4)
            | ((with_reducible refine (HT3.out _ HB4.out).mono ?_); rintro e w5 ⟨v5, l5, rfl, hown5, hl5, hb5⟩; obtain ⟨a5, n5, c5, hv5⟩ := own_slice hown5; subst hv5; have HB5 := Lib.hid (HB4.out.trans (hb5.mono HB4.out.size)); have HPc := Lib.hid (keepn3 HPb.out (hb5.mono HB4.out.size) hwC hwC hwC); have HO5 := Lib.hid (HO3.out.later HB5.out); have HS5 := Lib.hid (Nat.le_trans HB3.out.size HB5.out.size); obtain ⟨XX, hXX⟩ : ∃ XX : InsM, XX = ⟨⟨#[107, 101, 101, 112]⟩, 0, (a4, n4, c4), k, 0, false, (none, 0, 0), (none, 0, 0), ⟨#[]⟩, slotS ss x.guard, (a5, n5, c5)⟩ := ⟨_, rfl⟩; have HXX := Lib.hid hXX; clear hXX; have HPd := Lib.hid (keepn3 HPc.out ((Below.refl W3.heap.size w5).alloc HB5.out.size (.cells #[.string ⟨#[107, 101, 101, 112]⟩, .int .i64 0, .slice a4 n4 c4, .int .i64 (k : Int), .int .i64 0, .bool false, .slice none 0 0, .slice none 0 0, .string ⟨#[]⟩, .int .i64 (slotS ss x.guard), .slice a5 n5 c5] 54)) hwC hwC hwC); clear hown5 hb5))
        | (go_at_call 39; (with_reducible refine (HSG.out _ HB4.out).mono ?_); rintro e w9 ⟨rfl, hw⟩; subst w9)
        | (refine stepY rfl _ _ rfl w.heap.size (.slice a3 n3 c3) xs XX 54 w5.heap.size rfl rfl rfl (by rw [HXX.out] <;> rfl) HO5.out HS5.out (by omega) ?_; intro v6 w6 hown6 honly6 hat6; obtain ⟨a6, n6, c6, hv6⟩ := own_sliceS hown6; subst hv6; have HO6 := Lib.hid hown6; have HB6 := Lib.hid ((HB3.out.trans (HB5.out.mono HB3.out.size)).trans (honly6.ownS HO5.out HS5.out)); have HPe := Lib.hid (show w6.cell? ⟨wr.heap.size, 5, none⟩ = some (.int .i64 x.next) ∧ w6.cell? ⟨wr.heap.size, 6, none⟩ = some (.int .i64 x.guard) ∧ w6.cell? ⟨wr.heap.size, 7, none⟩ = some (.slice r.1 r.2.1 r.2.2) from keepx3 HPc.out honly6 HO3.out HO5.out HB5.out hwC (own_far HO.out)); clear hown6 honly6 hat6))
      all_goals
        go_wp2_with fail
        go_roundw
        case rel => exact ⟨k + 1, xs ++ [_], a6, n6, c6, by omega, rfl, by go_num, Lib.hid (by rw [tags_add, HT.out, HXX.out, tg_succ, List.append_assoc]), HO6, HB6⟩
        case measure => simp [intOf]; omega
    · obtain rfl : k = v.mems.2.1 := by omega
      have HT0 := HT
      clear HT hxl hlt hk HEA
      obtain ⟨m0, m1, m2, m3, m4, m5, m6, m7, m8⟩ := (HM.out.later HB.out).mkr.cells
      obtain ⟨EA, hEA⟩ : ∃ EA, EA = v.conts.1 := ⟨_, rfl⟩
      rw [← hEA] at m5
      have HEA := Lib.hid hEA
      clear hEA
      go_wp2_with fail
      clear m0 m1 m2 m3 m4 m5 m6 m7 m8
      go_loopw [3, 50] (fun u t wr => ∃ (k : Nat) (xs : List InsM) (a3 : Option Addr) (n3 c3 : Nat), k ≤ v.conts.2.1 ∧ u = .slice a3 n3 c3 ∧ t = .int .i64 k ∧ Hid (tags xs = tg ⟨#[107, 101, 101, 112]⟩ v.mems.2.1 ++ tg ⟨#[115, 116, 97, 116, 101]⟩ k) ∧ Hid (OwnS wr w.heap.size (.slice a3 n3 c3) xs) ∧ Hid (Below w.heap.size w wr)) (fun _ t _ => v.conts.2.1 - (intOf t).toNat)
      case atStart => exact ⟨0, xs, a3, n3, c3, Nat.zero_le _, rfl, rfl, Lib.hid (by rw [HT0.out]; simp [tg, tgAgain]), HO, HB⟩
      case round =>
        clear HT0 HO HB
  
        obtain ⟨k, xs, a3, n3, c3, hk, rfl, rfl, HT, HO, HB⟩ := hrel
        have hxl : xs.length ≤ 1000 := by
          rw [← tags_len, HT.out]
          have := HLEN.out
          simp only [List.length_append, List.length_nil, tg_len, tgAgain, List.length_replicate]
          omega
        by_cases hlt : k < v.conts.2.1
        · have hMr := HM.out.later HB.out
          obtain ⟨x, hx⟩ := hMr.mkr.is.conts.ex hlt
          obtain ⟨b, off, ha, hbB, hat⟩ := hMr.mkr.is.conts.at_ hx
          have hgd := HGC.out k x hx
          obtain ⟨hg1, hg2, hg3, hg4⟩ := hgd
          obtain ⟨m, d, r, s, _, _, hrr, _, e0, e1, e2, e3, e4, e5, e6, e7, e8⟩ := hat.cells
          have ha' := HEA.out.trans ha
          subst ha'
          have hbl : b < wr.heap.size := Nat.lt_of_lt_of_le hbB hMr.mkr.hB
          obtain ⟨W3, hW3⟩ : ∃ W3, W3 = wr.alloc (.cells (contvs x m d r s) 70) := ⟨_, rfl⟩
          have hb3 : Below wr.heap.size wr W3 := by rw [hW3]; exact (Below.refl _ _).alloc (Nat.le_refl _) _
          have HK3 := Lib.hid (show Blk W3 wr.heap.size 70 (contvs x m d r s) from by rw [hW3]; exact Blk.new _ _ _)
          have hwC : wr.heap.size < W3.heap.size := HK3.out.lt
          have HB3 := Lib.hid (HB.out.trans (hb3.mono HB.out.size))
          have hba : Below W3.heap.size W3 (W3.alloc (.cells #[.int .i64 x.var] 3)).drew := ((Below.refl _ _).alloc (Nat.le_refl _) _).drew
          have HBA := Lib.hid hba
          have HMW := Lib.hid (fun W (hb : Below W3.heap.size W3 W) => (HM.out.later (HB3.out.trans (hb.mono HB3.out.size))).mkr)
          have HT1 := Lib.hid (turnM_t g B v f A2 n2 c2 ss (some ⟨W3.heap.size, 0, none⟩) 1 1 [x.var] (W3.alloc (.cells #[.int .i64 x.var] 3)).drew (HMW.out _ HBA.out) ((irow1 W3 x.var 3).below (Below.refl _ _).drew) (by simp [World.drew]) (by omega) (by intro y hy; simp at hy; subst hy; exact hg1))
          have HSG := Lib.hid (fun W (hb : Below W3.heap.size W3 W) => slot_t g n2 c2 B A2 ss x.guard W (HMW.out W hb).cells.2.2.2.2.2.2.2.2 (HMW.out W hb).row hg2)
          have HT3 := Lib.hid (fun W (hb : Below W3.heap.size W3 W) => turnM_t g B v f A2 n2 c2 ss r.1 r.2.1 r.2.2 x.resets W (HMW.out W hb) (hrr.below ((hb3.trans (hb.mono hb3.size)).mono hMr.mkr.hB)) (HMW.out W hb).hB (by rw [← hrr.1]; omega) hg4)
          have HO3 := Lib.hid (HO.out.later hb3)
          have HP : Hid (W3.drew.cell? ⟨wr.heap.size, 5, none⟩ = some (.int .i64 x.var) ∧ W3.drew.cell? ⟨wr.heap.size, 6, none⟩ = some (.int .i64 x.guard) ∧ W3.drew.cell? ⟨wr.heap.size, 7, none⟩ = some (.slice r.1 r.2.1 r.2.2)) := Lib.hid ⟨HK3.out.cell 5 rfl, HK3.out.cell 6 rfl, HK3.out.cell 7 rfl⟩
          have HPa : Hid ((W3.alloc (.cells #[.int .i64 x.var] 3)).drew.cell? ⟨wr.heap.size, 5, none⟩ = some (.int .i64 x.var) ∧ (W3.alloc (.cells #[.int .i64 x.var] 3)).drew.cell? ⟨wr.heap.size, 6, none⟩ = some (.int .i64 x.guard) ∧ (W3.alloc (.cells #[.int .i64 x.var] 3)).drew.cell? ⟨wr.heap.size, 7, none⟩ = some (.slice r.1 r.2.1 r.2.2)) := Lib.hid (keepn3 HP.out ((Below.refl W3.heap.size W3.drew).alloc (Nat.le_refl _) _) hwC hwC hwC)
          unfold contvs at hW3
          clear hMr hx ha hat hb3 hba hrr     hg1 hg2 hg3 hg4
          go_upto_region 10 with fail
          rw [← hW3]
          clear hW3 e0 e1 e2 e3 e4 e5 e6 e7 e8
          go_region_held3 (fun w' => w'.cell? ⟨wr.heap.size, 5, none⟩ = some (.int .i64 x.var) ∧ w'.cell? ⟨wr.heap.size, 6, none⟩ = some (.int .i64 x.guard) ∧ w'.cell? ⟨wr.heap.size, 7, none⟩ = some (.slice r.1 r.2.1 r.2.2)) (first | with_reducible exact HP.out | with_reducible exact HPa.out | with_reducible exact HPb.out | with_reducible exact HPc.out | with_reducible exact HPd.out | with_reducible exact HPe.out) (first
            | (go_at_call 49; first
                | ((with_reducible refine HT1.out.mono ?_); rintro e w4 ⟨v4, l4, rfl, hown4, hl4, hb4⟩; obtain ⟨a4, n4, c4, hv4⟩ := own_slice hown4; subst hv4; have HB4 := Lib.hid (HBA.out.trans (hb4.mono HBA.out.size)); have HPb := Lib.hid (keepn3 HPa.out (hb4.mono HBA.out.size) hwC hwC hwC); clear hown4 hb4)
                | ((with_reducible refine (HT3.out _ HB4.out).mono ?_); rintro e w5 ⟨v5, l5, rfl, hown5, hl5, hb5⟩; obtain ⟨a5, n5, c5, hv5⟩ := own_slice hown5; subst hv5; have HB5 := Lib.hid (HB4.out.trans (hb5.mono HB4.out.size)); have HPc := Lib.hid (keepn3 HPb.out (hb5.mono HB4.out.size) hwC hwC hwC); have HO5 := Lib.hid (HO3.out.later HB5.out); have HS5 := Lib.hid (Nat.le_trans HB3.out.size HB5.out.size); obtain ⟨XX, hXX⟩ : ∃ XX : InsM, XX = ⟨⟨#[115, 116, 97, 116, 101]⟩, 0, (a4, n4, c4), k, 0, false, (none, 0, 0), (none, 0, 0), ⟨#[]⟩, slotS ss x.guard, (a5, n5, c5)⟩ := ⟨_, rfl⟩; have HXX := Lib.hid hXX; clear hXX; have HPd := Lib.hid (keepn3 HPc.out ((Below.refl W3.heap.size w5).alloc HB5.out.size (.cells #[.string ⟨#[115, 116, 97, 116, 101]⟩, .int .i64 0, .slice a4 n4 c4, .int .i64 (k : Int), .int .i64 0, .bool false, .slice none 0 0, .slice none 0 0, .string ⟨#[]⟩, .int .i64 (slotS ss x.guard), .slice a5 n5 c5] 54)) hwC hwC hwC); clear hown5 hb5))
            | (go_at_call 39; (with_reducible refine (HSG.out _ HB4.out).mono ?_); rintro e w9 ⟨rfl, hw⟩; subst w9)
            | (refine stepY rfl _ _ rfl w.heap.size (.slice a3 n3 c3) xs XX 54 w5.heap.size rfl rfl rfl (by rw [HXX.out] <;> rfl) HO5.out HS5.out (by omega) ?_; intro v6 w6 hown6 honly6 hat6; obtain ⟨a6, n6, c6, hv6⟩ := own_sliceS hown6; subst hv6; have HO6 := Lib.hid hown6; have HB6 := Lib.hid ((HB3.out.trans (HB5.out.mono HB3.out.size)).trans (honly6.ownS HO5.out HS5.out)); have HPe := Lib.hid (show w6.cell? ⟨wr.heap.size, 5, none⟩ = some (.int .i64 x.var) ∧ w6.cell? ⟨wr.heap.size, 6, none⟩ = some (.int .i64 x.guard) ∧ w6.cell? ⟨wr.heap.size, 7, none⟩ = some (.slice r.1 r.2.1 r.2.2) from keepx3 HPc.out honly6 HO3.out HO5.out HB5.out hwC (own_far HO.out)); clear hown6 honly6 hat6))
          all_goals
            go_wp2_with fail
            go_roundw
            case rel => exact ⟨k + 1, xs ++ [_], a6, n6, c6, by omega, rfl, by go_num, Lib.hid (by rw [tags_add, HT.out, HXX.out, tg_succ, List.append_assoc]), HO6, HB6⟩
            case measure => simp [intOf]; omega
        · obtain rfl : k = v.conts.2.1 := by omega
          have HT0 := HT
          clear HT hxl hlt hk HEA
          obtain ⟨m0, m1, m2, m3, m4, m5, m6, m7, m8⟩ := (HM.out.later HB.out).mkr.cells
          obtain ⟨EA, hEA⟩ : ∃ EA, EA = v.outs.1 := ⟨_, rfl⟩
          rw [← hEA] at m2
          have HEA := Lib.hid hEA
          clear hEA
          go_wp2_with fail
          clear m0 m1 m2 m3 m4 m5 m6 m7 m8
          go_loopw [3, 82] (fun u t wr => ∃ (k : Nat) (xs : List InsM) (a3 : Option Addr) (n3 c3 : Nat), k ≤ v.outs.2.1 ∧ u = .slice a3 n3 c3 ∧ t = .int .i64 k ∧ Hid (tags xs = tg ⟨#[107, 101, 101, 112]⟩ v.mems.2.1 ++ tg ⟨#[115, 116, 97, 116, 101]⟩ v.conts.2.1 ++ tg ⟨#[111, 117, 116]⟩ k) ∧ Hid (OwnS wr w.heap.size (.slice a3 n3 c3) xs) ∧ Hid (Below w.heap.size w wr)) (fun _ t _ => v.outs.2.1 - (intOf t).toNat)
          case atStart => exact ⟨0, xs, a3, n3, c3, Nat.zero_le _, rfl, rfl, Lib.hid (by rw [HT0.out]; simp [tg, tgAgain]), HO, HB⟩
          case round =>
            clear HT0 HO HB
  
            obtain ⟨k, xs, a3, n3, c3, hk, rfl, rfl, HT, HO, HB⟩ := hrel
            have hxl : xs.length ≤ 1000 := by
              rw [← tags_len, HT.out]
              have := HLEN.out
              simp only [List.length_append, List.length_nil, tg_len, tgAgain, List.length_replicate]
              omega
            by_cases hlt : k < v.outs.2.1
            · have hMr := HM.out.later HB.out
              have hrw := hMr.mkr.is.outs
              obtain ⟨b, off, ha, hbB, hcell⟩ := hrw.at_ hlt
              obtain ⟨X, hX⟩ : ∃ X, X = f.outs.getD k 0 := ⟨_, rfl⟩
              rw [← hX] at hcell
              have hXn : X < (n2 : Int) := HGOo.out X (by rw [hX]; have := hrw.1; rw [List.getD_eq_getElem?_getD, List.getElem?_eq_getElem (by omega)]; exact List.getElem_mem _)
              have ha' := HEA.out.trans ha
              subst ha'
              have HBA := Lib.hid ((Below.refl wr.heap.size wr).alloc (Nat.le_refl _) (.cells #[.int .i64 X] 3))
              have HT1 := Lib.hid (turnM_t g B v f A2 n2 c2 ss (some ⟨wr.heap.size, 0, none⟩) 1 1 [X] (wr.alloc (.cells #[.int .i64 X] 3)) (hMr.later HBA.out).mkr (irow1 wr X 3) (by simp) (by omega) (by intro y hy; simp at hy; subst hy; exact hXn))
              clear hMr hrw hX
              go_wp2_with (first
                | (go_at_call 49; (with_reducible refine HT1.out.mono ?_); rintro e w4 ⟨v4, l4, rfl, hown4, hl4, hb4⟩; obtain ⟨a4, n4, c4, hv4⟩ := own_slice hown4; subst hv4; have HB4 := Lib.hid (HBA.out.trans (hb4.mono HBA.out.size)); have HO4 := Lib.hid (HO.out.later HB4.out); have HS4 := Lib.hid (Nat.le_trans HB.out.size HB4.out.size); obtain ⟨XX, hXX⟩ : ∃ XX : InsM, XX = ⟨⟨#[111, 117, 116]⟩, 0, (a4, n4, c4), (k : Int), 0, false, (none, 0, 0), (none, 0, 0), ⟨#[]⟩, -1, (none, 0, 0)⟩ := ⟨_, rfl⟩; have HXX := Lib.hid hXX; clear hXX; clear hown4 hb4)
                | (at_builtin; refine appendY rfl _ _ rfl w.heap.size (.slice a3 n3 c3) xs XX 54 w4.heap.size rfl rfl rfl (by rw [HXX.out] <;> rfl) HO4.out HS4.out (by omega) ?_; intro v6 w6 hown6 honly6 hat6; obtain ⟨a6, n6, c6, hv6⟩ := own_sliceS hown6; subst hv6; have HO6 := Lib.hid hown6; have HB6 := Lib.hid ((HB.out.trans (HB4.out.mono HB.out.size)).trans (honly6.ownS HO4.out HS4.out)); clear hown6 honly6 hat6))
              go_roundw
              case rel => exact ⟨k + 1, xs ++ [_], a6, n6, c6, by omega, rfl, by go_num, Lib.hid (by rw [tags_add, HT.out, HXX.out, tg_succ, List.append_assoc]), HO6, HB6⟩
              case measure => simp [intOf]; omega
            · obtain rfl : k = v.outs.2.1 := by omega
              have HT0 := HT
              clear HT hxl hlt hk HEA
              obtain ⟨m0, m1, m2, m3, m4, m5, m6, m7, m8⟩ := (HM.out.later HB.out).mkr.cells
              obtain ⟨EA, hEA⟩ : ∃ EA, EA = v.again.1 := ⟨_, rfl⟩
              rw [← hEA] at m7
              have HEA := Lib.hid hEA
              clear hEA
              go_wp2_with fail
              clear m0 m1 m2 m3 m4 m5 m6 m7 m8
              go_loopw [3, 104] (fun u t wr => ∃ (k : Nat) (xs : List InsM) (a3 : Option Addr) (n3 c3 : Nat), k ≤ v.again.2.1 ∧ u = .slice a3 n3 c3 ∧ t = .int .i64 k ∧ Hid (tags xs = tg ⟨#[107, 101, 101, 112]⟩ v.mems.2.1 ++ tg ⟨#[115, 116, 97, 116, 101]⟩ v.conts.2.1 ++ tg ⟨#[111, 117, 116]⟩ v.outs.2.1 ++ tgAgain k) ∧ Hid (OwnS wr w.heap.size (.slice a3 n3 c3) xs) ∧ Hid (Below w.heap.size w wr)) (fun _ t _ => v.again.2.1 - (intOf t).toNat)
              case atStart => exact ⟨0, xs, a3, n3, c3, Nat.zero_le _, rfl, rfl, Lib.hid (by rw [HT0.out]; simp [tg, tgAgain]), HO, HB⟩
              case round =>
                clear HT0 HO HB
  
                obtain ⟨k, xs, a3, n3, c3, hk, rfl, rfl, HT, HO, HB⟩ := hrel
                have hxl : xs.length ≤ 1000 := by
                  rw [← tags_len, HT.out]
                  have := HLEN.out
                  simp only [List.length_append, List.length_nil, tg_len, tgAgain, List.length_replicate]
                  omega
                by_cases hlt : k < v.again.2.1
                · have hMr := HM.out.later HB.out
                  have hrw := hMr.mkr.is.again
                  obtain ⟨b, off, ha, hbB, hcell⟩ := hrw.at_ hlt
                  obtain ⟨X, hX⟩ : ∃ X, X = f.again.getD k 0 := ⟨_, rfl⟩
                  rw [← hX] at hcell
                  have hXn : X < (n2 : Int) := HGOa.out X (by rw [hX]; have := hrw.1; rw [List.getD_eq_getElem?_getD, List.getElem?_eq_getElem (by omega)]; exact List.getElem_mem _)
                  have ha' := HEA.out.trans ha
                  subst ha'
                  have HBA := Lib.hid ((Below.refl wr.heap.size wr).alloc (Nat.le_refl _) (.cells #[.int .i64 X] 3))
                  have HT1 := Lib.hid (turnM_t g B v f A2 n2 c2 ss (some ⟨wr.heap.size, 0, none⟩) 1 1 [X] (wr.alloc (.cells #[.int .i64 X] 3)) (hMr.later HBA.out).mkr (irow1 wr X 3) (by simp) (by omega) (by intro y hy; simp at hy; subst hy; exact hXn))
                  clear hMr hrw hX
                  go_wp2_with (first
                    | (go_at_call 49; (with_reducible refine HT1.out.mono ?_); rintro e w4 ⟨v4, l4, rfl, hown4, hl4, hb4⟩; obtain ⟨a4, n4, c4, hv4⟩ := own_slice hown4; subst hv4; have HB4 := Lib.hid (HBA.out.trans (hb4.mono HBA.out.size)); have HO4 := Lib.hid (HO.out.later HB4.out); have HS4 := Lib.hid (Nat.le_trans HB.out.size HB4.out.size); obtain ⟨XX, hXX⟩ : ∃ XX : InsM, XX = ⟨⟨#[97, 103, 97, 105, 110]⟩, 0, (a4, n4, c4), 0, 0, false, (none, 0, 0), (none, 0, 0), ⟨#[]⟩, -1, (none, 0, 0)⟩ := ⟨_, rfl⟩; have HXX := Lib.hid hXX; clear hXX; clear hown4 hb4)
                    | (at_builtin; refine appendY rfl _ _ rfl w.heap.size (.slice a3 n3 c3) xs XX 54 w4.heap.size rfl rfl rfl (by rw [HXX.out] <;> rfl) HO4.out HS4.out (by omega) ?_; intro v6 w6 hown6 honly6 hat6; obtain ⟨a6, n6, c6, hv6⟩ := own_sliceS hown6; subst hv6; have HO6 := Lib.hid hown6; have HB6 := Lib.hid ((HB.out.trans (HB4.out.mono HB.out.size)).trans (honly6.ownS HO4.out HS4.out)); clear hown6 honly6 hat6))
                  go_roundw
                  case rel => exact ⟨k + 1, xs ++ [_], a6, n6, c6, by omega, rfl, by go_num, Lib.hid (by rw [tags_add, HT.out, HXX.out, tgAgain_succ, List.append_assoc]), HO6, HB6⟩
                  case measure => simp [intOf]; omega
                · obtain rfl : k = v.again.2.1 := by omega
                  go_wp2
                  go_ret
                  exact ⟨_, xs, rfl, HO.out, by rw [HT.out]; unfold endT; rw [HM.out.mkr.is.mems.1, HM.out.mkr.is.conts.1, HM.out.mkr.is.outs.1, HM.out.mkr.is.again.1]; try simp, HB.out⟩

end Go.Proofs.Ytanbekbalfbkcaa

namespace Go.Proofs.Ytanbekbalfbkcaa
set_option linter.unusedVariables false
set_option linter.unusedSimpArgs false
set_option maxRecDepth 100000
open Go.RowKit

theorem OwnS.src {w : World} {B : Nat} {v : Value} {xs : List InsM} (h : OwnS w B v xs) : ∃ a c, v = .slice a xs.length c ∧ SMem w w.heap.size a xs.length c xs ∧ (a = none → c = 0) := by
  obtain ⟨a, c, e, hm⟩ := h.mem
  refine ⟨a, c, e, hm, fun ha => ?_⟩
  rcases h.2 with ⟨h1, h0⟩ | ⟨g, cap, cur, h1, _⟩
  · rw [h1] at e; injection e with _ _ e3; exact e3.symm
  · rw [h1] at e; injection e with e1; rw [ha] at e1; cases e1
/-- what step tells -/
def StepPost (f : FlatM) (ss o : List Int) (w : World) (e : Ending) (w' : World) : Prop :=
  ∃ v' xs ys, e = .returned v' ∧ OwnS w' w.heap.size v' (xs ++ ys) ∧ xs.length = o.length ∧ (∀ i x, xs[i]? = some x → EqIns f ss (o.getD i 0) x) ∧ tags ys = endT f ∧ Below w.heap.size w w'
theorem endT_len (f : FlatM) : (endT f).length = f.mems.length + f.conts.length + f.outs.length + f.again.length := by unfold endT tgAgain; simp [tg_len]; omega
set_option maxHeartbeats 2000000 in
theorem step_t (g B : Nat) (v : FlatV) (f : FlatM) (A2 : Option Addr) (n2 c2 : Nat) (ss : List Int) (A : Option Addr) (c : Nat) (o : List Int) (w : World) (hk : CM w B g v f A2 n2 c2 ss) (ho : IRow w B A n2 c o) (hon : Once o n2) :
    Calls Try.prog 17 #[.pointer (some ⟨g, 0, none⟩), .slice A n2 c] w (StepPost f ss o w) := by
  have HM := Lib.hid hk
  have hn2 := hk.le
  have HQ := Lib.hid (equations_t g B v f A2 n2 c2 ss A c o w hk ho hon)
  have HLE : Hid ((endT f).length ≤ 1000) := Lib.hid (by rw [endT_len]; have := hk.small.mems; have := hk.small.conts; have := hk.small.outs; have := hk.small.again; omega)
  have HOL : Hid (o.length ≤ 1000) := Lib.hid (by rw [hon.len]; omega)
  clear hk ho hon
  go_enter Try.func17, Try.ntmps17
  go_wp2_with (first
    | (go_at_call 37; (with_reducible refine HQ.out.mono ?_); rintro e w1 ⟨v1, xs, rfl, hown1, hl1, hq1, hb1⟩; obtain ⟨a1, n1, c1, hv1⟩ := own_sliceS hown1; subst hv1; have HO1 := Lib.hid hown1; have HQ1 := Lib.hid (And.intro hl1 hq1); have HB1 := Lib.hid hb1; have HE := Lib.hid (ends_t g B v f A2 n2 c2 ss w1 (HM.out.later hb1)); clear hown1 hl1 hq1 hb1)
    | (go_at_call 38; (with_reducible refine HE.out.mono ?_); rintro e w2 ⟨v2, ys, rfl, hown2, ht2, hb2⟩; obtain ⟨a2, c2', hv2, hsm, hnil⟩ := hown2.src; subst hv2; have HO2 := Lib.hid (HO1.out.later hb2); have HS2 := Lib.hid hsm; have HN2 := Lib.hid hnil; have HB2 := Lib.hid (HB1.out.trans (hb2.mono HB1.out.size)); have HT2 := Lib.hid ht2; have HYL : Hid (ys.length ≤ 1000) := Lib.hid (by rw [← tags_len, ht2]; exact HLE.out); clear hown2 hsm hnil hb2 ht2)
    | (at_builtin; refine appendXs rfl _ _ rfl w.heap.size w2.heap.size (.slice a1 n1 c1) xs a2 ys.length c2' ys rfl rfl HN2.out HO2.out HS2.out HB2.out.size (by rw [HQ1.out.1]; have := HOL.out; omega) (by have := HYL.out; omega) ?_; intro v3 w3 hown3 honly3 hat3; obtain ⟨a3, n3, c3, hv3⟩ := own_sliceS hown3; subst hv3; have HO3 := Lib.hid hown3; have HB3 := Lib.hid (HB2.out.trans (honly3.ownS HO2.out HB2.out.size)); clear hown3 honly3 hat3))
  go_ret
  exact ⟨_, xs, ys, rfl, HO3.out, HQ1.out.1, HQ1.out.2, HT2.out, HB3.out⟩

end Go.Proofs.Ytanbekbalfbkcaa
