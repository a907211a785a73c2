/- What deriv tells. No condition but bounds. -/
import Derived.Test.YtanbekbalfbkcaaZCdHaToCdI
import Derived.Deep.RegionLaw
import Derived.Deep.DeepCutAuto
namespace Go.Proofs.Ytanbekbalfbkcaa
set_option linter.unusedVariables false
set_option linter.unusedSimpArgs false
set_option maxRecDepth 100000
open Go.RowKit

/-- an append to a row of numbers that lies apart from block e leaves e's cells -/
theorem keepq2 {W5 Wa w7 : World} {e : Nat} {o0 o1 : Nat} {x0 x1 : Value} {u : Value} (h : Wa.cell? ⟨e, o0, none⟩ = some x0 ∧ Wa.cell? ⟨e, o1, none⟩ = some x1) (ho : Only [u.ownBlock] Wa w7) (hb : Below W5.heap.size W5 Wa) (he : e < W5.heap.size) (hne : u.ownBlock ≠ some e) : w7.cell? ⟨e, o0, none⟩ = some x0 ∧ w7.cell? ⟨e, o1, none⟩ = some x1 :=
  have hc : ∀ o, w7.cell? ⟨e, o, none⟩ = Wa.cell? ⟨e, o, none⟩ := fun o => ho.cell (p := ⟨e, o, none⟩) (Nat.lt_of_lt_of_le he hb.size) (by simp; exact fun q => hne q.symm)
  ⟨(hc _).trans h.1, (hc _).trans h.2⟩
theorem keeps2 {w7 : World} {e g o : Nat} {o0 o1 : Nat} {x0 x1 : Value} (u : Value) (h : w7.cell? ⟨e, o0, none⟩ = some x0 ∧ w7.cell? ⟨e, o1, none⟩ = some x1) (hne : e ≠ g) : (w7.setCell ⟨g, o, none⟩ u).cell? ⟨e, o0, none⟩ = some x0 ∧ (w7.setCell ⟨g, o, none⟩ u).cell? ⟨e, o1, none⟩ = some x1 := by
  have hk := Below.heap_setCell w7 ⟨g, o, none⟩ u e (by simpa using hne)
  exact ⟨(World.cell?_of_block (w := w7) (a := ⟨e, o0, none⟩) hk).trans h.1, (World.cell?_of_block (w := w7) (a := ⟨e, o1, none⟩) hk).trans h.2⟩
theorem own_farI {w : World} {B : Nat} {u : Value} {xs : List Int} (h : Own w B u xs) : u.ownBlock ≠ some w.heap.size := fun e => by have := (h.lt e).2; omega
theorem keepn2 {W w3 : World} {C : Nat} {p0 p1 : Addr} {x0 x1 : Value} (h : W.cell? p0 = some x0 ∧ W.cell? p1 = some x1) (hb : Below C W w3) (h0 : p0.block < C) (h1 : p1.block < C) : w3.cell? p0 = some x0 ∧ w3.cell? p1 = some x1 := ⟨(hb.cell h0).trans h.1, (hb.cell h1).trans h.2⟩
/-- what deriv tells: an instruction for each state -/
def DerivPost (f : FlatM) (w : World) (e : Ending) (w' : World) : Prop := ∃ v' xs, e = .returned v' ∧ OwnS w' w.heap.size v' xs ∧ tags xs = tg ⟨#[115, 108, 111, 112, 101]⟩ f.conts.length ∧ Below w.heap.size w w'
theorem good_slope {f : FlatM} {n : Nat} (hg : goodB f = true) (hn : f.names.length = n) {i j : Nat} {x : ContM} {y : SlopeM} (hx : f.conts[i]? = some x) (hy : x.slopes[j]? = some y) : y.guard < (n : Int) ∧ y.var < (n : Int) := by
  have h := (goodB_parts hg).2.2.2.1 x (List.mem_of_getElem? hx)
  unfold contB at h
  rw [Bool.and_eq_true] at h
  have h2 := List.all_eq_true.1 h.2 y (List.mem_of_getElem? hy)
  unfold slopeB at h2
  rw [Bool.and_eq_true, hn] at h2
  exact ⟨guB_lt h2.1, (plB_yes h2.2).2⟩
theorem Own.setOther {w : World} {B g : Nat} {u : Value} {xs : List Int} (h : Own w B u xs) (hg : g < B) (o : Nat) (x : Value) : Own (w.setCell ⟨g, o, none⟩ x) B u xs :=
  h.keep fun k hk => Below.heap_setCell w ⟨g, o, none⟩ x k (by have := (h.lt hk).1; simp; omega)
set_option maxHeartbeats 8000000 in
theorem deriv_t (g B : Nat) (v : FlatV) (f : FlatM) (A2 : Option Addr) (n2 c2 : Nat) (ss : List Int) (w : World) (hk : CM w B g v f A2 n2 c2 ss) :
    Calls Try.prog 18 #[.pointer (some ⟨g, 0, none⟩)] w (DerivPost f w) := by
  have HM := Lib.hid hk
  have hmC := hk.mkr.is.conts.len_le
  have hn2 := hk.le
  have HLEN : Hid (v.conts.2.1 ≤ 20) := Lib.hid (by rw [← hk.mkr.is.conts.1]; exact hk.small.conts)
  have HGC : Hid (∀ (i : Nat) (x : ContM), f.conts[i]? = some x → x.guard < (n2 : Int)) := Lib.hid fun i x hx => by
    have h := (goodB_parts hk.good).2.2.2.1 x (List.mem_of_getElem? hx)
    unfold contB at h
    rw [Bool.and_eq_true, Bool.and_eq_true, Bool.and_eq_true, hk.names] at h
    exact guB_lt h.1.1.2
  have HBB := Lib.hid hk.mkr.hB
  obtain ⟨m0, m1, m2, m3, m4, m5, m6, m7, m8⟩ := hk.mkr.cells
  clear hk
  unfold maxLen at hmC
  obtain ⟨EA, hEA⟩ : ∃ EA, EA = v.conts.1 := ⟨_, rfl⟩
  rw [← hEA] at m5
  have HEA := Lib.hid hEA
  clear hEA
  go_enter Try.func18, Try.ntmps18
  go_wp2_with fail
  clear m0 m1 m2 m3 m4 m5 m6 m7 m8
  go_loopw [3, 15] (fun u t wr => ∃ (k : Nat) (xs : List InsM) (a3 : Option Addr) (n3 c3 : Nat), k ≤ v.conts.2.1 ∧ u = .slice a3 n3 c3 ∧ t = .int .i64 k ∧ Hid (tags xs = tg ⟨#[115, 108, 111, 112, 101]⟩ k) ∧ Hid (OwnS wr w.heap.size (.slice a3 n3 c3) xs) ∧ Hid (Below w.heap.size w wr)) (fun _ t _ => v.conts.2.1 - (intOf t).toNat)
  case atStart => exact ⟨0, [], none, 0, 0, Nat.zero_le _, rfl, rfl, Lib.hid rfl, Lib.hid (OwnS.nil _ _), Lib.hid (Below.refl _ _)⟩
  case round =>
    obtain ⟨k, xs, a3, n3, c3, hk, rfl, rfl, HT, HO, HB⟩ := hrel
    obtain ⟨wo, rfl⟩ : ∃ W : World, W = wr := ⟨_, rfl⟩
    have hxl : xs.length ≤ 1000 := by
      rw [← tags_len, HT.out, tg_len]
      have := HLEN.out
      omega
    by_cases hlt : k < v.conts.2.1
    · have hMr := HM.out.later HB.out
      obtain ⟨x, hx⟩ := hMr.mkr.is.conts.ex hlt
      obtain ⟨b, off, ha, hbB, hat⟩ := hMr.mkr.is.conts.at_ hx
      obtain ⟨m, d, r, ⟨sA, sn, sc⟩, _, _, _, hrs, e0, e1, e2, e3, e4, e5, e6, e7, e8⟩ := hat.cells
      have hms := hrs.len_le
      unfold maxLen at hms
      have hs20 : sn ≤ 20 := by have := (hMr.small.creset k x hx).2; have := hrs.1; simp only at this; omega
      have ha' := HEA.out.trans ha
      subst ha'
      have hbl : b < wo.heap.size := Nat.lt_of_lt_of_le hbB hMr.mkr.hB
      obtain ⟨W3, hW3⟩ : ∃ W3, W3 = wo.alloc (.cells (contvs x m d r (sA, sn, sc)) 70) := ⟨_, rfl⟩
      have hb3 : Below wo.heap.size wo W3 := by rw [hW3]; exact (Below.refl _ _).alloc (Nat.le_refl _) _
      have HK3 := Lib.hid (show Blk W3 wo.heap.size 70 (contvs x m d r (sA, sn, sc)) from by rw [hW3]; exact Blk.new _ _ _)
      have HB3 := Lib.hid (HB.out.trans (hb3.mono HB.out.size))
      have HMW := Lib.hid (fun W (hb : Below W3.heap.size W3 W) => HM.out.later (HB3.out.trans (hb.mono HB3.out.size)))
      have HSG := Lib.hid (slot_t g n2 c2 B A2 ss x.guard W3 (HMW.out W3 (Below.refl _ _)).mkr.cells.2.2.2.2.2.2.2.2 (HMW.out W3 (Below.refl _ _)).mkr.row (HGC.out k x hx))
      have HSL : Hid (∀ W, Below W3.heap.size W3 W → SRow 2 SlopeAt W B sA sn sc x.slopes) := Lib.hid fun W hb => hrs.keep fun b' o' y' hb' h' => h'.keep hb' fun p hp => ((hb3.trans (hb.mono hb3.size)).cell (Nat.lt_of_lt_of_le hp hMr.mkr.hB))
      have HO3 := Lib.hid (HO.out.later hb3)
      have HX := Lib.hid hx
      obtain ⟨W4, hW4⟩ : ∃ W4, W4 = W3.alloc (.cells #[.string ⟨#[115, 108, 111, 112, 101]⟩, .int .i64 0, .slice none 0 0, .int .i64 (k : Int), .int .i64 0, .bool false, .slice none 0 0, .slice none 0 0, .string ⟨#[]⟩, .int .i64 (slotS ss x.guard), .slice none 0 0] 54) := ⟨_, rfl⟩
      have hb4 : Below W3.heap.size W3 W4 := by rw [hW4]; exact (Below.refl _ _).alloc (Nat.le_refl _) _
      have HK4 := Lib.hid (show Blk W4 W3.heap.size 54 #[.string ⟨#[115, 108, 111, 112, 101]⟩, .int .i64 0, .slice none 0 0, .int .i64 (k : Int), .int .i64 0, .bool false, .slice none 0 0, .slice none 0 0, .string ⟨#[]⟩, .int .i64 (slotS ss x.guard), .slice none 0 0] from by rw [hW4]; exact Blk.new _ _ _)
      have HB4 := Lib.hid hb4
      have HKC4 := Lib.hid (HK3.out.later hb4)
      unfold contvs at hW3
      dsimp only at hW3
      clear hMr hx ha hat hb3 hrs hb4
      go_upto_region 5 with fail
      rw [← hW3]
      clear hW3 e0 e1 e2 e3 e4 e5 e6 e7 e8
      have g2 : W3.cell? ⟨wo.heap.size, 6, none⟩ = some (.int .i64 x.guard) := HK3.out.cell 6 rfl
      go_upto_region 6 with (go_at_call 39; (with_reducible refine HSG.out.mono ?_); rintro e w9 ⟨rfl, hw⟩; subst w9)
      rw [← hW4]
      clear hW4 g2
      have g8 : W4.cell? ⟨wo.heap.size, 8, none⟩ = some (.slice sA sn sc) := HKC4.out.cell 8 rfl
      go_wp2_with fail
      go_loopw [29] (fun t wr => ∃ (j : Nat) (l : List Int) (aa : Option Addr) (nn cc : Nat), j ≤ sn ∧ t = .int .i64 j ∧ l.length = j * 2 ∧ Hid (Own wr W4.heap.size (.slice aa nn cc) l) ∧ Hid (Blk wr W3.heap.size 54 #[.string ⟨#[115, 108, 111, 112, 101]⟩, .int .i64 0, .slice aa nn cc, .int .i64 (k : Int), .int .i64 0, .bool false, .slice none 0 0, .slice none 0 0, .string ⟨#[]⟩, .int .i64 (slotS ss x.guard), .slice none 0 0]) ∧ Hid (Below W3.heap.size W3 wr) ∧ Hid (W4.heap.size ≤ wr.heap.size)) (fun t _ => sn - (intOf t).toNat)
      case atStart => exact ⟨0, [], none, 0, 0, Nat.zero_le _, rfl, rfl, Lib.hid (Own.nil _ _), HK4, HB4, Lib.hid (Nat.le_refl _)⟩
      case round =>
        obtain ⟨j, l, aa, nn, cc, hj, rfl, hll, HL, HKQ, HBQ, HSQ⟩ := hrel
        clear g8
        by_cases hlj : j < sn
        · obtain ⟨y, hy⟩ := (HSL.out _ HBQ.out).ex hlj
          obtain ⟨b2, off2, ha2, hb2B, hat2⟩ := (HSL.out _ HBQ.out).at_ hy
          obtain ⟨y0, y1⟩ := hat2.cells
          obtain ⟨hyg, hyv⟩ := good_slope HM.out.good HM.out.names HX.out hy
          subst ha2
          have hb2l : b2 < wr.heap.size := by have := HBB.out; have := HB3.out.size; have := HBQ.out.size; omega
          obtain ⟨W5, hW5⟩ : ∃ W5, W5 = wr.alloc (.cells (slopevs y) 84) := ⟨_, rfl⟩
          have hb5 : Below wr.heap.size wr W5 := by rw [hW5]; exact (Below.refl _ _).alloc (Nat.le_refl _) _
          have HK5 := Lib.hid (show Blk W5 wr.heap.size 84 (slopevs y) from by rw [hW5]; exact Blk.new _ _ _)
          have hq5 : wr.heap.size < W5.heap.size := HK5.out.lt
          have h34 : W3.heap.size < W4.heap.size := HK4.out.lt
          have h3q : W3.heap.size < W5.heap.size := by have := HSQ.out; omega
          have HB5 := Lib.hid (HBQ.out.trans (hb5.mono HBQ.out.size))
          have HMD := Lib.hid (HMW.out W5.drew HB5.out.drew)
          have HGa := Lib.hid (slot_t g n2 c2 B A2 ss y.guard W5.drew HMD.out.mkr.cells.2.2.2.2.2.2.2.2 HMD.out.mkr.row hyg)
          have HGb := Lib.hid (slot_t g n2 c2 B A2 ss y.var W5.drew HMD.out.mkr.cells.2.2.2.2.2.2.2.2 HMD.out.mkr.row hyv)
          have HKI := Lib.hid (HKQ.out.later hb5)
          have hba : Below W5.heap.size W5 (W5.alloc (.cells #[.int .i64 (slotS ss y.guard), .int .i64 (slotS ss y.var)] 3)).drew := ((Below.refl _ _).alloc (Nat.le_refl _) _).drew
          have HBA := Lib.hid hba
          have HLA := Lib.hid ((HL.out.below hb5 (Nat.le_refl _)).below hba (Nat.le_refl _))
          have HRA := Lib.hid ((irow2 W5 (slotS ss y.guard) (slotS ss y.var) 3).below (Below.refl _ _).drew)
          have HP : Hid (W5.drew.cell? ⟨wr.heap.size, 0, none⟩ = some (.int .i64 y.guard) ∧ W5.drew.cell? ⟨wr.heap.size, 1, none⟩ = some (.int .i64 y.var)) := Lib.hid ⟨HK5.out.cell 0 rfl, HK5.out.cell 1 rfl⟩
          have HPa : Hid ((W5.alloc (.cells #[.int .i64 (slotS ss y.guard), .int .i64 (slotS ss y.var)] 3)).drew.cell? ⟨wr.heap.size, 0, none⟩ = some (.int .i64 y.guard) ∧ (W5.alloc (.cells #[.int .i64 (slotS ss y.guard), .int .i64 (slotS ss y.var)] 3)).drew.cell? ⟨wr.heap.size, 1, none⟩ = some (.int .i64 y.var)) := Lib.hid (keepn2 HP.out ((Below.refl W5.heap.size W5.drew).alloc (Nat.le_refl _) _) hq5 hq5)
          have c2 : W5.drew.cell? ⟨W3.heap.size, 2, none⟩ = some (.slice aa nn cc) := HKI.out.cell 2 rfl
          have c2a : (W5.alloc (.cells #[.int .i64 (slotS ss y.guard), .int .i64 (slotS ss y.var)] 3)).drew.cell? ⟨W3.heap.size, 2, none⟩ = some (.slice aa nn cc) := (HKI.out.later hba).cell 2 rfl
          have HKA := Lib.hid (HKI.out.later hba)
          have HSZ : Hid (W4.heap.size ≤ W5.heap.size) := Lib.hid (Nat.le_trans HSQ.out (Nat.le_of_lt hq5))
          unfold slopevs at hW5
          clear hy hat2 hyg hyv hb5 hba
          go_upto_region 9 with fail
          rw [← hW5]
          clear hW5 y0 y1
          obtain ⟨p0, p1⟩ := HP.out
          go_region_law (first
              | (go_simp; go_at_call 39; first
                  | ((with_reducible refine HGa.out.mono ?_); rintro e w9 ⟨rfl, hw⟩; subst w9)
                  | ((with_reducible refine HGb.out.mono ?_); rintro e w9 ⟨rfl, hw⟩; subst w9))
              | (refine stepR rfl _ _ 23 Try.underlying23 rfl W4.heap.size (W5.heap.size + 1) (.slice aa nn cc) l (some ⟨W5.heap.size, 0, none⟩) 2 2 [slotS ss y.guard, slotS ss y.var] rfl rfl HLA.out HRA.out (Nat.le_trans HSZ.out HBA.out.size) (by omega) (by omega) ?_; intro v7 w7 hown7 honly7 hat7; obtain ⟨a7, n7, c7, hv7⟩ := own_slice hown7; subst hv7; have HO7 := Lib.hid hown7; have HB7 := Lib.hid (honly7.own HLA.out (Nat.le_trans HSZ.out HBA.out.size)); have HK7 := Lib.hid (HKA.out.below HB7.out h34); have k7 : w7.cell? ⟨W3.heap.size, 2, none⟩ = some (.slice aa nn cc) := HK7.out.cell 2 rfl; have z7 := HK7.out.free 2; clear hown7 honly7 hat7))
          all_goals
            go_wp2_with fail
            go_roundw
            case rel => exact ⟨j + 1, l ++ [slotS ss y.guard, slotS ss y.var], a7, n7, c7, by omega, by go_num, by simp; omega, Lib.hid (HO7.out.setOther h34 2 _), Lib.hid (HK7.out.putA 2 _), Lib.hid ((((HB5.out.trans (HBA.out.mono HB5.out.size))).trans (HB7.out.mono (Nat.le_of_lt h34))).setCell (p := ⟨W3.heap.size, 2, none⟩) (Nat.le_refl _) _), Lib.hid (by have := HB7.out.size; have := HBA.out.size; have := HSZ.out; simp; omega)⟩
            case measure => simp [intOf]; omega
        · obtain rfl : j = sn := by omega
          obtain ⟨nc0, nc1, nc2, nc3, nc4, nc5, nc6, nc7, nc8, nc9, nc10⟩ := HKQ.out.elev
          have HOQ := Lib.hid (HO3.out.later HBQ.out)
          have HSO := Lib.hid (Nat.le_trans HB3.out.size HBQ.out.size)
          obtain ⟨XX, hXX⟩ : ∃ XX : InsM, XX = ⟨⟨#[115, 108, 111, 112, 101]⟩, 0, (aa, nn, cc), k, 0, false, (none, 0, 0), (none, 0, 0), ⟨#[]⟩, slotS ss x.guard, (none, 0, 0)⟩ := ⟨_, rfl⟩
          have HXX := Lib.hid hXX
          clear hXX
          go_wp2_with (at_builtin; refine appendY rfl _ _ rfl w.heap.size (.slice a3 n3 c3) xs XX 54 wr.heap.size rfl rfl rfl (by rw [HXX.out] <;> rfl) HOQ.out HSO.out (by omega) ?_; intro v6 w6 hown6 honly6 hat6; obtain ⟨a6, n6, c6, hv6⟩ := own_sliceS hown6; subst hv6; have HO6 := Lib.hid hown6; have HB6 := Lib.hid ((HB3.out.trans (HBQ.out.mono HB3.out.size)).trans (honly6.ownS HOQ.out HSO.out)); clear hown6 honly6 hat6)
          go_roundw
          case rel => exact ⟨k + 1, xs ++ [_], a6, n6, c6, by omega, rfl, by go_num, Lib.hid (by rw [tags_add, HT.out, HXX.out, tg_succ]), HO6, HB6⟩
          case measure => simp [intOf]; omega
    · obtain rfl : k = v.conts.2.1 := by omega
      go_wp2
      go_ret
      exact ⟨_, xs, rfl, HO.out, by rw [HT.out, HM.out.mkr.is.conts.1], HB.out⟩

end Go.Proofs.Ytanbekbalfbkcaa
