/- What cross tells. No condition but bounds. -/
import Derived.Test.YtanbekbalfbkcaaZCdKToCdLa
import Derived.Deep.RegionHeld3
import Derived.Deep.RegionLaw
import Derived.Deep.DeepCutAuto
namespace Go.Proofs.Ytanbekbalfbkcaa
set_option linter.unusedVariables false
set_option linter.unusedSimpArgs false
set_option maxRecDepth 100000
open Go.RowKit

theorem keepm2 {W w3 : World} {C : Nat} {p0 p1 : Addr} {x0 x1 : Value} (h : W.cell? p0 = some x0 ∧ W.cell? p1 = some x1) (hb : Below C W w3) (h0 : p0.block < C) (h1 : p1.block < C) : w3.cell? p0 = some x0 ∧ w3.cell? p1 = some x1 := ⟨(hb.cell h0).trans h.1, (hb.cell h1).trans h.2⟩
theorem keepx2 {Wa w7 : World} {e : Nat} {o0 o1 : Nat} {x0 x1 : Value} {u : Value} (h : Wa.cell? ⟨e, o0, none⟩ = some x0 ∧ Wa.cell? ⟨e, o1, none⟩ = some x1) (ho : Only [u.ownBlock] Wa w7) (he : e < Wa.heap.size) (hne : u.ownBlock ≠ some e) : w7.cell? ⟨e, o0, none⟩ = some x0 ∧ w7.cell? ⟨e, o1, none⟩ = some x1 :=
  have hc : ∀ o, w7.cell? ⟨e, o, none⟩ = Wa.cell? ⟨e, o, none⟩ := fun o => ho.cell (p := ⟨e, o, none⟩) he (by simp; exact fun q => hne q.symm)
  ⟨(hc _).trans h.1, (hc _).trans h.2⟩
theorem linesTo_succ (f : FlatM) (k : Nat) : linesTo f (k + 1) = linesTo f k + opsN f k := rfl
theorem blk_only {Wa w7 : World} {e T : Nat} {vs : Array Value} {u : Value} (h : Blk Wa e T vs) (ho : Only [u.ownBlock] Wa w7) (hne : u.ownBlock ≠ some e) : Blk w7 e T vs :=
  (ho.block e h.lt (by simp; exact fun q => hne q.symm)).trans h
theorem ne_next {u u' : Value} {a b H : Nat} (h : u.ownBlock ≠ some a ∧ u.ownBlock ≠ some b) (hat : u'.ownBlock = u.ownBlock ∨ ∃ k, u'.ownBlock = some k ∧ H ≤ k) (ha : a < H) (hb : b < H) : u'.ownBlock ≠ some a ∧ u'.ownBlock ≠ some b := by
  rcases hat with e | ⟨k, e, hk⟩
  · rw [e]; exact h
  · rw [e]; exact ⟨fun q => by injection q with q; omega, fun q => by injection q with q; omega⟩
set_option maxHeartbeats 8000000 in
theorem cross_t (g B : Nat) (v : FlatV) (f : FlatM) (A2 : Option Addr) (n2 c2 : Nat) (ss : List Int) (w : World) (hk : CM w B g v f A2 n2 c2 ss) :
    Calls Try.prog 19 #[.pointer (some ⟨g, 0, none⟩)] w (CrossPost f w) := by
  have HM := Lib.hid hk
  have hmX := hk.mkr.is.cross.len_le
  have hn2 := hk.le
  have HLEN : Hid (v.cross.2.1 ≤ 20) := Lib.hid (by rw [← hk.mkr.is.cross.1]; exact hk.small.cross)
  have HGX : Hid (∀ (i : Nat) (x : CrossM), f.cross[i]? = some x → x.guard < (n2 : Int) ∧ asksB f 0 x.ops = true ∧ x.ops.length ≤ 30 ∧ opsN f i = x.ops.length) := Lib.hid fun i x hx => by
    have h := (goodB_parts hk.good).2.2.2.2 x (List.mem_of_getElem? hx)
    unfold crossB at h
    rw [Bool.and_eq_true, Bool.and_eq_true, hk.names] at h
    exact ⟨guB_lt h.1, h.2.2, hk.small.ops i x hx, by unfold opsN; rw [hx]; rfl⟩
  have HLL := Lib.hid (linesTo_le hk.small)
  have HBB := Lib.hid hk.mkr.hB
  obtain ⟨m0, m1, m2, m3, m4, m5, m6, m7, m8⟩ := hk.mkr.cells
  clear hk
  unfold maxLen at hmX
  obtain ⟨EA, hEA⟩ : ∃ EA, EA = v.cross.1 := ⟨_, rfl⟩
  rw [← hEA] at m6
  have HEA := Lib.hid hEA
  clear hEA
  go_enter Try.func19, Try.ntmps19
  go_wp2_with fail
  clear m0 m1 m2 m3 m4 m5 m6 m7 m8
  go_loopw [4, 5, 19] (fun u L t wr => ∃ (k : Nat) (xs : List InsM) (a3 : Option Addr) (n3 c3 : Nat), k ≤ v.cross.2.1 ∧ u = .slice a3 n3 c3 ∧ L = .int .i64 (linesTo f k : Nat) ∧ t = .int .i64 k ∧ Hid (xs.map Mark = crT f k) ∧ Hid (∀ x ∈ xs, IsX x) ∧ Hid (OwnS wr w.heap.size (.slice a3 n3 c3) xs) ∧ Hid (Below w.heap.size w wr)) (fun _ _ t _ => v.cross.2.1 - (intOf t).toNat)
  case atStart => exact ⟨0, [], none, 0, 0, Nat.zero_le _, rfl, rfl, rfl, Lib.hid rfl, Lib.hid (fun x h => by simp at h), Lib.hid (OwnS.nil _ _), Lib.hid (Below.refl _ _)⟩
  case round =>
    obtain ⟨k, xs, a3, n3, c3, hk, rfl, rfl, rfl, HT, HI, HO, HB⟩ := hrel
    obtain ⟨wo, rfl⟩ : ∃ W : World, W = wr := ⟨_, rfl⟩
    have hLk : linesTo f k ≤ 600 := by have := HLL.out k; have := HLEN.out; omega
    have hxl : xs.length ≤ 1000 := by
      have := congrArg List.length HT.out
      rw [List.length_map, crT_len] at this
      have := HLEN.out
      omega
    by_cases hlt : k < v.cross.2.1
    · have hMr := HM.out.later HB.out
      obtain ⟨x, hx⟩ := hMr.mkr.is.cross.ex hlt
      obtain ⟨b, off, ha, hbB, hat⟩ := hMr.mkr.is.cross.at_ hx
      obtain ⟨⟨sA, sn, sc⟩, hrs, e0, e1⟩ := hat.cells
      obtain ⟨hgx, hax, hox, hon⟩ := HGX.out k x hx
      have hsn : x.ops.length = sn := hrs.1
      have hms := hrs.len_le
      unfold maxLen at hms
      have hs30 : sn ≤ 30 := by omega
      have ha' := HEA.out.trans ha
      subst ha'
      have hbl : b < wo.heap.size := Nat.lt_of_lt_of_le hbB hMr.mkr.hB
      obtain ⟨W3, hW3⟩ : ∃ W3, W3 = wo.alloc (.cells #[.int .i64 x.guard, .slice sA sn sc] 45) := ⟨_, rfl⟩
      have hb3 : Below wo.heap.size wo W3 := by rw [hW3]; exact (Below.refl _ _).alloc (Nat.le_refl _) _
      have HK3 := Lib.hid (show Blk W3 wo.heap.size 45 #[.int .i64 x.guard, .slice sA sn sc] from by rw [hW3]; exact Blk.new _ _ _)
      have HB3 := Lib.hid (HB.out.trans (hb3.mono HB.out.size))
      have HMW := Lib.hid (fun W (hb : Below W3.heap.size W3 W) => HM.out.later (HB3.out.trans (hb.mono HB3.out.size)))
      have HSG := Lib.hid (slot_t g n2 c2 B A2 ss x.guard W3 (HMW.out W3 (Below.refl _ _)).mkr.cells.2.2.2.2.2.2.2.2 (HMW.out W3 (Below.refl _ _)).mkr.row hgx)
      have HSL : Hid (∀ W, Below w.heap.size w W → SRow 2 COpAt W B sA sn sc x.ops) := Lib.hid fun W hb => hrs.keep fun b' o' y' hb' h' => h'.keep hb' fun p hp => (hb.cell (Nat.lt_of_lt_of_le hp HBB.out)).trans (HB.out.cell (Nat.lt_of_lt_of_le hp HBB.out)).symm
      have HNE : Hid (Value.ownBlock (.slice a3 n3 c3) ≠ some W3.heap.size ∧ Value.ownBlock (.slice a3 n3 c3) ≠ some wo.heap.size) := Lib.hid ⟨fun e => by have := (HO.out.lt e).2; have hw3 : wo.heap.size < W3.heap.size := HK3.out.lt; omega, own_far HO.out⟩
      have HO3 := Lib.hid (HO.out.later hb3)
      have HAX := Lib.hid hax
      have HON := Lib.hid (hon.trans hsn)
      obtain ⟨gl, hgl⟩ : ∃ gl, gl = W3.heap.size := ⟨_, rfl⟩
      obtain ⟨W4, hW4⟩ : ∃ W4, W4 = W3.alloc (.cells #[.int .i64 (linesTo f k : Nat)] 3) := ⟨_, rfl⟩
      have hb4 : Below W3.heap.size W3 W4 := by rw [hW4]; exact (Below.refl _ _).alloc (Nat.le_refl _) _
      have HK4 := Lib.hid (show Blk W4 W3.heap.size 3 #[.int .i64 (linesTo f k : Nat)] from by rw [hW4]; exact Blk.new _ _ _)
      have HB4 := Lib.hid hb4
      have HKC4 := Lib.hid (HK3.out.later hb4)
      clear hMr hx ha hat hb3 hrs hb4 hgx hax hox hon hgl gl
      go_upto_region 6 with fail
      rw [← hW3]
      clear hW3 e0 e1
      have g2 : W3.cell? ⟨wo.heap.size, 0, none⟩ = some (.int .i64 x.guard) := HK3.out.cell 0 rfl
      go_upto_region 8 with (go_at_call 39; (with_reducible refine HSG.out.mono ?_); rintro e w9 ⟨rfl, hw⟩; subst w9)
      rw [← hW4]
      clear hW4 g2
      have g8 : W4.cell? ⟨wo.heap.size, 1, none⟩ = some (.slice sA sn sc) := HKC4.out.cell 1 rfl
      go_wp2_with fail
      go_loopw [4, 33] (fun u t wr => ∃ (j : Nat) (ys : List InsM) (a5 : Option Addr) (n5 c5 : Nat), j ≤ sn ∧ u = .slice a5 n5 c5 ∧ t = .int .i64 j ∧ Hid (ys.map Mark = crT f k ++ lns (linesTo f k) j) ∧ Hid (∀ x ∈ ys, IsX x) ∧ Hid (OwnS wr w.heap.size (.slice a5 n5 c5) ys) ∧ Hid (Blk wr W3.heap.size 3 #[.int .i64 (linesTo f k : Nat)]) ∧ Hid (Blk wr wo.heap.size 45 #[.int .i64 x.guard, .slice sA sn sc]) ∧ Hid (Value.ownBlock (.slice a5 n5 c5) ≠ some W3.heap.size ∧ Value.ownBlock (.slice a5 n5 c5) ≠ some wo.heap.size) ∧ Hid (Below w.heap.size w wr) ∧ Hid (W4.heap.size ≤ wr.heap.size)) (fun _ t _ => sn - (intOf t).toNat)
      case atStart => exact ⟨0, xs, a3, n3, c3, Nat.zero_le _, rfl, rfl, Lib.hid (by rw [HT.out]; simp [lns]), HI, Lib.hid (HO3.out.later HB4.out), HK4, HKC4, HNE, Lib.hid (HB3.out.trans (HB4.out.mono HB3.out.size)), Lib.hid (Nat.le_refl _)⟩
      case round =>
        obtain ⟨j, ys, a5, n5, c5, hj, rfl, rfl, HTQ, HIQ, HOQ, HKL, HKX, HNE2, HBQ, HSQ⟩ := hrel
        clear g8
        have hwo : wo.heap.size < W4.heap.size := HKC4.out.lt
        have hw34 : W3.heap.size < W4.heap.size := HK4.out.lt
        by_cases hlj : j < sn
        · obtain ⟨y, hy⟩ := (HSL.out _ HBQ.out).ex hlj
          obtain ⟨b2, off2, ha2, hb2B, hat2⟩ := (HSL.out _ HBQ.out).at_ hy
          obtain ⟨⟨rA, rn, rc⟩, hrow, y0, y1⟩ := hat2.cells
          have hask : askL y.op y.args j n2 f.conts.length = true := by
            have := asksB_mem x.ops 0 j y hy HAX.out
            unfold askB at this
            rw [Nat.zero_add, HM.out.names] at this
            exact this
          subst ha2
          have hb2l : b2 < wr.heap.size := by have := HBB.out; have := HBQ.out.size; omega
          obtain ⟨W5, hW5⟩ : ∃ W5, W5 = wr.alloc (.cells #[.string y.op, .slice rA rn rc] 80) := ⟨_, rfl⟩
          have hb5 : Below wr.heap.size wr W5 := by rw [hW5]; exact (Below.refl _ _).alloc (Nat.le_refl _) _
          have HK5 := Lib.hid (show Blk W5 wr.heap.size 80 #[.string y.op, .slice rA rn rc] from by rw [hW5]; exact Blk.new _ _ _)
          have hq5 : wr.heap.size < W5.heap.size := HK5.out.lt
          have HB5 := Lib.hid (HBQ.out.trans (hb5.mono HBQ.out.size))
          have HMD := Lib.hid (HM.out.later HB5.out.drew)
          have hwq : W3.heap.size < wr.heap.size := by have := HSQ.out; omega
          have hwoq : wo.heap.size < wr.heap.size := by have := HSQ.out; omega
          have HLN := Lib.hid (line_t W3.heap.size (linesTo f k : Nat) (j : Int) W5.drew ((HKL.out.later hb5).cell 0 rfl))
          have HOPX := Lib.hid (show Calls Try.prog 41 #[.pointer (some ⟨g, 0, none⟩), .agg #[.string y.op, .slice rA rn rc], .int .i64 ((linesTo f k : Nat) + (j : Int)), .int .i64 (slotS ss x.guard), .func (.func 40) #[] #[.pointer (some ⟨W3.heap.size, 0, none⟩)]] W5.drew fun e w' => (∃ z : InsM, e = .returned (.agg #[.string z.op, .int .i64 z.dst, .slice z.args.1 z.args.2.1 z.args.2.2, .int .i64 z.k, .int .i64 z.kind, .bool z.neg, .slice z.mag.1 z.mag.2.1 z.mag.2.2, .slice z.den.1 z.den.2.1 z.den.2.2, .string z.name, .int .i64 z.guard, .slice z.resets.1 z.resets.2.1 z.resets.2.2]) ∧ z.op = ⟨#[108]⟩ ++ y.op ∧ z.dst = (linesTo f k : Nat) + (j : Int)) ∧ Below W5.drew.heap.size W5.drew w' from operation_t g B W3.heap.size (linesTo f k : Nat) v f A2 n2 c2 ss y (rA, rn, rc) ((linesTo f k : Nat) + (j : Int)) (slotS ss x.guard) W5.drew j f.conts.length HMD.out.mkr (hrow.below ((hb5.mono (by have := HBB.out; have := HBQ.out.size; omega)).drew)) ((HKL.out.later hb5).cell 0 rfl) (by show W3.heap.size < W5.heap.size; omega) hask)
          have HO5 := Lib.hid (HOQ.out.later hb5)
          have HKL5 := Lib.hid (HKL.out.later hb5)
          have HKX5 := Lib.hid (HKX.out.later hb5)
          have HNE5 := HNE2
          have HNQ : Hid (Value.ownBlock (.slice a5 n5 c5) ≠ some wr.heap.size) := Lib.hid (own_far HOQ.out)
          have HP : Hid (W5.drew.cell? ⟨wr.heap.size, 0, none⟩ = some (.string y.op) ∧ W5.drew.cell? ⟨wr.heap.size, 1, none⟩ = some (.slice rA rn rc)) := Lib.hid ⟨HK5.out.cell 0 rfl, HK5.out.cell 1 rfl⟩
          have hyl : ys.length ≤ 10000 := by
            have := congrArg List.length HTQ.out
            rw [List.length_map, List.length_append, crT_len, lns_len] at this
            have := HLEN.out
            omega
          have hjI : (0 : Int) ≤ (j : Int) := by omega
          clear hy hat2 hrow hask hb5
          go_upto_region 11 with fail
          rw [← hW5]
          clear hW5 y0 y1
          go_region_held3 (fun w' => w'.cell? ⟨wr.heap.size, 0, none⟩ = some (.string y.op) ∧ w'.cell? ⟨wr.heap.size, 1, none⟩ = some (.slice rA rn rc)) (first | with_reducible exact HP.out | with_reducible exact HPa.out | with_reducible exact HPb.out) (first
            | (go_at_call 40; (with_reducible refine HLN.out.mono ?_); rintro e w9 ⟨⟨ln, rfl, hln⟩, hw⟩; subst w9; have hln2 := hln ⟨by omega, by omega⟩ ⟨by omega, by omega⟩; subst ln; clear hln)
            | (go_at_call 41; (with_reducible refine HOPX.out.mono ?_); rintro e w6 ⟨⟨z, rfl, hzo, hzd⟩, hb6⟩; have hb6' := (Below.refl W5.heap.size W5).drew.trans hb6; have HO6 := Lib.hid (HO5.out.later hb6'); have HB6 := Lib.hid (HB5.out.trans (hb6'.mono HB5.out.size)); replace HP := Lib.hid (keepm2 HP.out hb6 hq5 hq5); have HPa := Lib.hid (keepm2 HP.out ((Below.refl w6.heap.size w6).alloc (Nat.le_refl _) (.cells #[.string z.op, .int .i64 z.dst, .slice z.args.1 z.args.2.1 z.args.2.2, .int .i64 z.k, .int .i64 z.kind, .bool z.neg, .slice z.mag.1 z.mag.2.1 z.mag.2.2, .slice z.den.1 z.den.2.1 z.den.2.2, .string z.name, .int .i64 z.guard, .slice z.resets.1 z.resets.2.1 z.resets.2.2] 54)) (Nat.lt_of_lt_of_le hq5 hb6.size) (Nat.lt_of_lt_of_le hq5 hb6.size)); have HZ := Lib.hid (And.intro hzo hzd); have HKL6 := Lib.hid (HKL5.out.later hb6'); have HKX6 := Lib.hid (HKX5.out.later hb6'); have HS6 := Lib.hid hb6'.size; clear hb6 hb6' hzo hzd)
            | (refine stepX rfl _ _ rfl w.heap.size (.slice a5 n5 c5) ys z 54 w6.heap.size rfl rfl rfl HO6.out HB6.out.size (by omega) ?_; intro v7 w7 hown7 honly7 hat7; obtain ⟨a7, n7, c7, hv7⟩ := own_sliceS hown7; subst hv7; have HO7 := Lib.hid hown7; have HB7 := Lib.hid (HB6.out.trans (honly7.ownS HO6.out HB6.out.size)); have HKL7 := Lib.hid (blk_only HKL6.out honly7 HNE5.out.1); have HKX7 := Lib.hid (blk_only HKX6.out honly7 HNE5.out.2); have HS7 := Lib.hid (Nat.le_trans HS6.out honly7.size); have HNE7 := Lib.hid (ne_next HNE5.out hat7 (by have := HS6.out; omega) (by have := HS6.out; omega)); have HPb := Lib.hid (show w7.cell? ⟨wr.heap.size, 0, none⟩ = some (.string y.op) ∧ w7.cell? ⟨wr.heap.size, 1, none⟩ = some (.slice rA rn rc) from keepx2 HP.out honly7 (Nat.lt_of_lt_of_le hq5 HS6.out) HNQ.out); clear hown7 honly7 hat7))
          all_goals
            go_wp2_with fail
            go_roundw
            case rel => exact ⟨j + 1, ys ++ [z], a7, n7, c7, by omega, rfl, by go_num, Lib.hid (by rw [List.map_append, HTQ.out, lns_succ, List.append_assoc]; congr 2; unfold Mark; simp only [List.map_cons, List.map_nil]; rw [HZ.out.1, if_neg (l_not_ask _), HZ.out.2]; simp), Lib.hid (fun x' hx' => by
              rw [List.mem_append] at hx'
              rcases hx' with hx' | hx'
              · exact HIQ.out x' hx'
              · simp at hx'; subst hx'; exact Or.inr ⟨_, HZ.out.1⟩), HO7, HKL7, HKX7, HNE7, HB7, Lib.hid (by have := HS7.out; have := HSQ.out; omega)⟩
            case measure => simp [intOf]; omega
        · obtain rfl : j = sn := by omega
          have k8 : wr.cell? ⟨wo.heap.size, 1, none⟩ = some (.slice sA j sc) := HKX.out.cell 1 rfl
          have HLN := Lib.hid (line_t W3.heap.size (linesTo f k : Nat) (j : Int) wr (HKL.out.cell 0 rfl))
          have hyl : ys.length ≤ 10000 := by
            have := congrArg List.length HTQ.out
            rw [List.length_map, List.length_append, crT_len, lns_len] at this
            have := HLEN.out
            omega
          obtain ⟨XX, hXX⟩ : ∃ XX : InsM, XX = ⟨⟨#[97, 115, 107]⟩, 0, (some ⟨wr.heap.size, 0, none⟩, 1, 1), k, 0, false, (none, 0, 0), (none, 0, 0), ⟨#[]⟩, slotS ss x.guard, (none, 0, 0)⟩ := ⟨_, rfl⟩
          have HXX := Lib.hid hXX
          have HBS := Lib.hid HBQ.out.size
          clear hXX
          go_wp2_with (first
            | (go_at_call 40; (with_reducible refine HLN.out.mono ?_); rintro e w9 ⟨⟨ln, rfl, hln⟩, hw⟩; subst w9; have hln2 := hln ⟨by omega, by omega⟩ ⟨by omega, by omega⟩; subst ln; clear hln)
            | (at_builtin; refine appendY rfl _ _ rfl w.heap.size (.slice a5 n5 c5) ys XX 54 (wr.heap.size + 1) rfl rfl (size_alloc _ _) (by rw [HXX.out] <;> rfl) (HOQ.out.later ((Below.refl _ _).alloc (Nat.le_refl _) _)) (Nat.le_succ_of_le HBS.out) (by omega) ?_; intro v6 w6 hown6 honly6 hat6; obtain ⟨a6, n6, c6, hv6⟩ := own_sliceS hown6; subst hv6; have HO6 := Lib.hid hown6; have HB6 := Lib.hid ((HBQ.out.alloc HBS.out _).trans (honly6.ownS (HOQ.out.later ((Below.refl _ _).alloc (Nat.le_refl _) _)) (Nat.le_trans HBS.out (by simp)))); clear hown6 honly6 hat6))
          go_roundw
          case rel => exact ⟨k + 1, ys ++ [XX], a6, n6, c6, by omega, rfl, by rw [linesTo_succ, HON.out]; simp, by go_num, Lib.hid (by rw [List.map_append, HTQ.out]; show _ = crT f k ++ lns (linesTo f k) (opsN f k) ++ [none]; rw [HON.out]; congr 1; rw [HXX.out]; rfl), Lib.hid (fun x' hx' => by
            rw [List.mem_append] at hx'
            rcases hx' with hx' | hx'
            · exact HIQ.out x' hx'
            · simp at hx'; subst hx'; exact Or.inl (by rw [HXX.out]; rfl)), HO6, HB6⟩
          case measure => simp [intOf]; omega
    · obtain rfl : k = v.cross.2.1 := by omega
      go_wp2
      go_ret2
      exact ⟨_, xs, by rw [HM.out.mkr.is.cross.1] <;> rfl, HO.out, by rw [HT.out, HM.out.mkr.is.cross.1], HI.out, HB.out⟩

end Go.Proofs.Ytanbekbalfbkcaa
