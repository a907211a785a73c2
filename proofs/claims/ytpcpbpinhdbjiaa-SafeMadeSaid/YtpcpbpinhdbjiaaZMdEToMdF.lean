/- What deriv of the answer tells. No condition but bounds. · What line of the answer tells. No condition but bounds. -/
import Derived.Test.YtpcpbpinhdbjiaaZMdD
import Derived.Deep.RegionHeld3
import Derived.Deep.DeepCutAuto
import Derived.Test.YtpcpbpinhdbjiaaZMdC
namespace Go.Proofs.Ytpcpbpinhdbjiaa
set_option linter.unusedVariables false
set_option linter.unusedSimpArgs false
set_option maxRecDepth 100000
open Go.RowKit

theorem appendZ {w : World} {ops : Array Oper} {rest : List Oper} {o : Oper} {a : Act} {Q : Exit → Act → World → Prop} {cs : Array Value} (hgd : o.guard = none) (s x : Operand)
    (hop : o.op = .call { callee := .builtin .append, args := #[s, x], argTypes := #[38, 38] })
    (B : Nat) (v : Value) (xs : List InsM) (X : InsM) (T : TypeId) (H : Nat) (hs : a.eval s = v) (hx : a.eval x = .slice (some ⟨H, 0, none⟩) 1 1) (hH : w.heap.size = H) (hcs : X.cs.toArray = cs) (hown : OwnS w B v xs) (hB : B ≤ H) (hl : xs.length ≤ 100000000)
    (hK : ∀ v' w', OwnS w' B v' (xs ++ [X]) → Only [v.ownBlock] w w' → (v'.ownBlock = v.ownBlock ∨ ∃ k, v'.ownBlock = some k ∧ H ≤ k) → wpList Try.prog ops Q rest (a.put o.dst v') w') :
    wpList Try.prog ops Q (o :: rest) a (w.alloc (.cells cs T)) := by
  subst hcs
  exact appendX hgd s x hop B v xs X T H hs hx hH hown hB hl hK
theorem flatMap_take {α β : Type} {l : List α} {g : α → List β} {k : Nat} {x : α} (h : l[k]? = some x) : (l.take (k + 1)).flatMap g = (l.take k).flatMap g ++ g x := by rw [take_snoc h, List.flatMap_append]; simp
set_option maxHeartbeats 8000000 in
theorem deriv15_t (B : Nat) (v : FlatV) (f : FlatM) (A A2 : Option Addr) (m c n c2 : Nat) (S : Int) (ss : List Int) (w : World) (hf : FlatIs w B v f) (hr : IRow w B A2 n c2 ss) (hB : B ≤ w.heap.size) (hg : goodB f = true) (hs : SmallF f) (hn : f.names.length = n) :
    Calls Try.prog 16 #[flatV v, .agg #[.slice A m c, .slice A2 n c2, .int .i64 S]] w (BodyPost B (derivL f ss) w) := by
  obtain ⟨⟨i1, i2, i3⟩, ⟨nm1, nm2, nm3⟩, ⟨o1, o2, o3⟩, ⟨e1, e2, e3⟩, ⟨m1, m2, m3⟩, ⟨c1, cn, c3⟩, ⟨x1, x2, x3⟩, ⟨g1, g2, g3⟩⟩ := v
  obtain ⟨W1, hW1⟩ : ∃ W1, W1 = (w.alloc (.cells #[.slice i1 i2 i3, .slice nm1 nm2 nm3, .slice o1 o2 o3, .slice e1 e2 e3, .slice m1 m2 m3, .slice c1 cn c3, .slice x1 x2 x3, .slice g1 g2 g3] 29)).alloc (.cells #[.slice A m c, .slice A2 n c2, .int .i64 S] 32) := ⟨_, rfl⟩
  obtain ⟨hk1, hk2, hs1, hb1⟩ := two_new hW1
  have HKF := Lib.hid (show Blk W1 w.heap.size 29 #[.slice i1 i2 i3, .slice nm1 nm2 nm3, .slice o1 o2 o3, .slice e1 e2 e3, .slice m1 m2 m3, .slice c1 cn c3, .slice x1 x2 x3, .slice g1 g2 g3] from hk1)
  have HKP := Lib.hid (show Blk W1 (w.heap.size + 1) 32 #[.slice A m c, .slice A2 n c2, .int .i64 S] from hk2)
  have HB1 := Lib.hid hb1
  have HS1 := Lib.hid hs1
  have HBB := Lib.hid hB
  have HBS : Hid (B ≤ W1.heap.size) := Lib.hid (Nat.le_trans hB hb1.size)
  have HF := Lib.hid (fun W (hb : Below W1.heap.size W1 W) => hf.below ((hb1.trans (hb.mono hb1.size)).mono hB))
  have HR := Lib.hid (fun W (hb : Below W1.heap.size W1 W) => hr.below ((hb1.trans (hb.mono hb1.size)).mono hB))
  have HBW := Lib.hid (fun W (hb : Below W1.heap.size W1 W) => Nat.le_trans hB (hb1.trans (hb.mono hb1.size)).size)
  have HGD := Lib.hid hg
  have HSM := Lib.hid hs
  have HNM := Lib.hid hn
  have hme := hf.eqs.len_le
  have hmm := hf.mems.len_le
  have hmc := hf.conts.len_le
  have hmu := hf.outs.len_le
  have hma := hf.again.len_le
  unfold maxLen at hme hmm hmc hmu hma
  simp only at hme hmm hmc hmu hma
  have HEE : Hid (f.eqs.length = e2) := Lib.hid hf.eqs.1
  have HMM : Hid (f.mems.length = m2) := Lib.hid hf.mems.1
  have HCC : Hid (f.conts.length = cn) := Lib.hid hf.conts.1
  have HUU : Hid (f.outs.length = o2) := Lib.hid hf.outs.1
  have HAA : Hid (f.again.length = g2) := Lib.hid hf.again.1
  clear hf hr hB hg hs hn hk1 hk2 hs1 hb1
  have HPB : Hid (∀ W, Below W1.heap.size W1 W → (W.cell? ⟨w.heap.size, 0, none⟩ = some (.slice i1 i2 i3) ∧ W.cell? ⟨w.heap.size, 1, none⟩ = some (.slice nm1 nm2 nm3) ∧ W.cell? ⟨w.heap.size, 2, none⟩ = some (.slice o1 o2 o3) ∧ W.cell? ⟨w.heap.size, 3, none⟩ = some (.slice e1 e2 e3) ∧ W.cell? ⟨w.heap.size, 4, none⟩ = some (.slice m1 m2 m3) ∧ W.cell? ⟨w.heap.size, 5, none⟩ = some (.slice c1 cn c3) ∧ W.cell? ⟨w.heap.size, 6, none⟩ = some (.slice x1 x2 x3) ∧ W.cell? ⟨w.heap.size, 7, none⟩ = some (.slice g1 g2 g3)) ∧ W.cell? ⟨w.heap.size + 1, 0, none⟩ = some (.slice A m c) ∧ W.cell? ⟨w.heap.size + 1, 1, none⟩ = some (.slice A2 n c2) ∧ W.cell? ⟨w.heap.size + 1, 2, none⟩ = some (.int .i64 S)) := Lib.hid fun W hb => by
    have h1 := HKF.out.later hb
    have h2 := HKP.out.later hb
    exact ⟨⟨h1.cell 0 rfl, h1.cell 1 rfl, h1.cell 2 rfl, h1.cell 3 rfl, h1.cell 4 rfl, h1.cell 5 rfl, h1.cell 6 rfl, h1.cell 7 rfl⟩, h2.cell 0 rfl, h2.cell 1 rfl, h2.cell 2 rfl⟩
  have HGM := Lib.hid (mem_fine HGD.out HNM.out HSM.out)
  have HGC := Lib.hid (cont_fine HGD.out HNM.out HSM.out)
  have HGO := Lib.hid (outs_fine HGD.out HNM.out).1
  have HGA := Lib.hid (outs_fine HGD.out HNM.out).2
  unfold flatV sl3
  go_enter Try.func16, Try.ntmps16
  go_upto_region 1 with fail
  rw [← hW1]
  clear hW1
  go_wp2_with fail
  go_loopw [5, 6] (fun u t wr => ∃ (k : Nat) (xs : List InsM) (a3 : Option Addr) (n3 c3 : Nat), k ≤ cn ∧ u = .slice a3 n3 c3 ∧ t = .int .i64 k ∧ Hid (OwnS wr W1.heap.size (.slice a3 n3 c3) xs) ∧ Hid (InsL (PartN B w.heap.size wr (.slice a3 n3 c3)) wr xs ((f.conts.take k).mapIdx (slopeI ss))) ∧ Hid (Below W1.heap.size W1 wr)) (fun _ t _ => cn - (intOf t).toNat)
  case atStart => exact ⟨0, [], none, 0, 0, Nat.zero_le _, rfl, rfl, Lib.hid (OwnS.nil _ _), Lib.hid (InsL.nil _ _), Lib.hid (Below.refl _ _)⟩
  case round =>
    obtain ⟨k, xs, a3, n3, c3', hk, rfl, rfl, HXO, HXL, HB⟩ := hrel
    obtain ⟨⟨f0, f1, f2, f3, f4, f5, f6, f7⟩, p0, p1, p2⟩ := HPB.out _ HB.out
    by_cases hlt : k < cn
    · obtain ⟨x, hx⟩ := (HF.out _ HB.out).conts.ex hlt
      obtain ⟨b, off, hab, hbb, hat⟩ := (HF.out _ HB.out).conts.at_ hx
      obtain ⟨d1, d2, r, ⟨s1, s2, s3⟩, _, _, hrr, hrs, y0, y1, y2, y3, y4, y5, y6, y7, y8⟩ := hat.cells
      obtain ⟨_, hz3, hz4, hz5, hz6⟩ := HGC.out k x hx
      dsimp only at hab hrs y8
      subst hab
      have hbl : b < wr.heap.size := Nat.lt_of_lt_of_le hbb (HBW.out _ HB.out)
      have hkI : (k : Int) < (cn : Int) := by omega
      have HLEN : Hid (xs.length ≤ 100000000) := Lib.hid (HXL.out.le (by
        have h4 := HSM.out.conts
        simp only [List.length_mapIdx, List.length_take]
        omega))
      have HMT := Lib.hid (mapIdx_take (g := slopeI ss) hx)
      obtain ⟨wo, rfl⟩ : ∃ wo : World, wo = wr := ⟨_, rfl⟩
      obtain ⟨W3, hW3⟩ : ∃ W3, W3 = wo.alloc (.cells (contvs x d1 d2 r (s1, s2, s3)) 58) := ⟨_, rfl⟩
      have hb3 : Below wo.heap.size wo W3 := by rw [hW3]; exact (Below.refl _ _).alloc (Nat.le_refl _) _
      have HK3 := Lib.hid (show Blk W3 wo.heap.size 58 (contvs x d1 d2 r (s1, s2, s3)) from by rw [hW3]; exact Blk.new _ _ _)
      have hlW : wo.heap.size < W3.heap.size := HK3.out.lt
      have HBr3 := Lib.hid (fun W (hb : Below W3.heap.size W3 W) => (hb3.trans (hb.mono hb3.size)))
      have HBc3 := Lib.hid (fun W (hb : Below W3.heap.size W3 W) => HB.out.trans ((HBr3.out W hb).mono HB.out.size))
      have HS3 : Hid (W1.heap.size ≤ W3.heap.size) := Lib.hid (Nat.le_trans HB.out.size hb3.size)
      have HHR : Hid (w.heap.size ≤ wo.heap.size) := Lib.hid (by have := HB.out.size; have := HS1.out; omega)
      have HRS := Lib.hid (fun W (hb : Below W3.heap.size W3 W) => (hrs.keep fun _ _ _ q p => p.keep q fun _ hp => ((HBr3.out W hb).mono (HBW.out _ HB.out)).cell hp : SRow 2 SlopeAt W B s1 s2 s3 x.slopes))
      have HSL : Hid (x.slopes.length = s2) := Lib.hid hrs.1
      have hms := hrs.len_le
      unfold maxLen at hms
      have HZ6 := Lib.hid hz6
      have HZ5 := Lib.hid hz5
      have HSG := Lib.hid (fun W (hb : Below W3.heap.size W3 W) => slot15_t A A2 m c n c2 B S x.guard ss W (HR.out W (HBc3.out W hb)) (HBW.out W (HBc3.out W hb)) hz4)
      unfold contvs at hW3
      dsimp only at hW3
      clear hx hat hrr hrs hz3 hz4 hz5 hz6
      go_upto_region 6 with fail
      rw [← hW3]
      clear hW3 hb3 f0 f1 f2 f3 f4 f5 f6 f7 p0 p1 p2 y0 y1 y2 y3 y4 y5 y6 y7 y8
      have b8 : W3.cell? ⟨wo.heap.size, 8, none⟩ = some (.slice s1 s2 s3) := HK3.out.cell 8 rfl
      go_wp2_with fail
      clear b8
      go_loopw [8, 9] (fun u t wr => ∃ (j : Nat) (l : List Int) (a4 : Option Addr) (n4 c4 : Nat), j ≤ s2 ∧ u = .slice a4 n4 c4 ∧ t = .int .i64 j ∧ Hid (l = (x.slopes.take j).flatMap (fun (s : SlopeM) => [slotS ss s.guard, slotS ss s.var])) ∧ Hid (Own wr W3.heap.size (.slice a4 n4 c4) l) ∧ Hid (Below W3.heap.size W3 wr)) (fun _ t _ => s2 - (intOf t).toNat)
      case atStart => exact ⟨0, [], none, 0, 0, Nat.zero_le _, rfl, rfl, Lib.hid rfl, Lib.hid (Own.nil _ _), Lib.hid (Below.refl _ _)⟩
      case round =>
        obtain ⟨j, l, a4, n4, c4, hj, rfl, rfl, HL, HO, HBj⟩ := hrel
        have b8 : wr.cell? ⟨wo.heap.size, 8, none⟩ = some (.slice s1 s2 s3) := (HK3.out.later HBj.out).cell 8 rfl
        by_cases hlt2 : j < s2
        · obtain ⟨z, hz⟩ := (HRS.out _ HBj.out).ex hlt2
          obtain ⟨bs, offs, hsb, hbs, hsa⟩ := (HRS.out _ HBj.out).at_ hz
          obtain ⟨hzg, hzv⟩ := HZ6.out z (List.mem_of_getElem? hz)
          subst hsb
          have hjI : (j : Int) < (s2 : Int) := by omega
          have HFT := Lib.hid (flatMap_take (g := (fun (s : SlopeM) => [slotS ss s.guard, slotS ss s.var])) hz)
          have hbsW : bs < W3.heap.size := Nat.lt_of_lt_of_le hbs (HBW.out _ (HBc3.out _ (Below.refl _ _)))
          have hll : l.length ≤ 1000000000 := by
            have h1 := flatMap_len (fun (s : SlopeM) => [slotS ss s.guard, slotS ss s.var]) 2 (x.slopes.take j) (fun _ _ => Nat.le_refl _)
            have h2 : (x.slopes.take j).length ≤ x.slopes.length := by rw [List.length_take]; exact Nat.min_le_right _ _
            have := HZ5.out
            rw [HL.out]
            omega
          have y0 := hsa.guard.1
          have y1 := hsa.var.1
          have HPW : Hid (∀ W, Below W3.heap.size wr W → W.cell? ⟨wo.heap.size, 8, none⟩ = some (.slice (some ⟨bs, offs, none⟩) s2 s3) ∧ W.cell? ⟨bs, offs + j * 2, none⟩ = some (.int .i64 z.guard) ∧ W.cell? ⟨bs, offs + j * 2 + 1, none⟩ = some (.int .i64 z.var) ∧ W.cell? ⟨w.heap.size + 1, 0, none⟩ = some (.slice A m c) ∧ W.cell? ⟨w.heap.size + 1, 1, none⟩ = some (.slice A2 n c2) ∧ W.cell? ⟨w.heap.size + 1, 2, none⟩ = some (.int .i64 S)) := Lib.hid fun W hb => by
            have k1 := HK3.out.later (HBj.out.trans hb)
            exact ⟨k1.cell 8 rfl, (hb.cell (p := ⟨bs, _, none⟩) hbsW).trans y0, (hb.cell (p := ⟨bs, _, none⟩) hbsW).trans y1, (HPB.out W (HBc3.out W (HBj.out.trans hb))).2⟩
          have HBd := Lib.hid (Below.refl W3.heap.size wr).drew
          have HZG := Lib.hid (fun W (hb : Below W3.heap.size W3 W) => slot15_t A A2 m c n c2 B S z.guard ss W (HR.out W (HBc3.out W hb)) (HBW.out W (HBc3.out W hb)) hzg)
          have HZV := Lib.hid (fun W (hb : Below W3.heap.size W3 W) => slot15_t A A2 m c n c2 B S z.var ss W (HR.out W (HBc3.out W hb)) (HBW.out W (HBc3.out W hb)) hzv)
          clear hz hsa hzg hzv
          go_upto_region 10 with fail
          clear y0 y1 b8
          go_region_held3 (fun w' => w'.cell? ⟨wo.heap.size, 8, none⟩ = some (.slice (some ⟨bs, offs, none⟩) s2 s3) ∧ w'.cell? ⟨bs, offs + j * 2, none⟩ = some (.int .i64 z.guard) ∧ w'.cell? ⟨bs, offs + j * 2 + 1, none⟩ = some (.int .i64 z.var) ∧ w'.cell? ⟨w.heap.size + 1, 0, none⟩ = some (.slice A m c) ∧ w'.cell? ⟨w.heap.size + 1, 1, none⟩ = some (.slice A2 n c2) ∧ w'.cell? ⟨w.heap.size + 1, 2, none⟩ = some (.int .i64 S)) (first | with_reducible exact HPW.out _ HBd.out | with_reducible exact HPW.out _ HB4.out | with_reducible exact HPW.out _ HB5.out | with_reducible exact HPW.out _ (HB5.out.alloc HS5.out _) | with_reducible exact HPW.out _ HB7.out | go_keep) (first
            | (go_at_call 17; first
              | ((with_reducible refine (HZG.out _ (HBj.out.trans HBd.out)).mono ?_); rintro e w4 ⟨rfl, hb⟩; have HB4r := Lib.hid (show Below wr.heap.size wr w4 from (Below.refl _ _).drew.trans hb); have HB4 := Lib.hid (HB4r.out.mono HBj.out.size); clear hb)
              | ((with_reducible refine (HZV.out _ (HBj.out.trans HB4.out)).mono ?_); rintro e w5 ⟨rfl, hb⟩; have HB5r := Lib.hid (HB4r.out.trans (hb.mono HB4r.out.size)); have HB5 := Lib.hid (HB5r.out.mono HBj.out.size); have HS5 : Hid (W3.heap.size ≤ w5.heap.size) := Lib.hid (HBj.out.trans HB5.out).size; clear hb))
            | (refine stepN rfl _ _ rfl W3.heap.size (.slice a4 n4 c4) l [slotS ss z.guard, slotS ss z.var] 3 w5.heap.size 2 2 rfl rfl rfl rfl rfl (HO.out.below HB5r.out (Nat.le_refl _)) HS5.out hll (by decide) ?_; intro v7 w7 hown7 honly7 hat7; obtain ⟨a7, n7, c7, hv7⟩ := own_slice hown7; subst hv7; have HO7 := Lib.hid hown7; have HB7 := Lib.hid (HB5.out.trans (honly7.own (HO.out.below HB5r.out (Nat.le_refl _)) HS5.out)); clear hown7 honly7 hat7))
          go_wp2_with fail
          go_roundw
          case rel => exact ⟨j + 1, _, a7, n7, c7, by omega, rfl, by go_num, Lib.hid (by rw [HFT.out, HL.out]), HO7, Lib.hid (HBj.out.trans HB7.out)⟩
          case measure => simp [intOf]; omega
        · obtain rfl : s2 = j := by omega
          obtain ⟨a5, c5, hv5, ha5⟩ := HO.out.irowP
          obtain ⟨n5, hn5⟩ : ∃ n5, n5 = l.length := ⟨_, rfl⟩
          rw [← hn5] at hv5 ha5
          injection hv5 with e1' e2' e3'
          subst e1' e2' e3'
          have HA5 := Lib.hid ha5
          have HL5 : Hid (l = x.slopes.flatMap (fun (s : SlopeM) => [slotS ss s.guard, slotS ss s.var])) := Lib.hid (by rw [HL.out, ← HSL.out, List.take_length])
          have b6 : wr.cell? ⟨wo.heap.size, 6, none⟩ = some (.int .i64 x.guard) := (HK3.out.later HBj.out).cell 6 rfl
          obtain ⟨_, p0, p1, p2⟩ := HPB.out _ (HBc3.out _ HBj.out)
          clear hn5 ha5 hlt2
          go_wp2_with (first
            | (go_at_call 17; (with_reducible refine (HSG.out _ HBj.out).mono ?_); rintro e w6 ⟨rfl, hb⟩; have HB6 := Lib.hid (HBj.out.trans (hb.mono HBj.out.size)); have HA6 := Lib.hid (HA5.out.keep (keepLt hb)); obtain ⟨XX, hXX⟩ : ∃ XX : InsM, XX = ⟨⟨#[115, 108, 111, 112, 101]⟩, 0, (a4, n4, c4), (k : Int), 0, false, (none, 0, 0), (none, 0, 0), ⟨#[]⟩, slotS ss x.guard, (none, 0, 0)⟩ := ⟨_, rfl⟩; have HIX : Hid (InsR (NewP B wo.heap.size w6) w6 XX (slopeI ss k x)) := Lib.hid ⟨by rw [hXX] <;> rfl, by rw [hXX] <;> rfl, by rw [hXX]; show IRowP _ _ _ _ _ (x.slopes.flatMap (fun (s : SlopeM) => [slotS ss s.guard, slotS ss s.var])); rw [← HL5.out]; exact HA6.out.weak (fun b p => ⟨p.2, .inr (Nat.le_trans (Nat.le_of_lt hlW) p.1)⟩), by rw [hXX] <;> rfl, by rw [hXX] <;> rfl, by rw [hXX] <;> rfl, by rw [hXX]; exact URowP.nil _ _, by rw [hXX]; exact URowP.nil _ _, by rw [hXX] <;> rfl, by rw [hXX] <;> rfl, by rw [hXX]; exact IRowP.nil _ _⟩; have HXX := Lib.hid hXX; clear hXX hb)
            | (at_builtin; refine appendZ rfl _ _ rfl W1.heap.size (.slice a3 n3 c3') xs XX 70 _ rfl rfl rfl (by rw [HXX.out] <;> rfl) (HXO.out.later (HBr3.out _ HB6.out)) (Nat.le_trans HS3.out HB6.out.size) HLEN.out ?_; intro v7 w7 hown7 honly7 hat7; obtain ⟨a7, n7, c7, hv7⟩ := own_sliceS hown7; subst hv7; have HO7 := Lib.hid hown7; have HRE := Lib.hid (round_end HXO.out HXL.out (HBr3.out _ HB6.out) HIX.out HBS.out (Nat.le_refl _) HHR.out honly7 hat7 (Nat.le_refl _)); have HB7 := Lib.hid ((HBc3.out _ HB6.out).trans (honly7.ownS (HXO.out.later (HBr3.out _ HB6.out)) (Nat.le_trans HS3.out HB6.out.size))); clear hown7 honly7 hat7))
          go_roundw
          case rel => exact ⟨k + 1, xs ++ [XX], a7, n7, c7, by omega, rfl, by go_num, HO7, Lib.hid (by rw [HMT.out]; exact HRE.out), HB7⟩
          case measure => simp [intOf]; omega
    · obtain rfl : cn = k := by omega
      replace HXL := Lib.hid (show InsL (PartN B w.heap.size wr (.slice a3 n3 c3')) wr xs (derivL f ss) from by have := HXL.out; rwa [← HCC.out, List.take_length] at this)
      go_wp2
      go_ret
      exact ⟨_, xs, rfl, HXO.out.more (by have := HS1.out; omega), HXL.out, HB1.out.trans (HB.out.mono (by have := HS1.out; omega))⟩

end Go.Proofs.Ytpcpbpinhdbjiaa

namespace Go.Proofs.Ytpcpbpinhdbjiaa
set_option linter.unusedVariables false
set_option linter.unusedSimpArgs false
set_option maxRecDepth 100000
open Go.RowKit

/-- the end of a maker, its box at another place -/
theorem ins_endG {d B : Nat} {w W1 w7 : World} {x : InsM} {q : InsP} (hB1 : Below w.heap.size w W1) (hs : W1.heap.size = w.heap.size + d + 1) (hB : B ≤ w.heap.size) (h7 : Below W1.heap.size W1 w7) (hr : InsR (fun b => b < w7.heap.size ∧ (b < B ∨ W1.heap.size ≤ b)) w7 x q) (y0 y1 y2 y3 y4 y5 y6 y7 y8 y9 y10 : Value) :
    InsR (NewP B w.heap.size (((((((((((w7.setCell ⟨w.heap.size + d, 0, none⟩ y0).setCell ⟨w.heap.size + d, 1, none⟩ y1).setCell ⟨w.heap.size + d, 2, none⟩ y2).setCell ⟨w.heap.size + d, 3, none⟩ y3).setCell ⟨w.heap.size + d, 4, none⟩ y4).setCell ⟨w.heap.size + d, 5, none⟩ y5).setCell ⟨w.heap.size + d, 6, none⟩ y6).setCell ⟨w.heap.size + d, 7, none⟩ y7).setCell ⟨w.heap.size + d, 8, none⟩ y8).setCell ⟨w.heap.size + d, 9, none⟩ y9).setCell ⟨w.heap.size + d, 10, none⟩ y10)) (((((((((((w7.setCell ⟨w.heap.size + d, 0, none⟩ y0).setCell ⟨w.heap.size + d, 1, none⟩ y1).setCell ⟨w.heap.size + d, 2, none⟩ y2).setCell ⟨w.heap.size + d, 3, none⟩ y3).setCell ⟨w.heap.size + d, 4, none⟩ y4).setCell ⟨w.heap.size + d, 5, none⟩ y5).setCell ⟨w.heap.size + d, 6, none⟩ y6).setCell ⟨w.heap.size + d, 7, none⟩ y7).setCell ⟨w.heap.size + d, 8, none⟩ y8).setCell ⟨w.heap.size + d, 9, none⟩ y9).setCell ⟨w.heap.size + d, 10, none⟩ y10) x q ∧ Below w.heap.size w (((((((((((w7.setCell ⟨w.heap.size + d, 0, none⟩ y0).setCell ⟨w.heap.size + d, 1, none⟩ y1).setCell ⟨w.heap.size + d, 2, none⟩ y2).setCell ⟨w.heap.size + d, 3, none⟩ y3).setCell ⟨w.heap.size + d, 4, none⟩ y4).setCell ⟨w.heap.size + d, 5, none⟩ y5).setCell ⟨w.heap.size + d, 6, none⟩ y6).setCell ⟨w.heap.size + d, 7, none⟩ y7).setCell ⟨w.heap.size + d, 8, none⟩ y8).setCell ⟨w.heap.size + d, 9, none⟩ y9).setCell ⟨w.heap.size + d, 10, none⟩ y10) := by
  have ho := onlyP11 (S := [some (w.heap.size + d)]) (Only.refl _ w7) (List.mem_cons_self) y0 y1 y2 y3 y4 y5 y6 y7 y8 y9 y10
  refine ⟨hr.keep (keepOnly ho fun b q => ⟨q.1, ?_, Nat.lt_of_lt_of_le q.1 ho.size, ?_⟩), belowP11 (hB1.trans (h7.mono hB1.size)) (Nat.le_add_right _ _) y0 y1 y2 y3 y4 y5 y6 y7 y8 y9 y10⟩
  · simp
    rcases q.2 with h | h <;> omega
  · rcases q.2 with h | h
    · exact .inl h
    · exact .inr (by omega)
theorem three_new {w W1 : World} {o1 o2 o3 : Obj} (h : W1 = ((w.alloc o1).alloc o2).alloc o3) : W1.heap[w.heap.size]? = some o1 ∧ W1.heap[w.heap.size + 1]? = some o2 ∧ W1.heap[w.heap.size + 2]? = some o3 ∧ W1.heap.size = w.heap.size + 2 + 1 ∧ Below w.heap.size w W1 := by
  subst h
  have n2 := heap_alloc_new (w.alloc o1) o2
  have n3 := heap_alloc_new ((w.alloc o1).alloc o2) o3
  simp only [size_alloc] at n2 n3
  refine ⟨?_, ?_, n3, by simp only [size_alloc], (((Below.refl _ _).alloc (Nat.le_refl _) _).alloc (by simp only [size_alloc]; omega) _).alloc (by simp only [size_alloc]; omega) _⟩
  · rw [Below.heap_alloc _ _ _ (by simp only [size_alloc]; omega), Below.heap_alloc _ _ _ (by simp only [size_alloc]; omega)]
    exact heap_alloc_new w o1
  · rw [Below.heap_alloc _ _ _ (by simp only [size_alloc]; omega)]
    exact n2
/-- a row of numbers that was built, beside a store -/
theorem row_in {w : World} {g j k C : Nat} {u : Value} {xs : List Int} {cs : Array Value} (hcs : (xs.map (Value.int .i64)).toArray = cs) (hC : C ≤ w.heap.size) (hk : xs.length = k) (hk2 : k ≤ 1000000) :
    IRowP (fun b => C ≤ b ∧ b < ((w.setCell ⟨g, j, none⟩ u).alloc (.cells cs 3)).heap.size) ((w.setCell ⟨g, j, none⟩ u).alloc (.cells cs 3)) (some ⟨w.heap.size, 0, none⟩) k k xs := by
  subst hcs
  have h : IMem ((w.setCell ⟨g, j, none⟩ u).alloc (.cells (xs.map (Value.int .i64)).toArray 3)) (w.setCell ⟨g, j, none⟩ u).heap.size xs := heap_alloc_new _ _
  have e : (w.setCell ⟨g, j, none⟩ u).heap.size = w.heap.size := by simp [World.setCell]
  rw [e] at h
  exact h.irowP ⟨hC, by rw [size_alloc, e]; omega⟩ hk hk2
/-- what the Args of an operation are -/
structure LineF (o : COpM) (n : Nat) (base : Int) : Prop where
  base : 0 ≤ base ∧ base ≤ 1000000
  size : o.op.size ≤ 100
  args : ∀ x ∈ o.args, 0 ≤ x ∧ x ≤ 1000000
  var : o.op = copVar → o.args.length = 1 ∧ o.args.getD 0 0 < (n : Int)
  cont : o.op = copCont → o.args.length = 1
  sel : o.op = copSel → o.args.length = 3 ∧ o.args.getD 0 0 < (n : Int)
  neg : o.op = copNeg → o.args.length = 1
  mul : o.op = copMul → o.args.length = 3
  two : o.op ≠ copVar → o.op ≠ copCont → o.op ≠ copSel → o.op ≠ copNeg → o.op ≠ copMul → o.args.length = 2
theorem LineF.at_ {o : COpM} {n : Nat} {base : Int} (h : LineF o n base) (i : Nat) : 0 ≤ o.args.getD i 0 ∧ o.args.getD i 0 ≤ 1000000 := by
  by_cases hi : i < o.args.length
  · exact h.args _ (by rw [List.getD_eq_getElem?_getD, List.getElem?_eq_getElem hi]; exact List.getElem_mem _)
  · rw [List.getD_eq_getElem?_getD, List.getElem?_eq_none (by omega)]
    exact ⟨Int.le_refl _, by decide⟩
set_option maxHeartbeats 8000000 in
theorem line15_t (B : Nat) (A A2 : Option Addr) (m c n c2 : Nat) (S : Int) (ss : List Int) (o : COpM) (a : Option Addr × Nat × Nat) (base dst guard : Int) (w : World) (hr : IRow w B A2 n c2 ss) (hB : B ≤ w.heap.size) (hrow : IRow w B a.1 a.2.1 a.2.2 o.args) (hl : LineF o n base) :
    Calls Try.prog 18 #[.agg #[.slice A m c, .slice A2 n c2, .int .i64 S], .agg #[.string o.op, .slice a.1 a.2.1 a.2.2], .int .i64 base, .int .i64 dst, .int .i64 guard] w (InsPost B (lineI ss o base dst guard) w) := by
  obtain ⟨op, args⟩ := o
  obtain ⟨a1, a2, a3⟩ := a
  simp only at hrow
  obtain ⟨W1, hW1⟩ : ∃ W1, W1 = ((w.alloc (.cells #[.slice A m c, .slice A2 n c2, .int .i64 S] 32)).alloc (.cells #[.string op, .slice a1 a2 a3] 63)).alloc (.cells #[.string ⟨#[]⟩, .int .i64 0, .slice none 0 0, .int .i64 0, .int .i64 0, .bool false, .slice none 0 0, .slice none 0 0, .string ⟨#[]⟩, .int .i64 0, .slice none 0 0] 70) := ⟨_, rfl⟩
  obtain ⟨hk1, hk2, hk3, hs1, hb1⟩ := three_new hW1
  have HKP := Lib.hid (show Blk W1 w.heap.size 32 #[.slice A m c, .slice A2 n c2, .int .i64 S] from hk1)
  have HKO := Lib.hid (show Blk W1 (w.heap.size + 1) 63 #[.string op, .slice a1 a2 a3] from hk2)
  have HZ := Lib.hid (show Blk W1 (w.heap.size + 2) 70 #[.string ⟨#[]⟩, .int .i64 0, .slice none 0 0, .int .i64 0, .int .i64 0, .bool false, .slice none 0 0, .slice none 0 0, .string ⟨#[]⟩, .int .i64 0, .slice none 0 0] from hk3)
  have HB1 := Lib.hid hb1
  have HS1 := Lib.hid hs1
  have HBB := Lib.hid hB
  have HR := Lib.hid (fun W (hb : Below W1.heap.size W1 W) => hr.below ((hb1.trans (hb.mono hb1.size)).mono hB))
  have HRW := Lib.hid (fun W (hb : Below W1.heap.size W1 W) => hrow.below ((hb1.trans (hb.mono hb1.size)).mono hB))
  have HBW := Lib.hid (fun W (hb : Below W1.heap.size W1 W) => Nat.le_trans hB (hb1.trans (hb.mono hb1.size)).size)
  have HLF := Lib.hid hl
  have HAL : Hid (args.length = a2) := Lib.hid hrow.1
  obtain ⟨hbs0, hbs1⟩ := hl.base
  have hsz : op.size ≤ 100 := hl.size
  have hz1 : ¬ 9223372036854775807 < 1 + op.size := by omega
  clear hr hB hrow hl hk1 hk2 hk3 hs1 hb1
  go_enter Try.func18, Try.ntmps18
  go_upto_region 1 with fail
  rw [← hW1]
  clear hW1
  obtain ⟨p0, p1⟩ := And.intro (HKO.out.cell 0 rfl) (HKO.out.cell 1 rfl)
  obtain ⟨W2, hW2⟩ : ∃ W2, W2 = W1.alloc (.cells #[.string (⟨#[108]⟩ ++ op), .int .i64 dst, .slice none 0 0, .int .i64 0, .int .i64 0, .bool false, .slice none 0 0, .slice none 0 0, .string ⟨#[]⟩, .int .i64 guard, .slice none 0 0] 70) := ⟨_, rfl⟩
  have HB2 := Lib.hid (show Below W1.heap.size W1 W2 from by rw [hW2]; exact (Below.refl _ _).alloc (Nat.le_refl _) _)
  have HN2 := Lib.hid (show Blk W2 W1.heap.size 70 #[.string (⟨#[108]⟩ ++ op), .int .i64 dst, .slice none 0 0, .int .i64 0, .int .i64 0, .bool false, .slice none 0 0, .slice none 0 0, .string ⟨#[]⟩, .int .i64 guard, .slice none 0 0] from by rw [hW2]; exact Blk.new _ _ _)
  go_upto_region 2 with fail
  rw [← hW2]
  clear hW2
  clear p0 p1 hz1
  obtain ⟨p0, p1⟩ := And.intro ((HKO.out.later HB2.out).cell 0 rfl) ((HKO.out.later HB2.out).cell 1 rfl)
  by_cases h0 : op = bs [118, 97, 114]
  · skip
    have g0 := str_yes (l := [118, 97, 114]) h0
    have g1 : (op.toList == [99, 111, 110, 116]) = false := by rw [h0, bs_toList]; rfl
    have g2 : (op.toList == [115, 101, 108]) = false := by rw [h0, bs_toList]; rfl
    have g3 : (op.toList == [110, 101, 103]) = false := by rw [h0, bs_toList]; rfl
    have g4 : (op.toList == [42]) = false := by rw [h0, bs_toList]; rfl
    obtain ⟨hlen, hlt0⟩ := HLF.out.var h0
    simp only at hlen hlt0
    rw [HAL.out] at hlen
    subst hlen
    obtain ⟨b, off, ha1, hlb, hc0⟩ := (HRW.out _ HB2.out).at_ (i := 0) (by omega)
    rw [Nat.add_zero] at hc0
    subst ha1
    have hbW : b < W1.heap.size := Nat.lt_of_lt_of_le hlb (HBW.out _ (Below.refl _ _))
    obtain ⟨X0, hX0⟩ : ∃ X0, X0 = args.getD 0 0 := ⟨_, rfl⟩
    obtain ⟨hx0a, hx0b⟩ := HLF.out.at_ 0
    simp only at hx0a hx0b
    rw [← hX0] at hc0 hx0a hx0b
    rw [← hX0] at hlt0
    have HI : Hid (lineI ss ⟨op, args⟩ base dst guard = mkI (⟨#[108]⟩ ++ op) dst [slotS ss X0] 0 guard []) := Lib.hid (by unfold lineI mkI; simp only [h0, hX0]; rfl)
    have HPW : Hid (∀ W, Below W1.heap.size W2 W → W.cell? ⟨w.heap.size, 0, none⟩ = some (.slice A m c) ∧ W.cell? ⟨w.heap.size, 1, none⟩ = some (.slice A2 n c2) ∧ W.cell? ⟨w.heap.size, 2, none⟩ = some (.int .i64 S) ∧ W.cell? ⟨w.heap.size + 1, 1, none⟩ = some (.slice (some ⟨b, off, none⟩) 1 a3) ∧ W.cell? ⟨b, off, none⟩ = some (.int .i64 X0)) := Lib.hid fun W hb => by
      have k1 := HKP.out.later (HB2.out.trans hb)
      have k2 := HKO.out.later (HB2.out.trans hb)
      exact ⟨k1.cell 0 rfl, k1.cell 1 rfl, k1.cell 2 rfl, k2.cell 1 rfl, (hb.cell (p := ⟨b, _, none⟩) hbW).trans hc0⟩
    have HBd := Lib.hid (Below.refl W1.heap.size W2).drew
    have HSL := Lib.hid (slot15_t A A2 m c n c2 B S X0 ss W2.drew (HR.out _ HB2.out.drew) (HBW.out _ HB2.out.drew) hlt0)
    clear h0 hX0
    go_upto_region 5 with fail
    clear p0 p1 hc0
    go_region_held3 (fun w' => w'.cell? ⟨w.heap.size, 0, none⟩ = some (.slice A m c) ∧ w'.cell? ⟨w.heap.size, 1, none⟩ = some (.slice A2 n c2) ∧ w'.cell? ⟨w.heap.size, 2, none⟩ = some (.int .i64 S) ∧ w'.cell? ⟨w.heap.size + 1, 1, none⟩ = some (.slice (some ⟨b, off, none⟩) 1 a3) ∧ w'.cell? ⟨b, off, none⟩ = some (.int .i64 X0)) (first | with_reducible exact HPW.out _ HBd.out | with_reducible exact HPW.out _ HB4.out | with_reducible exact HPW.out _ (HB4.out.alloc HS4.out _) | with_reducible exact HPW.out _ ((HB4.out.setCell (p := ⟨W1.heap.size, 2, none⟩) (Nat.le_refl _) _).alloc (HS5.out _) _) | go_keep) (first
      | (go_at_call 17; (with_reducible refine HSL.out.mono ?_); rintro e w4 ⟨rfl, hb⟩; have HB4 := Lib.hid (HBd.out.trans (hb.mono (show W1.heap.size ≤ W2.drew.heap.size from HB2.out.size))); have HB5 := Lib.hid (HB2.out.trans HB4.out); have HS4 : Hid (W1.heap.size ≤ w4.heap.size) := Lib.hid HB5.out.size; have HS5 : Hid (∀ u, W1.heap.size ≤ (w4.setCell ⟨W1.heap.size, 2, none⟩ u).heap.size) := Lib.hid (fun u => by simp [World.setCell]; exact HS4.out); have HN4 := Lib.hid (HN2.out.later ((Below.refl W2.heap.size W2).drew.trans hb)); obtain ⟨nc0, nc1, nc2, nc3, nc4, nc5, nc6, nc7, nc8, nc9, nc10⟩ := HN4.out.elevQ; obtain ⟨nf0, nf1, nf2, nf3, nf4, nf5, nf6, nf7, nf8, nf9, nf10⟩ := HN4.out.elevQF; have hl4 := HN4.out.lt; clear hb))
    obtain ⟨w7, hw7⟩ : ∃ w7, w7 = (w4.setCell ⟨W1.heap.size, 2, none⟩ (.slice (some ⟨w4.heap.size, 0, none⟩) 1 1)).alloc (.cells #[.int .i64 (slotS ss X0)] 3) := ⟨_, rfl⟩
    have HN7 : Hid (Blk w7 W1.heap.size 70 #[.string (⟨#[108]⟩ ++ op), .int .i64 dst, .slice (some ⟨w4.heap.size, 0, none⟩) 1 1, .int .i64 0, .int .i64 0, .bool false, .slice none 0 0, .slice none 0 0, .string ⟨#[]⟩, .int .i64 guard, .slice none 0 0]) := Lib.hid (by rw [hw7]; exact (HN4.out.putA 2 _).alloc _)
    have HB7 : Hid (Below W1.heap.size W1 w7) := Lib.hid (by rw [hw7]; exact (HB5.out.setCell (p := ⟨W1.heap.size, 2, none⟩) (Nat.le_refl _) _).alloc (by simp [World.setCell]; exact HB5.out.size) _)
    have HA7 := Lib.hid (show IRowP (fun b => W1.heap.size ≤ b ∧ b < w7.heap.size) w7 (some ⟨w4.heap.size, 0, none⟩) 1 1 [slotS ss X0] from by rw [hw7]; exact row_in rfl HB5.out.size rfl (by decide))
    rw [← hw7]
    clear hw7 nc0 nc1 nc2 nc3 nc4 nc5 nc6 nc7 nc8 nc9 nc10 nf0 nf1 nf2 nf3 nf4 nf5 nf6 nf7 nf8 nf9 nf10
    obtain ⟨nc0, nc1, nc2, nc3, nc4, nc5, nc6, nc7, nc8, nc9, nc10⟩ := HN7.out.elevQ
    obtain ⟨zc0, zc1, zc2, zc3, zc4, zc5, zc6, zc7, zc8, zc9, zc10⟩ := (HZ.out.later HB7.out).elevQ
    obtain ⟨zf0, zf1, zf2, zf3, zf4, zf5, zf6, zf7, zf8, zf9, zf10⟩ := (HZ.out.later HB7.out).elevQF
    have HRZ := Lib.hid ((HZ.out.later HB7.out).put11 (.string (⟨#[108]⟩ ++ op)) (.int .i64 dst) (.slice (some ⟨w4.heap.size, 0, none⟩) 1 1) (.int .i64 0) (.int .i64 0) (.bool false) (.slice none 0 0) (.slice none 0 0) (.string ⟨#[]⟩) (.int .i64 guard) (.slice none 0 0))
    have HEND := Lib.hid (ins_endG (x := ⟨⟨#[108]⟩ ++ op, dst, (some ⟨w4.heap.size, 0, none⟩, 1, 1), 0, 0, false, (none, 0, 0), (none, 0, 0), ⟨#[]⟩, guard, (none, 0, 0)⟩) HB1.out HS1.out HBB.out HB7.out (show InsR (fun b => b < w7.heap.size ∧ (b < B ∨ W1.heap.size ≤ b)) w7 ⟨⟨#[108]⟩ ++ op, dst, (some ⟨w4.heap.size, 0, none⟩, 1, 1), 0, 0, false, (none, 0, 0), (none, 0, 0), ⟨#[]⟩, guard, (none, 0, 0)⟩ (lineI ss ⟨op, args⟩ base dst guard) from by rw [HI.out]; exact ⟨rfl, rfl, HA7.out.weak fun b p => ⟨p.2, .inr p.1⟩, rfl, rfl, rfl, URowP.nil _ _, URowP.nil _ _, rfl, rfl, IRowP.nil _ _⟩) (.string (⟨#[108]⟩ ++ op)) (.int .i64 dst) (.slice (some ⟨w4.heap.size, 0, none⟩) 1 1) (.int .i64 0) (.int .i64 0) (.bool false) (.slice none 0 0) (.slice none 0 0) (.string ⟨#[]⟩) (.int .i64 guard) (.slice none 0 0))
    go_wp2
    refine ret_row rfl (w.heap.size + 2) _ HRZ.out rfl rfl Try.underlying70 Try.infoInsS ?_
    exact ⟨⟨⟨#[108]⟩ ++ op, dst, (some ⟨w4.heap.size, 0, none⟩, 1, 1), 0, 0, false, (none, 0, 0), (none, 0, 0), ⟨#[]⟩, guard, (none, 0, 0)⟩, rfl, HEND.out.1, HEND.out.2⟩
  by_cases h1 : op = bs [99, 111, 110, 116]
  · clear h0
    have g0 : (op.toList == [118, 97, 114]) = false := by rw [h1, bs_toList]; rfl
    have g1 := str_yes (l := [99, 111, 110, 116]) h1
    have g2 : (op.toList == [115, 101, 108]) = false := by rw [h1, bs_toList]; rfl
    have g3 : (op.toList == [110, 101, 103]) = false := by rw [h1, bs_toList]; rfl
    have g4 : (op.toList == [42]) = false := by rw [h1, bs_toList]; rfl
    have hlen := HLF.out.cont h1
    simp only at hlen
    rw [HAL.out] at hlen
    subst hlen
    obtain ⟨b, off, ha1, hlb, hc0⟩ := (HRW.out _ HB2.out).at_ (i := 0) (by omega)
    rw [Nat.add_zero] at hc0
    subst ha1
    have hbW : b < W1.heap.size := Nat.lt_of_lt_of_le hlb (HBW.out _ (Below.refl _ _))
    obtain ⟨X0, hX0⟩ : ∃ X0, X0 = args.getD 0 0 := ⟨_, rfl⟩
    obtain ⟨hx0a, hx0b⟩ := HLF.out.at_ 0
    simp only at hx0a hx0b
    rw [← hX0] at hc0 hx0a hx0b
    have HI : Hid (lineI ss ⟨op, args⟩ base dst guard = mkI (⟨#[108]⟩ ++ op) dst [] X0 guard []) := Lib.hid (by unfold lineI mkI; simp only [h1, hX0]; rfl)
    clear h1 hX0
    obtain ⟨nc0, nc1, nc2, nc3, nc4, nc5, nc6, nc7, nc8, nc9, nc10⟩ := HN2.out.elevQ
    obtain ⟨nf0, nf1, nf2, nf3, nf4, nf5, nf6, nf7, nf8, nf9, nf10⟩ := HN2.out.elevQF
    have hl2 := HN2.out.lt
    obtain ⟨w7, hw7⟩ : ∃ w7, w7 = W2.setCell ⟨W1.heap.size, 3, none⟩ (.int .i64 X0) := ⟨_, rfl⟩
    have HN7 : Hid (Blk w7 W1.heap.size 70 #[.string (⟨#[108]⟩ ++ op), .int .i64 dst, .slice none 0 0, .int .i64 X0, .int .i64 0, .bool false, .slice none 0 0, .slice none 0 0, .string ⟨#[]⟩, .int .i64 guard, .slice none 0 0]) := Lib.hid (by rw [hw7]; exact HN2.out.putA 3 _)
    have HB7 : Hid (Below W1.heap.size W1 w7) := Lib.hid (by rw [hw7]; exact HB2.out.setCell (p := ⟨W1.heap.size, 3, none⟩) (Nat.le_refl _) _)
    go_upto_region 15 with fail
    rw [← hw7]
    clear hw7 nc0 nc1 nc2 nc3 nc4 nc5 nc6 nc7 nc8 nc9 nc10 nf0 nf1 nf2 nf3 nf4 nf5 nf6 nf7 nf8 nf9 nf10
    obtain ⟨nc0, nc1, nc2, nc3, nc4, nc5, nc6, nc7, nc8, nc9, nc10⟩ := HN7.out.elevQ
    obtain ⟨zc0, zc1, zc2, zc3, zc4, zc5, zc6, zc7, zc8, zc9, zc10⟩ := (HZ.out.later HB7.out).elevQ
    obtain ⟨zf0, zf1, zf2, zf3, zf4, zf5, zf6, zf7, zf8, zf9, zf10⟩ := (HZ.out.later HB7.out).elevQF
    have HRZ := Lib.hid ((HZ.out.later HB7.out).put11 (.string (⟨#[108]⟩ ++ op)) (.int .i64 dst) (.slice none 0 0) (.int .i64 X0) (.int .i64 0) (.bool false) (.slice none 0 0) (.slice none 0 0) (.string ⟨#[]⟩) (.int .i64 guard) (.slice none 0 0))
    have HEND := Lib.hid (ins_endG (x := ⟨⟨#[108]⟩ ++ op, dst, (none, 0, 0), X0, 0, false, (none, 0, 0), (none, 0, 0), ⟨#[]⟩, guard, (none, 0, 0)⟩) HB1.out HS1.out HBB.out HB7.out (show InsR (fun b => b < w7.heap.size ∧ (b < B ∨ W1.heap.size ≤ b)) w7 ⟨⟨#[108]⟩ ++ op, dst, (none, 0, 0), X0, 0, false, (none, 0, 0), (none, 0, 0), ⟨#[]⟩, guard, (none, 0, 0)⟩ (lineI ss ⟨op, args⟩ base dst guard) from by rw [HI.out]; exact ⟨rfl, rfl, IRowP.nil _ _, rfl, rfl, rfl, URowP.nil _ _, URowP.nil _ _, rfl, rfl, IRowP.nil _ _⟩) (.string (⟨#[108]⟩ ++ op)) (.int .i64 dst) (.slice none 0 0) (.int .i64 X0) (.int .i64 0) (.bool false) (.slice none 0 0) (.slice none 0 0) (.string ⟨#[]⟩) (.int .i64 guard) (.slice none 0 0))
    go_wp2
    refine ret_row rfl (w.heap.size + 2) _ HRZ.out rfl rfl Try.underlying70 Try.infoInsS ?_
    exact ⟨⟨⟨#[108]⟩ ++ op, dst, (none, 0, 0), X0, 0, false, (none, 0, 0), (none, 0, 0), ⟨#[]⟩, guard, (none, 0, 0)⟩, rfl, HEND.out.1, HEND.out.2⟩
  by_cases h2 : op = bs [115, 101, 108]
  · clear h0 h1
    have g0 : (op.toList == [118, 97, 114]) = false := by rw [h2, bs_toList]; rfl
    have g1 : (op.toList == [99, 111, 110, 116]) = false := by rw [h2, bs_toList]; rfl
    have g2 := str_yes (l := [115, 101, 108]) h2
    have g3 : (op.toList == [110, 101, 103]) = false := by rw [h2, bs_toList]; rfl
    have g4 : (op.toList == [42]) = false := by rw [h2, bs_toList]; rfl
    obtain ⟨hlen, hlt0⟩ := HLF.out.sel h2
    simp only at hlen hlt0
    rw [HAL.out] at hlen
    subst hlen
    obtain ⟨b, off, ha1, hlb, hc0⟩ := (HRW.out _ HB2.out).at_ (i := 0) (by omega)
    have hc1 : W2.cell? ⟨b, off + 1, none⟩ = some (.int .i64 (args.getD 1 0)) := by
      obtain ⟨b', off', ha', _, hc'⟩ := (HRW.out _ HB2.out).at_ (i := 1) (by omega)
      rw [ha1] at ha'
      injection ha' with ha'
      injection ha' with q1 q2
      subst q1 q2
      exact hc'
    have hc2 : W2.cell? ⟨b, off + 2, none⟩ = some (.int .i64 (args.getD 2 0)) := by
      obtain ⟨b', off', ha', _, hc'⟩ := (HRW.out _ HB2.out).at_ (i := 2) (by omega)
      rw [ha1] at ha'
      injection ha' with ha'
      injection ha' with q1 q2
      subst q1 q2
      exact hc'
    rw [Nat.add_zero] at hc0
    subst ha1
    have hbW : b < W1.heap.size := Nat.lt_of_lt_of_le hlb (HBW.out _ (Below.refl _ _))
    obtain ⟨X0, hX0⟩ : ∃ X0, X0 = args.getD 0 0 := ⟨_, rfl⟩
    obtain ⟨hx0a, hx0b⟩ := HLF.out.at_ 0
    simp only at hx0a hx0b
    rw [← hX0] at hc0 hx0a hx0b
    obtain ⟨X1, hX1⟩ : ∃ X1, X1 = args.getD 1 0 := ⟨_, rfl⟩
    obtain ⟨hx1a, hx1b⟩ := HLF.out.at_ 1
    simp only at hx1a hx1b
    rw [← hX1] at hc1 hx1a hx1b
    obtain ⟨X2, hX2⟩ : ∃ X2, X2 = args.getD 2 0 := ⟨_, rfl⟩
    obtain ⟨hx2a, hx2b⟩ := HLF.out.at_ 2
    simp only at hx2a hx2b
    rw [← hX2] at hc2 hx2a hx2b
    have hw1 : IntKind.i64.wrap (base + X1) = base + X1 := IntWalk.i64_in _ (by omega)
    have hw2 : IntKind.i64.wrap (base + X2) = base + X2 := IntWalk.i64_in _ (by omega)
    rw [← hX0] at hlt0
    have HI : Hid (lineI ss ⟨op, args⟩ base dst guard = mkI (⟨#[108]⟩ ++ op) dst [slotS ss X0, base + X1, base + X2] 0 guard []) := Lib.hid (by unfold lineI mkI; simp only [h2, hX0, hX1, hX2]; rfl)
    have HPW : Hid (∀ W, Below W1.heap.size W2 W → W.cell? ⟨w.heap.size, 0, none⟩ = some (.slice A m c) ∧ W.cell? ⟨w.heap.size, 1, none⟩ = some (.slice A2 n c2) ∧ W.cell? ⟨w.heap.size, 2, none⟩ = some (.int .i64 S) ∧ W.cell? ⟨w.heap.size + 1, 1, none⟩ = some (.slice (some ⟨b, off, none⟩) 3 a3) ∧ W.cell? ⟨b, off, none⟩ = some (.int .i64 X0) ∧ W.cell? ⟨b, off + 1, none⟩ = some (.int .i64 X1) ∧ W.cell? ⟨b, off + 2, none⟩ = some (.int .i64 X2)) := Lib.hid fun W hb => by
      have k1 := HKP.out.later (HB2.out.trans hb)
      have k2 := HKO.out.later (HB2.out.trans hb)
      exact ⟨k1.cell 0 rfl, k1.cell 1 rfl, k1.cell 2 rfl, k2.cell 1 rfl, (hb.cell (p := ⟨b, _, none⟩) hbW).trans hc0, (hb.cell (p := ⟨b, _, none⟩) hbW).trans hc1, (hb.cell (p := ⟨b, _, none⟩) hbW).trans hc2⟩
    have HBd := Lib.hid (Below.refl W1.heap.size W2).drew
    have HSL := Lib.hid (slot15_t A A2 m c n c2 B S X0 ss W2.drew (HR.out _ HB2.out.drew) (HBW.out _ HB2.out.drew) hlt0)
    clear h2 hX0 hX1 hX2
    go_upto_region 9 with fail
    clear p0 p1 hc0 hc1 hc2
    go_region_held3 (fun w' => w'.cell? ⟨w.heap.size, 0, none⟩ = some (.slice A m c) ∧ w'.cell? ⟨w.heap.size, 1, none⟩ = some (.slice A2 n c2) ∧ w'.cell? ⟨w.heap.size, 2, none⟩ = some (.int .i64 S) ∧ w'.cell? ⟨w.heap.size + 1, 1, none⟩ = some (.slice (some ⟨b, off, none⟩) 3 a3) ∧ w'.cell? ⟨b, off, none⟩ = some (.int .i64 X0) ∧ w'.cell? ⟨b, off + 1, none⟩ = some (.int .i64 X1) ∧ w'.cell? ⟨b, off + 2, none⟩ = some (.int .i64 X2)) (first | with_reducible exact HPW.out _ HBd.out | with_reducible exact HPW.out _ HB4.out | with_reducible exact HPW.out _ (HB4.out.alloc HS4.out _) | with_reducible exact HPW.out _ ((HB4.out.setCell (p := ⟨W1.heap.size, 2, none⟩) (Nat.le_refl _) _).alloc (HS5.out _) _) | go_keep) (first
      | (go_at_call 17; (with_reducible refine HSL.out.mono ?_); rintro e w4 ⟨rfl, hb⟩; have HB4 := Lib.hid (HBd.out.trans (hb.mono (show W1.heap.size ≤ W2.drew.heap.size from HB2.out.size))); have HB5 := Lib.hid (HB2.out.trans HB4.out); have HS4 : Hid (W1.heap.size ≤ w4.heap.size) := Lib.hid HB5.out.size; have HS5 : Hid (∀ u, W1.heap.size ≤ (w4.setCell ⟨W1.heap.size, 2, none⟩ u).heap.size) := Lib.hid (fun u => by simp [World.setCell]; exact HS4.out); have HN4 := Lib.hid (HN2.out.later ((Below.refl W2.heap.size W2).drew.trans hb)); obtain ⟨nc0, nc1, nc2, nc3, nc4, nc5, nc6, nc7, nc8, nc9, nc10⟩ := HN4.out.elevQ; obtain ⟨nf0, nf1, nf2, nf3, nf4, nf5, nf6, nf7, nf8, nf9, nf10⟩ := HN4.out.elevQF; have hl4 := HN4.out.lt; clear hb))
    obtain ⟨w7, hw7⟩ : ∃ w7, w7 = (w4.setCell ⟨W1.heap.size, 2, none⟩ (.slice (some ⟨w4.heap.size, 0, none⟩) 3 3)).alloc (.cells #[.int .i64 (slotS ss X0), .int .i64 (base + X1), .int .i64 (base + X2)] 3) := ⟨_, rfl⟩
    have HN7 : Hid (Blk w7 W1.heap.size 70 #[.string (⟨#[108]⟩ ++ op), .int .i64 dst, .slice (some ⟨w4.heap.size, 0, none⟩) 3 3, .int .i64 0, .int .i64 0, .bool false, .slice none 0 0, .slice none 0 0, .string ⟨#[]⟩, .int .i64 guard, .slice none 0 0]) := Lib.hid (by rw [hw7]; exact (HN4.out.putA 2 _).alloc _)
    have HB7 : Hid (Below W1.heap.size W1 w7) := Lib.hid (by rw [hw7]; exact (HB5.out.setCell (p := ⟨W1.heap.size, 2, none⟩) (Nat.le_refl _) _).alloc (by simp [World.setCell]; exact HB5.out.size) _)
    have HA7 := Lib.hid (show IRowP (fun b => W1.heap.size ≤ b ∧ b < w7.heap.size) w7 (some ⟨w4.heap.size, 0, none⟩) 3 3 [slotS ss X0, base + X1, base + X2] from by rw [hw7]; exact row_in rfl HB5.out.size rfl (by decide))
    rw [← hw7]
    clear hw7 nc0 nc1 nc2 nc3 nc4 nc5 nc6 nc7 nc8 nc9 nc10 nf0 nf1 nf2 nf3 nf4 nf5 nf6 nf7 nf8 nf9 nf10
    obtain ⟨nc0, nc1, nc2, nc3, nc4, nc5, nc6, nc7, nc8, nc9, nc10⟩ := HN7.out.elevQ
    obtain ⟨zc0, zc1, zc2, zc3, zc4, zc5, zc6, zc7, zc8, zc9, zc10⟩ := (HZ.out.later HB7.out).elevQ
    obtain ⟨zf0, zf1, zf2, zf3, zf4, zf5, zf6, zf7, zf8, zf9, zf10⟩ := (HZ.out.later HB7.out).elevQF
    have HRZ := Lib.hid ((HZ.out.later HB7.out).put11 (.string (⟨#[108]⟩ ++ op)) (.int .i64 dst) (.slice (some ⟨w4.heap.size, 0, none⟩) 3 3) (.int .i64 0) (.int .i64 0) (.bool false) (.slice none 0 0) (.slice none 0 0) (.string ⟨#[]⟩) (.int .i64 guard) (.slice none 0 0))
    have HEND := Lib.hid (ins_endG (x := ⟨⟨#[108]⟩ ++ op, dst, (some ⟨w4.heap.size, 0, none⟩, 3, 3), 0, 0, false, (none, 0, 0), (none, 0, 0), ⟨#[]⟩, guard, (none, 0, 0)⟩) HB1.out HS1.out HBB.out HB7.out (show InsR (fun b => b < w7.heap.size ∧ (b < B ∨ W1.heap.size ≤ b)) w7 ⟨⟨#[108]⟩ ++ op, dst, (some ⟨w4.heap.size, 0, none⟩, 3, 3), 0, 0, false, (none, 0, 0), (none, 0, 0), ⟨#[]⟩, guard, (none, 0, 0)⟩ (lineI ss ⟨op, args⟩ base dst guard) from by rw [HI.out]; exact ⟨rfl, rfl, HA7.out.weak fun b p => ⟨p.2, .inr p.1⟩, rfl, rfl, rfl, URowP.nil _ _, URowP.nil _ _, rfl, rfl, IRowP.nil _ _⟩) (.string (⟨#[108]⟩ ++ op)) (.int .i64 dst) (.slice (some ⟨w4.heap.size, 0, none⟩) 3 3) (.int .i64 0) (.int .i64 0) (.bool false) (.slice none 0 0) (.slice none 0 0) (.string ⟨#[]⟩) (.int .i64 guard) (.slice none 0 0))
    go_wp2
    refine ret_row rfl (w.heap.size + 2) _ HRZ.out rfl rfl Try.underlying70 Try.infoInsS ?_
    exact ⟨⟨⟨#[108]⟩ ++ op, dst, (some ⟨w4.heap.size, 0, none⟩, 3, 3), 0, 0, false, (none, 0, 0), (none, 0, 0), ⟨#[]⟩, guard, (none, 0, 0)⟩, rfl, HEND.out.1, HEND.out.2⟩
  by_cases h3 : op = bs [110, 101, 103]
  · clear h0 h1 h2
    have g0 : (op.toList == [118, 97, 114]) = false := by rw [h3, bs_toList]; rfl
    have g1 : (op.toList == [99, 111, 110, 116]) = false := by rw [h3, bs_toList]; rfl
    have g2 : (op.toList == [115, 101, 108]) = false := by rw [h3, bs_toList]; rfl
    have g3 := str_yes (l := [110, 101, 103]) h3
    have g4 : (op.toList == [42]) = false := by rw [h3, bs_toList]; rfl
    have hlen := HLF.out.neg h3
    simp only at hlen
    rw [HAL.out] at hlen
    subst hlen
    obtain ⟨b, off, ha1, hlb, hc0⟩ := (HRW.out _ HB2.out).at_ (i := 0) (by omega)
    rw [Nat.add_zero] at hc0
    subst ha1
    have hbW : b < W1.heap.size := Nat.lt_of_lt_of_le hlb (HBW.out _ (Below.refl _ _))
    obtain ⟨X0, hX0⟩ : ∃ X0, X0 = args.getD 0 0 := ⟨_, rfl⟩
    obtain ⟨hx0a, hx0b⟩ := HLF.out.at_ 0
    simp only at hx0a hx0b
    rw [← hX0] at hc0 hx0a hx0b
    have hw0 : IntKind.i64.wrap (base + X0) = base + X0 := IntWalk.i64_in _ (by omega)
    have HI : Hid (lineI ss ⟨op, args⟩ base dst guard = mkI (⟨#[108]⟩ ++ op) dst [base + X0] 0 guard []) := Lib.hid (by unfold lineI mkI; simp only [h3, hX0]; rfl)
    clear h3 hX0
    obtain ⟨nc0, nc1, nc2, nc3, nc4, nc5, nc6, nc7, nc8, nc9, nc10⟩ := HN2.out.elevQ
    obtain ⟨nf0, nf1, nf2, nf3, nf4, nf5, nf6, nf7, nf8, nf9, nf10⟩ := HN2.out.elevQF
    have hl2 := HN2.out.lt
    have hb2 : b < W2.heap.size := Nat.lt_of_lt_of_le hbW HB2.out.size
    have hp2 : w.heap.size + 1 < W2.heap.size := by have := HS1.out; have := HB2.out.size; omega
    go_upto_region 15 with fail
    obtain ⟨w7, hw7⟩ : ∃ w7, w7 = (W2.setCell ⟨W1.heap.size, 2, none⟩ (.slice (some ⟨W2.heap.size, 0, none⟩) 1 1)).alloc (.cells #[.int .i64 (base + X0)] 3) := ⟨_, rfl⟩
    have HN7 : Hid (Blk w7 W1.heap.size 70 #[.string (⟨#[108]⟩ ++ op), .int .i64 dst, .slice (some ⟨W2.heap.size, 0, none⟩) 1 1, .int .i64 0, .int .i64 0, .bool false, .slice none 0 0, .slice none 0 0, .string ⟨#[]⟩, .int .i64 guard, .slice none 0 0]) := Lib.hid (by rw [hw7]; exact (HN2.out.putA 2 _).alloc _)
    have HB7 : Hid (Below W1.heap.size W1 w7) := Lib.hid (by rw [hw7]; exact (HB2.out.setCell (p := ⟨W1.heap.size, 2, none⟩) (Nat.le_refl _) _).alloc (by simp [World.setCell]; exact HB2.out.size) _)
    have HA7 := Lib.hid (show IRowP (fun b => W1.heap.size ≤ b ∧ b < w7.heap.size) w7 (some ⟨W2.heap.size, 0, none⟩) 1 1 [base + X0] from by rw [hw7]; exact row_in rfl HB2.out.size rfl (by decide))
    rw [← hw7]
    clear hw7 nc0 nc1 nc2 nc3 nc4 nc5 nc6 nc7 nc8 nc9 nc10 nf0 nf1 nf2 nf3 nf4 nf5 nf6 nf7 nf8 nf9 nf10
    obtain ⟨nc0, nc1, nc2, nc3, nc4, nc5, nc6, nc7, nc8, nc9, nc10⟩ := HN7.out.elevQ
    obtain ⟨zc0, zc1, zc2, zc3, zc4, zc5, zc6, zc7, zc8, zc9, zc10⟩ := (HZ.out.later HB7.out).elevQ
    obtain ⟨zf0, zf1, zf2, zf3, zf4, zf5, zf6, zf7, zf8, zf9, zf10⟩ := (HZ.out.later HB7.out).elevQF
    have HRZ := Lib.hid ((HZ.out.later HB7.out).put11 (.string (⟨#[108]⟩ ++ op)) (.int .i64 dst) (.slice (some ⟨W2.heap.size, 0, none⟩) 1 1) (.int .i64 0) (.int .i64 0) (.bool false) (.slice none 0 0) (.slice none 0 0) (.string ⟨#[]⟩) (.int .i64 guard) (.slice none 0 0))
    have HEND := Lib.hid (ins_endG (x := ⟨⟨#[108]⟩ ++ op, dst, (some ⟨W2.heap.size, 0, none⟩, 1, 1), 0, 0, false, (none, 0, 0), (none, 0, 0), ⟨#[]⟩, guard, (none, 0, 0)⟩) HB1.out HS1.out HBB.out HB7.out (show InsR (fun b => b < w7.heap.size ∧ (b < B ∨ W1.heap.size ≤ b)) w7 ⟨⟨#[108]⟩ ++ op, dst, (some ⟨W2.heap.size, 0, none⟩, 1, 1), 0, 0, false, (none, 0, 0), (none, 0, 0), ⟨#[]⟩, guard, (none, 0, 0)⟩ (lineI ss ⟨op, args⟩ base dst guard) from by rw [HI.out]; exact ⟨rfl, rfl, HA7.out.weak fun b p => ⟨p.2, .inr p.1⟩, rfl, rfl, rfl, URowP.nil _ _, URowP.nil _ _, rfl, rfl, IRowP.nil _ _⟩) (.string (⟨#[108]⟩ ++ op)) (.int .i64 dst) (.slice (some ⟨W2.heap.size, 0, none⟩) 1 1) (.int .i64 0) (.int .i64 0) (.bool false) (.slice none 0 0) (.slice none 0 0) (.string ⟨#[]⟩) (.int .i64 guard) (.slice none 0 0))
    go_wp2
    refine ret_row rfl (w.heap.size + 2) _ HRZ.out rfl rfl Try.underlying70 Try.infoInsS ?_
    exact ⟨⟨⟨#[108]⟩ ++ op, dst, (some ⟨W2.heap.size, 0, none⟩, 1, 1), 0, 0, false, (none, 0, 0), (none, 0, 0), ⟨#[]⟩, guard, (none, 0, 0)⟩, rfl, HEND.out.1, HEND.out.2⟩
  by_cases h4 : op = bs [42]
  · clear h0 h1 h2 h3
    have g0 : (op.toList == [118, 97, 114]) = false := by rw [h4, bs_toList]; rfl
    have g1 : (op.toList == [99, 111, 110, 116]) = false := by rw [h4, bs_toList]; rfl
    have g2 : (op.toList == [115, 101, 108]) = false := by rw [h4, bs_toList]; rfl
    have g3 : (op.toList == [110, 101, 103]) = false := by rw [h4, bs_toList]; rfl
    have g4 := str_yes (l := [42]) h4
    have hlen := HLF.out.mul h4
    simp only at hlen
    rw [HAL.out] at hlen
    subst hlen
    obtain ⟨b, off, ha1, hlb, hc0⟩ := (HRW.out _ HB2.out).at_ (i := 0) (by omega)
    have hc1 : W2.cell? ⟨b, off + 1, none⟩ = some (.int .i64 (args.getD 1 0)) := by
      obtain ⟨b', off', ha', _, hc'⟩ := (HRW.out _ HB2.out).at_ (i := 1) (by omega)
      rw [ha1] at ha'
      injection ha' with ha'
      injection ha' with q1 q2
      subst q1 q2
      exact hc'
    have hc2 : W2.cell? ⟨b, off + 2, none⟩ = some (.int .i64 (args.getD 2 0)) := by
      obtain ⟨b', off', ha', _, hc'⟩ := (HRW.out _ HB2.out).at_ (i := 2) (by omega)
      rw [ha1] at ha'
      injection ha' with ha'
      injection ha' with q1 q2
      subst q1 q2
      exact hc'
    rw [Nat.add_zero] at hc0
    subst ha1
    have hbW : b < W1.heap.size := Nat.lt_of_lt_of_le hlb (HBW.out _ (Below.refl _ _))
    obtain ⟨X0, hX0⟩ : ∃ X0, X0 = args.getD 0 0 := ⟨_, rfl⟩
    obtain ⟨hx0a, hx0b⟩ := HLF.out.at_ 0
    simp only at hx0a hx0b
    rw [← hX0] at hc0 hx0a hx0b
    obtain ⟨X1, hX1⟩ : ∃ X1, X1 = args.getD 1 0 := ⟨_, rfl⟩
    obtain ⟨hx1a, hx1b⟩ := HLF.out.at_ 1
    simp only at hx1a hx1b
    rw [← hX1] at hc1 hx1a hx1b
    obtain ⟨X2, hX2⟩ : ∃ X2, X2 = args.getD 2 0 := ⟨_, rfl⟩
    obtain ⟨hx2a, hx2b⟩ := HLF.out.at_ 2
    simp only at hx2a hx2b
    rw [← hX2] at hc2 hx2a hx2b
    have hw0 : IntKind.i64.wrap (base + X0) = base + X0 := IntWalk.i64_in _ (by omega)
    have hw1 : IntKind.i64.wrap (base + X1) = base + X1 := IntWalk.i64_in _ (by omega)
    have hw2 : IntKind.i64.wrap (base + X2) = base + X2 := IntWalk.i64_in _ (by omega)
    have HI : Hid (lineI ss ⟨op, args⟩ base dst guard = mkI (⟨#[108]⟩ ++ op) dst [base + X0, base + X1] X2 guard []) := Lib.hid (by unfold lineI mkI; simp only [h4, hX0, hX1, hX2]; rfl)
    have hcz : W1.cell? ⟨b, off + 2, none⟩ = some (.int .i64 X2) := (HB2.out.cell (p := ⟨b, off + 2, none⟩) hbW).symm.trans hc2
    clear h4 hX0 hX1 hX2
    obtain ⟨nc0, nc1, nc2, nc3, nc4, nc5, nc6, nc7, nc8, nc9, nc10⟩ := HN2.out.elevQ
    obtain ⟨nf0, nf1, nf2, nf3, nf4, nf5, nf6, nf7, nf8, nf9, nf10⟩ := HN2.out.elevQF
    have hl2 := HN2.out.lt
    have hb2 : b < W2.heap.size := Nat.lt_of_lt_of_le hbW HB2.out.size
    have hp2 : w.heap.size + 1 < W2.heap.size := by have := HS1.out; have := HB2.out.size; omega
    go_upto_region 13 with fail
    go_region
    obtain ⟨w7, hw7⟩ : ∃ w7, w7 = ((W2.setCell ⟨W1.heap.size, 2, none⟩ (.slice (some ⟨W2.heap.size, 0, none⟩) 2 2)).alloc (.cells #[.int .i64 (base + X0), .int .i64 (base + X1)] 3)).drew := ⟨_, rfl⟩
    have HN7 : Hid (Blk w7 W1.heap.size 70 #[.string (⟨#[108]⟩ ++ op), .int .i64 dst, .slice (some ⟨W2.heap.size, 0, none⟩) 2 2, .int .i64 0, .int .i64 0, .bool false, .slice none 0 0, .slice none 0 0, .string ⟨#[]⟩, .int .i64 guard, .slice none 0 0]) := Lib.hid (by rw [hw7]; exact (HN2.out.putA 2 _).alloc _)
    have HB7 : Hid (Below W1.heap.size W1 w7) := Lib.hid (by rw [hw7]; exact ((HB2.out.setCell (p := ⟨W1.heap.size, 2, none⟩) (Nat.le_refl _) _).alloc (by simp [World.setCell]; exact HB2.out.size) _).drew)
    have HA9 := Lib.hid (show IRowP (fun b => W1.heap.size < b ∧ b < w7.heap.size) w7 (some ⟨W2.heap.size, 0, none⟩) 2 2 [base + X0, base + X1] from by rw [hw7]; exact row_in (C := W1.heap.size + 1) rfl HN2.out.lt rfl (by decide))
    have HA7 := Lib.hid (show IRowP (fun b => W1.heap.size ≤ b ∧ b < w7.heap.size) w7 (some ⟨W2.heap.size, 0, none⟩) 2 2 [base + X0, base + X1] from by rw [hw7]; exact row_in rfl HB2.out.size rfl (by decide))
    rw [← hw7]
    obtain ⟨q0, q1⟩ := And.intro ((HKO.out.later (show Below W1.heap.size W1 w7 from HB7.out)).cell 0 rfl) ((HKO.out.later HB7.out).cell 1 rfl)
    have hc2 := ((Below.refl W1.heap.size W1).trans HB7.out).cell (p := ⟨b, off + 2, none⟩) hbW
    rw [hcz] at hc2
    clear hw7 nc0 nc1 nc2 nc3 nc4 nc5 nc6 nc7 nc8 nc9 nc10 nf0 nf1 nf2 nf3 nf4 nf5 nf6 nf7 nf8 nf9 nf10
    clear hc0 hc1 p0 p1 hl2 hb2 hp2
    obtain ⟨nc0, nc1, nc2, nc3, nc4, nc5, nc6, nc7, nc8, nc9, nc10⟩ := HN7.out.elevQ
    obtain ⟨nf0, nf1, nf2, nf3, nf4, nf5, nf6, nf7, nf8, nf9, nf10⟩ := HN7.out.elevQF
    obtain ⟨w8, hw8⟩ : ∃ w8, w8 = w7.setCell ⟨W1.heap.size, 3, none⟩ (.int .i64 X2) := ⟨_, rfl⟩
    have HN8 : Hid (Blk w8 W1.heap.size 70 #[.string (⟨#[108]⟩ ++ op), .int .i64 dst, .slice (some ⟨W2.heap.size, 0, none⟩) 2 2, .int .i64 X2, .int .i64 0, .bool false, .slice none 0 0, .slice none 0 0, .string ⟨#[]⟩, .int .i64 guard, .slice none 0 0]) := Lib.hid (by rw [hw8]; exact HN7.out.putA 3 _)
    have HB8 : Hid (Below W1.heap.size W1 w8) := Lib.hid (by rw [hw8]; exact HB7.out.setCell (p := ⟨W1.heap.size, 3, none⟩) (Nat.le_refl _) _)
    have HO8 : Hid (Only [some W1.heap.size] w7 w8) := Lib.hid (by rw [hw8]; exact Only.set (List.mem_cons_self) 3 _ _)
    have HLW : Hid (W1.heap.size < W2.heap.size) := Lib.hid HN2.out.lt
    have HA8 := Lib.hid (HA9.out.keep (Q := fun b => b < w8.heap.size ∧ (b < B ∨ W1.heap.size ≤ b)) (keepOnly HO8.out fun b p => ⟨p.2, by simp; have := p.1; omega, Nat.lt_of_lt_of_le p.2 HO8.out.size, .inr (Nat.le_of_lt p.1)⟩))
    go_upto_region 15 with fail
    rw [← hw8]
    clear hw8 q0 q1 hc2 nc0 nc1 nc2 nc3 nc4 nc5 nc6 nc7 nc8 nc9 nc10 nf0 nf1 nf2 nf3 nf4 nf5 nf6 nf7 nf8 nf9 nf10
    obtain ⟨nc0, nc1, nc2, nc3, nc4, nc5, nc6, nc7, nc8, nc9, nc10⟩ := HN8.out.elevQ
    obtain ⟨zc0, zc1, zc2, zc3, zc4, zc5, zc6, zc7, zc8, zc9, zc10⟩ := (HZ.out.later HB8.out).elevQ
    obtain ⟨zf0, zf1, zf2, zf3, zf4, zf5, zf6, zf7, zf8, zf9, zf10⟩ := (HZ.out.later HB8.out).elevQF
    have HRZ := Lib.hid ((HZ.out.later HB8.out).put11 (.string (⟨#[108]⟩ ++ op)) (.int .i64 dst) (.slice (some ⟨W2.heap.size, 0, none⟩) 2 2) (.int .i64 X2) (.int .i64 0) (.bool false) (.slice none 0 0) (.slice none 0 0) (.string ⟨#[]⟩) (.int .i64 guard) (.slice none 0 0))
    have HEND := Lib.hid (ins_endG (x := ⟨⟨#[108]⟩ ++ op, dst, (some ⟨W2.heap.size, 0, none⟩, 2, 2), X2, 0, false, (none, 0, 0), (none, 0, 0), ⟨#[]⟩, guard, (none, 0, 0)⟩) HB1.out HS1.out HBB.out HB8.out (show InsR (fun b => b < w8.heap.size ∧ (b < B ∨ W1.heap.size ≤ b)) w8 ⟨⟨#[108]⟩ ++ op, dst, (some ⟨W2.heap.size, 0, none⟩, 2, 2), X2, 0, false, (none, 0, 0), (none, 0, 0), ⟨#[]⟩, guard, (none, 0, 0)⟩ (lineI ss ⟨op, args⟩ base dst guard) from by rw [HI.out]; exact ⟨rfl, rfl, HA8.out, rfl, rfl, rfl, URowP.nil _ _, URowP.nil _ _, rfl, rfl, IRowP.nil _ _⟩) (.string (⟨#[108]⟩ ++ op)) (.int .i64 dst) (.slice (some ⟨W2.heap.size, 0, none⟩) 2 2) (.int .i64 X2) (.int .i64 0) (.bool false) (.slice none 0 0) (.slice none 0 0) (.string ⟨#[]⟩) (.int .i64 guard) (.slice none 0 0))
    go_wp2
    refine ret_row rfl (w.heap.size + 2) _ HRZ.out rfl rfl Try.underlying70 Try.infoInsS ?_
    exact ⟨⟨⟨#[108]⟩ ++ op, dst, (some ⟨W2.heap.size, 0, none⟩, 2, 2), X2, 0, false, (none, 0, 0), (none, 0, 0), ⟨#[]⟩, guard, (none, 0, 0)⟩, rfl, HEND.out.1, HEND.out.2⟩
  have g0 := str_no (l := [118, 97, 114]) h0
  have g1 := str_no (l := [99, 111, 110, 116]) h1
  have g2 := str_no (l := [115, 101, 108]) h2
  have g3 := str_no (l := [110, 101, 103]) h3
  have g4 := str_no (l := [42]) h4
  have hlen := HLF.out.two h0 h1 h2 h3 h4
  simp only at hlen
  rw [HAL.out] at hlen
  subst hlen
  obtain ⟨b, off, ha1, hlb, hc0⟩ := (HRW.out _ HB2.out).at_ (i := 0) (by omega)
  have hc1 : W2.cell? ⟨b, off + 1, none⟩ = some (.int .i64 (args.getD 1 0)) := by
    obtain ⟨b', off', ha', _, hc'⟩ := (HRW.out _ HB2.out).at_ (i := 1) (by omega)
    rw [ha1] at ha'
    injection ha' with ha'
    injection ha' with q1 q2
    subst q1 q2
    exact hc'
  rw [Nat.add_zero] at hc0
  subst ha1
  have hbW : b < W1.heap.size := Nat.lt_of_lt_of_le hlb (HBW.out _ (Below.refl _ _))
  obtain ⟨X0, hX0⟩ : ∃ X0, X0 = args.getD 0 0 := ⟨_, rfl⟩
  obtain ⟨hx0a, hx0b⟩ := HLF.out.at_ 0
  simp only at hx0a hx0b
  rw [← hX0] at hc0 hx0a hx0b
  obtain ⟨X1, hX1⟩ : ∃ X1, X1 = args.getD 1 0 := ⟨_, rfl⟩
  obtain ⟨hx1a, hx1b⟩ := HLF.out.at_ 1
  simp only at hx1a hx1b
  rw [← hX1] at hc1 hx1a hx1b
  have hw0 : IntKind.i64.wrap (base + X0) = base + X0 := IntWalk.i64_in _ (by omega)
  have hw1 : IntKind.i64.wrap (base + X1) = base + X1 := IntWalk.i64_in _ (by omega)
  have HI : Hid (lineI ss ⟨op, args⟩ base dst guard = mkI (⟨#[108]⟩ ++ op) dst [base + X0, base + X1] 0 guard []) := Lib.hid (by unfold lineI mkI; simp only [if_neg (show ¬ op = copVar from h0), if_neg (show ¬ op = copCont from h1), if_neg (show ¬ op = copSel from h2), if_neg (show ¬ op = copNeg from h3), if_neg (show ¬ op = copMul from h4), hX0, hX1])
  clear h0 h1 h2 h3 h4 hX0 hX1
  obtain ⟨nc0, nc1, nc2, nc3, nc4, nc5, nc6, nc7, nc8, nc9, nc10⟩ := HN2.out.elevQ
  obtain ⟨nf0, nf1, nf2, nf3, nf4, nf5, nf6, nf7, nf8, nf9, nf10⟩ := HN2.out.elevQF
  have hl2 := HN2.out.lt
  have hb2 : b < W2.heap.size := Nat.lt_of_lt_of_le hbW HB2.out.size
  have hp2 : w.heap.size + 1 < W2.heap.size := by have := HS1.out; have := HB2.out.size; omega
  go_upto_region 3 with fail
  go_region
  obtain ⟨w7, hw7⟩ : ∃ w7, w7 = ((W2.setCell ⟨W1.heap.size, 2, none⟩ (.slice (some ⟨W2.heap.size, 0, none⟩) 2 2)).alloc (.cells #[.int .i64 (base + X0), .int .i64 (base + X1)] 3)).drew := ⟨_, rfl⟩
  have HN7 : Hid (Blk w7 W1.heap.size 70 #[.string (⟨#[108]⟩ ++ op), .int .i64 dst, .slice (some ⟨W2.heap.size, 0, none⟩) 2 2, .int .i64 0, .int .i64 0, .bool false, .slice none 0 0, .slice none 0 0, .string ⟨#[]⟩, .int .i64 guard, .slice none 0 0]) := Lib.hid (by rw [hw7]; exact (HN2.out.putA 2 _).alloc _)
  have HB7 : Hid (Below W1.heap.size W1 w7) := Lib.hid (by rw [hw7]; exact ((HB2.out.setCell (p := ⟨W1.heap.size, 2, none⟩) (Nat.le_refl _) _).alloc (by simp [World.setCell]; exact HB2.out.size) _).drew)
  have HA7 := Lib.hid (show IRowP (fun b => W1.heap.size ≤ b ∧ b < w7.heap.size) w7 (some ⟨W2.heap.size, 0, none⟩) 2 2 [base + X0, base + X1] from by rw [hw7]; exact row_in rfl HB2.out.size rfl (by decide))
  rw [← hw7]
  clear hw7 nc0 nc1 nc2 nc3 nc4 nc5 nc6 nc7 nc8 nc9 nc10 nf0 nf1 nf2 nf3 nf4 nf5 nf6 nf7 nf8 nf9 nf10
  obtain ⟨nc0, nc1, nc2, nc3, nc4, nc5, nc6, nc7, nc8, nc9, nc10⟩ := HN7.out.elevQ
  obtain ⟨zc0, zc1, zc2, zc3, zc4, zc5, zc6, zc7, zc8, zc9, zc10⟩ := (HZ.out.later HB7.out).elevQ
  obtain ⟨zf0, zf1, zf2, zf3, zf4, zf5, zf6, zf7, zf8, zf9, zf10⟩ := (HZ.out.later HB7.out).elevQF
  have HRZ := Lib.hid ((HZ.out.later HB7.out).put11 (.string (⟨#[108]⟩ ++ op)) (.int .i64 dst) (.slice (some ⟨W2.heap.size, 0, none⟩) 2 2) (.int .i64 0) (.int .i64 0) (.bool false) (.slice none 0 0) (.slice none 0 0) (.string ⟨#[]⟩) (.int .i64 guard) (.slice none 0 0))
  have HEND := Lib.hid (ins_endG (x := ⟨⟨#[108]⟩ ++ op, dst, (some ⟨W2.heap.size, 0, none⟩, 2, 2), 0, 0, false, (none, 0, 0), (none, 0, 0), ⟨#[]⟩, guard, (none, 0, 0)⟩) HB1.out HS1.out HBB.out HB7.out (show InsR (fun b => b < w7.heap.size ∧ (b < B ∨ W1.heap.size ≤ b)) w7 ⟨⟨#[108]⟩ ++ op, dst, (some ⟨W2.heap.size, 0, none⟩, 2, 2), 0, 0, false, (none, 0, 0), (none, 0, 0), ⟨#[]⟩, guard, (none, 0, 0)⟩ (lineI ss ⟨op, args⟩ base dst guard) from by rw [HI.out]; exact ⟨rfl, rfl, HA7.out.weak fun b p => ⟨p.2, .inr p.1⟩, rfl, rfl, rfl, URowP.nil _ _, URowP.nil _ _, rfl, rfl, IRowP.nil _ _⟩) (.string (⟨#[108]⟩ ++ op)) (.int .i64 dst) (.slice (some ⟨W2.heap.size, 0, none⟩) 2 2) (.int .i64 0) (.int .i64 0) (.bool false) (.slice none 0 0) (.slice none 0 0) (.string ⟨#[]⟩) (.int .i64 guard) (.slice none 0 0))
  go_wp2
  refine ret_row rfl (w.heap.size + 2) _ HRZ.out rfl rfl Try.underlying70 Try.infoInsS ?_
  exact ⟨⟨⟨#[108]⟩ ++ op, dst, (some ⟨W2.heap.size, 0, none⟩, 2, 2), 0, 0, false, (none, 0, 0), (none, 0, 0), ⟨#[]⟩, guard, (none, 0, 0)⟩, rfl, HEND.out.1, HEND.out.2⟩

end Go.Proofs.Ytpcpbpinhdbjiaa
