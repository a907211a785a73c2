import Derived.Test.YtkcgikoploohkaaGreatDoorRC
import Derived.Test.YtkcgikoploohkaaGreatDoorND
import Derived.Deep.LoopGhost
import Derived.Deep.RegionWith
namespace Go.Proofs.YtkcgikoploohkaaGreatDoor
set_option linter.unusedVariables false
set_option linter.unusedSimpArgs false
set_option maxRecDepth 100000
open Go.RowKit Nums
theorem meas_stepX (s : ByteArray) (dg : UInt8) (h : s.size≤900) : 1000 - ([dg] ++ s.data.toList).length < 1000 - s.size := by
  have e : s.data.toList.length = s.size := by simp
  rw [List.length_append,e,List.length_singleton];omega
set_option maxHeartbeats 2000000 in
theorem rprint_longX (a0 : Option Addr) (n0 c0 : Nat) (xs : List Nat) (w : World) (h0 : Row w a0 n0 c0 xs) (hn : n0≤100) (hN : val xs < 10 ^ 700) (u : Nat) (hs : Calls Tryz.prog 115 #[.slice a0 n0 c0] w fun e w' => e = .returned (.tuple #[.int .u64 (u : Int),.bool false])∧w = w') :
    Calls Tryz.prog 74 #[.slice a0 n0 c0] w fun e w' => e = .returned (.string (decStr (val xs)))∧Below w.heap.size w w' := by
  have HS := Lib.hid hs;clear hs
  have LX := Lib.hid (bits_le h0)
  have H0 := Lib.hid h0;clear h0
  obtain ⟨N,hNN⟩ : ∃ N,N = val xs := ⟨_,rfl⟩
  rw [←hNN] at hN LX ⊢
  have VX := Lib.hid hNN.symm;clear hNN
  have HN := Lib.hid hN;clear hN
  go_enter Tryz.func74,Tryz.ntmps74
  go_wp2_with fail
  refine HS.out.mono ?_
  rintro e w' ⟨rfl,rfl⟩
  go_wp2_with fail
  refine (of_any a0 n0 c0 xs w H0.out (by omega)).mono ?_
  rw [VX.out]
  rintro e w1 ⟨va,ma,ca,rfl,hma,hra,hb1⟩
  have hmab : ma≤32000 := by have := LX.out;omega
  have HRA := Lib.hid hra;clear hra hma
  have HB1 := Lib.hid hb1;clear hb1
  go_wp2_with fail
  refine (of_any _ 1 1 [10] _ (row_one w1 10 10 rfl (by omega)) (by omega)).mono ?_
  rw [show val [10] = 10 from rfl]
  rintro e w2 ⟨vb,mb,cb,rfl,hmb,hrb,hb2⟩
  have hmbb : mb≤32000 := by have := bits_len 10 4 (by omega);omega
  have HRB := Lib.hid hrb;clear hrb hmb
  have hb3 : Below w1.heap.size w1 w2 := ((Below.refl _ _).alloc (Nat.le_refl _) _).trans (hb2.mono (by simp))
  replace HRA := Lib.hid (brow_below (Nat.le_refl _) hb3 HRA.out)
  have HB2 := Lib.hid (HB1.out.trans (hb3.mono HB1.out.size));clear hb2 hb3
  go_wp2
  go_loopw [6,8] (fun v t wr => ∃ (X : Nat) (ao : Option Addr) (mo co : Nat) (s : ByteArray),v = .slice ao mo co∧t = .string s∧mo≤32000∧Hid (BRow wr ao mo co (bitsOf X)∧TextAt N X s)∧Below w2.heap.size w2 wr) (fun _ t _ => 1000 - strLen t)
  case atStart => exact ⟨N,va,ma,ca,⟨#[]⟩,rfl,rfl,hmab,⟨HRA.out,TextAt.start N⟩,Below.refl _ _⟩
  case round =>
    obtain ⟨X,ao,mo,co,s,rfl,rfl,hmo,HZ,hbr⟩ := hrel
    have hsz : s.size≤900 := Nat.le_trans (HZ.out.2.len HN.out (by omega)) (by omega)
    have HRBr := Lib.hid (brow_below (Nat.le_refl _) hbr HRB.out)
    by_cases hgo : s.size = 0∨0 < mo
    · have HGO : Hid (s.size = 0∨0 < X) := by
        rcases hgo with h | h
        · exact Or.inl h
        · refine Or.inr ?_
          rcases Nat.eq_zero_or_pos X with e | e
          · exfalso;have := HZ.out.1.1;rw [e,bits_zero] at this;have h3 : 0 = mo := this;omega
          · exact e
      have hcases : (s.toList.isEmpty = true)∨(s.toList.isEmpty = false∧0 < mo) := by
        rcases Nat.eq_zero_or_pos s.size with h | h
        · exact Or.inl (str_empty h)
        · exact Or.inr ⟨str_some h,by omega⟩
      clear hgo
      rcases hcases with h1 | ⟨h1,hmo0⟩
      all_goals
        go_wp2_with fail
        refine (bdiv_any ao vb mo co mb cb X 10 wr HZ.out.1 HRBr.out (by omega) (by omega) (by omega)).mono ?_
        rintro e w3 ⟨q,mq,cq,r,mr,cr,rfl,hmq,hmr,hq,hr,hb3⟩
        have hmqb : mq≤32000 := by
          have h1 := bits_mono (Nat.div_le_self X 10)
          have h2 : (bitsOf X).length = mo := HZ.out.1.1
          omega
        have hmrb : mr≤32000 := by
          have h1 := bits_len (X % 10) 4 (by omega)
          omega
        have HQ := Lib.hid hq;clear hq hmq
        have HMR := Lib.hid hmr;clear hmr
        have HB3 := Lib.hid (hbr.trans (hb3.mono hbr.size));clear hb3
        obtain ⟨hlr,-,-,-,b0,o0,hor0,hc0⟩ := hr
        have HLR := Lib.hid hlr;clear hlr
        have HCR := Lib.hid hc0;clear hc0
        rcases (show _∨Hid _ from hor0) with rfl | hor0
        all_goals
          go_wp2
          go_loop [11,12] (fun d t => ∃ (k dd : Nat),k≤mr∧t = .int .i64 ((k : Int) - 1)∧d = .int .i64 (dd : Int)∧dd≤9∧Hid (dd = bval ((bitsOf (X % 10)).drop k))) (fun _ t => (intOf t + 1).toNat)
          case atStart => exact ⟨mr,0,Nat.le_refl _,rfl,rfl,by omega,by rw [List.drop_eq_nil_of_le (by rw [HLR.out];exact Nat.le_refl _)];exact rfl⟩
          case round =>
            obtain ⟨k,dd,hk,rfl,rfl,hdd,HDD⟩ := hrel
            by_cases hk0 : 0 < k
            · first
              | (exfalso;have := hor0.out;omega)
              | (have hcell := (HCR.out (k - 1) (by omega)).2
                 have e : ((k : Int) - 1).toNat = k - 1 := by omega
                 have HDR := Lib.hid (bval_drop (bitsOf (X % 10)) k hk0 (by rw [HLR.out];exact hk))
                 have HDL := Lib.hid (bval_drop_le (bitsOf (X % 10)) (k - 1))
                 obtain ⟨y,hy⟩ : ∃ y,y = (bitsOf (X % 10)).getD (k - 1) false := ⟨_,rfl⟩
                 rw [←hy] at hcell HDR
                 clear hy
                 have HX9 : Hid (bval (bitsOf (X % 10))≤9) := by rw [bval_bits];exact (by omega : X % 10≤9)
                 cases y
                 · have hnew : 2 * dd≤9 := by have h1 := HDR.out;have h2 := HDL.out;have h3 := HX9.out;have h4 := HDD.out;have e0 : bnum false = 0 := rfl;omega
                   go_wp2
                   go_round
                   case rel => exact ⟨k - 1,2 * dd,by omega,by go_num,by go_num,hnew,by have h1 := HDR.out;have h4 := HDD.out;have e0 : bnum false = 0 := rfl;rw [h1,←h4,e0,Nat.zero_add];exact rfl⟩
                   case measure => simp [intOf];omega
                 · have hnew : 2 * dd + 1≤9 := by have h1 := HDR.out;have h2 := HDL.out;have h3 := HX9.out;have h4 := HDD.out;have e0 : bnum true = 1 := rfl;omega
                   go_wp2
                   go_round
                   case rel => exact ⟨k - 1,2 * dd + 1,by omega,by go_num,by go_num,hnew,by have h1 := HDR.out;have h4 := HDD.out;have e0 : bnum true = 1 := rfl;rw [h1,←h4,e0,Nat.add_comm];exact rfl⟩
                   case measure => simp [intOf];omega)
            · obtain rfl : k = 0 := by omega
              have HDX : Hid (dd = X % 10) := by have h := HDD.out;rw [List.drop_zero,bval_bits] at h;exact h
              have hcv := run_convert_bytes_back (P := Tryz.prog) (w3.alloc (.cells #[.int .u8 (48 + (dd : Int))] 5)) 22 9 5 ⟨w3.heap.size,0,none⟩ 1 [UInt8.ofNat (48 + dd)] Tryz.underlying22 Tryz.underlying5 Tryz.underlying9 (by
                intro j hj
                have hj0 : j = 0 := by simpa using hj
                subst hj0
                rw [show [UInt8.ofNat (48 + dd)][0] = UInt8.ofNat (48 + dd) from rfl,dig_of dd hdd]
                simp [Addr.add])
              rw [show [UInt8.ofNat (48 + dd)].length = 1 from rfl] at hcv
              have HST := Lib.hid (HZ.out.2.step HGO.out)
              rw [←HDX.out] at HST
              obtain ⟨dg,hdg⟩ : ∃ dg,dg = UInt8.ofNat (48 + dd) := ⟨_,rfl⟩
              rw [←hdg] at hcv HST
              clear hdg
              go_wp2
              go_roundw
              case rel => exact ⟨X / 10,q,mq,cq,_,rfl,rfl,hmqb,⟨brow_below (Nat.le_refl _) ((Below.refl _ _).alloc (Nat.le_refl _) _) HQ.out,HST.out⟩,HB3.out.alloc HB3.out.size _⟩
              case measure => exact meas_stepX s dg hsz
    · have h1 := str_some (s := s) (by omega)
      have hm0 : mo = 0 := by omega
      have HX0 : Hid (X = 0) := bits_none (by rw [HZ.out.1.1];exact hm0)
      have HD : Hid (s = decStr N) := by
        have h := HZ.out.2
        rw [HX0.out] at h
        exact h.done (by omega)
      clear hgo
      subst hm0
      go_wp2
      go_ret
      exact ⟨by rw [←HD.out];exact rfl,HB2.out.trans (hbr.mono HB2.out.size)⟩
theorem pow_big10 {x n k : Nat} (h : x < 4294967296 ^ n) (hn : 10 * n≤k) : x < 10 ^ k := by
  have h2 : (4294967296 : Nat) ^ n≤(10 ^ 10) ^ n := Nat.pow_le_pow_left (by decide) _
  rw [←Nat.pow_mul] at h2
  exact Nat.lt_of_lt_of_le h (Nat.le_trans h2 (Nat.pow_le_pow_right (by decide) hn))
theorem rprintX {a0 : Option Addr} {n0 c0 : Nat} {xs : List Nat} {w : World} (T : ByteArray) (h0 : Row w a0 n0 c0 xs) (hn : n0≤70) (hT : decStr (val xs) = T) :
    Calls Tryz.prog 74 #[.slice a0 n0 c0] w fun e w' => e = .returned (.string T)∧Below w.heap.size w w' := by
  subst hT
  have h100 : n0≤100 := by omega
  have h700 : 10 * n0≤700 := by omega
  have hbig : n0≤100000000 := by omega
  have HN := Lib.hid (pow_big10 (val_pow h0 (Nat.le_refl _)) h700)
  obtain ⟨u,p,hu,hp,hs⟩ := short_det a0 n0 c0 xs w h0 hbig
  cases p
  · exact rprint_longX a0 n0 c0 xs w h0 h100 HN.out u hs
  · rw [←hp rfl];exact rprint_short a0 n0 c0 xs w u hu hs
end Go.Proofs.YtkcgikoploohkaaGreatDoor
