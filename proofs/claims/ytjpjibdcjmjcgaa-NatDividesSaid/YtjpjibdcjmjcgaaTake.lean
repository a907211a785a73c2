/- What takeTimes and giveBack do to a window of a row that the call owns. -/
import Derived.Test.YtjpjibdcjmjcgaaGcd
import Derived.Test.YtjpjibdcjmjcgaaNumsF
import Derived.Deep.RegionWith
namespace Go.Proofs.Ytjpjibdcjmjcgaa
open Go.RowKit Nums

/-- cs with zs laid over it from place i on -/
def win (cs : List Nat) (i : Nat) (zs : List Nat) : List Nat := cs.take i ++ (zs ++ cs.drop (i + zs.length))

theorem length_win {cs zs : List Nat} {i : Nat} (h : i + zs.length ≤ cs.length) : (win cs i zs).length = cs.length := by simp [win]; omega

theorem getD_win {cs zs : List Nat} {i k : Nat} (h : i + zs.length ≤ cs.length) (hk : k < zs.length) : (win cs i zs).getD (i + k) 0 = zs.getD k 0 := by
  have hi : i ≤ cs.length := by omega
  have h2 : ¬ i + k < i := by omega
  simp [win, List.getElem?_append, hi, hk, Nat.min_eq_left, h2]

theorem set_win {cs zs : List Nat} {i k u : Nat} (h : i + zs.length ≤ cs.length) (hk : k < zs.length) : (win cs i zs).set (i + k) u = win cs i (zs.set k u) := by
  have hi : (cs.take i).length = i := by simp; omega
  unfold win
  rw [List.set_append_right _ _ (by rw [hi]; omega), hi, show i + k - i = k by omega, List.set_append_left _ _ hk, List.length_set]

theorem win_self {cs : List Nat} {i m : Nat} (h : i + m ≤ cs.length) : win cs i ((cs.drop i).take m) = cs := by
  unfold win
  have hl : ((cs.drop i).take m).length = m := by simp; omega
  rw [hl, ← List.drop_drop, List.take_append_drop, List.take_append_drop]

theorem small_win {cs zs : List Nat} {i : Nat} (h : Small cs) (hz : Small zs) : Small (win cs i zs) :=
  small_append (small_take h i) (small_append hz (fun x hx => h x (List.mem_of_mem_drop hx)))

theorem Mem.grown {w w' : World} {g gb : Nat} {cs : List Nat} (h : Mem w gb cs) (hg : w.grownBy w' (some g)) (hne : gb ≠ g) : Mem w' gb cs := h.keep (hg.block gb h.lt (by simpa using hne))

theorem getD_take {cs : List Nat} {n k : Nat} (hk : k < n) : (cs.take n).getD k 0 = cs.getD k 0 := by simp [List.getElem?_take, hk]

theorem sub32_int (X Y Bo : Int) (x y b : Nat) (w : World) (hX : X = (x : Int)) (hY : Y = (y : Int)) (hB : Bo = (b : Int)) (hx : x < 4294967296) (hy : y < 4294967296) (hb : b ≤ 1) :
    Calls Try.prog 34 #[.int .u32 X, .int .u32 Y, .int .u32 Bo] w fun e w' => (∃ d b' : Nat, e = .returned (.tuple #[.int .u32 (d : Nat), .int .u32 (b' : Nat)]) ∧ SubBit x y b d b') ∧ w = w' := by
  subst hX; subst hY; subst hB
  exact sub32_any x y b w hx hy hb

set_option maxHeartbeats 2000000 in
theorem takeTimes_any (g i n cap gb capb t : Nat) (cs A ds : List Nat) (w : World) (T : Int) (hT : T = (t : Int)) (ht : t < 4294967296)
    (hm : Mem w g (win cs i A)) (hA : A.length = n + 1) (hAs : Small A) (hi : i + (n + 1) ≤ cs.length) (hb : Mem w gb ds) (hds : Small ds) (hnd : n ≤ ds.length) (hne : gb ≠ g) (hn : n ≤ 1000000000) (hil : i ≤ 1000000000) :
    Calls Try.prog 59 #[.slice (some ⟨g, i, none⟩) (n + 1) cap, .slice (some ⟨gb, 0, none⟩) n capb, .int .u32 T] w fun e w' =>
      (∃ (zs : List Nat) (b' : Nat), e = .returned (.bool (decide (0 < b'))) ∧ b' ≤ 1 ∧ zs.length = n + 1 ∧ Small zs ∧ Mem w' g (win cs i zs) ∧ val zs + t * val (ds.take n) = val A + 4294967296 ^ (n + 1) * b') ∧ w.grownBy w' (some g) := by
  subst hT
  have HM := Lib.hid hm; clear hm
  have HB := Lib.hid hb; clear hb
  have HDS := Lib.hid hds; clear hds
  have HA := Lib.hid hA; clear hA
  have hne' : gb ≠ g := hne
  have HNE := Lib.hid hne; clear hne
  go_enter Try.func59, Try.ntmps59
  go_wp2
  go_loopw [7, 8, 13] (fun cv bv kv wr => ∃ (k c b : Nat) (zs : List Nat), k ≤ n ∧ kv = .int .i64 (k : Int) ∧ cv = .int .u64 (c : Int) ∧ c < 4294967296 ∧ bv = .int .u32 (b : Int) ∧ b ≤ 1 ∧ Hid (zs.length = n + 1 ∧ Small zs ∧ Mem wr g (win cs i zs) ∧ TakeAt A (ds.take n) t zs k c b) ∧ w.grownBy wr (some g)) (fun _ _ kv _ => n - (intOf kv).toNat)
  case atStart => exact ⟨0, 0, 0, A, Nat.zero_le _, rfl, rfl, by omega, rfl, by omega, ⟨HA.out, hAs, HM.out, by simp [val], fun _ _ => rfl⟩, grown_refl _ _⟩
  case round =>
    obtain ⟨k, c, b, zs, hk, rfl, rfl, hc, rfl, hb1, HZ, hgr⟩ := hrel
    have hlen : i + zs.length ≤ cs.length := by rw [HZ.out.1]; exact hi
    have HLEN := Lib.hid hlen; clear hlen
    have hzl : (win cs i zs).length = cs.length := length_win HLEN.out
    have HZL := Lib.hid hzl; clear hzl
    by_cases hk0 : k < n
    · have hx := HZ.out.2.2.1.cell (i + k) (by rw [HZL.out]; omega)
      have hxf := HZ.out.2.2.1.free (i + k)
      rw [getD_win HLEN.out (by rw [HZ.out.1]; omega)] at hx
      have hy := (HB.out.grown hgr HNE.out).cell k (by omega)
      have hxl := getD_lt zs HZ.out.2.1 k
      have hyl := getD_lt ds HDS.out k
      obtain ⟨x, hxe⟩ : ∃ x, x = zs.getD k 0 := ⟨_, rfl⟩
      obtain ⟨y, hye⟩ : ∃ y, y = ds.getD k 0 := ⟨_, rfl⟩
      rw [← hxe] at hx hxl
      rw [← hye] at hy hyl
      have HXE := Lib.hid hxe; clear hxe
      have hye' : y = (ds.take n).getD k 0 := by rw [getD_take hk0]; exact hye
      have HYE := Lib.hid hye'; clear hye' hye
      have hroom := mul_room c y t 0 hc hyl ht (by omega)
      have hr1 : (y : Int) * (t : Int) ≤ 18446744065119617025 := by have := hroom.1; rw [← Int.natCast_mul]; omega
      have hr0 : 0 ≤ (y : Int) * (t : Int) := by rw [← Int.natCast_mul]; omega
      have HR := Lib.hid hroom; clear hroom
      have hi0 : (k : Int) < (n : Int) + 1 := by omega
      go_wp2_with fail
      refine (sub32_int _ _ _ x ((c + y * t) % 4294967296) b _ rfl (by simp) rfl hxl (Nat.mod_lt _ (by omega)) hb1).mono ?_
      rintro e w' ⟨⟨d, b', rfl, hsb⟩, rfl⟩
      have HSB := Lib.hid hsb; clear hsb
      go_wp2
      go_roundw
      case rel =>
        refine ⟨k + 1, (c + y * t) / 4294967296, b', zs.set k d, by omega, by go_num, by go_num, by have := HR.out.2; simpa using this, rfl, HSB.out.2.1, ⟨by simp [HZ.out.1], small_set HZ.out.2.1 _ _ HSB.out.1, ?_, ?_⟩, grown_set hgr _ _⟩
        · have h := HZ.out.2.2.1.setI (i + k) _ d rfl
          rw [set_win HLEN.out (by rw [HZ.out.1]; omega)] at h
          exact h
        · exact HZ.out.2.2.2.step (lo := (c + y * t) % 4294967296) (by rw [HZ.out.1]; omega) HXE.out HYE.out (by omega) HSB.out.2.2
      case measure => simp [intOf]; omega
    · obtain rfl : n = k := by omega
      have hx := HZ.out.2.2.1.cell (i + n) (by rw [HZL.out]; omega)
      have hxf := HZ.out.2.2.1.free (i + n)
      rw [getD_win HLEN.out (by rw [HZ.out.1]; omega)] at hx
      have hxl := getD_lt zs HZ.out.2.1 n
      obtain ⟨x, hxe⟩ : ∃ x, x = zs.getD n 0 := ⟨_, rfl⟩
      rw [← hxe] at hx hxl
      have HXE := Lib.hid hxe; clear hxe
      have hi0 : (n : Int) < (n : Int) + 1 := by omega
      go_wp2_with fail
      refine (sub32_int _ _ _ x c b _ rfl (by omega) rfl hxl hc hb1).mono ?_
      rintro e w' ⟨⟨d, b', rfl, hsb⟩, rfl⟩
      have HSB := Lib.hid hsb; clear hsb
      go_wp2
      go_ret
      refine ⟨⟨zs.set n d, b', ret_bool (by simp), HSB.out.2.1, by simp [HZ.out.1], small_set HZ.out.2.1 _ _ HSB.out.1, ?_, ?_⟩, grown_set hgr _ _⟩
      · have h := HZ.out.2.2.1.setI (i + n) _ d rfl
        rw [set_win HLEN.out (by rw [HZ.out.1]; omega)] at h
        exact h
      · exact HZ.out.2.2.2.last HZ.out.1 HA.out (by simp; omega) HXE.out HSB.out.2.2

theorem add32_int (X Y Bo : Int) (x y b : Nat) (w : World) (hX : X = (x : Int)) (hY : Y = (y : Int)) (hB : Bo = (b : Int)) (hx : x < 4294967296) (hy : y < 4294967296) (hb : b ≤ 1) :
    Calls Try.prog 61 #[.int .u32 X, .int .u32 Y, .int .u32 Bo] w fun e w' => e = .returned (.tuple #[.int .u32 ((x + y + b) % 4294967296 : Nat), .int .u32 ((x + y + b) / 4294967296 : Nat)]) ∧ w = w' := by
  subst hX; subst hY; subst hB
  refine (add32_any x y b w hx hy hb).mono ?_
  rintro e w' ⟨⟨d, c, rfl, h1, h2, h3⟩, rfl⟩
  have e1 : d = (x + y + b) % 4294967296 := by omega
  have e2 : c = (x + y + b) / 4294967296 := by omega
  exact ⟨by rw [← e1, ← e2], rfl⟩

theorem grown_drew {w wr : World} {row : Option Nat} (h : w.grownBy wr row) : w.grownBy wr.drew row := ⟨h.os, h.tape, h.output, h.size, h.block⟩

set_option maxHeartbeats 2000000 in
theorem giveBack_any (g i n cap gb capb : Nat) (cs A ds : List Nat) (w : World)
    (hm : Mem w g (win cs i A)) (hA : A.length = n + 1) (hAs : Small A) (hi : i + (n + 1) ≤ cs.length) (hb : Mem w gb ds) (hds : Small ds) (hnd : n ≤ ds.length) (hne : gb ≠ g) (hn : n ≤ 1000000000) (hil : i ≤ 1000000000) :
    Calls Try.prog 60 #[.slice (some ⟨g, i, none⟩) (n + 1) cap, .slice (some ⟨gb, 0, none⟩) n capb] w fun e w' =>
      (∃ (zs : List Nat) (c' : Nat), e = .returned (.tuple #[]) ∧ zs.length = n + 1 ∧ Small zs ∧ Mem w' g (win cs i zs) ∧ val zs + 4294967296 ^ (n + 1) * c' = val A + val (ds.take n)) ∧ w.grownBy w' (some g) := by
  have HM := Lib.hid hm; clear hm
  have HB := Lib.hid hb; clear hb
  have HDS := Lib.hid hds; clear hds
  have HA := Lib.hid hA; clear hA
  have HNE := Lib.hid hne; clear hne
  go_enter Try.func60, Try.ntmps60
  go_wp2
  go_loopw [4, 8] (fun cv kv wr => ∃ (k c : Nat) (zs : List Nat), k ≤ n ∧ kv = .int .i64 (k : Int) ∧ cv = .int .u32 (c : Int) ∧ c ≤ 1 ∧ Hid (zs.length = n + 1 ∧ Small zs ∧ Mem wr g (win cs i zs) ∧ GiveAt A (ds.take n) zs k c) ∧ w.grownBy wr (some g)) (fun _ kv _ => n - (intOf kv).toNat)
  case atStart => exact ⟨0, 0, A, Nat.zero_le _, rfl, rfl, by omega, ⟨HA.out, hAs, HM.out, by simp [val], fun _ _ => rfl⟩, grown_refl _ _⟩
  case round =>
    obtain ⟨k, c, zs, hk, rfl, rfl, hc, HZ, hgr⟩ := hrel
    have HLEN : Hid (i + zs.length ≤ cs.length) := by
      have h1 := HZ.out.1
      exact (by omega : i + zs.length ≤ cs.length)
    have HZL : Hid ((win cs i zs).length = cs.length) := length_win HLEN.out
    by_cases hk0 : k < n
    · have hx := HZ.out.2.2.1.cell (i + k) (by rw [HZL.out]; omega)
      have hxf := HZ.out.2.2.1.free (i + k)
      rw [getD_win HLEN.out (by rw [HZ.out.1]; omega)] at hx
      have hy := (HB.out.grown hgr HNE.out).cell k (by omega)
      have hxl := getD_lt zs HZ.out.2.1 k
      have hyl := getD_lt ds HDS.out k
      obtain ⟨x, hxe⟩ : ∃ x, x = zs.getD k 0 := ⟨_, rfl⟩
      obtain ⟨y, hye⟩ : ∃ y, y = ds.getD k 0 := ⟨_, rfl⟩
      rw [← hxe] at hx hxl
      rw [← hye] at hy hyl
      have HXE := Lib.hid hxe; clear hxe
      have hye' : y = (ds.take n).getD k 0 := by rw [getD_take hk0]; exact hye
      have HYE := Lib.hid hye'; clear hye' hye
      have hi0 : (k : Int) < (n : Int) + 1 := by omega
      have hi1 : (k : Int) < (n : Int) := by omega
      have hi2 : (0 : Int) ≤ (k : Int) := by omega
      obtain ⟨u, hu⟩ : ∃ u, u = (x + y + c) % 4294967296 := ⟨_, rfl⟩
      obtain ⟨c', hc'⟩ : ∃ c', c' = (x + y + c) / 4294967296 := ⟨_, rfl⟩
      have hul : u < 4294967296 := by omega
      have hcl : c' ≤ 1 := by omega
      have HU : Hid (u + 4294967296 * c' = x + y + c) := by have : u + 4294967296 * c' = x + y + c := by omega
                                                            exact this
      have HC : ∀ wx, Calls Try.prog 61 #[.int .u32 (x : Int), .int .u32 (y : Int), .int .u32 (c : Int)] wx fun e w' => e = .returned (.tuple #[.int .u32 (u : Nat), .int .u32 (c' : Nat)]) ∧ wx = w' := by
        intro wx
        rw [hu, hc']
        exact add32_int _ _ _ x y c wx rfl rfl rfl hxl hyl hc
      have HCC := Lib.hid HC; clear HC hu hc'
      go_wp2
      go_region_with (go_at_call 61; refine (HCC.out _).mono ?_; rintro e wz ⟨rfl, rfl⟩)
      all_goals
        go_wp2
        go_roundw
        case rel =>
          refine ⟨k + 1, c', zs.set k u, by omega, by go_num, rfl, hcl, ⟨by simp [HZ.out.1], small_set HZ.out.2.1 _ _ hul, ?_, ?_⟩, ?_⟩
          · have h := HZ.out.2.2.1.setI (i + k) _ u rfl
            rw [set_win HLEN.out (by rw [HZ.out.1]; omega)] at h
            exact h.keep rfl
          · exact HZ.out.2.2.2.step (by rw [HZ.out.1]; omega) HXE.out HYE.out HU.out
          · exact grown_drew (grown_set hgr _ _)
        case measure => simp [intOf]; omega
    · obtain rfl : n = k := by omega
      have hx := HZ.out.2.2.1.cell (i + n) (by rw [HZL.out]; omega)
      have hxf := HZ.out.2.2.1.free (i + n)
      rw [getD_win HLEN.out (by rw [HZ.out.1]; omega)] at hx
      have hxl := getD_lt zs HZ.out.2.1 n
      obtain ⟨x, hxe⟩ : ∃ x, x = zs.getD n 0 := ⟨_, rfl⟩
      rw [← hxe] at hx hxl
      have HXE := Lib.hid hxe; clear hxe
      have hi0 : (n : Int) < (n : Int) + 1 := by omega
      go_wp2
      go_end0
      refine ⟨⟨zs.set n ((x + c) % 4294967296), (x + c) / 4294967296, rfl, by simp [HZ.out.1], small_set HZ.out.2.1 _ _ (Nat.mod_lt _ (by omega)), ?_, ?_⟩, grown_set hgr _ _⟩
      · have h := HZ.out.2.2.1.setI (i + n) (((x : Int) + (c : Int)) % 4294967296) ((x + c) % 4294967296) (by simp)
        rw [set_win HLEN.out (by rw [HZ.out.1]; omega)] at h
        exact h
      · exact HZ.out.2.2.2.last HZ.out.1 HA.out (by simp; omega) HXE.out (by omega)
end Go.Proofs.Ytjpjibdcjmjcgaa
