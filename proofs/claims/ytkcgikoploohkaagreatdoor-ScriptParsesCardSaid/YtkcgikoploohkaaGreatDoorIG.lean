import Derived.Test.YtkcgikoploohkaaGreatDoorID
import Derived.Test.YtkcgikoploohkaaGreatDoorIC
namespace Go.Proofs.YtkcgikoploohkaaGreatDoor
set_option linter.unusedVariables false
set_option linter.unusedSimpArgs false
set_option maxRecDepth 100000
open Go.RowKit Nums
theorem signed_head {s t : ByteArray} (h : s.data.toList = 45 :: t.data.toList) : ∃ h0 : 0 < s.size,s[0] = 45∧s.extract 1 s.size = t := by
  have hs : s.size = t.size + 1 := by
    have e1 : s.size = s.data.toList.length := Lib.size_eq s
    have e2 : t.size = t.data.toList.length := Lib.size_eq t
    rw [e1,e2,h];simp
  refine ⟨by omega, ?_, ?_⟩
  · have : s[0]'(by omega) = s.data.toList[0]'(by rw [h];simp) := by
      show s.data[0]'_ = _
      rw [Array.getElem_toList]
    rw [this]
    simp [h]
  · apply ByteArray.ext
    apply Array.toList_inj.1
    simp [ByteArray.data_extract,h,hs]
    exact List.take_of_length_le (by rw [Lib.size_eq t];exact Nat.le_refl _)
theorem plain_head {s : ByteArray} (h : s.data.toList.head?≠some 45) : s.size = 0∨∃ h0 : 0 < s.size,((s[0].toNat : Int) == 45) = false := by
  rcases Nat.eq_zero_or_pos s.size with e | e
  · exact Or.inl e
  · refine Or.inr ⟨e, ?_⟩
    have e1 : s.size = s.data.toList.length := Lib.size_eq s
    have e2 : s[0] = s.data.toList[0]'(by omega) := by
      show s.data[0]'_ = _
      rw [Array.getElem_toList]
    rw [List.head?_eq_getElem?,List.getElem?_eq_getElem (by omega),←e2] at h
    rw [beq_eq_false_iff_ne]
    intro h3
    apply h
    congr 1
    apply UInt8.toNat_inj.1
    show s[0].toNat = 45
    omega
set_option maxHeartbeats 1000000 in
theorem rparseI_err (E : Int) (s t : ByteArray) (neg : Bool) (w : World) (h : Signed s neg t) (hE : (E != 0) = true)
    (hp : ∀ w,Calls Tryz.prog 70 #[.string t] w fun e w' => e = .returned (.tuple #[.slice none 0 0,.int .i64 E])∧w = w') :
    Calls Tryz.prog 69 #[.string s] w (ParseErr E w) := by
  have HP := Lib.hid hp;clear hp
  have HE := Lib.hid (below_one w (.cells #[.bool false,.slice none 0 0] 25))
  rcases h with ⟨rfl,h⟩ | ⟨rfl,rfl,h⟩
  · obtain ⟨h0,h1,h2⟩ := signed_head h
    clear h
    have H2 := Lib.hid h2;clear h2
    go_enter Tryz.func69,Tryz.ntmps69
    go_wp2_with fail
    rw [H2.out]
    refine (HP.out _).mono ?_
    rintro e w1 ⟨rfl,rfl⟩
    go_wp2
    exact bodyPost_ret (v := .tuple #[.agg #[.bool false,.slice none 0 0],.int .i64 E]) (by simp [results,Tryz.results69,go_sem]) rfl ⟨rfl,HE.out⟩
  · rcases plain_head h with hz | ⟨h0,hc⟩
    · go_enter Tryz.func69,Tryz.ntmps69
      go_wp2_with fail
      refine (HP.out _).mono ?_
      rintro e w1 ⟨rfl,rfl⟩
      go_wp2
      exact bodyPost_ret (v := .tuple #[.agg #[.bool false,.slice none 0 0],.int .i64 E]) (by simp [results,Tryz.results69,go_sem]) rfl ⟨rfl,HE.out⟩
    · go_enter Tryz.func69,Tryz.ntmps69
      go_wp2_with fail
      refine (HP.out _).mono ?_
      rintro e w1 ⟨rfl,rfl⟩
      go_wp2
      exact bodyPost_ret (v := .tuple #[.agg #[.bool false,.slice none 0 0],.int .i64 E]) (by simp [results,Tryz.results69,go_sem]) rfl ⟨rfl,HE.out⟩
theorem rparseN (k : Nat) (t : ByteArray) (w : World) (N : Nat) (hs : t.size≤300) (h0 : 0 < t.size) (hd : allDig t) (hN : numOf t.data.toList = N) (hk : (limbs N).length≤k) :
    Calls Tryz.prog 70 #[.string t] w fun e w' => ∃ a m c,e = .returned (.tuple #[.slice a m c,.int .i64 0])∧m≤k∧Row w' a m c (limbs N)∧Below w.heap.size w w' := by
  subst hN
  rcases Nat.lt_or_ge 18 t.size with h | h
  · refine (rparse_ok t w hs h hd).mono ?_
    rintro e w' ⟨a,m,c,h1,h2,h3,h4⟩
    exact ⟨a,m,c,h1,by omega,h3,h4⟩
  · refine (rparse_short t w h h0 hd).mono ?_
    rintro e w' ⟨a,m,c,h1,h2,h3,h4⟩
    exact ⟨a,m,c,h1,by omega,h3,h4⟩
set_option maxHeartbeats 1000000 in
theorem rparseI_ok (k : Nat) (Z : Int) (s t : ByteArray) (neg : Bool) (N : Nat) (w : World) (h : Signed s neg t) (hs : t.size≤300) (h0 : 0 < t.size) (hd : allDig t) (hN : numOf t.data.toList = N) (hZ : sv neg N = Z) (hk : (limbs N).length≤k) (hkb : k≤100) :
    Calls Tryz.prog 69 #[.string s] w (ParseK k Z w) := by
  have HD := Lib.hid hd;clear hd
  have HN := Lib.hid hN;clear hN
  have HKZ : Hid ((limbs Z.natAbs).length≤k) := by show _≤_;rw [←hZ,natAbs_sv];exact hk
  have HZ : Hid (sv neg (val (limbs N)) = Z) := by show _ = _;rw [val_limbs];exact hZ
  clear hZ
  have HK := Lib.hid hk;clear hk
  have HX := Lib.hid (box_new w (.bool false) (.slice none 0 0))
  have HW := Lib.hid (below_one w (.cells #[.bool false,.slice none 0 0] 25))
  rcases h with ⟨rfl,h⟩ | ⟨rfl,rfl,h⟩
  · obtain ⟨h0',h1,h2⟩ := signed_head h
    clear h
    have H2 := Lib.hid h2;clear h2
    go_enter Tryz.func69,Tryz.ntmps69
    go_wp2_with fail
    rw [H2.out]
    refine (rparseN k _ _ N hs h0 HD.out HN.out HK.out).mono ?_
    rintro e w1 ⟨a,m,c,rfl,hm,hrow,hb⟩
    have R1 := Lib.hid hrow;clear hrow
    have X1 := Lib.hid (HX.out.later hb)
    have HB := Lib.hid (bthen HW.out hb);clear hb
    go_wp2_with fail
    refine (rnormI k Z R1.out HZ.out (by omega) HKZ.out).mono ?_
    rintro e w2 ⟨a2,m2,c2,rfl,hm2,hrow,hb⟩
    have R2 := Lib.hid hrow;clear hrow
    obtain ⟨d0,d1,g0,g1,k0⟩ := X1.out.later hb
    have HB2 := Lib.hid (bthen HB.out hb);clear hb
    go_wp2
    exact bodyPost_ret (v := .tuple #[.agg #[.bool (decide (Z < 0)),.slice a2 m2 c2],.int .i64 0]) (by simp [results,Tryz.results69,go_sem, *]) rfl ⟨a2,m2,c2,rfl,hm2,R2.out.put d0 d1 _ _,below_put HB2.out (Nat.le_refl _) _ _⟩
  · rcases plain_head h with hz | ⟨h0',hc⟩
    · exfalso;omega
    · go_enter Tryz.func69,Tryz.ntmps69
      go_wp2_with fail
      refine (rparseN k _ _ N hs h0 HD.out HN.out HK.out).mono ?_
      rintro e w1 ⟨a,m,c,rfl,hm,hrow,hb⟩
      have R1 := Lib.hid hrow;clear hrow
      have X1 := Lib.hid (HX.out.later hb)
      have HB := Lib.hid (bthen HW.out hb);clear hb
      go_wp2_with fail
      refine (rnormI k Z R1.out HZ.out (by omega) HKZ.out).mono ?_
      rintro e w2 ⟨a2,m2,c2,rfl,hm2,hrow,hb⟩
      have R2 := Lib.hid hrow;clear hrow
      obtain ⟨d0,d1,g0,g1,k0⟩ := X1.out.later hb
      have HB2 := Lib.hid (bthen HB.out hb);clear hb
      go_wp2
      exact bodyPost_ret (v := .tuple #[.agg #[.bool (decide (Z < 0)),.slice a2 m2 c2],.int .i64 0]) (by simp [results,Tryz.results69,go_sem, *]) rfl ⟨a2,m2,c2,rfl,hm2,R2.out.put d0 d1 _ _,below_put HB2.out (Nat.le_refl _) _ _⟩
end Go.Proofs.YtkcgikoploohkaaGreatDoor
