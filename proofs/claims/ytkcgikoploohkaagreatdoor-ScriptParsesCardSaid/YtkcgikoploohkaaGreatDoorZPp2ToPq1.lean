import Derived.Test.YtkcgikoploohkaaGreatDoorZSo1ToSo2
import Derived.Test.YtkcgikoploohkaaGreatDoorPp1
import Derived.Test.YtkcgikoploohkaaGreatDoorZPa1ToPa2
import Derived.Deep.DeepCutAuto
namespace Go.Proofs.YtkcgikoploohkaaGreatDoor
set_option linter.unusedVariables false
set_option linter.unusedSimpArgs false
set_option maxRecDepth 100000
open Go.RowKit Go.Shelf Nums
set_option maxHeartbeats 8000000 in
theorem rslash_bad2 (E F : Int) (s h t : ByteArray) (w : World) (H : Split s 47 h t) (hs : s.size≤1000000) (hH : ∀ w,Calls Tryz.prog 69 #[.string h] w (AnyI E w)) (hT : ∀ w,Calls Tryz.prog 70 #[.string t] w (AnyN F w)) (hW : ∀ w,Calls Tryz.prog 71 #[.int .i64 E,.int .i64 F] w fun e w' => e = .returned (.int .i64 2)∧w = w') :
    Calls Tryz.prog 34 #[.string s] w (RatRes 2 NoneAs w) := by
  have H1 := H.head
  have H2 := H.tail
  have hz := H.size
  have HF := Lib.hid (fun w => find_hit 47 47 s h t w rfl H hs)
  obtain ⟨v,hv⟩ := find_any 46 46 s rfl hs
  have HP := Lib.hid hv;clear hv
  obtain ⟨i,hi⟩ : ∃ i,h.size = i := ⟨_,rfl⟩
  rw [hi] at H1 H2 HF hz
  rw [←H1] at hH
  rw [←H2] at hT
  have HH := Lib.hid hH;clear hH
  have HT := Lib.hid hT;clear hT
  have hle : i + 1≤s.size := by omega
  have hle2 : (i : Int) + 1≤(s.size : Int) := by omega
  have hle3 : (i : Int)≤(s.size : Int) := by omega
  have hle4 : (0 : Int)≤(i : Int) := by omega
  clear H1 H2 hz H hi
  have HW := Lib.hid hW;clear hW
  have HB := Lib.hid (below_one w (.cells #[.bool false,.slice none 0 0,.slice none 0 0] 27))
  have Z : Hid (Tri (w.alloc (.cells #[.bool false,.slice none 0 0,.slice none 0 0] 27)) w.heap.size (.bool false) (.slice none 0 0) (.slice none 0 0)) := tri_new w _ _ _
  go_enter Tryz.func34,Tryz.ntmps34
  go_wp2_with fail
  refine (HF.out _).mono ?_
  rintro e w1 ⟨rfl,rfl⟩
  go_wp2_with fail
  refine (HP.out _).mono ?_
  rintro e w1 ⟨rfl,rfl⟩
  go_wp2_with fail
  refine (HH.out _).mono ?_
  rintro e w11 ⟨sx,a,n,c,rfl,hb⟩
  replace Z := Lib.hid (Z.out.later hb)
  replace HB := Lib.hid (bthen HB.out hb)
  clear hb
  have hb1 := below_one w11 (.cells #[.bool sx,.slice a n c] 25)
  have XN : Hid (Box (w11.alloc (.cells #[.bool sx,.slice a n c] 25)) w11.heap.size (.bool sx) (.slice a n c)) := box_new w11 _ _
  replace Z := Lib.hid (Z.out.later hb1)
  replace HB := Lib.hid (bthen HB.out hb1)
  clear hb1
  go_wp2_with fail
  refine (HT.out _).mono ?_
  rintro e w12 ⟨b,m,d,rfl,hb⟩
  replace XN := Lib.hid (XN.out.later hb)
  replace Z := Lib.hid (Z.out.later hb)
  replace HB := Lib.hid (bthen HB.out hb)
  clear hb
  go_wp2_with fail
  refine (HW.out _).mono ?_
  rintro e wz ⟨rfl,rfl⟩
  obtain ⟨kZ0,kZ1,kZ2,kZ3,kZ4,kZ5,kZ6⟩ := Z.out
  have RN := Lib.hid (row_nil w12)
  go_wp2
  exact bodyPost_ret (v := .tuple #[.agg #[.bool false,.slice none 0 0,.slice none 0 0],.int .i64 2]) (by simp [results,Tryz.results34,go_sem, *]) rfl
    (ratRes_sink rfl ⟨rfl,rfl,rfl,rfl,rfl⟩ (RN.out.put3 Z.out _ _ _) (RN.out.put3 Z.out _ _ _) (below_put3 HB.out (by omega) _ _ _))
set_option maxHeartbeats 8000000 in
theorem rint_bad2  (s : ByteArray) (w : World) (hn1 : (47 : UInt8) ∉ s.data.toList) (hn2 : (46 : UInt8) ∉ s.data.toList) (hs : s.size≤1000000) (hH : ∀ w,Calls Tryz.prog 69 #[.string s] w (AnyI 2 w)) :
    Calls Tryz.prog 34 #[.string s] w (RatRes 2 NoneAs w) := by
  have HF := Lib.hid (fun w => find_miss 47 47 s w rfl hn1 hs)
  have HP := Lib.hid (fun w => find_miss 46 46 s w rfl hn2 hs)
  have HH := Lib.hid hH;clear hH hn1 hn2
  have HB := Lib.hid (below_one w (.cells #[.bool false,.slice none 0 0,.slice none 0 0] 27))
  have Z : Hid (Tri (w.alloc (.cells #[.bool false,.slice none 0 0,.slice none 0 0] 27)) w.heap.size (.bool false) (.slice none 0 0) (.slice none 0 0)) := tri_new w _ _ _
  go_enter Tryz.func34,Tryz.ntmps34
  go_wp2_with fail
  refine (HF.out _).mono ?_
  rintro e w1 ⟨rfl,rfl⟩
  go_wp2_with fail
  refine (HP.out _).mono ?_
  rintro e w1 ⟨rfl,rfl⟩
  go_wp2_with fail
  refine (HH.out _).mono ?_
  rintro e w11 ⟨sx,a,n,c,rfl,hb⟩
  replace Z := Lib.hid (Z.out.later hb)
  replace HB := Lib.hid (bthen HB.out hb)
  clear hb
  have hb1 := below_one w11 (.cells #[.bool sx,.slice a n c] 25)
  replace Z := Lib.hid (Z.out.later hb1)
  replace HB := Lib.hid (bthen HB.out hb1)
  clear hb1
  obtain ⟨kZ0,kZ1,kZ2,kZ3,kZ4,kZ5,kZ6⟩ := Z.out
  have RN := Lib.hid (row_nil (w11.alloc (.cells #[.bool sx,.slice a n c] 25)))
  go_wp2
  exact bodyPost_ret (v := .tuple #[.agg #[.bool false,.slice none 0 0,.slice none 0 0],.int .i64 2]) (by simp [results,Tryz.results34,go_sem, *]) rfl
    (ratRes_sink rfl ⟨rfl,rfl,rfl,rfl,rfl⟩ (RN.out.put3 Z.out _ _ _) (RN.out.put3 Z.out _ _ _) (below_put3 HB.out (by omega) _ _ _))
set_option maxHeartbeats 16000000 in
theorem rpoint_bad2 (E F : Int) (s h t : ByteArray) (w : World) (hno : (47 : UInt8) ∉ s.data.toList) (H : Split s 46 h t) (hs : s.size≤1000000) (hH : ∀ w,Calls Tryz.prog 69 #[.string h] w (AnyI E w)) (hT : ∀ w,Calls Tryz.prog 70 #[.string t] w (AnyN F w)) (hW : ∀ w,Calls Tryz.prog 71 #[.int .i64 E,.int .i64 F] w fun e w' => e = .returned (.int .i64 2)∧w = w') :
    Calls Tryz.prog 34 #[.string s] w (RatRes 2 NoneAs w) := by
  have H1 := H.head
  have H2 := H.tail
  have hz := H.size
  have HF := Lib.hid (fun w => find_miss 47 47 s w rfl hno hs)
  have HP := Lib.hid (fun w => find_hit 46 46 s h t w rfl H hs)
  obtain ⟨i,hi⟩ : ∃ i,h.size = i := ⟨_,rfl⟩
  rw [hi] at H1 H2 HP hz
  rw [←H1] at hH
  rw [←H2] at hT
  have HH := Lib.hid hH;clear hH
  have HT := Lib.hid hT;clear hT
  have hle : i + 1≤s.size := by omega
  have hle2 : (i : Int) + 1≤(s.size : Int) := by omega
  have hle3 : (i : Int)≤(s.size : Int) := by omega
  have hle4 : (0 : Int)≤(i : Int) := by omega
  have hle5 : ¬ (i : Int) < 0 := by omega
  clear H1 H2 H hi hno hz
  have HW := Lib.hid hW;clear hW
  have HB := Lib.hid (below_one w (.cells #[.bool false,.slice none 0 0,.slice none 0 0] 27))
  have Z : Hid (Tri (w.alloc (.cells #[.bool false,.slice none 0 0,.slice none 0 0] 27)) w.heap.size (.bool false) (.slice none 0 0) (.slice none 0 0)) := tri_new w _ _ _
  go_enter Tryz.func34,Tryz.ntmps34
  go_wp2_with fail
  refine (HF.out _).mono ?_
  rintro e w1 ⟨rfl,rfl⟩
  go_wp2_with fail
  refine (HP.out _).mono ?_
  rintro e w1 ⟨rfl,rfl⟩
  go_wp2_with fail
  refine (HH.out _).mono ?_
  rintro e w11 ⟨sx,a,n,c,rfl,hb⟩
  replace Z := Lib.hid (Z.out.later hb)
  replace HB := Lib.hid (bthen HB.out hb)
  clear hb
  have hb1 := below_one w11 (.cells #[.bool sx,.slice a n c] 25)
  have XN : Hid (Box (w11.alloc (.cells #[.bool sx,.slice a n c] 25)) w11.heap.size (.bool sx) (.slice a n c)) := box_new w11 _ _
  replace Z := Lib.hid (Z.out.later hb1)
  replace HB := Lib.hid (bthen HB.out hb1)
  clear hb1
  go_wp2_with fail
  refine (HT.out _).mono ?_
  rintro e w12 ⟨b,m,d,rfl,hb⟩
  replace XN := Lib.hid (XN.out.later hb)
  replace Z := Lib.hid (Z.out.later hb)
  replace HB := Lib.hid (bthen HB.out hb)
  clear hb
  go_wp2_with fail
  refine (HW.out _).mono ?_
  rintro e wz ⟨rfl,rfl⟩
  obtain ⟨kZ0,kZ1,kZ2,kZ3,kZ4,kZ5,kZ6⟩ := Z.out
  have RN := Lib.hid (row_nil w12)
  go_wp2
  exact bodyPost_ret (v := .tuple #[.agg #[.bool false,.slice none 0 0,.slice none 0 0],.int .i64 2]) (by simp [results,Tryz.results34,go_sem, *]) rfl
    (ratRes_sink rfl ⟨rfl,rfl,rfl,rfl,rfl⟩ (RN.out.put3 Z.out _ _ _) (RN.out.put3 Z.out _ _ _) (below_put3 HB.out (by omega) _ _ _))
set_option maxHeartbeats 1000000 in
theorem worse_20 (w : World) : Calls Tryz.prog 71 #[.int .i64 2,.int .i64 0] w fun e w' => e = .returned (.int .i64 2)∧w = w' := by
  go_enter Tryz.func71,Tryz.ntmps71
  go_wp2
  go_ret
  exact ⟨rfl,rfl⟩
set_option maxHeartbeats 1000000 in
theorem worse_02 (w : World) : Calls Tryz.prog 71 #[.int .i64 0,.int .i64 2] w fun e w' => e = .returned (.int .i64 2)∧w = w' := by
  go_enter Tryz.func71,Tryz.ntmps71
  go_wp2
  go_ret
  exact ⟨rfl,rfl⟩
set_option maxHeartbeats 1000000 in
theorem worse_22 (w : World) : Calls Tryz.prog 71 #[.int .i64 2,.int .i64 2] w fun e w' => e = .returned (.int .i64 2)∧w = w' := by
  go_enter Tryz.func71,Tryz.ntmps71
  go_wp2
  go_ret
  exact ⟨rfl,rfl⟩
set_option maxHeartbeats 1000000 in
theorem worse_42 (w : World) : Calls Tryz.prog 71 #[.int .i64 4,.int .i64 2] w fun e w' => e = .returned (.int .i64 4)∧w = w' := by
  go_enter Tryz.func71,Tryz.ntmps71
  go_wp2
  go_ret
  exact ⟨rfl,rfl⟩
set_option maxHeartbeats 1000000 in
theorem worse_24 (w : World) : Calls Tryz.prog 71 #[.int .i64 2,.int .i64 4] w fun e w' => e = .returned (.int .i64 4)∧w = w' := by
  go_enter Tryz.func71,Tryz.ntmps71
  go_wp2
  go_ret
  exact ⟨rfl,rfl⟩
theorem rint_cases (h u : ByteArray) (neg : Bool) (HS : Signed h neg u) (hs : u.size≤1000000) :
    ((0 < u.size∧allDig u∧u.size≤300))∨(((∀ w,Calls Tryz.prog 110 #[.string h] w (AnyI 2 w))∧∀ w,Calls Tryz.prog 69 #[.string h] w (AnyI 2 w))∨((∀ w,Calls Tryz.prog 110 #[.string h] w (AnyI 4 w))∧∀ w,Calls Tryz.prog 69 #[.string h] w (AnyI 4 w))) := by
  rcases dig_cases u with h1 | ⟨h1,h2⟩ | h1
  · exact .inl h1
  · exact .inr (.inl ⟨fun w => (parseI_err 2 h u neg w HS (by decide) (fun w => parse_long u w (by omega) h1 h2)).mono fun _ _ h => anyI_err h,
      fun w => (rparseI_err 2 h u neg w HS (by decide) (fun w => rparse_long u w (by omega) h1 h2)).mono fun _ _ h => anyI_err h⟩)
  · exact .inr (.inr ⟨fun w => (parseI_err 4 h u neg w HS (by decide) (fun w => parse_bad u w (by omega) h1)).mono fun _ _ h => anyI_err h,
      fun w => (rparseI_err 4 h u neg w HS (by decide) (fun w => rparse_bad u w (by omega) h1)).mono fun _ _ h => anyI_err h⟩)
theorem rnat_cases (t : ByteArray) (hs : t.size≤1000000) :
    ((0 < t.size∧allDig t∧t.size≤300))∨(((∀ w,Calls Tryz.prog 155 #[.string t] w (AnyN 2 w))∧∀ w,Calls Tryz.prog 70 #[.string t] w (AnyN 2 w))∨((∀ w,Calls Tryz.prog 155 #[.string t] w (AnyN 4 w))∧∀ w,Calls Tryz.prog 70 #[.string t] w (AnyN 4 w))) := by
  rcases dig_cases t with h1 | ⟨h1,h2⟩ | h1
  · exact .inl h1
  · exact .inr (.inl ⟨fun w => (parse_long t w (by omega) h1 h2).mono (by rintro e w' ⟨rfl,rfl⟩;exact ⟨_,_,_,rfl,Below.refl _ _⟩),
      fun w => (rparse_long t w (by omega) h1 h2).mono (by rintro e w' ⟨rfl,rfl⟩;exact ⟨_,_,_,rfl,Below.refl _ _⟩)⟩)
  · exact .inr (.inr ⟨fun w => (parse_bad t w (by omega) h1).mono (by rintro e w' ⟨rfl,rfl⟩;exact ⟨_,_,_,rfl,Below.refl _ _⟩),
      fun w => (rparse_bad t w (by omega) h1).mono (by rintro e w' ⟨rfl,rfl⟩;exact ⟨_,_,_,rfl,Below.refl _ _⟩)⟩)
def BothX (s : ByteArray) : Prop :=
  (∃ q : Rat,(∀ w,Calls Tryz.prog 63 #[.string s] w (RatRes 0 (ToldAs 67 67 q) w))∧∀ w,Calls Tryz.prog 34 #[.string s] w (RatRes 0 (ToldAs 67 67 q) w)) ∨
  ∃ E F : Int,(E != 0) = true∧(F != 0) = true∧(∀ w,Calls Tryz.prog 63 #[.string s] w (RatRes E NoneAs w))∧∀ w,Calls Tryz.prog 34 #[.string s] w (RatRes F NoneAs w)
theorem bothX_int (s : ByteArray) (hs : s.size≤1000000) (h1 : (47 : UInt8) ∉ s.data.toList) (h2 : (46 : UInt8) ∉ s.data.toList) : BothX s := by
  obtain ⟨neg,u,HS⟩ := signed_any s
  have hu := signed_sizeP HS
  rcases rint_cases s u neg HS (by omega) with ⟨a,b,c⟩ | ⟨f1,f2⟩ | ⟨f1,f2⟩
  · obtain ⟨f1,f2⟩ := int_fine 67 s u neg HS c ⟨a,b⟩ (by omega) (by omega) (by omega)
    exact .inl ⟨_,fun w => parse_int 67 67 _ s w h1 h2 (by omega) f1,fun w => rint_ok 67 67 _ s w h1 h2 (by omega) (by omega) f2⟩
  · exact .inr ⟨2,2,by decide,by decide,fun w => parse_int_err 2 s w h1 h2 (by decide) f1,fun w => rint_bad2 s w h1 h2 (by omega) f2⟩
  · exact .inr ⟨4,4,by decide,by decide,fun w => parse_int_err 4 s w h1 h2 (by decide) f1,fun w => rint_bad s w h1 h2 (by omega) f2⟩
theorem worse_any {h t : ByteArray} (hb : (∃ E : Int,(E = 2∨E = 4)∧(∀ w,Calls Tryz.prog 69 #[.string h] w (AnyI E w))∧∃ F : Int,(F = 0∨F = 2∨F = 4)∧∀ w,Calls Tryz.prog 70 #[.string t] w (AnyN F w))∨((∀ w,Calls Tryz.prog 69 #[.string h] w (AnyI 0 w))∧∃ F : Int,(F = 2∨F = 4)∧∀ w,Calls Tryz.prog 70 #[.string t] w (AnyN F w))) :
    ∃ E F : Int,(∀ w,Calls Tryz.prog 69 #[.string h] w (AnyI E w))∧(∀ w,Calls Tryz.prog 70 #[.string t] w (AnyN F w))∧((∀ w,Calls Tryz.prog 71 #[.int .i64 E,.int .i64 F] w fun e w' => e = .returned (.int .i64 4)∧w = w')∨∀ w,Calls Tryz.prog 71 #[.int .i64 E,.int .i64 F] w fun e w' => e = .returned (.int .i64 2)∧w = w') := by
  rcases hb with ⟨E,hE,h1,F,hF,h2⟩ | ⟨h1,F,hF,h2⟩
  · refine ⟨E,F,h1,h2, ?_⟩
    rcases hE with rfl | rfl <;> rcases hF with rfl | rfl | rfl
    · exact .inr worse_20
    · exact .inr worse_22
    · exact .inl worse_24
    · exact .inl worse_40
    · exact .inl worse_42
    · exact .inl worse_44
  · refine ⟨0,F,h1,h2, ?_⟩
    rcases hF with rfl | rfl
    · exact .inr worse_02
    · exact .inl worse_04
theorem both_parts (h t u : ByteArray) (neg : Bool) (HS : Signed h neg u) (hs : u.size≤1000000) (ht : t.size≤1000000) :
    ((0 < u.size∧allDig u∧u.size≤300)∧(0 < t.size∧allDig t∧t.size≤300)) ∨
    ((∃ G : Int,(G != 0) = true∧∀ w,Calls Tryz.prog 148 #[.string h,.string t] w (PartsErr G w)) ∧
     ∃ E F : Int,(∀ w,Calls Tryz.prog 69 #[.string h] w (AnyI E w))∧(∀ w,Calls Tryz.prog 70 #[.string t] w (AnyN F w))∧((∀ w,Calls Tryz.prog 71 #[.int .i64 E,.int .i64 F] w fun e w' => e = .returned (.int .i64 4)∧w = w')∨∀ w,Calls Tryz.prog 71 #[.int .i64 E,.int .i64 F] w fun e w' => e = .returned (.int .i64 2)∧w = w')) := by
  rcases parts_cases h t u neg HS hs ht with hg | hG
  · exact .inl hg
  · have goodI : (0 < u.size∧allDig u∧u.size≤300)→∀ w,Calls Tryz.prog 69 #[.string h] w (AnyI 0 w) := fun ⟨a,b,c⟩ w =>
      ((int_fine 67 h u neg HS c ⟨a,b⟩ (by omega) (by omega) (by omega)).2 w).mono fun _ _ h => anyI_of h
    have goodN : (0 < t.size∧allDig t∧t.size≤300)→∀ w,Calls Tryz.prog 70 #[.string t] w (AnyN 0 w) := fun ⟨a,b,c⟩ w =>
      ((nat_fine 67 t c ⟨a,b⟩ (by omega) (by omega)).2 w).mono fun _ _ h => anyN_ofR h
    rcases rint_cases h u neg HS hs with a | ⟨-,a⟩ | ⟨-,a⟩ <;> rcases rnat_cases t ht with b | ⟨-,b⟩ | ⟨-,b⟩
    · exact .inl ⟨a,b⟩
    · exact .inr ⟨hG,worse_any (.inr ⟨goodI a,2,.inl rfl,b⟩)⟩
    · exact .inr ⟨hG,worse_any (.inr ⟨goodI a,4,.inr rfl,b⟩)⟩
    · exact .inr ⟨hG,worse_any (.inl ⟨2,.inl rfl,a,0,.inl rfl,goodN b⟩)⟩
    · exact .inr ⟨hG,worse_any (.inl ⟨2,.inl rfl,a,2,.inr (.inl rfl),b⟩)⟩
    · exact .inr ⟨hG,worse_any (.inl ⟨2,.inl rfl,a,4,.inr (.inr rfl),b⟩)⟩
    · exact .inr ⟨hG,worse_any (.inl ⟨4,.inr rfl,a,0,.inl rfl,goodN b⟩)⟩
    · exact .inr ⟨hG,worse_any (.inl ⟨4,.inr rfl,a,2,.inr (.inl rfl),b⟩)⟩
    · exact .inr ⟨hG,worse_any (.inl ⟨4,.inr rfl,a,4,.inr (.inr rfl),b⟩)⟩
theorem bothX_slash (s h t : ByteArray) (hs : s.size≤1000000) (H : Split s 47 h t) : BothX s := by
  obtain ⟨neg,u,HS⟩ := signed_any h
  have hu := signed_sizeP HS
  have hz := H.size
  rcases both_parts h t u neg HS (by omega) (by omega) with ⟨⟨a,b,c⟩,a',b',c'⟩ | ⟨⟨G,hG,hp⟩,E,F,g1,g2,g3⟩
  · obtain ⟨f1,f2⟩ := int_fine 67 h u neg HS c ⟨a,b⟩ (by omega) (by omega) (by omega)
    obtain ⟨f3,f4⟩ := nat_fine 67 t c' ⟨a',b'⟩ (by omega) (by omega)
    rcases Nat.eq_zero_or_pos (numOf t.data.toList) with hN | hN
    · exact .inr ⟨4,4,by decide,by decide,fun w => parseQ_zero s h t u neg w H HS a c b a' c' b' hN,fun w => rslash_zero 67 _ _ s h t w H (by omega) f2 f4 (by omega) (by omega) hN⟩
    · exact .inl ⟨_,fun w => parseQ_ok 67 _ s h t u neg w H HS a c b a' c' b' (by omega) (by omega) (by omega) (by omega) hN rfl,fun w => rslash_ok 67 _ _ _ s h t w H (by omega) f2 f4 (by omega) (by omega) hN rfl⟩
  · have hp2 : ∀ w,Calls Tryz.prog 63 #[.string s] w (RatRes G NoneAs w) := fun w => parse_slash G _ s h t w H hs (fun w => (quot_err G h t w hG hp).mono fun _ _ h => ratRes_err h)
    rcases g3 with g3 | g3
    · exact .inr ⟨G,4,hG,by decide,hp2,fun w => rslash_bad E F s h t w H hs g1 g2 g3⟩
    · exact .inr ⟨G,2,hG,by decide,hp2,fun w => rslash_bad2 E F s h t w H hs g1 g2 g3⟩
theorem bothX_point (s h t : ByteArray) (hs : s.size≤1000000) (hno : (47 : UInt8) ∉ s.data.toList) (H : Split s 46 h t) : BothX s := by
  obtain ⟨neg,u,HS⟩ := signed_any h
  have hu := signed_sizeP HS
  have hz := H.size
  rcases both_parts h t u neg HS (by omega) (by omega) with ⟨⟨a,b,c⟩,a',b',c'⟩ | ⟨⟨G,hG,hp⟩,E,F,g1,g2,g3⟩
  · obtain ⟨f1,f2⟩ := int_fine 67 h u neg HS c ⟨a,b⟩ (by omega) (by omega) (by omega)
    obtain ⟨f3,f4⟩ := nat_fine 67 t c' ⟨a',b'⟩ (by omega) (by omega)
    have h1 := digs_pow b
    have h2 := digs_pow b'
    have hlt : numOf u.data.toList * 10 ^ t.size + numOf t.data.toList < 10 ^ (u.size + t.size) := by
      rw [Nat.pow_add]
      have : (numOf u.data.toList + 1) * 10 ^ t.size≤10 ^ u.size * 10 ^ t.size := Nat.mul_le_mul_right _ h1
      rw [Nat.add_mul] at this
      omega
    have hp := pow_room9 (u.size + t.size) 67 (by omega) (by omega)
    have l1 : (limbs (numOf u.data.toList * 10 ^ t.size + numOf t.data.toList)).length≤67 := limbs_len _ _ (Nat.lt_trans hlt hp)
    have l2 : (limbs (numOf u.data.toList * 10 ^ t.size)).length≤67 := limbs_len _ _ (Nat.lt_of_le_of_lt (Nat.le_add_right _ _) (Nat.lt_trans hlt hp))
    clear h1 h2 hlt hp
    exact .inl ⟨_,fun w => parse_point 0 _ s h t w hno H hs (fun w => (decimal_ok 67 _ neg _ _ h u t w HS a' c' (by omega) (by omega) (by omega) l1 rfl
          (fun w => parts_ok 67 67 _ _ h t w (int_call 67 neg h u HS a c b (by omega) (by omega)) (nat_call 67 t a' c' b' (by omega) (by omega)))).mono fun _ _ h => ratRes_ok h),
      fun w => rpoint_ok 67 _ neg _ _ u s h t w hno H (by omega) f2 f4 (by omega) (by omega) HS a (by omega) l1 l2 rfl⟩
  · have hp2 : ∀ w,Calls Tryz.prog 63 #[.string s] w (RatRes G NoneAs w) := fun w => parse_point G _ s h t w hno H hs (fun w => (decimal_err G h t w hG hp).mono fun _ _ h => ratRes_err h)
    rcases g3 with g3 | g3
    · exact .inr ⟨G,4,hG,by decide,hp2,fun w => rpoint_bad E F s h t w hno H hs g1 g2 g3⟩
    · exact .inr ⟨G,2,hG,by decide,hp2,fun w => rpoint_bad2 E F s h t w hno H hs g1 g2 g3⟩
theorem bothX_any (s : ByteArray) (hs : s.size≤1000000) : BothX s := by
  rcases splits_any s 47 with h1 | ⟨h,t,H⟩
  · rcases splits_any s 46 with h2 | ⟨h,t,H⟩
    · exact bothX_int s hs h1 h2
    · exact bothX_point s h t hs h1 H
  · exact bothX_slash s h t hs H
def RefNum (s : ByteArray) : Prop :=
  (∃ q : Rat,(∀ w,Calls Tryz.prog 34 #[.string s] w (RatRes 0 (ToldAs 67 67 q) w))∧numS s = numO q∧(limbs q.num.natAbs).length≤67∧(limbs q.den).length≤67) ∨
  ∃ F : Int,(F != 0) = true∧(∀ w,Calls Tryz.prog 34 #[.string s] w (RatRes F NoneAs w))∧numS s = none
theorem refNum_any {s : ByteArray} {w : World} (hg : Gl w) (hs : s.size≤1000000) : RefNum s := by
  rcases bothX_any s hs with ⟨q,h1,h2⟩ | ⟨E,F,hE,hF,h1,h2⟩
  · obtain ⟨e,w',_,_,_,_,_,_,_,_,_,_,⟨_,l1,l2,l3,l4⟩,r1,r2,_⟩ := calls_ex (h1 w)
    have f1 : (limbs q.num.natAbs).length≤67 := by rw [←l3,r1.1];omega
    have f2 : (limbs q.den).length≤67 := by rw [←l4,r2.1];omega
    exact .inl ⟨q,h2,numS_eq hg (number_is s q 67 67 h1 (by omega) (by omega)),f1,f2⟩
  · exact .inr ⟨F,hF,h2,numS_eq hg (number_bad s E hE h1)⟩
theorem shortT_dec (q : Rat) : shortT (ratStr q) = (decide ((decStr q.num.natAbs).size≤300) && decide ((decStr q.den).size≤300)) := by
  rw [Bool.eq_iff_iff,Bool.and_eq_true,decide_eq_true_eq,decide_eq_true_eq]
  constructor
  · intro h
    obtain ⟨l1,l2'⟩ := short_dec h
    refine ⟨l1, ?_⟩
    by_cases hd : q.den = 1
    · exact den_one hd
    · exact l2' hd
  · rintro ⟨l1,l2⟩
    unfold shortT
    rw [trim_rat,Bool.and_eq_true]
    obtain ⟨c,r,h1,-,h3⟩ := dec_head q.num.natAbs
    have s1 := Lib.size_eq (decStr q.num.natAbs)
    have s2 := Lib.size_eq (decStr q.den)
    rw [←h1] at h3
    by_cases hd : q.den = 1
    · rw [if_pos hd,List.append_nil,cut_none (cutL_free _ h3)]
      exact ⟨decide_eq_true (by rw [←s1];exact l1),by rfl⟩
    · rw [if_neg hd,cut_some (cutL_app _ _ h3)]
      exact ⟨decide_eq_true (by rw [←s1];exact l1),decide_eq_true (by rw [←s2];exact l2)⟩
end Go.Proofs.YtkcgikoploohkaaGreatDoor
namespace Go.Proofs.YtkcgikoploohkaaGreatDoor
set_option linter.unusedVariables false
set_option linter.unusedSimpArgs false
set_option maxRecDepth 100000
open Go.RowKit Go.Shelf Nums
set_option maxHeartbeats 4000000 in
theorem short35X_t {r : RV} {k j : Nat} {q : Rat} {w : World} (h : r.Is k j q w) (hk : k≤70) (hj : j≤70) : Calls Tryz.prog 35 #[.agg #[.bool r.s,.slice r.a r.n r.c,.slice r.b r.m r.d]] w fun e w' => e = .returned (.bool (shortT (ratStr q)))∧Below w.heap.size w w' := by
  obtain ⟨xs,ys,h0,h1,hq,hn,hm⟩ := h
  have HB := Lib.hid (below_one w (.cells #[.bool r.s,.slice r.a r.n r.c,.slice r.b r.m r.d] 27))
  have X0 : Hid (Tri (w.alloc (.cells #[.bool r.s,.slice r.a r.n r.c,.slice r.b r.m r.d] 27)) (w.heap.size) (.bool r.s) (.slice r.a r.n r.c) (.slice r.b r.m r.d)) := (tri_new _ (.bool r.s) (.slice r.a r.n r.c) (.slice r.b r.m r.d))
  have R0 := Lib.hid (h0.later HB.out);clear h0
  have R1 := Lib.hid (h1.later HB.out);clear h1
  have HQ := Lib.hid hq;clear hq
  have hn' : r.n≤70 := by omega
  have hm' : r.m≤70 := by omega
  have HNM := Lib.hid (show r.n≤70∧r.m≤70 from ⟨hn',hm'⟩)
  clear hn hm hn' hm'
  obtain ⟨kX00,kX01,kX02,kX03,kX04,kX05,kX06⟩ := X0.out
  go_enter Tryz.func35,Tryz.ntmps35
  go_wp2_with fail
  refine (rnormR 70 70 q R0.out R1.out HQ.out HNM.out.1 HNM.out.2 (by omega) (by omega) (by omega) (by omega)).mono ?_
  rintro e w1 ⟨ar,nr,cr,br,mr,dr,rfl,h2,h3,hr,hr2,hb⟩
  replace X0 := Lib.hid (X0.out.later hb)
  replace HB := Lib.hid (bthen HB.out hb)
  clear hb kX00 kX01 kX02 kX03 kX04 kX05 kX06
  have RA := Lib.hid hr;clear hr
  have RB := Lib.hid hr2;clear hr2 R0 R1 HQ
  obtain ⟨kX00,kX01,kX02,kX03,kX04,kX05,kX06⟩ := X0.out
  have X0' := Lib.hid X0.out
  replace RA := Lib.hid (RA.out.put3 X0'.out (.bool (decide (q.num < 0))) (.slice ar nr cr) (.slice br mr dr))
  replace RB := Lib.hid (RB.out.put3 X0'.out (.bool (decide (q.num < 0))) (.slice ar nr cr) (.slice br mr dr))
  replace X0 := Lib.hid (X0.out.put (.bool (decide (q.num < 0))) (.slice ar nr cr) (.slice br mr dr))
  replace HB := Lib.hid (below_put3 (g := w.heap.size) HB.out (by omega) (.bool (decide (q.num < 0))) (.slice ar nr cr) (.slice br mr dr))
  clear X0'
  have H2 := Lib.hid h2
  have H3 := Lib.hid h3
  clear h2 h3
  obtain ⟨U,hU⟩ : ∃ U,decStr (val (limbs q.num.natAbs)) = U := ⟨_,rfl⟩
  obtain ⟨V,hV⟩ : ∃ V,decStr (val (limbs q.den)) = V := ⟨_,rfl⟩
  have hsh := shortT_dec q
  rw [val_limbs] at hU hV
  rw [hU,hV] at hsh
  have HU := Lib.hid (show decStr (val (limbs q.num.natAbs)) = U by rw [val_limbs];exact hU)
  have HV := Lib.hid (show decStr (val (limbs q.den)) = V by rw [val_limbs];exact hV)
  clear hU hV
  by_cases zU : U.size≤300
  · by_cases zV : V.size≤300
    · have HR := Lib.hid (show shortT (ratStr q) = true by rw [hsh,decide_eq_true zU,decide_eq_true zV];rfl)
      have lU : (U.size : Int)≤300 := by omega
      have lV : (V.size : Int)≤300 := by omega
      clear hsh zU zV
      go_wp2_with (first
    | (have mk := G1;go_at_call 74;(with_reducible refine (rprintX V RB.out H3.out HV.out).mono ?_);rintro e w3 ⟨rfl,hb⟩;replace HB := Lib.hid (bthen HB.out hb);clear hb)
    | (go_at_call 74;(with_reducible refine (rprintX U RA.out H2.out HU.out).mono ?_);rintro e w2 ⟨rfl,hb⟩;replace HB := Lib.hid (bthen HB.out hb);replace RB := Lib.hid (RB.out.later hb);replace X0 := Lib.hid (X0.out.later hb);clear hb kX00 kX01 kX02 kX03 kX04 kX05 kX06;obtain ⟨kX00,kX01,kX02,kX03,kX04,kX05,kX06⟩ := X0.out;have G1 : Hid True := trivial))
      go_ret
      rw [HR.out]
      exact ⟨rfl,HB.out⟩
    · have HR := Lib.hid (show shortT (ratStr q) = false by rw [hsh,decide_eq_true zU,decide_eq_false zV];rfl)
      have lU : (U.size : Int)≤300 := by omega
      have lV : decide ((V.size : Int)≤300) = false := decide_eq_false (by omega)
      clear hsh zU zV
      go_wp2_with (first
    | (have mk := G1;go_at_call 74;(with_reducible refine (rprintX V RB.out H3.out HV.out).mono ?_);rintro e w3 ⟨rfl,hb⟩;replace HB := Lib.hid (bthen HB.out hb);clear hb)
    | (go_at_call 74;(with_reducible refine (rprintX U RA.out H2.out HU.out).mono ?_);rintro e w2 ⟨rfl,hb⟩;replace HB := Lib.hid (bthen HB.out hb);replace RB := Lib.hid (RB.out.later hb);replace X0 := Lib.hid (X0.out.later hb);clear hb kX00 kX01 kX02 kX03 kX04 kX05 kX06;obtain ⟨kX00,kX01,kX02,kX03,kX04,kX05,kX06⟩ := X0.out;have G1 : Hid True := trivial))
      go_ret
      rw [HR.out]
      exact ⟨rfl,HB.out⟩
  · have HR := Lib.hid (show shortT (ratStr q) = false by rw [hsh,decide_eq_false zU];rfl)
    have lU : ¬ (U.size : Int)≤300 := by omega
    clear hsh zU
    go_wp2_with (first
    | (have mk := G1;go_at_call 74;(with_reducible refine (rprintX V RB.out H3.out HV.out).mono ?_);rintro e w3 ⟨rfl,hb⟩;replace HB := Lib.hid (bthen HB.out hb);clear hb)
    | (go_at_call 74;(with_reducible refine (rprintX U RA.out H2.out HU.out).mono ?_);rintro e w2 ⟨rfl,hb⟩;replace HB := Lib.hid (bthen HB.out hb);replace RB := Lib.hid (RB.out.later hb);replace X0 := Lib.hid (X0.out.later hb);clear hb kX00 kX01 kX02 kX03 kX04 kX05 kX06;obtain ⟨kX00,kX01,kX02,kX03,kX04,kX05,kX06⟩ := X0.out;have G1 : Hid True := trivial))
    go_ret
    rw [HR.out]
    exact ⟨rfl,HB.out⟩
end Go.Proofs.YtkcgikoploohkaaGreatDoor
namespace Go.Proofs.YtkcgikoploohkaaGreatDoor
set_option linter.unusedVariables false
set_option linter.unusedSimpArgs false
set_option maxRecDepth 100000
open Go.RowKit Go.Shelf Nums
def RfRes (s : ByteArray) (w : World) (e : Ending) (w' : World) : Prop := ∃ (r : RV) (E : Int) (q : Rat),e = .returned (.tuple #[.agg #[.bool r.s,.slice r.a r.n r.c,.slice r.b r.m r.d],.int .i64 E])∧r.Is r.n r.m q w'∧(r.n≤67∧r.m≤67)∧(if E = 0 then numS s = numO q∧r.Fit q else numS s = none)∧Below w.heap.size w w'
theorem rf_t {s : ByteArray} {w : World} (hg : Gl w) (hs : s.size≤1000000) (W : World) : Calls Tryz.prog 34 #[.string s] W (RfRes s W) := by
  rcases refNum_any hg hs with ⟨q,h1,h2,-,-⟩ | ⟨F,hF,h1,h2⟩
  · refine (h1 W).mono ?_
    rintro e w2 ⟨rs,ra,rn,rc,rb,rm,rd,xs,ys,rfl,ht,h3,h4,hb⟩
    have hi := told_is (r := ⟨rs,ra,rn,rc,rb,rm,rd⟩) ht h3 h4
    exact ⟨⟨rs,ra,rn,rc,rb,rm,rd⟩,0,q,rfl,hi.1,⟨ht.2.1,ht.2.2.1⟩,by rw [if_pos rfl];exact ⟨h2,hi.2⟩,hb⟩
  · refine (h1 W).mono ?_
    rintro e w2 ⟨rs,ra,rn,rc,rb,rm,rd,xs,ys,rfl,ht,h3,h4,hb⟩
    obtain ⟨e1,e2,e3,e4,e5⟩ := ht
    refine ⟨⟨rs,ra,rn,rc,rb,rm,rd⟩,F,_,rfl,⟨xs,ys,h3,h4,rfl,Nat.le_refl _,Nat.le_refl _⟩,⟨by show rn≤67;omega,by show rm≤67;omega⟩, ?_,hb⟩
    have hF' : F≠0 := by intro e;subst e;exact absurd hF (by decide)
    rw [if_neg hF']
    exact h2
set_option maxHeartbeats 4000000 in
theorem rchange_len (a : Option Addr) (n c : Nat) (L : List ByteArray) (w : World) (h : SRow w a n c L) (hn : n≠5) : Calls Tryz.prog 37 #[.slice a n c] w (ChRes (changeM numS L) w) := by
  have hm : c≤maxLen := h.2.2.1
  have hnc := h.2.1
  unfold maxLen at hm
  have HC := Lib.hid (changeM_len (num := numS) (L := L) (by rw [h.1];exact hn))
  have HK := Lib.hid (Blk.new w 43 #[.bool false,.slice none 0 0,.slice none 0 0,.string ⟨#[]⟩,.bool false,.slice none 0 0,.slice none 0 0])
  have HB := Lib.hid (below_one w (.cells #[.bool false,.slice none 0 0,.slice none 0 0,.string ⟨#[]⟩,.bool false,.slice none 0 0,.slice none 0 0] 43))
  have h5 : ((n : Int) == 5) = false := by rw [beq_eq_false_iff_ne];omega
  have h5' : ((n : Int) != 5) = true := by rw [bne_iff_ne];omega
  obtain ⟨k0,k1,k2,k3,k4,k5,k6⟩ := HK.out.sev
  clear h hn hm hnc
  go_enter Tryz.func37,Tryz.ntmps37
  go_wp2
  exact bodyPost_ret (v := .tuple #[.agg #[.bool false,.slice none 0 0,.slice none 0 0,.string ⟨#[]⟩,.bool false,.slice none 0 0,.slice none 0 0],.bool false]) (by simp [results,Tryz.results37,go_sem, *]) rfl (chRes_none HC.out HB.out)
set_option maxHeartbeats 4000000 in
theorem rchange_no (a : Option Addr) (n c : Nat) (x0 x1 x2 x3 x4 : ByteArray) (w : World) (h : SRow w a n c [x0,x1,x2,x3,x4]) (hs : x2.size≤1000000) (hno : ¬ (x0 = bAT∧nameB x2.data.toList = true∧x3 = bEQ)) : Calls Tryz.prog 37 #[.slice a n c] w (ChRes (changeM numS [x0,x1,x2,x3,x4]) w) := by
  have hm : c≤maxLen := h.2.2.1
  have hnc := h.2.1
  unfold maxLen at hm
  have HC := Lib.hid (changeM_no (num := numS) (b := x1) (e := x4) hno)
  have HK := Lib.hid (Blk.new w 43 #[.bool false,.slice none 0 0,.slice none 0 0,.string ⟨#[]⟩,.bool false,.slice none 0 0,.slice none 0 0])
  have HB := Lib.hid (below_one w (.cells #[.bool false,.slice none 0 0,.slice none 0 0,.string ⟨#[]⟩,.bool false,.slice none 0 0,.slice none 0 0] 43))
  have h' := h.later HB.out
  obtain ⟨b,off,rfl,rfl,hbB,c0,c1,c2,c3,c4⟩ := srow5 h'
  have h5 : (((5 : Nat) : Int) == 5) = true := rfl
  have h5' : (((5 : Nat) : Int) != 5) = false := rfl
  obtain ⟨k0,k1,k2,k3,k4,k5,k6⟩ := HK.out.sev
  have HNO := Lib.hid hno
  clear h h' hno hbB
  by_cases y0 : x0 = bAT
  · subst y0
    by_cases y3 : x3 = bEQ
    · subst y3
      have y2 : nameB x2.data.toList = false := by cases hx : nameB x2.data.toList with | false => rfl | true => exact absurd ⟨rfl,hx,rfl⟩ HNO.out
      have HY := Lib.hid y2
      clear y2
      unfold bAT at c0
      unfold bEQ at c3
      go_enter Tryz.func37,Tryz.ntmps37
      go_wp2_with (go_at_call 51;(with_reducible refine (name_t _ _ hs).mono ?_);rw [HY.out];rintro e w3 ⟨rfl,rfl⟩)
      exact bodyPost_ret (v := .tuple #[.agg #[.bool false,.slice none 0 0,.slice none 0 0,.string ⟨#[]⟩,.bool false,.slice none 0 0,.slice none 0 0],.bool false]) (by simp [results,Tryz.results37,go_sem, *]) rfl (chRes_none HC.out HB.out)
    · have e3 : (x3.toList == [61]) = false := ne_list y3
      have e3' : (x3.toList != [61]) = true := ne_list' y3
      unfold bAT at c0
      clear y3
      go_enter Tryz.func37,Tryz.ntmps37
      go_wp2
      exact bodyPost_ret (v := .tuple #[.agg #[.bool false,.slice none 0 0,.slice none 0 0,.string ⟨#[]⟩,.bool false,.slice none 0 0,.slice none 0 0],.bool false]) (by simp [results,Tryz.results37,go_sem, *]) rfl (chRes_none HC.out HB.out)
  · have e0 : (x0.toList == [97,116]) = false := ne_list y0
    have e0' : (x0.toList != [97,116]) = true := ne_list' y0
    clear y0
    go_enter Tryz.func37,Tryz.ntmps37
    go_wp2
    exact bodyPost_ret (v := .tuple #[.agg #[.bool false,.slice none 0 0,.slice none 0 0,.string ⟨#[]⟩,.bool false,.slice none 0 0,.slice none 0 0],.bool false]) (by simp [results,Tryz.results37,go_sem, *]) rfl (chRes_none HC.out HB.out)
end Go.Proofs.YtkcgikoploohkaaGreatDoor
