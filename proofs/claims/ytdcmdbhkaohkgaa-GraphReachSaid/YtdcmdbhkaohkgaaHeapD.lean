/- What heap's Push and Pop tell of a heap of numbers. No condition but bounds. -/
import Derived.Test.YtdcmdbhkaohkgaaHeapC
namespace Go.Proofs.Ytdcmdbhkaohkgaa
open Go.RowKit

/-- heap.Push: the heap has one more -/
def PushedPost (B gh : Nat) (v : Value) (hs : List Int) (X : Int) (w : World) (e : Ending) (w' : World) : Prop :=
  e = .returned (.tuple #[]) ∧ ∃ v' hs', hs'.Perm (X :: hs) ∧ HB w' B gh v' hs' ∧ HStep gh v v' w w'

set_option maxHeartbeats 1000000 in
theorem hpush_any (B gh : Nat) (v : Value) (hs : List Int) (X : Int) (w : World) (h : HB w B gh v hs) (hB : B ≤ w.heap.size) (hl : hs.length ≤ 900000) :
    Calls Try.prog 15 #[.iface 36 (.pointer (some ⟨gh, 0, none⟩)), .iface 3 (.int .i64 X)] w (PushedPost B gh v hs X w) := by
  have hm := meth_push ⟨gh, 0, none⟩ w
  go_enter Try.func15, Try.ntmps15
  go_wp2_with fail
  refine (push_any B gh v hs X w h hB (by omega)).mono ?_
  rintro e w1 ⟨rfl, v1, h1, hst1⟩
  have hs1 := h1.isSlice
  obtain ⟨a1, c1, hv1⟩ := h1.2.len
  have hm2 := meth_len gh v1 w1 h1.cell hs1
  have hL : (hs ++ [X]).length = hs.length + 1 := by simp
  rw [hL] at hv1
  have HL := Lib.hid hL; clear hL
  have HV := Lib.hid hv1; clear hv1
  have H1 := Lib.hid h1; clear h1
  have HS1 := Lib.hid hst1; clear hst1
  clear hm hs1
  go_wp2_with fail
  rw [HV.out]
  refine (len_any a1 (hs.length + 1) c1 w1).mono ?_
  rintro e w' ⟨rfl, rfl⟩
  clear hm2
  go_wp2_with fail
  have hU := up_any B gh v1 (hs ++ [X]) hs.length w1 H1.out (by rw [HL.out]; omega) (by rw [HL.out]; omega)
  refine (show Calls Try.prog 24 #[.iface 36 (.pointer (some ⟨gh, 0, none⟩)), .int .i64 _] w1 _ from hU).mono ?_
  rintro e w2 ⟨⟨u, rfl⟩, ⟨hs2, hp2, h2⟩, hst2⟩
  have HP2 : Hid (hs2.Perm (X :: hs)) := hp2.trans List.perm_append_comm
  have H2 := Lib.hid h2; clear h2
  have HS2 := Lib.hid hst2; clear hst2
  clear hp2
  go_wp2
  go_end0
  exact ⟨rfl, v1, hs2, HP2.out, H2.out, HS1.out.trans HS2.out⟩

set_option maxHeartbeats 1000000 in
theorem hpop_any (B gh : Nat) (v : Value) (hs : List Int) (w : World) (h : HB w B gh v hs) (h0 : 0 < hs.length) (hl : hs.length ≤ 900000) :
    Calls Try.prog 17 #[.iface 36 (.pointer (some ⟨gh, 0, none⟩))] w (TopPost B gh v hs w) := by
  obtain ⟨m, hm⟩ : ∃ m, hs.length = m + 1 := ⟨hs.length - 1, by omega⟩
  obtain ⟨a1, c1, rfl⟩ := h.2.len
  rw [hm] at h ⊢
  have hml : m ≤ 900000 := by omega
  have HM := Lib.hid hm; clear hm h0 hl
  have hm2 := meth_len gh _ w h.cell h.isSlice
  have hm3 := meth_swap gh _ w h.cell h.isSlice
  have HH := Lib.hid h; clear h
  have e1 : ((m + 1 : Nat) : Int) - 1 = (m : Int) := by omega
  go_enter Try.func17, Try.ntmps17
  go_wp2_with fail
  refine (len_any a1 (m + 1) c1 w).mono ?_
  rintro e w' ⟨rfl, rfl⟩
  clear hm2
  go_wp2_with fail
  refine (swap_at B gh _ hs _ _ 0 m w HH.out rfl rfl (by rw [HM.out]; omega) (by rw [HM.out]; omega) (by rw [HM.out]; omega)).mono ?_
  rintro e w1 ⟨rfl, ⟨hs1, hp1, hb1⟩, hst1⟩
  have HM1 : Hid (hs1.length = m + 1) := hp1.length_eq.trans HM.out
  have HP1 := Lib.hid hp1; clear hp1
  have HB1 := Lib.hid hb1; clear hb1
  have HS1 := Lib.hid hst1; clear hst1
  clear hm3
  go_wp2_with fail
  refine (down_any B gh _ hs1 m w1 HB1.out (by rw [HM1.out]; omega) (by rw [HM1.out]; omega)).mono ?_
  rintro e w2 ⟨⟨u, rfl⟩, ⟨hs2, hp2, hb2⟩, hst2⟩
  have HM2 : Hid (hs2.length = m + 1) := hp2.length_eq.trans HM1.out
  have HP2 := Lib.hid hp2; clear hp2
  have HB2 := Lib.hid hb2; clear hb2
  have HS2 := Lib.hid hst2; clear hst2
  have hm4 := meth_pop ⟨gh, 0, none⟩ w2
  go_wp2_with fail
  refine (top_any B gh _ hs2 w2 HB2.out m HM2.out (by rw [HM2.out]; omega)).mono ?_
  rintro e w3 ⟨v3, X, hs3, rfl, hp3, hb3, hst3⟩
  have HP3 : Hid ((X :: hs3).Perm hs) := (hp3.trans HP2.out).trans HP1.out
  have HB3 := Lib.hid hb3; clear hb3
  have HS3 := Lib.hid hst3; clear hst3
  clear hm4 hp3
  go_wp2
  go_ret
  exact ⟨v3, X, hs3, rfl, HP3.out, HB3.out, (HS1.out.trans HS2.out).trans HS3.out⟩
end Go.Proofs.Ytdcmdbhkaohkgaa
