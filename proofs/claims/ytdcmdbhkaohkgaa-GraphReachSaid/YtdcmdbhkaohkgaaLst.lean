/- What leastOnCycle tells: the least place that lies on a cycle. No condition but bounds. -/
import Derived.Test.YtdcmdbhkaohkgaaBack
import Derived.Test.YtdcmdbhkaohkgaaLeaveB
import Derived.Test.YtdcmdbhkaohkgaaGrD
namespace Go.Proofs.Ytdcmdbhkaohkgaa
open Go.RowKit Gr
attribute [local go_sem] Oper.semAt_some

theorem toIn {f : FuncId} {args : Array Value} {w : World} {R : Ending → World → Prop} (n : Nat) (h : Calls Try.prog f args w R) : CallsIn Fence.wide n Try.prog f args w R := callsIn_wide.2 h

/-- a block of cells lies as it lay when another kind of block turns -/
theorem keepC {W W' : World} {row : Option Nat} {B g : Nat} {cs : Array Value} {T : TypeId} (h : W.heap[g]? = some (.cells cs T (0, 0))) (hg : W.grownBy W' row) (hr : ∀ r, row = some r → B ≤ r ∧ ∃ o, W.heap[r]? = some o ∧ o.isCells = false) : W'.heap[g]? = some (.cells cs T (0, 0)) := by
  refine (hg.block g (Array.getElem?_eq_some_iff.1 h).1 (fun e => ?_)).trans h
  obtain ⟨_, o, ho, hc⟩ := hr g e.symm
  rw [h] at ho
  cases ho
  cases hc

theorem KeepsFrom.of_cells {B gf gl : Nat} {W W' : World} (h : Only [some gf, some gl] W W') (h1 : gf < B) (h2 : gl < B) : KeepsFrom B W W' :=
  ⟨h.size, fun k o hB hk _ => (h.block k (Array.getElem?_eq_some_iff.1 hk).1 (by simp; omega)).trans hk⟩

/-- what the loop's variables hold -/
def LsMem (w : World) (gf gl gN g6 n : Nat) (a2 : Option Addr) (c2 n0 : Nat) (F : List Int) (lst : Nat) (W : World) : Prop :=
  IMem W gf F ∧ F.length = n ∧ lst ≤ n ∧ Box W gl 3 (.int .i64 (lst : Int)) ∧ Box W gN 22 (.slice a2 n c2) ∧ Box W g6 24 (.slice (some ⟨gf, 0, none⟩) n n) ∧ Below w.heap.size w W ∧ n0 ≤ W.heap.size

def LstPost (R : List (List Int)) (w : World) (e : Ending) (w' : World) : Prop := ∃ l : Nat, e = .returned (.int .i64 (l : Int)) ∧ LeastOn R l ∧ Below w.heap.size w w'

set_option maxRecDepth 100000 in
set_option maxHeartbeats 4000000 in
theorem least_in (a a2 : Option Addr) (n c c2 B : Nat) (R N : List (List Int)) (w : World) (hg : GRow w B a n c R) (hg2 : GRow w B a2 n c2 N) (hB : B ≤ w.heap.size) (hn : n ≤ 1000000) (hT : Turn N R) :
    CallsIn Fence.wide 10 Try.prog 19 #[.slice a n c, .slice a2 n c2] w (LstPost R w) := by
  have HL : Hid (R.length = n) := hg.1
  have HL2 : Hid (N.length = n) := hg2.1
  have HG := Lib.hid hg; clear hg
  have HG2 := Lib.hid hg2; clear hg2
  have HT := Lib.hid hT; clear hT
  have hm := HG.out.len_le
  unfold maxLen at hm
  refine callsIn_of_wp_marks Try.func19 rfl trivial ?_ rfl
  simp only [Try.ntmps19, List.size_toArray, List.length_cons, List.length_nil, Nat.reduceAdd, Nat.reduceSub, Array.replicate_succ, Array.replicate_zero, List.push_toArray, List.append_toArray, List.nil_append, List.cons_append]
  obtain ⟨g0, hg0⟩ : ∃ g0, g0 = w.heap.size := ⟨_, rfl⟩
  have hw0 : Below w.heap.size w ((w.alloc (.cells #[.slice a2 n c2] 22)).alloc (.cells #[.int .i64 (n : Int)] 3)) := ((Below.refl _ w).alloc (Nat.le_refl _) _).alloc (by simp) _
  have hbx0 : Box ((w.alloc (.cells #[.slice a2 n c2] 22)).alloc (.cells #[.int .i64 (n : Int)] 3)) w.heap.size 22 (.slice a2 n c2) := (Below.heap_alloc _ _ _ (by simp)).trans (heap_alloc_new w _)
  have hbx1 : Box ((w.alloc (.cells #[.slice a2 n c2] 22)).alloc (.cells #[.int .i64 (n : Int)] 3)) (w.heap.size + 1) 3 (.int .i64 (n : Int)) := by
    have := heap_alloc_new (w.alloc (.cells #[.slice a2 n c2] 22)) (.cells #[.int .i64 (n : Int)] 3)
    rw [World.size_alloc] at this
    exact this
  have H0 := Lib.hid (And.intro hw0 (And.intro hbx0 hbx1)); clear hw0 hbx0 hbx1
  gi_wp2_with fail
  refine ⟨trivial, (toIn 9 (unfound_any a n c _ hn)).mono ?_⟩
  rintro e w1 ⟨gf, rfl, hgf, hF, hb⟩
  simp only [World.size_alloc] at hgf
  have hb1 : Below w.heap.size w w1 := H0.out.1.trans (hb.mono H0.out.1.size)
  have hx0 := H0.out.2.1.below hb
  have hx1 := H0.out.2.2.below hb
  have hgfl := hF.lt
  -- the box of from
  have hb2 : Below w.heap.size w (w1.alloc (.cells #[.slice (some ⟨gf, 0, none⟩) n n] 24)) := hb1.alloc hb1.size _
  have hy0 : Box (w1.alloc (.cells #[.slice (some ⟨gf, 0, none⟩) n n] 24)) w.heap.size 22 (.slice a2 n c2) := (Below.heap_alloc _ _ _ hx0.lt).trans hx0
  have hy1 : Box (w1.alloc (.cells #[.slice (some ⟨gf, 0, none⟩) n n] 24)) (w.heap.size + 1) 3 (.int .i64 (n : Int)) := (Below.heap_alloc _ _ _ hx1.lt).trans hx1
  have hyF := hF.alloc (.cells #[.slice (some ⟨gf, 0, none⟩) n n] 24)
  have hy2 : Box (w1.alloc (.cells #[.slice (some ⟨gf, 0, none⟩) n n] 24)) w1.heap.size 24 (.slice (some ⟨gf, 0, none⟩) n n) := heap_alloc_new w1 _
  have H1 := Lib.hid (And.intro hb2 (And.intro hy0 (And.intro hy1 (And.intro hyF hy2)))); clear hb hb1 hb2 hx0 hx1 hy0 hy1 hyF hy2 hF H0
  gi_wp2_with fail
  refine ⟨trivial, (toIn 9 (leaving_any a n c B R _ (HG.out.below (H1.out.1.mono hB)) (Nat.le_trans hB H1.out.1.size) hn HT.out.clean)).mono ?_⟩
  rintro e w2 ⟨a3, c3, o, rfl, hrow, hnd, hall, hlt, hlv, hb, had⟩
  simp only [World.size_alloc] at had
  rw [HL.out] at hrow hall hlt ⊢
  obtain ⟨g6, hg6⟩ : ∃ g6, g6 = w1.heap.size := ⟨_, rfl⟩
  have hz0 := H1.out.2.1.below hb
  have hz1 := H1.out.2.2.1.below hb
  have hzF := H1.out.2.2.2.1.below hb H1.out.2.2.2.1.lt
  have hz2 := H1.out.2.2.2.2.below hb
  have hbb : Below w.heap.size w w2 := H1.out.1.trans (hb.mono H1.out.1.size)
  have H2 := Lib.hid (And.intro hbb (And.intro hz0 (And.intro hz1 (And.intro hzF (And.intro hz2 hrow))))); clear hbb hz0 hz1 hzF hz2 hrow hb H1
  have HO := Lib.hid (And.intro hnd (And.intro hall (And.intro hlt (And.intro hlv had)))); clear hnd hall hlt hlv had
  gi_wp2_with fail
  refine ⟨trivial, (backward_in Fence.wide 9 trivial rfl _ _ _ _).mono ?_⟩
  rintro e w' ⟨rfl, rfl⟩
  obtain ⟨gl, hgl⟩ : ∃ gl, gl = w.heap.size + 1 := ⟨_, rfl⟩
  obtain ⟨Bs, hBs⟩ : ∃ Bs, Bs = w2.heap.size := ⟨_, rfl⟩
  have hs1 : w1.heap.size < w2.heap.size := H2.out.2.2.2.2.1.lt
  have hgls : gl < w1.heap.size := by omega
  have hord : ∃ b off, (0 < n → a3 = some ⟨b, off, none⟩) ∧ b < w2.heap.size + 1 ∧ some b ∉ [some gf, some gl] ∧ ∀ j, j < n → w2.cell? ⟨b, off + j, none⟩ = some (.int .i64 ((o.getD j 0 : Nat) : Int)) ∧ b < w2.heap.size := by
    obtain ⟨_, _, _, b, off, hor, hc⟩ := H2.out.2.2.2.2.2
    by_cases h0 : 0 < n
    · have e := hor.resolve_right (by omega)
      have hb := HO.out.2.2.2.2 _ e
      have hb2 := (hc 0 h0).1
      have hb3 : w1.heap.size + 1 ≤ b := hb
      refine ⟨b, off, fun _ => e, by omega, by simp; omega, fun j hj => ⟨?_, hb2⟩⟩
      rw [(hc j hj).2, ints_getD]
    · exact ⟨w2.heap.size, 0, fun h => absurd h h0, by omega, by simp; omega, fun j hj => by omega⟩
  obtain ⟨b, off, hA, hbn, hbS, hcells⟩ := hord
  have hpl : ∀ j, n = 0 ∨ o.getD j 0 < n := by
    intro j
    by_cases hj : j < o.length
    · have e : o.getD j 0 = o[j] := by simp [hj]
      rw [e]; exact Or.inr (HO.out.2.2.1 _ (List.getElem_mem hj))
    · have e : o.getD j 0 = 0 := by simp [List.getElem?_eq_none (Nat.le_of_not_lt hj)]
      rw [e]; omega
  have hol : o.length = n := by
    have h1 := nodup_len n o HO.out.1 HO.out.2.2.1
    have h2 := len_of_all n o HO.out.2.1
    omega
  gi_wp2_with fail
  refine wpIn_rangeFunc_ownG (n := 10) rfl (by omega) (gf := 28) (lb := #[.pointer (some ⟨w2.heap.size, 0, none⟩)]) rfl trivial (enters_of Try.func28 (by kernel_rfl) rfl)
    (back_stops Fence.wide 9 trivial rfl (by omega) n w2.heap.size (w2.heap.size + 1) b off n c3 [some gf, some gl] a3 (fun j => ⟨o.getD j 0, hpl j⟩) hn hbn hbS (by simp; omega) hA (w2.alloc (.cells #[.slice a3 n c3] 24))
      (by rw [cell_of_row _ w2.heap.size 0 _ 24 (0, 0) (heap_alloc_new w2 _)]; rfl) (by omega) (by simp) (fun j hj => (World.cell?_alloc_lt _ _ ⟨b, off + j, none⟩ (hcells j hj).2).trans (hcells j hj).1))
    OnlyB.trans (fun W l o1 o2 hl h _ _ => OnlyB.put _ W l o1 o2 (by simpa using hl) h) (Below.refl _ _) (fun _ => rfl)
    (fun pre W => ∃ F lst, LsMem w gf gl w.heap.size w1.heap.size n a2 c2 (w2.heap.size + 1) F lst W ∧ (pre = upto (fun k => (n - 1 - k, (⟨o.getD (n - 1 - k) 0, hpl (n - 1 - k)⟩ : Pl n))) pre.length → Ls R N o pre.length F lst))
    (fun _ _ _ => False)
    ?own (fun _ _ _ _ _ hs _ _ => hs) ?start
    (fun x => { tmps := #[.slice a n c, .slice a2 n c2, undef, .pointer (some ⟨w.heap.size, 0, none⟩), .int .i64 0, .pointer (some ⟨w.heap.size + 1, 0, none⟩), .pointer (some ⟨w1.heap.size, 0, none⟩), undef, .int .i64 (x.2.1 : Int), undef, undef, .slice a n c, .int .i64 (n : Int), .slice a n c, .slice (some ⟨gf, 0, none⟩) n n, .slice a n c, .slice a3 n c3, .func (.func 28) #[] #[.pointer (some ⟨w2.heap.size, 0, none⟩)], .int .i64 (x.1 : Int), .int .i64 (x.2.1 : Int), undef, undef, undef, undef, undef, undef, undef, undef, undef, undef, undef, undef, undef, undef, undef, undef, undef, undef, undef, undef, undef, undef, undef], defers := [] }) ?assign ?body ?done ?stop
  case own =>
    rintro pre W W' row ⟨F, lst, ⟨h1, h2, h3, h4, h5, h6, h7, h8⟩, h9⟩ hg hr
    exact ⟨F, lst, ⟨keepC h1 hg hr, h2, h3, keepC h4 hg hr, keepC h5 hg hr, keepC h6 hg hr, h7.grown hg h7.size (fun k e => by have := (hr k e).1; simp at this; omega), Nat.le_trans h8 hg.size⟩, h9⟩
  case start =>
    refine ⟨List.replicate n (-1), n, ⟨H2.out.2.2.2.1.alloc _, by simp, Nat.le_refl _, ?_, ?_, ?_, H2.out.1.alloc H2.out.1.size _, by simp⟩, fun _ => ?_⟩
    · rw [hgl]; exact (Below.heap_alloc _ _ _ H2.out.2.2.1.lt).trans H2.out.2.2.1
    · exact (Below.heap_alloc _ _ _ H2.out.2.1.lt).trans H2.out.2.1
    · exact (Below.heap_alloc _ _ _ H2.out.2.2.2.2.1.lt).trans H2.out.2.2.2.2.1
    · have := Ls.start (G := R) (T := N) (o := o) (F := List.replicate n (-1)) (by rw [HL2.out, HL.out]) (by rw [hol, HL.out]) (fun j hj => by rw [HL.out] at hj; simp [hj])
      rw [HL.out] at this; exact this
  case assign =>
    intro l x W K hK
    simp only [encB]
    gi_wp2
    exact hK
  case body =>
    rintro l pre ⟨xk, ⟨xi, hxi⟩⟩ W ⟨F, lst, hmem, hpure⟩ hlt
    have hxn : xi < n := by omega
    have hc6 := hmem.2.2.2.2.2.1.cell
    have hc3 := hmem.2.2.2.2.1.cell
    have hcF := hmem.1.cell xi (by rw [hmem.2.1]; exact hxn)
    have hfF := hmem.1.free xi
    have hWs := hmem.2.2.2.2.2.2.2
    obtain ⟨Y, hY⟩ : ∃ Y, Y = F.getD xi 0 := ⟨_, rfl⟩
    rw [← hY] at hcF
    have HY := Lib.hid hY; clear hY
    have hxI : (xi : Int) < (n : Int) := by omega
    -- if it came as it should, it is the next one
    have hnext : pre ++ [(xk, (⟨xi, hxi⟩ : Pl n))] = upto (fun k => (n - 1 - k, (⟨o.getD (n - 1 - k) 0, hpl (n - 1 - k)⟩ : Pl n))) (pre ++ [(xk, (⟨xi, hxi⟩ : Pl n))]).length →
        pre = upto (fun k => (n - 1 - k, (⟨o.getD (n - 1 - k) 0, hpl (n - 1 - k)⟩ : Pl n))) pre.length ∧ xi = o.getD (n - 1 - pre.length) 0 := by
      intro e
      rw [List.length_append] at e
      simp only [List.length_cons, List.length_nil, Nat.zero_add] at e
      rw [upto_succ] at e
      obtain ⟨e1, e2⟩ := List.append_inj' e rfl
      simp at e2
      exact ⟨e1, e2.2⟩
    have HPU := Lib.hid hpure; clear hpure
    have HNX := Lib.hid hnext; clear hnext
    have HME := Lib.hid hmem; clear hmem
    by_cases hY1 : Y = -1
    · subst hY1
      have h89 : (1 : Nat) ≤ 10 - 1 - 1 := by omega
      gi_wp2_with fail
      refine ⟨trivial, (CallsIn.inRound l (toIn 7 (spread_any a2 n c2 B N xi gf n F W (HG2.out.below (HME.out.2.2.2.2.2.2.1.mono hB)) (by omega) (by omega) HME.out.1 HME.out.2.1 hxn hn))).mono ?_⟩
      rintro e w4 ⟨a4, c4, row, D, F1, rfl, hrow, hsp, hmF, honly, had⟩
      have hk1 : Box w4 gl 3 (.int .i64 (lst : Int)) := HME.out.2.2.2.1.only honly (by simp; omega)
      have hk2 : Box w4 w.heap.size 22 (.slice a2 n c2) := HME.out.2.2.2.2.1.only honly (by simp; omega)
      have hk3 : Box w4 w1.heap.size 24 (.slice (some ⟨gf, 0, none⟩) n n) := HME.out.2.2.2.2.2.1.only honly (by simp; omega)
      have hk4 : Below w.heap.size w w4 := HME.out.2.2.2.2.2.2.1.trans (honly.below (by omega) (by intro j hj; simp at hj; omega))
      have hk5 : W.heap.size ≤ w4.heap.size := honly.size
      have hrl : row.length - 1 ≤ 1000000 := by have := hsp.len; have := HL2.out; omega
      obtain ⟨L, hL⟩ : ∃ L, L = row.length - 1 := ⟨_, rfl⟩
      have hlt2 : row.tail.length = L := by rw [hL]; simp
      rw [← hL] at hrow hrl ⊢
      have H4 := Lib.hid (And.intro hk1 (And.intro hk2 (And.intro hk3 (And.intro hk4 (And.intro hmF (And.intro honly (And.intro had (And.intro hrow (And.intro hsp hlt2))))))))); clear hk1 hk2 hk3 hk4 hmF honly had hrow hsp hlt2 hL
      gi_wp2
      gi_loopw [30] (fun t wr => ∃ (p lt : Nat), p ≤ L ∧ t = .int .i64 (p : Int) ∧ Hid (Box wr gl 3 (.int .i64 (lt : Int)) ∧ lt ≤ lst ∧ (∀ j ∈ row.tail.take p, lt ≤ j) ∧ (lt = lst ∨ lt ∈ row.tail) ∧ Only [some gl] w4 wr)) (fun t _ => L - (intOf t).toNat)
      case atStart => exact ⟨0, lst, Nat.zero_le _, rfl, H4.out.1, Nat.le_refl _, fun j hj => by simp at hj, Or.inl rfl, Only.refl _ _⟩
      case round =>
        obtain ⟨p, lt, hp, rfl, HZ⟩ := hrel
        by_cases hp0 : p < L
        · obtain ⟨b4, off4, rfl, hb4, hcell4⟩ := (H4.out.2.2.2.2.2.2.2.1.only HZ.out.2.2.2.2 (Nat.le_refl _) (by intro ad e; have := H4.out.2.2.2.2.2.2.1 ad e; simp; omega)).at_ hp0
          rw [ints_getD] at hcell4
          have hpl4 : p < row.tail.length := by rw [H4.out.2.2.2.2.2.2.2.2.2]; exact hp0
          have hts := take_snocN row.tail p hpl4
          have hxm : row.tail.getD p 0 ∈ row.tail := by
            have e : row.tail.getD p 0 = row.tail[p] := by simp only [List.getD, List.getElem?_eq_getElem hpl4, Option.getD_some]
            rw [e]; exact List.getElem_mem hpl4
          obtain ⟨x, hx⟩ : ∃ x, x = row.tail.getD p 0 := ⟨_, rfl⟩
          rw [← hx] at hcell4 hts hxm
          have HTS := Lib.hid (And.intro hts hxm); clear hts hxm hx hpl4
          have hcl := HZ.out.1.cell
          have hfl := HZ.out.1.free
          rw [hgl] at hcl hfl
          have hl63 : lt ≤ 1000000 := by have := HZ.out.2.1; have := HME.out.2.2.1; omega
          rcases Nat.lt_or_ge x lt with hxl | hxl
          · have hxlI : (x : Int) < (lt : Int) := by omega
            gi_wp2
            go_roundw
            case rel =>
              refine ⟨p + 1, x, by omega, by go_num, ?_, by have := HZ.out.2.1; omega, ?_, Or.inr HTS.out.2, HZ.out.2.2.2.2.trans (by rw [← hgl]; exact Only.set (by simp) _ _ _)⟩
              · have := HZ.out.1.set (.int .i64 (x : Int)); rw [hgl] at this ⊢; exact this
              · intro j hj
                rw [HTS.out.1] at hj
                rcases List.mem_append.1 hj with q | q
                · have := HZ.out.2.2.1 j q; omega
                · simp at q; omega
            case measure => first | (simp [intOf]; done) | (simp [intOf]; omega)
          · have hxlI : ¬ (x : Int) < (lt : Int) := by omega
            have hxlJ : (lt : Int) ≤ (x : Int) := by omega
            gi_wp2
            go_roundw
            case rel =>
              refine ⟨p + 1, lt, by omega, by go_num, ?_, HZ.out.2.1, ?_, HZ.out.2.2.2.1, HZ.out.2.2.2.2.trans (by rw [← hgl]; exact Only.set (by simp) _ _ _)⟩
              · have := HZ.out.1.set (.int .i64 (lt : Int)); rw [hgl] at this ⊢; exact this
              · intro j hj
                rw [HTS.out.1] at hj
                rcases List.mem_append.1 hj with q | q
                · exact HZ.out.2.2.1 j q
                · simp at q; omega
            case measure => first | (simp [intOf]; done) | (simp [intOf]; omega)
        · obtain rfl : p = L := by omega
          have hq6 := (H4.out.2.2.1.only HZ.out.2.2.2.2 (by simp; omega))
          have hqF := H4.out.2.2.2.2.1.only HZ.out.2.2.2.2 (by simp; omega)
          have hq22 := H4.out.2.1.only HZ.out.2.2.2.2 (by simp; omega)
          have hF1l : F1.length = n := by rw [H4.out.2.2.2.2.2.2.2.2.1.lenF, HL2.out]
          have hcq := hq6.cell
          have hcF2 := hqF.cell xi (by rw [hF1l]; exact hxn)
          have hfF2 := hqF.free xi
          have HQ := Lib.hid (And.intro hq6 (And.intro hqF (And.intro hq22 hF1l))); clear hq6 hqF hq22 hF1l
          gi_wp2
          have hon : Only [some gf, some gl] W (wr.setCell ⟨gf, xi, none⟩ (.int .i64 (xi : Int))) :=
            ((H4.out.2.2.2.2.2.1.weak (S' := [some gf, some gl]) (by intro j hj; simp at hj ⊢; exact Or.inl hj)).trans (HZ.out.2.2.2.2.weak (by intro j hj; simp at hj ⊢; exact Or.inr hj))).trans (Only.set (by simp) _ _ _)
          refine ⟨KeepsFrom.of_cells hon (by simp; omega) (by simp; omega), OnlyB.of_only hon hWs, F1.set xi (xi : Int), lt, ⟨HQ.out.2.1.set xi _, by simp [HQ.out.2.2.2], Nat.le_trans HZ.out.2.1 HME.out.2.2.1, HZ.out.1.setOther (by simp; omega) _, HQ.out.2.2.1.setOther (by simp; omega) _, HQ.out.1.setOther (by simp; omega) _, (H4.out.2.2.2.1.trans (HZ.out.2.2.2.2.below (by omega) (by intro j hj; simp at hj; omega))).setCell (p := ⟨gf, xi, none⟩) (by show _ ≤ gf; omega) _, by have := hon.size; omega⟩, fun e => ?_⟩
          obtain ⟨e1, e2⟩ := HNX.out e
          have hl : (pre ++ [(xk, (⟨xi, hxi⟩ : Pl n))]).length = pre.length + 1 := by simp
          rw [hl]
          exact (HPU.out e1).step HT.out (by rw [hol, HL.out]) HO.out.1 (fun k hk => HO.out.2.1 k (by rw [← HL.out]; exact hk)) HO.out.2.2.2.1 (by rw [HL.out]; exact hlt) xi (by rw [HL.out]; exact e2) HY.out.symm H4.out.2.2.2.2.2.2.2.2.1 lt HZ.out.2.1 (fun j hj => HZ.out.2.2.1 j (by rw [List.take_of_length_le (by rw [H4.out.2.2.2.2.2.2.2.2.2]; exact Nat.le_refl _)]; exact hj)) HZ.out.2.2.2.1
    · have hY2 : (Y != -1) = true := by simpa using hY1
      have HY1 := Lib.hid hY1; clear hY1
      gi_wp2
      refine ⟨KeepsFrom.refl _ _, OnlyB.refl _ _ _, F, lst, HME.out, fun e => ?_⟩
      obtain ⟨e1, e2⟩ := HNX.out e
      have hl : (pre ++ [(xk, (⟨xi, hxi⟩ : Pl n))]).length = pre.length + 1 := by simp
      rw [hl]
      exact (HPU.out e1).skip (by rw [hol, HL.out]) (by rw [HL.out]; exact hlt) xi (by rw [HL.out]; exact e2) (by rw [← HY.out]; exact HY1.out)
  case done =>
    rintro D ys W hD rfl ⟨F, lst, hmem, hpure⟩ hK
    have hc := hmem.2.2.2.1.cell
    rw [hgl] at hc
    have HPU := Lib.hid hpure; clear hpure
    have HME := Lib.hid hmem; clear hmem
    gi_wp2
    refine ⟨by simp, .inl ⟨_, _, rfl, run_takeDeferred hK, ?_⟩⟩
    have hP := HPU.out (by rw [upto_length])
    rw [upto_length] at hP
    refine ⟨_, results_tmp rfl _ _ _, lst, rfl, Ls.end_ (by rw [HL.out]; exact hP) (fun k hk => HO.out.2.1 k (by rw [← HL.out]; exact hk)), HME.out.2.2.2.2.2.2.1.trans (belowK_b (w := w) (Nat.le_refl _) W D _ _ ?_ hK rfl rfl)⟩
    simp at hD
    omega
  case stop =>
    rintro D c pre W _ _ h _
    exact h.elim
end Go.Proofs.Ytdcmdbhkaohkgaa
