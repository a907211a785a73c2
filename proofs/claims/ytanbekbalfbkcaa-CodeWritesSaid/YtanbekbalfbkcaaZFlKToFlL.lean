/- What areSlopes tells; the boxes of the parts. No condition. · What allKept tells. No condition. -/
import Derived.Test.YtanbekbalfbkcaaZFlHToFlJ
namespace Go.Proofs.Ytanbekbalfbkcaa
set_option linter.unusedVariables false
set_option linter.unusedSimpArgs false
set_option maxRecDepth 100000
open Go.RowKit

def memvs (x : MemM) (m d r : Option Addr × Nat × Nat) : Array Value := #[.int .i64 x.init.kind, .bool x.init.neg, .slice m.1 m.2.1 m.2.2, .slice d.1 d.2.1 d.2.2, .string x.init.name, .int .i64 x.next, .int .i64 x.guard, .slice r.1 r.2.1 r.2.2]
theorem Blk.mem {w : World} {g T : Nat} {x : MemM} {m d r : Option Addr × Nat × Nat} (h : Blk w g T (memvs x m d r)) : w.cell? ⟨g, 0, none⟩ = some (.int .i64 x.init.kind) ∧ w.cell? ⟨g, 1, none⟩ = some (.bool x.init.neg) ∧ w.cell? ⟨g, 2, none⟩ = some (.slice m.1 m.2.1 m.2.2) ∧ w.cell? ⟨g, 3, none⟩ = some (.slice d.1 d.2.1 d.2.2) ∧ w.cell? ⟨g, 4, none⟩ = some (.string x.init.name) ∧ w.cell? ⟨g, 5, none⟩ = some (.int .i64 x.next) ∧ w.cell? ⟨g, 6, none⟩ = some (.int .i64 x.guard) ∧ w.cell? ⟨g, 7, none⟩ = some (.slice r.1 r.2.1 r.2.2) :=
  ⟨h.cell 0 rfl, h.cell 1 rfl, h.cell 2 rfl, h.cell 3 rfl, h.cell 4 rfl, h.cell 5 rfl, h.cell 6 rfl, h.cell 7 rfl⟩
theorem MemAt.cells {w : World} {B b o : Nat} {x : MemM} (h : MemAt w B b o x) : ∃ m d r : Option Addr × Nat × Nat, URow w B m.1 m.2.1 m.2.2 x.init.mag ∧ URow w B d.1 d.2.1 d.2.2 x.init.den ∧ IRow w B r.1 r.2.1 r.2.2 x.resets ∧ (w.cell? ⟨b, o, none⟩ = some (.int .i64 x.init.kind) ∧ w.cell? ⟨b, o + 1, none⟩ = some (.bool x.init.neg) ∧ w.cell? ⟨b, o + 2, none⟩ = some (.slice m.1 m.2.1 m.2.2) ∧ w.cell? ⟨b, o + 3, none⟩ = some (.slice d.1 d.2.1 d.2.2) ∧ w.cell? ⟨b, o + 4, none⟩ = some (.string x.init.name) ∧ w.cell? ⟨b, o + 5, none⟩ = some (.int .i64 x.next) ∧ w.cell? ⟨b, o + 6, none⟩ = some (.int .i64 x.guard) ∧ w.cell? ⟨b, o + 7, none⟩ = some (.slice r.1 r.2.1 r.2.2)) := by
  obtain ⟨A1, L1, C1, p1, q1⟩ := h.init.mag
  obtain ⟨A2, L2, C2, p2, q2⟩ := h.init.den
  obtain ⟨A3, L3, C3, p3, q3⟩ := h.resets
  exact ⟨(A1, L1, C1), (A2, L2, C2), (A3, L3, C3), q1, q2, q3, h.init.kind.1, h.init.neg, p1, p2, h.init.name.1, h.next.1, h.guard.1, p3⟩
def slopevs (x : SlopeM)  : Array Value := #[.int .i64 x.guard, .int .i64 x.var]
theorem Blk.slope {w : World} {g T : Nat} {x : SlopeM}  (h : Blk w g T (slopevs x )) : w.cell? ⟨g, 0, none⟩ = some (.int .i64 x.guard) ∧ w.cell? ⟨g, 1, none⟩ = some (.int .i64 x.var) :=
  ⟨h.cell 0 rfl, h.cell 1 rfl⟩
theorem SlopeAt.cells {w : World} {B b o : Nat} {x : SlopeM} (h : SlopeAt w B b o x) : (w.cell? ⟨b, o, none⟩ = some (.int .i64 x.guard) ∧ w.cell? ⟨b, o + 1, none⟩ = some (.int .i64 x.var)) := by
  exact ⟨h.guard.1, h.var.1⟩
def contvs (x : ContM) (m d r s : Option Addr × Nat × Nat) : Array Value := #[.int .i64 x.init.kind, .bool x.init.neg, .slice m.1 m.2.1 m.2.2, .slice d.1 d.2.1 d.2.2, .string x.init.name, .int .i64 x.var, .int .i64 x.guard, .slice r.1 r.2.1 r.2.2, .slice s.1 s.2.1 s.2.2]
theorem Blk.cont {w : World} {g T : Nat} {x : ContM} {m d r s : Option Addr × Nat × Nat} (h : Blk w g T (contvs x m d r s)) : w.cell? ⟨g, 0, none⟩ = some (.int .i64 x.init.kind) ∧ w.cell? ⟨g, 1, none⟩ = some (.bool x.init.neg) ∧ w.cell? ⟨g, 2, none⟩ = some (.slice m.1 m.2.1 m.2.2) ∧ w.cell? ⟨g, 3, none⟩ = some (.slice d.1 d.2.1 d.2.2) ∧ w.cell? ⟨g, 4, none⟩ = some (.string x.init.name) ∧ w.cell? ⟨g, 5, none⟩ = some (.int .i64 x.var) ∧ w.cell? ⟨g, 6, none⟩ = some (.int .i64 x.guard) ∧ w.cell? ⟨g, 7, none⟩ = some (.slice r.1 r.2.1 r.2.2) ∧ w.cell? ⟨g, 8, none⟩ = some (.slice s.1 s.2.1 s.2.2) :=
  ⟨h.cell 0 rfl, h.cell 1 rfl, h.cell 2 rfl, h.cell 3 rfl, h.cell 4 rfl, h.cell 5 rfl, h.cell 6 rfl, h.cell 7 rfl, h.cell 8 rfl⟩
theorem ContAt.cells {w : World} {B b o : Nat} {x : ContM} (h : ContAt w B b o x) : ∃ m d r s : Option Addr × Nat × Nat, URow w B m.1 m.2.1 m.2.2 x.init.mag ∧ URow w B d.1 d.2.1 d.2.2 x.init.den ∧ IRow w B r.1 r.2.1 r.2.2 x.resets ∧ SRow 2 SlopeAt w B s.1 s.2.1 s.2.2 x.slopes ∧ (w.cell? ⟨b, o, none⟩ = some (.int .i64 x.init.kind) ∧ w.cell? ⟨b, o + 1, none⟩ = some (.bool x.init.neg) ∧ w.cell? ⟨b, o + 2, none⟩ = some (.slice m.1 m.2.1 m.2.2) ∧ w.cell? ⟨b, o + 3, none⟩ = some (.slice d.1 d.2.1 d.2.2) ∧ w.cell? ⟨b, o + 4, none⟩ = some (.string x.init.name) ∧ w.cell? ⟨b, o + 5, none⟩ = some (.int .i64 x.var) ∧ w.cell? ⟨b, o + 6, none⟩ = some (.int .i64 x.guard) ∧ w.cell? ⟨b, o + 7, none⟩ = some (.slice r.1 r.2.1 r.2.2) ∧ w.cell? ⟨b, o + 8, none⟩ = some (.slice s.1 s.2.1 s.2.2)) := by
  obtain ⟨A1, L1, C1, p1, q1⟩ := h.init.mag
  obtain ⟨A2, L2, C2, p2, q2⟩ := h.init.den
  obtain ⟨A3, L3, C3, p3, q3⟩ := h.resets
  obtain ⟨A4, L4, C4, p4, q4⟩ := h.slopes
  exact ⟨(A1, L1, C1), (A2, L2, C2), (A3, L3, C3), (A4, L4, C4), q1, q2, q3, q4, h.init.kind.1, h.init.neg, p1, p2, h.init.name.1, h.var.1, h.guard.1, p3, p4⟩
def copvs (x : COpM) (r : Option Addr × Nat × Nat) : Array Value := #[.string x.op, .slice r.1 r.2.1 r.2.2]
theorem Blk.cop {w : World} {g T : Nat} {x : COpM} {r : Option Addr × Nat × Nat} (h : Blk w g T (copvs x r)) : w.cell? ⟨g, 0, none⟩ = some (.string x.op) ∧ w.cell? ⟨g, 1, none⟩ = some (.slice r.1 r.2.1 r.2.2) :=
  ⟨h.cell 0 rfl, h.cell 1 rfl⟩
theorem COpAt.cells {w : World} {B b o : Nat} {x : COpM} (h : COpAt w B b o x) : ∃ r : Option Addr × Nat × Nat, IRow w B r.1 r.2.1 r.2.2 x.args ∧ (w.cell? ⟨b, o, none⟩ = some (.string x.op) ∧ w.cell? ⟨b, o + 1, none⟩ = some (.slice r.1 r.2.1 r.2.2)) := by
  obtain ⟨A1, L1, C1, p1, q1⟩ := h.args
  exact ⟨(A1, L1, C1), q1, h.op.1, p1⟩
def crossvs (x : CrossM) (r : Option Addr × Nat × Nat) : Array Value := #[.int .i64 x.guard, .slice r.1 r.2.1 r.2.2]
theorem Blk.cross {w : World} {g T : Nat} {x : CrossM} {r : Option Addr × Nat × Nat} (h : Blk w g T (crossvs x r)) : w.cell? ⟨g, 0, none⟩ = some (.int .i64 x.guard) ∧ w.cell? ⟨g, 1, none⟩ = some (.slice r.1 r.2.1 r.2.2) :=
  ⟨h.cell 0 rfl, h.cell 1 rfl⟩
theorem CrossAt.cells {w : World} {B b o : Nat} {x : CrossM} (h : CrossAt w B b o x) : ∃ r : Option Addr × Nat × Nat, SRow 2 COpAt w B r.1 r.2.1 r.2.2 x.ops ∧ (w.cell? ⟨b, o, none⟩ = some (.int .i64 x.guard) ∧ w.cell? ⟨b, o + 1, none⟩ = some (.slice r.1 r.2.1 r.2.2)) := by
  obtain ⟨A1, L1, C1, p1, q1⟩ := h.ops
  exact ⟨(A1, L1, C1), q1, h.guard.1, p1⟩

/-- what holds while one part is looked at: the program's box, the part's box, the program, and what P says -/
structure St (W0 : World) (B g e T : Nat) (v : FlatV) (f : FlatM) (vs : Array Value) (P : World → Prop) (W : World) : Prop where
  fb : Blk W g 29 (fvs v)
  qb : Blk W e T vs
  is : FlatIs W B v f
  row : P W
  old : Below (g + 1) W0 W
  le : B ≤ g
  keep : ∀ W W', Below B W W' → P W → P W'
theorem St.later {W0 W W' : World} {B g e T : Nat} {v : FlatV} {f : FlatM} {vs : Array Value} {P : World → Prop} (h : St W0 B g e T v f vs P W) (hb : Below W.heap.size W W') : St W0 B g e T v f vs P W' :=
  have hl := h.fb.lt
  have hB : B ≤ W.heap.size := Nat.le_trans h.le (Nat.le_of_lt hl)
  ⟨h.fb.later hb, h.qb.later hb, h.is.below (hb.mono hB), h.keep _ _ (hb.mono hB) h.row, h.old.trans (hb.mono hl), h.le, h.keep⟩
theorem St.hB {W0 W : World} {B g e T : Nat} {v : FlatV} {f : FlatM} {vs : Array Value} {P : World → Prop} (h : St W0 B g e T v f vs P W) : B ≤ W.heap.size := Nat.le_trans h.le (Nat.le_of_lt h.fb.lt)
theorem St.new {W0 W : World} {B g T : Nat} {v : FlatV} {f : FlatM} (vs : Array Value) {P : World → Prop} (hfb : Blk W g 29 (fvs v)) (his : FlatIs W B v f) (ho : Below (g + 1) W0 W) (hB : B ≤ g) (hk : ∀ W W', Below B W W' → P W → P W') (hp : P W) :
    St W0 B g W.heap.size T v f vs P (W.alloc (.cells vs T)) :=
  have hnew : Below W.heap.size W (W.alloc (.cells vs T)) := (Below.refl _ _).alloc (Nat.le_refl _) _
  have hB' : B ≤ W.heap.size := Nat.le_trans hB (Nat.le_of_lt hfb.lt)
  ⟨hfb.later hnew, Blk.new _ _ _, his.below (hnew.mono hB'), hk _ _ (hnew.mono hB') hp, ho.trans (hnew.mono hfb.lt), hB, hk⟩
theorem SRow.below {α : Type} {sz : Nat} {R : World → Nat → Nat → Nat → α → Prop} {w w' : World} {B : Nat} {a : Option Addr} {n c : Nat} {xs : List α} (h : SRow sz R w B a n c xs) (hb : Below B w w') (hR : ∀ b o x, b < B → R w B b o x → R w' B b o x) : SRow sz R w' B a n c xs := h.keep hR

set_option maxHeartbeats 1000000 in
theorem areSlopes_t (a : Option Addr) (n c : Nat) (xs : List SlopeM) (v : FlatV) (f : FlatM) (B : Nat) (w : World) (hr : SRow 2 SlopeAt w B a n c xs) (h : FlatIs w B v f) (hB : B ≤ w.heap.size) :
    Calls Try.prog 56 #[.slice a n c, flatV v] w fun e w' => e = .returned (.bool (xs.all (slopeB f))) ∧ Below w.heap.size w w' := by
  have hm := hr.len_le
  have HQ : Hid (∀ x, slopeB f x = (guB x.guard v.names.2.1 && plB x.var v.names.2.1)) := Lib.hid fun x => by unfold slopeB; rw [h.names.1]
  have HR := Lib.hid (show SRow 2 SlopeAt (w.alloc (.cells (fvs v) 29)) B a n c xs from hr.keep fun _ _ _ q r => r.keep q fun _ hp => ((Below.refl B w).alloc hB _).cell hp)
  have HE := Lib.hid hr.1
  have HF := Lib.hid (show FlatIs (w.alloc (.cells (fvs v) 29)) B v f from h.below ((Below.refl B w).alloc hB _)); clear h hr
  have HK := Lib.hid (Blk.new w 29 (fvs v))
  have HB0 := Lib.hid (show Below w.heap.size w (w.alloc (.cells (fvs v) 29)) from (Below.refl _ _).alloc (Nat.le_refl _) _)
  have HBB := Lib.hid hB; clear hB
  unfold maxLen at hm
  unfold flatV sl3
  go_enter Try.func56, Try.ntmps56
  go_wp2
  go_loopw [9] (fun t wr => ∃ k : Nat, k ≤ n ∧ t = .int .i64 k ∧ Hid ((xs.take k).all (slopeB f) = true) ∧ Hid (Below (w.heap.size + 1) (w.alloc (.cells (fvs v) 29)) wr)) (fun t _ => n - (intOf t).toNat)
  case atStart => exact ⟨0, Nat.zero_le _, rfl, Lib.hid rfl, Lib.hid (Below.refl _ _)⟩
  case round =>
    obtain ⟨k, hk, rfl, hz, hbr⟩ := hrel
    by_cases hlt : k < n
    · have hfb := HK.out.below hbr.out (Nat.lt_succ_self _)
      have hbB := hbr.out.mono (Nat.le_succ_of_le HBB.out)
      obtain ⟨x, hx⟩ := HR.out.ex hlt
      obtain ⟨b, off, rfl, hlb, hat⟩ := HR.out.at_ hx
      obtain ⟨e0, e1⟩ := (hat.keep hlb fun _ hp => hbB.cell hp).cells
      obtain ⟨f0, f1, f2, f3, f4, f5, f6, f7⟩ := hfb.flat
      have hgl : w.heap.size < wr.heap.size := hfb.lt
      have hbl : b < wr.heap.size := Nat.lt_of_lt_of_le hlb (Nat.le_trans HBB.out (Nat.le_of_lt hfb.lt))
      have HS := Lib.hid (St.new (T := 84) (P := fun _ => True) (slopevs x) hfb (HF.out.below hbB) hbr.out HBB.out (fun _ _ _ _ => trivial) trivial)
      have HX := Lib.hid hx
      clear hfb hat hx hbB
      cases h1 : guB x.guard v.names.2.1 with
      | false =>
        have H1 := Lib.hid h1; clear h1
        go_wp2_with (first | (go_at_call 51; refine (isGuard_at x.guard v false _ H1.out).mono ?_; rintro e w1 ⟨rfl, hb⟩; replace HS := Lib.hid (HS.out.later hb); clear hb; obtain ⟨f0, f1, f2, f3, f4, f5, f6, f7⟩ := HS.out.fb.flat; obtain ⟨e0, e1⟩ := HS.out.qb.slope))
        go_ret
        exact ⟨ret_bool' (all_no HX.out (by rw [HQ.out, H1.out]; simp)).symm, HB0.out.trans (HS.out.old.mono (Nat.le_succ _))⟩
      | true =>
        have H1 := Lib.hid h1; clear h1
        cases h2 : plB x.var v.names.2.1 with
        | false =>
          have H2 := Lib.hid h2; clear h2
          go_wp2_with (first | (go_at_call 51; refine (isGuard_at x.guard v true _ H1.out).mono ?_; rintro e w1 ⟨rfl, hb⟩; replace HS := Lib.hid (HS.out.later hb); clear hb; obtain ⟨f0, f1, f2, f3, f4, f5, f6, f7⟩ := HS.out.fb.flat; obtain ⟨e0, e1⟩ := HS.out.qb.slope) | (go_at_call 55; refine (isVar_at x.var v false _ H2.out).mono ?_; rintro e w1 ⟨rfl, hb⟩; replace HS := Lib.hid (HS.out.later hb); clear hb; obtain ⟨f0, f1, f2, f3, f4, f5, f6, f7⟩ := HS.out.fb.flat; obtain ⟨e0, e1⟩ := HS.out.qb.slope))
          go_ret
          exact ⟨ret_bool' (all_no HX.out (by rw [HQ.out, H1.out, H2.out]; simp)).symm, HB0.out.trans (HS.out.old.mono (Nat.le_succ _))⟩
        | true =>
          have H2 := Lib.hid h2; clear h2
          go_wp2_with (first | (go_at_call 51; refine (isGuard_at x.guard v true _ H1.out).mono ?_; rintro e w1 ⟨rfl, hb⟩; replace HS := Lib.hid (HS.out.later hb); clear hb; obtain ⟨f0, f1, f2, f3, f4, f5, f6, f7⟩ := HS.out.fb.flat; obtain ⟨e0, e1⟩ := HS.out.qb.slope) | (go_at_call 55; refine (isVar_at x.var v true _ H2.out).mono ?_; rintro e w1 ⟨rfl, hb⟩; replace HS := Lib.hid (HS.out.later hb); clear hb; obtain ⟨f0, f1, f2, f3, f4, f5, f6, f7⟩ := HS.out.fb.flat; obtain ⟨e0, e1⟩ := HS.out.qb.slope))
          go_roundw
          case rel => exact ⟨k + 1, by omega, by go_num, Lib.hid (by rw [all_succ HX.out, HQ.out, H1.out, H2.out]; exact (by simpa using hz.out)), Lib.hid HS.out.old⟩
          case measure => simp [intOf]; omega
    · go_wp2
      go_ret
      exact ⟨ret_bool' (all_end HE.out (by rw [show n = k by omega]; exact hz.out)).symm, HB0.out.trans (hbr.out.mono (Nat.le_succ _))⟩
theorem areSlopes_b (a : Option Addr) (n c : Nat) (xs : List SlopeM) (v : FlatV) (f : FlatM) (B : Nat) (b : Bool) (w : World) (hr : SRow 2 SlopeAt w B a n c xs) (h : FlatIs w B v f) (hB : B ≤ w.heap.size) (hb : xs.all (slopeB f) = b) :
    Calls Try.prog 56 #[.slice a n c, flatV v] w fun e w' => e = .returned (.bool b) ∧ Below w.heap.size w w' := by
  subst hb; exact areSlopes_t a n c xs v f B w hr h hB

end Go.Proofs.Ytanbekbalfbkcaa

namespace Go.Proofs.Ytanbekbalfbkcaa
set_option linter.unusedVariables false
set_option linter.unusedSimpArgs false
set_option maxRecDepth 100000
open Go.RowKit

theorem keptB_outs {f : FlatM} (h : wiB f.outs f.names.length = false) : keptB f = false := by unfold keptB; rw [h]; simp
theorem keptB_again {f : FlatM} (h : wiB f.again f.names.length = false) : keptB f = false := by unfold keptB; rw [h]; simp
theorem keptB_mems {f : FlatM} (h : f.mems.all (memB f) = false) : keptB f = false := by unfold keptB; rw [h]; simp
theorem keptB_conts {f : FlatM} (h : f.conts.all (contB f) = false) : keptB f = false := by unfold keptB; rw [h]; simp
theorem keptB_yes {f : FlatM} (h0 : wiB f.outs f.names.length = true) (h1 : wiB f.again f.names.length = true) (h2 : f.mems.all (memB f) = true) (h3 : f.conts.all (contB f) = true) : keptB f = true := by unfold keptB; rw [h0, h1, h2, h3]; rfl

set_option maxHeartbeats 2000000 in
theorem allKept_t (v : FlatV) (f : FlatM) (B : Nat) (w : World) (h : FlatIs w B v f) (hB : B ≤ w.heap.size) :
    Calls Try.prog 44 #[flatV v] w fun e w' => e = .returned (.bool (keptB f)) ∧ Below w.heap.size w w' := by
  have hm4 := h.mems.len_le
  have hm5 := h.conts.len_le
  have HNN := Lib.hid h.names.1
  have HQM : Hid (∀ x, memB f x = (plB x.next v.names.2.1 && guB x.guard v.names.2.1 && wiB x.resets v.names.2.1)) := Lib.hid fun x => by unfold memB; rw [h.names.1]
  have HQC : Hid (∀ x, contB f x = (plB x.var v.names.2.1 && guB x.guard v.names.2.1 && wiB x.resets v.names.2.1 && x.slopes.all (slopeB f))) := Lib.hid fun x => by unfold contB; rw [h.names.1]
  have HE4 := Lib.hid h.mems.1
  have HE5 := Lib.hid h.conts.1
  have HF := Lib.hid (show FlatIs (w.alloc (.cells (fvs v) 29)) B v f from h.below ((Below.refl B w).alloc hB _)); clear h
  have HK := Lib.hid (Blk.new w 29 (fvs v))
  have HB0 := Lib.hid (show Below w.heap.size w (w.alloc (.cells (fvs v) 29)) from (Below.refl _ _).alloc (Nat.le_refl _) _)
  have HBB := Lib.hid hB; clear hB
  have HS : Hid (St (w.alloc (.cells (fvs v) 29)) B w.heap.size w.heap.size 29 v f (fvs v) (fun _ => True) (w.alloc (.cells (fvs v) 29))) := Lib.hid ⟨HK.out, HK.out, HF.out, trivial, Below.refl _ _, HBB.out, fun _ _ _ _ => trivial⟩
  unfold maxLen at hm4 hm5
  unfold flatV sl3
  go_enter Try.func44, Try.ntmps44
  cases h1 : wiB f.outs v.names.2.1 with
  | false =>
    have H1 := Lib.hid h1; clear h1
    go_wp2_with (first | (go_at_call 52; refine (areVars_at v.outs.1 v.outs.2.1 v.outs.2.2 B f.outs v false _ HS.out.is.outs HS.out.hB H1.out).mono ?_; rintro e w1 ⟨rfl, hb⟩; replace HS := Lib.hid (HS.out.later hb); clear hb; obtain ⟨f0, f1, f2, f3, f4, f5, f6, f7⟩ := HS.out.fb.flat))
    go_ret
    exact ⟨ret_bool' (keptB_outs (by rw [HNN.out]; exact H1.out)).symm, HB0.out.trans (HS.out.old.mono (Nat.le_succ _))⟩
  | true =>
    have H1 := Lib.hid h1; clear h1
    cases h2 : wiB f.again v.names.2.1 with
    | false =>
      have H2 := Lib.hid h2; clear h2
      go_wp2_with (first | (go_at_call 52; refine (areVars_at v.outs.1 v.outs.2.1 v.outs.2.2 B f.outs v true _ HS.out.is.outs HS.out.hB H1.out).mono ?_; rintro e w1 ⟨rfl, hb⟩; replace HS := Lib.hid (HS.out.later hb); clear hb; obtain ⟨f0, f1, f2, f3, f4, f5, f6, f7⟩ := HS.out.fb.flat) | (go_at_call 52; refine (areVars_at v.again.1 v.again.2.1 v.again.2.2 B f.again v false _ HS.out.is.again HS.out.hB H2.out).mono ?_; rintro e w1 ⟨rfl, hb⟩; replace HS := Lib.hid (HS.out.later hb); clear hb; obtain ⟨f0, f1, f2, f3, f4, f5, f6, f7⟩ := HS.out.fb.flat))
      go_ret
      exact ⟨ret_bool' (keptB_again (by rw [HNN.out]; exact H2.out)).symm, HB0.out.trans (HS.out.old.mono (Nat.le_succ _))⟩
    | true =>
      have H2 := Lib.hid h2; clear h2
      go_wp2_with (first | (go_at_call 52; refine (areVars_at v.outs.1 v.outs.2.1 v.outs.2.2 B f.outs v true _ HS.out.is.outs HS.out.hB H1.out).mono ?_; rintro e w1 ⟨rfl, hb⟩; replace HS := Lib.hid (HS.out.later hb); clear hb; obtain ⟨f0, f1, f2, f3, f4, f5, f6, f7⟩ := HS.out.fb.flat) | (go_at_call 52; refine (areVars_at v.again.1 v.again.2.1 v.again.2.2 B f.again v true _ HS.out.is.again HS.out.hB H2.out).mono ?_; rintro e w1 ⟨rfl, hb⟩; replace HS := Lib.hid (HS.out.later hb); clear hb; obtain ⟨f0, f1, f2, f3, f4, f5, f6, f7⟩ := HS.out.fb.flat))
      have HO := Lib.hid HS.out.old; clear HS
      have HA1 := H1; have HA2 := H2; clear H1 H2
      clear f0 f1 f2 f3 f4 f5 f6 f7
      go_loopw [22] (fun t wr => ∃ k : Nat, k ≤ v.mems.2.1 ∧ t = .int .i64 k ∧ Hid ((f.mems.take k).all (memB f) = true) ∧ Hid (Below (w.heap.size + 1) (w.alloc (.cells (fvs v) 29)) wr)) (fun t _ => v.mems.2.1 - (intOf t).toNat)
      case atStart => exact ⟨0, Nat.zero_le _, rfl, Lib.hid rfl, HO⟩
      case round =>
        obtain ⟨k, hk, rfl, hz, hbr⟩ := hrel
        have hfb := HK.out.below hbr.out (Nat.lt_succ_self _)
        have hbB := hbr.out.mono (Nat.le_succ_of_le HBB.out)
        obtain ⟨f0, f1, f2, f3, f4, f5, f6, f7⟩ := hfb.flat
        have hgl : w.heap.size < wr.heap.size := hfb.lt
        by_cases hlt : k < v.mems.2.1
        · have his := HF.out.below hbB
          obtain ⟨x, hx⟩ := his.mems.ex hlt
          obtain ⟨b, off, ha, hlb, hat⟩ := his.mems.at_ hx
          obtain ⟨m, d, r, _, _, hrow, e0, e1, e2, e3, e4, e5, e6, e7⟩ := hat.cells
          have hbl : b < wr.heap.size := Nat.lt_of_lt_of_le hlb (Nat.le_trans HBB.out (Nat.le_of_lt hfb.lt))
          have HS := Lib.hid (St.new (T := 66) (P := fun W => IRow W B r.1 r.2.1 r.2.2 x.resets) (memvs x m d r) hfb his hbr.out HBB.out (fun _ _ q h => h.below q) hrow)
          have HX := Lib.hid hx
          rw [ha]
          clear hfb hat hx hbB his ha hrow
          cases h1 : plB x.next v.names.2.1 with
          | false =>
            have H1 := Lib.hid h1; clear h1
            go_wp2_with (first | (go_at_call 55; refine (isVar_at x.next v false _ H1.out).mono ?_; rintro e w1 ⟨rfl, hb⟩; replace HS := Lib.hid (HS.out.later hb); clear hb; obtain ⟨f0, f1, f2, f3, f4, f5, f6, f7⟩ := HS.out.fb.flat; obtain ⟨e0, e1, e2, e3, e4, e5, e6, e7⟩ := HS.out.qb.mem))
            go_ret
            exact ⟨ret_bool' (keptB_mems (all_no HX.out (by rw [HQM.out, H1.out]; simp))).symm, HB0.out.trans (HS.out.old.mono (Nat.le_succ _))⟩
          | true =>
            have H1 := Lib.hid h1; clear h1
            cases h2 : guB x.guard v.names.2.1 with
            | false =>
              have H2 := Lib.hid h2; clear h2
              go_wp2_with (first | (go_at_call 55; refine (isVar_at x.next v true _ H1.out).mono ?_; rintro e w1 ⟨rfl, hb⟩; replace HS := Lib.hid (HS.out.later hb); clear hb; obtain ⟨f0, f1, f2, f3, f4, f5, f6, f7⟩ := HS.out.fb.flat; obtain ⟨e0, e1, e2, e3, e4, e5, e6, e7⟩ := HS.out.qb.mem) | (go_at_call 51; refine (isGuard_at x.guard v false _ H2.out).mono ?_; rintro e w1 ⟨rfl, hb⟩; replace HS := Lib.hid (HS.out.later hb); clear hb; obtain ⟨f0, f1, f2, f3, f4, f5, f6, f7⟩ := HS.out.fb.flat; obtain ⟨e0, e1, e2, e3, e4, e5, e6, e7⟩ := HS.out.qb.mem))
              go_ret
              exact ⟨ret_bool' (keptB_mems (all_no HX.out (by rw [HQM.out, H1.out, H2.out]; simp))).symm, HB0.out.trans (HS.out.old.mono (Nat.le_succ _))⟩
            | true =>
              have H2 := Lib.hid h2; clear h2
              cases h3 : wiB x.resets v.names.2.1 with
              | false =>
                have H3 := Lib.hid h3; clear h3
                go_wp2_with (first | (go_at_call 55; refine (isVar_at x.next v true _ H1.out).mono ?_; rintro e w1 ⟨rfl, hb⟩; replace HS := Lib.hid (HS.out.later hb); clear hb; obtain ⟨f0, f1, f2, f3, f4, f5, f6, f7⟩ := HS.out.fb.flat; obtain ⟨e0, e1, e2, e3, e4, e5, e6, e7⟩ := HS.out.qb.mem) | (go_at_call 51; refine (isGuard_at x.guard v true _ H2.out).mono ?_; rintro e w1 ⟨rfl, hb⟩; replace HS := Lib.hid (HS.out.later hb); clear hb; obtain ⟨f0, f1, f2, f3, f4, f5, f6, f7⟩ := HS.out.fb.flat; obtain ⟨e0, e1, e2, e3, e4, e5, e6, e7⟩ := HS.out.qb.mem) | (go_at_call 52; refine (areVars_at r.1 r.2.1 r.2.2 B x.resets v false _ HS.out.row HS.out.hB H3.out).mono ?_; rintro e w1 ⟨rfl, hb⟩; replace HS := Lib.hid (HS.out.later hb); clear hb; obtain ⟨f0, f1, f2, f3, f4, f5, f6, f7⟩ := HS.out.fb.flat; obtain ⟨e0, e1, e2, e3, e4, e5, e6, e7⟩ := HS.out.qb.mem))
                go_ret
                exact ⟨ret_bool' (keptB_mems (all_no HX.out (by rw [HQM.out, H1.out, H2.out, H3.out]; simp))).symm, HB0.out.trans (HS.out.old.mono (Nat.le_succ _))⟩
              | true =>
                have H3 := Lib.hid h3; clear h3
                go_wp2_with (first | (go_at_call 55; refine (isVar_at x.next v true _ H1.out).mono ?_; rintro e w1 ⟨rfl, hb⟩; replace HS := Lib.hid (HS.out.later hb); clear hb; obtain ⟨f0, f1, f2, f3, f4, f5, f6, f7⟩ := HS.out.fb.flat; obtain ⟨e0, e1, e2, e3, e4, e5, e6, e7⟩ := HS.out.qb.mem) | (go_at_call 51; refine (isGuard_at x.guard v true _ H2.out).mono ?_; rintro e w1 ⟨rfl, hb⟩; replace HS := Lib.hid (HS.out.later hb); clear hb; obtain ⟨f0, f1, f2, f3, f4, f5, f6, f7⟩ := HS.out.fb.flat; obtain ⟨e0, e1, e2, e3, e4, e5, e6, e7⟩ := HS.out.qb.mem) | (go_at_call 52; refine (areVars_at r.1 r.2.1 r.2.2 B x.resets v true _ HS.out.row HS.out.hB H3.out).mono ?_; rintro e w1 ⟨rfl, hb⟩; replace HS := Lib.hid (HS.out.later hb); clear hb; obtain ⟨f0, f1, f2, f3, f4, f5, f6, f7⟩ := HS.out.fb.flat; obtain ⟨e0, e1, e2, e3, e4, e5, e6, e7⟩ := HS.out.qb.mem))
                go_roundw
                case rel => exact ⟨k + 1, by omega, by go_num, Lib.hid (by rw [all_succ HX.out, HQM.out, H1.out, H2.out, H3.out]; exact (by simpa using hz.out)), Lib.hid HS.out.old⟩
                case measure => simp [intOf]; omega
        · have HMM := Lib.hid (all_end HE4.out (by rw [show v.mems.2.1 = k by omega]; exact hz.out))
          clear hfb hbB
          go_wp2
          clear f0 f1 f2 f3 f4 f5 f6 f7 hgl
          have HBR := hbr; clear hbr hz
          obtain ⟨W9, rfl⟩ : ∃ W9 : World, W9 = wr := ⟨_, rfl⟩
          go_loopw [49] (fun t wr => ∃ k : Nat, k ≤ v.conts.2.1 ∧ t = .int .i64 k ∧ Hid ((f.conts.take k).all (contB f) = true) ∧ Hid (Below (w.heap.size + 1) (w.alloc (.cells (fvs v) 29)) wr)) (fun t _ => v.conts.2.1 - (intOf t).toNat)
          case atStart => exact ⟨0, Nat.zero_le _, rfl, Lib.hid rfl, HBR⟩
          case round =>
            obtain ⟨k, hk, rfl, hz, hbr⟩ := hrel
            have hfb := HK.out.below hbr.out (Nat.lt_succ_self _)
            have hbB := hbr.out.mono (Nat.le_succ_of_le HBB.out)
            obtain ⟨f0, f1, f2, f3, f4, f5, f6, f7⟩ := hfb.flat
            have hgl : w.heap.size < wr.heap.size := hfb.lt
            by_cases hlt : k < v.conts.2.1
            · have his := HF.out.below hbB
              obtain ⟨x, hx⟩ := his.conts.ex hlt
              obtain ⟨b, off, ha, hlb, hat⟩ := his.conts.at_ hx
              obtain ⟨m, d, r, s, _, _, hrow, hrs, e0, e1, e2, e3, e4, e5, e6, e7, e8⟩ := hat.cells
              have hbl : b < wr.heap.size := Nat.lt_of_lt_of_le hlb (Nat.le_trans HBB.out (Nat.le_of_lt hfb.lt))
              have HS := Lib.hid (St.new (T := 70) (P := fun W => IRow W B r.1 r.2.1 r.2.2 x.resets ∧ SRow 2 SlopeAt W B s.1 s.2.1 s.2.2 x.slopes) (contvs x m d r s) hfb his hbr.out HBB.out (fun _ _ q h => ⟨h.1.below q, h.2.keep fun _ _ _ q1 q2 => q2.keep q1 fun _ hp => q.cell hp⟩) ⟨hrow, hrs⟩)
              have HX := Lib.hid hx
              rw [ha]
              clear hfb hat hx hbB his ha hrow hrs
              cases h1 : plB x.var v.names.2.1 with
              | false =>
                have H1 := Lib.hid h1; clear h1
                go_wp2_with (first | (go_at_call 55; refine (isVar_at x.var v false _ H1.out).mono ?_; rintro e w1 ⟨rfl, hb⟩; replace HS := Lib.hid (HS.out.later hb); clear hb; obtain ⟨f0, f1, f2, f3, f4, f5, f6, f7⟩ := HS.out.fb.flat; obtain ⟨e0, e1, e2, e3, e4, e5, e6, e7, e8⟩ := HS.out.qb.cont))
                go_ret
                exact ⟨ret_bool' (keptB_conts (all_no HX.out (by rw [HQC.out, H1.out]; simp))).symm, HB0.out.trans (HS.out.old.mono (Nat.le_succ _))⟩
              | true =>
                have H1 := Lib.hid h1; clear h1
                cases h2 : guB x.guard v.names.2.1 with
                | false =>
                  have H2 := Lib.hid h2; clear h2
                  go_wp2_with (first | (go_at_call 55; refine (isVar_at x.var v true _ H1.out).mono ?_; rintro e w1 ⟨rfl, hb⟩; replace HS := Lib.hid (HS.out.later hb); clear hb; obtain ⟨f0, f1, f2, f3, f4, f5, f6, f7⟩ := HS.out.fb.flat; obtain ⟨e0, e1, e2, e3, e4, e5, e6, e7, e8⟩ := HS.out.qb.cont) | (go_at_call 51; refine (isGuard_at x.guard v false _ H2.out).mono ?_; rintro e w1 ⟨rfl, hb⟩; replace HS := Lib.hid (HS.out.later hb); clear hb; obtain ⟨f0, f1, f2, f3, f4, f5, f6, f7⟩ := HS.out.fb.flat; obtain ⟨e0, e1, e2, e3, e4, e5, e6, e7, e8⟩ := HS.out.qb.cont))
                  go_ret
                  exact ⟨ret_bool' (keptB_conts (all_no HX.out (by rw [HQC.out, H1.out, H2.out]; simp))).symm, HB0.out.trans (HS.out.old.mono (Nat.le_succ _))⟩
                | true =>
                  have H2 := Lib.hid h2; clear h2
                  cases h3 : wiB x.resets v.names.2.1 with
                  | false =>
                    have H3 := Lib.hid h3; clear h3
                    go_wp2_with (first | (go_at_call 55; refine (isVar_at x.var v true _ H1.out).mono ?_; rintro e w1 ⟨rfl, hb⟩; replace HS := Lib.hid (HS.out.later hb); clear hb; obtain ⟨f0, f1, f2, f3, f4, f5, f6, f7⟩ := HS.out.fb.flat; obtain ⟨e0, e1, e2, e3, e4, e5, e6, e7, e8⟩ := HS.out.qb.cont) | (go_at_call 51; refine (isGuard_at x.guard v true _ H2.out).mono ?_; rintro e w1 ⟨rfl, hb⟩; replace HS := Lib.hid (HS.out.later hb); clear hb; obtain ⟨f0, f1, f2, f3, f4, f5, f6, f7⟩ := HS.out.fb.flat; obtain ⟨e0, e1, e2, e3, e4, e5, e6, e7, e8⟩ := HS.out.qb.cont) | (go_at_call 52; refine (areVars_at r.1 r.2.1 r.2.2 B x.resets v false _ HS.out.row.1 HS.out.hB H3.out).mono ?_; rintro e w1 ⟨rfl, hb⟩; replace HS := Lib.hid (HS.out.later hb); clear hb; obtain ⟨f0, f1, f2, f3, f4, f5, f6, f7⟩ := HS.out.fb.flat; obtain ⟨e0, e1, e2, e3, e4, e5, e6, e7, e8⟩ := HS.out.qb.cont))
                    go_ret
                    exact ⟨ret_bool' (keptB_conts (all_no HX.out (by rw [HQC.out, H1.out, H2.out, H3.out]; simp))).symm, HB0.out.trans (HS.out.old.mono (Nat.le_succ _))⟩
                  | true =>
                    have H3 := Lib.hid h3; clear h3
                    cases h4 : x.slopes.all (slopeB f) with
                    | false =>
                      have H4 := Lib.hid h4; clear h4
                      go_wp2_with (first | (go_at_call 55; refine (isVar_at x.var v true _ H1.out).mono ?_; rintro e w1 ⟨rfl, hb⟩; replace HS := Lib.hid (HS.out.later hb); clear hb; obtain ⟨f0, f1, f2, f3, f4, f5, f6, f7⟩ := HS.out.fb.flat; obtain ⟨e0, e1, e2, e3, e4, e5, e6, e7, e8⟩ := HS.out.qb.cont) | (go_at_call 51; refine (isGuard_at x.guard v true _ H2.out).mono ?_; rintro e w1 ⟨rfl, hb⟩; replace HS := Lib.hid (HS.out.later hb); clear hb; obtain ⟨f0, f1, f2, f3, f4, f5, f6, f7⟩ := HS.out.fb.flat; obtain ⟨e0, e1, e2, e3, e4, e5, e6, e7, e8⟩ := HS.out.qb.cont) | (go_at_call 52; refine (areVars_at r.1 r.2.1 r.2.2 B x.resets v true _ HS.out.row.1 HS.out.hB H3.out).mono ?_; rintro e w1 ⟨rfl, hb⟩; replace HS := Lib.hid (HS.out.later hb); clear hb; obtain ⟨f0, f1, f2, f3, f4, f5, f6, f7⟩ := HS.out.fb.flat; obtain ⟨e0, e1, e2, e3, e4, e5, e6, e7, e8⟩ := HS.out.qb.cont) | (go_at_call 56; refine (areSlopes_b s.1 s.2.1 s.2.2 x.slopes v f B false _ HS.out.row.2 HS.out.is HS.out.hB H4.out).mono ?_; rintro e w1 ⟨rfl, hb⟩; replace HS := Lib.hid (HS.out.later hb); clear hb; obtain ⟨f0, f1, f2, f3, f4, f5, f6, f7⟩ := HS.out.fb.flat; obtain ⟨e0, e1, e2, e3, e4, e5, e6, e7, e8⟩ := HS.out.qb.cont))
                      go_ret
                      exact ⟨ret_bool' (keptB_conts (all_no HX.out (by rw [HQC.out, H1.out, H2.out, H3.out, H4.out]; simp))).symm, HB0.out.trans (HS.out.old.mono (Nat.le_succ _))⟩
                    | true =>
                      have H4 := Lib.hid h4; clear h4
                      go_wp2_with (first | (go_at_call 55; refine (isVar_at x.var v true _ H1.out).mono ?_; rintro e w1 ⟨rfl, hb⟩; replace HS := Lib.hid (HS.out.later hb); clear hb; obtain ⟨f0, f1, f2, f3, f4, f5, f6, f7⟩ := HS.out.fb.flat; obtain ⟨e0, e1, e2, e3, e4, e5, e6, e7, e8⟩ := HS.out.qb.cont) | (go_at_call 51; refine (isGuard_at x.guard v true _ H2.out).mono ?_; rintro e w1 ⟨rfl, hb⟩; replace HS := Lib.hid (HS.out.later hb); clear hb; obtain ⟨f0, f1, f2, f3, f4, f5, f6, f7⟩ := HS.out.fb.flat; obtain ⟨e0, e1, e2, e3, e4, e5, e6, e7, e8⟩ := HS.out.qb.cont) | (go_at_call 52; refine (areVars_at r.1 r.2.1 r.2.2 B x.resets v true _ HS.out.row.1 HS.out.hB H3.out).mono ?_; rintro e w1 ⟨rfl, hb⟩; replace HS := Lib.hid (HS.out.later hb); clear hb; obtain ⟨f0, f1, f2, f3, f4, f5, f6, f7⟩ := HS.out.fb.flat; obtain ⟨e0, e1, e2, e3, e4, e5, e6, e7, e8⟩ := HS.out.qb.cont) | (go_at_call 56; refine (areSlopes_b s.1 s.2.1 s.2.2 x.slopes v f B true _ HS.out.row.2 HS.out.is HS.out.hB H4.out).mono ?_; rintro e w1 ⟨rfl, hb⟩; replace HS := Lib.hid (HS.out.later hb); clear hb; obtain ⟨f0, f1, f2, f3, f4, f5, f6, f7⟩ := HS.out.fb.flat; obtain ⟨e0, e1, e2, e3, e4, e5, e6, e7, e8⟩ := HS.out.qb.cont))
                      go_roundw
                      case rel => exact ⟨k + 1, by omega, by go_num, Lib.hid (by rw [all_succ HX.out, HQC.out, H1.out, H2.out, H3.out, H4.out]; exact (by simpa using hz.out)), Lib.hid HS.out.old⟩
                      case measure => simp [intOf]; omega
            · clear hfb hbB
              go_wp2
              go_ret
              exact ⟨ret_bool' (keptB_yes (by rw [HNN.out]; exact HA1.out) (by rw [HNN.out]; exact HA2.out) HMM.out (all_end HE5.out (by rw [show v.conts.2.1 = k by omega]; exact hz.out))).symm, HB0.out.trans (hbr.out.mono (Nat.le_succ _))⟩

end Go.Proofs.Ytanbekbalfbkcaa
