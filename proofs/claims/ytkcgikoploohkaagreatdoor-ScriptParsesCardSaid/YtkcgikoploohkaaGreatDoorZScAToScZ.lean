import Derived.Test.YtkcgikoploohkaaGreatDoorQK
import Derived.Test.YtkcgikoploohkaaGreatDoorZScPToScX
import Derived.Laws.NewBlocks
import Derived.Test.YtkcgikoploohkaaGreatDoorLTexts
namespace Go.Proofs.YtkcgikoploohkaaGreatDoor
set_option linter.unusedVariables false
set_option linter.unusedSimpArgs false
set_option maxRecDepth 100000
open Go.RowKit Nums
theorem Blk.tri {w : World} {g T : Nat} {u v x : Value} (h : Blk w g T #[u,v,x]) : Tri w g u v x :=
  ⟨h.cell 0 rfl,h.cell 1 rfl,h.cell 2 rfl,h.free 0,h.free 1,h.free 2,h.lt⟩
structure RV where
  s : Bool
  a : Option Addr
  n : Nat
  c : Nat
  b : Option Addr
  m : Nat
  d : Nat
def RV.Is (r : RV) (k j : Nat) (q : Rat) (w : World) : Prop := ∃ xs ys,Row w r.a r.n r.c xs∧Row w r.b r.m r.d ys∧mkRat (sv r.s (val xs)) (val ys) = q∧r.n≤k∧r.m≤j
theorem RV.Is.later {r : RV} {k j : Nat} {q : Rat} {w w' : World} (h : r.Is k j q w) (hb : Below w.heap.size w w') : r.Is k j q w' := by
  obtain ⟨xs,ys,h1,h2,h3⟩ := h;exact ⟨xs,ys,h1.later hb,h2.later hb,h3⟩
theorem RV.Is.more {r : RV} {k j k' j' : Nat} {q : Rat} {w : World} (h : r.Is k j q w) (hk : k≤k') (hj : j≤j') : r.Is k' j' q w := by
  obtain ⟨xs,ys,h1,h2,h3,h4,h5⟩ := h;exact ⟨xs,ys,h1,h2,h3,Nat.le_trans h4 hk,Nat.le_trans h5 hj⟩
def RatV (k j : Nat) (q : Rat) (w : World) (e : Ending) (w' : World) : Prop := ∃ r : RV,e = .returned (.agg #[.bool r.s,.slice r.a r.n r.c,.slice r.b r.m r.d])∧r.Is k j q w'∧Below w.heap.size w w'
theorem ratK_V {k j : Nat} {q : Rat} {w : World} : ∀ e w',RatK k j q w e w'→RatV k j q w e w' := by
  rintro e w' ⟨a,n,c,b,m,d,rfl,hn,hm,h1,h2,hb⟩
  exact ⟨⟨_,a,n,c,b,m,d⟩,rfl,⟨_,_,h1,h2,rat_limbs q,hn,hm⟩,hb⟩
theorem sgnR_cases (p : Rat) : (p < 0∧sgn p.num = -1)∨(p = 0∧sgn p.num = 0)∨(0 < p∧sgn p.num = 1) := by
  rcases (show p < 0∨p = 0∨0 < p by grind) with h | h | h
  · exact .inl ⟨h,by unfold sgn;rw [if_pos (num_neg' h)]⟩
  · exact .inr (.inl ⟨h,sgn_zero_num.2 h⟩)
  · exact .inr (.inr ⟨h,by have := num_pos' h;unfold sgn;rw [if_neg (by omega),if_pos this]⟩)
section ops
variable {w : World}
theorem sign_v {r : RV} {k j : Nat} {q : Rat} (T : Int) (h : r.Is k j q w) (hT : sgn q.num = T) (hk : k≤95) (hj : j≤95) : Calls Tryz.prog 52 #[.agg #[.bool r.s,.slice r.a r.n r.c,.slice r.b r.m r.d]] w fun e w' => e = .returned (.int .i64 T)∧Below w.heap.size w w' := by
  obtain ⟨xs,ys,h1,h2,h3,h4,h5⟩ := h;exact signR T q h1 h2 h3 (by omega) (by omega) hT
theorem cmp_v {r t : RV} {k j k' j' : Nat} {p q : Rat} (T : Int) (h : r.Is k j p w) (h' : t.Is k' j' q w) (hT : cmpR p q = T) (hk : k≤45) (hj : j≤45) (hk' : k'≤45) (hj' : j'≤45) : Calls Tryz.prog 54 #[.agg #[.bool r.s,.slice r.a r.n r.c,.slice r.b r.m r.d],.agg #[.bool t.s,.slice t.a t.n t.c,.slice t.b t.m t.d]] w fun e w' => e = .returned (.int .i64 T)∧Below w.heap.size w w' := by
  obtain ⟨xs,ys,h1,h2,h3,h4,h5⟩ := h;obtain ⟨us,vs,g1,g2,g3,g4,g5⟩ := h';exact cmpRat T p q h1 h2 g1 g2 h3 g3 (by omega) (by omega) (by omega) (by omega) hT
theorem rcmp_v {r t : RV} {k j k' j' : Nat} {p q : Rat} (T : Int) (h : r.Is k j p w) (h' : t.Is k' j' q w) (hT : cmpR p q = T) (hk : k≤34) (hj : j≤34) (hk' : k'≤34) (hj' : j'≤34) : Calls Tryz.prog 18 #[.agg #[.bool r.s,.slice r.a r.n r.c,.slice r.b r.m r.d],.agg #[.bool t.s,.slice t.a t.n t.c,.slice t.b t.m t.d]] w fun e w' => e = .returned (.int .i64 T)∧Below w.heap.size w w' := by
  obtain ⟨xs,ys,h1,h2,h3,h4,h5⟩ := h;obtain ⟨us,vs,g1,g2,g3,g4,g5⟩ := h'
  exact rcmpR 34 34 34 34 69 68 T p q h1 h2 g1 g2 h3 g3 (by omega) (by omega) (by omega) (by omega) (by omega) (by omega) (by omega) (by omega) (by omega) (by omega) (by omega) (by omega) (by omega) (by omega) (by omega) (by omega) (by omega) hT
theorem of_v (Z : Int) (h0 : -9223372036854775808≤Z) (h1 : Z < 9223372036854775808) : Calls Tryz.prog 53 #[.int .i64 Z] w (RatV 2 1 (Z : Rat) w) := (ofR 2 Z w h0 h1 (len_of (Nat.lt_of_le_of_lt (show Z.natAbs≤9223372036854775808 by omega) (by decide)))).mono ratK_V
end ops
theorem RV.Is.put3 {r t : RV} {k j g T : Nat} {q : Rat} {w : World} (h : r.Is k j q w) (hx : Blk w g T #[.bool t.s,.slice t.a t.n t.c,.slice t.b t.m t.d]) (x y z : Value) : r.Is k j q (((w.setCell ⟨g,0,none⟩ x).setCell ⟨g,1,none⟩ y).setCell ⟨g,2,none⟩ z) := by
  obtain ⟨xs,ys,h1,h2,h3⟩ := h
  exact ⟨xs,ys,h1.put3 hx.tri x y z,h2.put3 hx.tri x y z,h3⟩
end Go.Proofs.YtkcgikoploohkaaGreatDoor
namespace Go.Proofs.YtkcgikoploohkaaGreatDoor
set_option linter.unusedVariables false
set_option linter.unusedSimpArgs false
set_option maxRecDepth 100000
open Go.RowKit Go.Shelf Nums
def NoU (w : World) (g : Nat) : Prop := ∀ o x,w.cell? ⟨g,o,none⟩≠some (.int .u32 x)
theorem Blk.noU {w : World} {g T : Nat} {vs : Array Value} (h : Blk w g T vs) (hv : ∀ v∈vs.toList,∀ x,v≠.int .u32 x) : NoU w g := by
  intro o x hc
  rw [cell_of_row _ _ _ vs T (0,0) h] at hc
  obtain ⟨hi,he⟩ := Array.getElem?_eq_some_iff.1 hc
  exact hv _ (by rw [←he];simp) x rfl
theorem Row.only {S : List Nat} {w w' : World} {a : Option Addr} {n c : Nat} {xs : List Nat} (h : Row w a n c xs) (ho : Only S w w') (hS : ∀ g∈S,NoU w g) : Row w' a n c xs := by
  obtain ⟨h1,h2,h3,h4,h5,b,off,h6,h7⟩ := h
  refine ⟨h1,h2,h3,h4,h5,b,off,h6,fun i hi => ?_⟩
  obtain ⟨k1,k2⟩ := h7 i hi
  have hb : b ∉ S := fun hm => hS b hm _ _ k2
  exact ⟨Nat.lt_of_lt_of_le k1 ho.size,(World.cell?_of_block (w := w) (ho.block b k1 hb)).trans k2⟩
theorem RV.Is.only {S : List Nat} {w w' : World} {r : RV} {k j : Nat} {q : Rat} (h : r.Is k j q w) (ho : Only S w w') (hS : ∀ g∈S,NoU w g) : r.Is k j q w' := by
  obtain ⟨xs,ys,h1,h2,h3⟩ := h;exact ⟨xs,ys,h1.only ho hS,h2.only ho hS,h3⟩
theorem RV.Is.self {r : RV} {k j : Nat} {q : Rat} {w : World} (h : r.Is k j q w) : r.Is r.n r.m q w := by
  obtain ⟨xs,ys,h1,h2,h3,h4,h5⟩ := h;exact ⟨xs,ys,h1,h2,h3,Nat.le_refl _,Nat.le_refl _⟩
def RV.Fit (r : RV) (q : Rat) : Prop := r.n = (limbs q.num.natAbs).length∧r.m = (limbs q.den).length
def rv0 : RV := ⟨false,none,0,0,none,0,0⟩
theorem rv0_is (w : World) : rv0.Is 0 0 0 w := ⟨[],[],row_nil w,row_nil w,by simp [val,sv,rv0],Nat.le_refl _,Nat.le_refl _⟩
structure CM where
  t : RV
  nm : ByteArray
  v : RV
  p : Rat
  q : Rat
def CM.told (x : CM) : Rat × ByteArray × Rat := (x.p,x.nm,x.q)
structure CAt (w : World) (b o : Nat) (x : CM) : Prop where
  c0 : w.cell? ⟨b,o,none⟩ = some (.bool x.t.s)
  c1 : w.cell? ⟨b,o + 1,none⟩ = some (.slice x.t.a x.t.n x.t.c)
  c2 : w.cell? ⟨b,o + 2,none⟩ = some (.slice x.t.b x.t.m x.t.d)
  c3 : w.cell? ⟨b,o + 3,none⟩ = some (.string x.nm)
  c4 : w.cell? ⟨b,o + 4,none⟩ = some (.bool x.v.s)
  c5 : w.cell? ⟨b,o + 5,none⟩ = some (.slice x.v.a x.v.n x.v.c)
  c6 : w.cell? ⟨b,o + 6,none⟩ = some (.slice x.v.b x.v.m x.v.d)
  v : x.t.Is x.t.n x.t.m x.p w
  z : x.v.Is x.v.n x.v.m x.q w
theorem CAt.keep {w w' : World} {b o : Nat} {x : CM} (h : CAt w b o x) (hc : ∀ i,w'.cell? ⟨b,i,none⟩ = w.cell? ⟨b,i,none⟩) (hv : x.t.Is x.t.n x.t.m x.p w') (hz : x.v.Is x.v.n x.v.m x.q w') : CAt w' b o x :=
  ⟨(hc _).trans h.c0,(hc _).trans h.c1,(hc _).trans h.c2,(hc _).trans h.c3,(hc _).trans h.c4,(hc _).trans h.c5,(hc _).trans h.c6,hv,hz⟩
theorem CAt.later {w w' : World} {b o : Nat} {x : CM} (h : CAt w b o x) (hl : b < w.heap.size) (hb : Below w.heap.size w w') : CAt w' b o x :=
  h.keep (fun i => hb.cell (p := ⟨b,i,none⟩) hl) (h.v.later hb) (h.z.later hb)
def CRow (w : World) (a : Option Addr) (n c : Nat) (L : List CM) : Prop :=
  L.length = n∧n≤c∧c≤maxLen∧∃ b off,(a = some ⟨b,off,none⟩∨n≤0)∧∀ i x,L[i]? = some x→b < w.heap.size∧CAt w b (off + i * 7) x
theorem CRow.later {w w' : World} {a : Option Addr} {n c : Nat} {L : List CM} (h : CRow w a n c L) (hb : Below w.heap.size w w') : CRow w' a n c L := by
  obtain ⟨h1,h2,h3,b,off,h4,h5⟩ := h
  exact ⟨h1,h2,h3,b,off,h4,fun i x hx => ⟨Nat.lt_of_lt_of_le (h5 i x hx).1 hb.size,(h5 i x hx).2.later (h5 i x hx).1 hb⟩⟩
theorem CRow.at_ {w : World} {a : Option Addr} {n c : Nat} {L : List CM} (h : CRow w a n c L) {i : Nat} {x : CM} (hx : L[i]? = some x) : ∃ b off,a = some ⟨b,off,none⟩∧b < w.heap.size∧CAt w b (off + i * 7) x := by
  obtain ⟨h1,h2,h3,b,off,h4,h5⟩ := h
  have hi : i < L.length := (List.getElem?_eq_some_iff.1 hx).1
  exact ⟨b,off,h4.resolve_right (by omega),h5 i x hx⟩
structure SV where
  h : RV
  cas : Int
  bits : Int
  a : Option Addr
  n : Nat
  c : Nat
structure ScT where
  h : Rat
  cas : Int
  bits : Int
  ch : List (Rat × ByteArray × Rat)
structure SV.Is (v : SV) (h : Rat) (L : List CM) (w : World) : Prop where
  h : v.h.Is v.h.n v.h.m h w
  c : CRow w v.a v.n v.c L
theorem SV.Is.later {v : SV} {h : Rat} {L : List CM} {w w' : World} (hv : v.Is h L w) (hb : Below w.heap.size w w') : v.Is h L w' := ⟨hv.h.later hb,hv.c.later hb⟩
def NumOk (b : Bool) (o : Option Rat) (r : RV) (q : Rat) : Prop := if b = true then o = some q∧r.Fit q else o = none
def NumRes (o : Option Rat) (w : World) (e : Ending) (w' : World) : Prop := ∃ (r : RV) (b : Bool) (q : Rat),e = .returned (.tuple #[.agg #[.bool r.s,.slice r.a r.n r.c,.slice r.b r.m r.d],.bool b])∧r.Is r.n r.m q w'∧NumOk b o r q∧Below w.heap.size w w'
def NumT (s : ByteArray) (o : Option Rat) : Prop := ∀ w,Gl w→Calls Tryz.prog 26 #[.string s] w (NumRes o w)
def takeM (rest : List UInt8) : Option (List ByteArray × List UInt8) := (cutL 10 rest).map fun x => ((spl 32 x.1).map bsL,x.2)
def bAT : ByteArray := ⟨#[97,116]⟩
def bEQ : ByteArray := ⟨#[61]⟩
def bHOR : ByteArray := ⟨#[104,111,114,105,122,111,110]⟩
def bCAS : ByteArray := ⟨#[99,97,115,99,97,100,101]⟩
def bBITS : ByteArray := ⟨#[98,105,116,115]⟩
section
variable (num : ByteArray→Option Rat)
def pairM (nm : ByteArray) (o1 o2 : Option Rat) : Option (Rat × ByteArray × Rat) := match o1,o2 with
  | some p,some q => some (p,nm,q)
  | _,_ => none
def changeM (L : List ByteArray) : Option (Rat × ByteArray × Rat) := match L with
  | [a,b,c,d,e] => if a = bAT∧nameB c.data.toList = true∧d = bEQ then pairM c (num b) (num e) else none
  | _ => none
def wordM {α : Type} (x : ByteArray) (read : ByteArray→Option α) (L : List ByteArray) : Option α := match L with
  | [a,b] => if a = x then read b else none
  | _ => none
def lineM {α : Type} (f : List ByteArray→Option α) (rest : List UInt8) : Option (α × List UInt8) := match takeM rest with
  | none => none
  | some (L,r) => (f L).map fun x => (x,r)
def cntS (s : ByteArray) : Option Int := cntO s.data.toList
def loopM : Nat→List UInt8→Nat→List (Rat × ByteArray × Rat)→Nat ⊕ List (Rat × ByteArray × Rat)
  | 0,_,_,acc => .inr acc
  | f + 1,rest,k,acc => if rest = [] then .inr acc else match lineM (changeM num) rest with
    | none => .inl (k + 1)
    | some (x,r) => loopM f r (k + 1) (acc ++ [x])
def parseM (b : List UInt8) : Nat ⊕ ScT := match lineM (wordM bHOR num) b with
  | none => .inl 1
  | some (h,r1) => match lineM (wordM bCAS cntS) r1 with
    | none => .inl 2
    | some (c,r2) => match lineM (wordM bBITS cntS) r2 with
      | none => .inl 3
      | some (t,r3) => match loopM num (r3.length + 1) r3 3 [] with
        | .inl k => .inl k
        | .inr L => .inr ⟨h,c,t,L⟩
end
end Go.Proofs.YtkcgikoploohkaaGreatDoor
namespace Go.Proofs.YtkcgikoploohkaaGreatDoor
set_option linter.unusedVariables false
set_option linter.unusedSimpArgs false
set_option maxRecDepth 100000
open Go.RowKit Go.Shelf Nums
def shortT (T : ByteArray) : Bool := decide ((Lib.cut (Lib.trimPrefix T.data.toList [45]) [47]).1.length≤300) && decide ((Lib.cut (Lib.trimPrefix T.data.toList [45]) [47]).2.1.length≤300)
theorem trim_t {T : ByteArray} {A : List UInt8} (h : Lib.trimPrefix T.data.toList [45] = A) (w : World) : Calls Tryz.prog 81 #[.string T,.string ⟨#[45]⟩] w fun e w' => e = .returned (.string (bsL A))∧w = w' := by
  subst h
  exact (Tryz.strings_TrimPrefix _ _ _).mono fun e w' ⟨he,hw⟩ => ⟨he,hw.symm⟩
theorem trim_len (l p : List UInt8) : (Lib.trimPrefix l p).length≤l.length := by unfold Lib.trimPrefix;split <;> simp
set_option maxHeartbeats 4000000 in
theorem numberText_g (T : ByteArray) {r : RV} {w : World} (hg : Gl w) (hT : T.size≤1000000) (hP : ∀ W,Below w.heap.size w W→Calls Tryz.prog 80 #[.agg #[.bool r.s,.slice r.a r.n r.c,.slice r.b r.m r.d]] W fun e w' => e = .returned (.string T)∧Below W.heap.size W w') :
    Calls Tryz.prog 44 #[.agg #[.bool r.s,.slice r.a r.n r.c,.slice r.b r.m r.d]] w fun e w' => e = .returned (.tuple #[.string T,.bool (shortT T)])∧Below w.heap.size w w' := by
  unfold shortT
  have hA := trim_len T.data.toList [45]
  have hz := Lib.size_eq T
  obtain ⟨A,hA'⟩ : ∃ A,Lib.trimPrefix T.data.toList [45] = A := ⟨_,rfl⟩
  rw [hA'] at hA ⊢
  have HP := Lib.hid hP
  have HG := Lib.hid hg
  have HAZ := Lib.hid (show (bsL A).size < 4294967281 by rw [bsL_size];omega)
  have hlen : A.length≤1000000 := by omega
  have HTA := Lib.hid hA'
  have HB0 := Lib.hid (below_one w (.cells #[.bool r.s,.slice r.a r.n r.c,.slice r.b r.m r.d] 27))
  clear hP hg hA hz hA' hT
  cases hc : cutL 47 A with
  | some xr =>
    obtain ⟨x,y⟩ := xr
    rw [cut_some hc]
    dsimp only
    have hx := cutL_len hc
    have HC := Lib.hid (show cutL 47 (bsL A).data.toList = some (x,y) from hc)
    clear hc
    have z1 := bsL_size x
    have z2 := bsL_size y
    by_cases h1 : x.length≤300
    · by_cases h2 : y.length≤300
      · rw [decide_eq_true h1,decide_eq_true h2]
        have f1 : ((bsL x).size : Int)≤300 := by omega
        have f2 : ((bsL y).size : Int)≤300 := by omega
        clear h1 h2 z1 z2 hx hlen
        go_enter Tryz.func44,Tryz.ntmps44
        go_wp2_with (first
          | (go_at_call 80;refine (HP.out _ HB0.out).mono ?_;rintro e w1 ⟨rfl,hb⟩;have HB := Lib.hid (bthen HB0.out hb);clear hb)
          | (go_at_call 81;(with_reducible refine (trim_t HTA.out _).mono ?_);rintro e w2 ⟨rfl,rfl⟩)
          | (go_at_call 21;(with_reducible refine (cut_yes (s := bsL A) (HG.out.later HB.out) HAZ.out HC.out).mono ?_);rintro e w3 ⟨rfl,hb⟩;have HB3 := Lib.hid (bthen HB.out hb);clear hb))
        go_ret2
        exact ⟨rfl,HB3.out⟩
      · rw [decide_eq_true h1,decide_eq_false h2]
        have f1 : ((bsL x).size : Int)≤300 := by omega
        have f2 : decide (((bsL y).size : Int)≤300) = false := decide_eq_false (by omega)
        clear h1 h2 z1 z2 hx hlen
        go_enter Tryz.func44,Tryz.ntmps44
        go_wp2_with (first
          | (go_at_call 80;refine (HP.out _ HB0.out).mono ?_;rintro e w1 ⟨rfl,hb⟩;have HB := Lib.hid (bthen HB0.out hb);clear hb)
          | (go_at_call 81;(with_reducible refine (trim_t HTA.out _).mono ?_);rintro e w2 ⟨rfl,rfl⟩)
          | (go_at_call 21;(with_reducible refine (cut_yes (s := bsL A) (HG.out.later HB.out) HAZ.out HC.out).mono ?_);rintro e w3 ⟨rfl,hb⟩;have HB3 := Lib.hid (bthen HB.out hb);clear hb))
        go_ret2
        exact ⟨rfl,HB3.out⟩
    · rw [decide_eq_false h1,Bool.false_and]
      have f1 : ¬ ((bsL x).size : Int)≤300 := by omega
      clear h1 z1 z2 hx hlen
      go_enter Tryz.func44,Tryz.ntmps44
      go_wp2_with (first
        | (go_at_call 80;refine (HP.out _ HB0.out).mono ?_;rintro e w1 ⟨rfl,hb⟩;have HB := Lib.hid (bthen HB0.out hb);clear hb)
        | (go_at_call 81;(with_reducible refine (trim_t HTA.out _).mono ?_);rintro e w2 ⟨rfl,rfl⟩)
        | (go_at_call 21;(with_reducible refine (cut_yes (s := bsL A) (HG.out.later HB.out) HAZ.out HC.out).mono ?_);rintro e w3 ⟨rfl,hb⟩;have HB3 := Lib.hid (bthen HB.out hb);clear hb))
      go_ret2
      exact ⟨rfl,HB3.out⟩
  | none =>
    rw [cut_none hc]
    dsimp only
    have HC := Lib.hid (show cutL 47 (bsL A).data.toList = none from hc)
    clear hc
    have z1 := bsL_size A
    by_cases h1 : A.length≤300
    · rw [decide_eq_true h1,show decide ((([] : List UInt8).length)≤300) = true from rfl]
      have f1 : ((bsL A).size : Int)≤300 := by omega
      clear h1 z1 hlen
      go_enter Tryz.func44,Tryz.ntmps44
      go_wp2_with (first
        | (go_at_call 80;refine (HP.out _ HB0.out).mono ?_;rintro e w1 ⟨rfl,hb⟩;have HB := Lib.hid (bthen HB0.out hb);clear hb)
        | (go_at_call 81;(with_reducible refine (trim_t HTA.out _).mono ?_);rintro e w2 ⟨rfl,rfl⟩)
        | (go_at_call 21;(with_reducible refine (cut_no (s := bsL A) (HG.out.later HB.out) HAZ.out HC.out).mono ?_);rintro e w3 ⟨rfl,hb⟩;have HB3 := Lib.hid (bthen HB.out hb);clear hb))
      go_ret2
      exact ⟨rfl,HB3.out⟩
    · rw [decide_eq_false h1,Bool.false_and]
      have f1 : ¬ ((bsL A).size : Int)≤300 := by omega
      clear h1 z1 hlen
      go_enter Tryz.func44,Tryz.ntmps44
      go_wp2_with (first
        | (go_at_call 80;refine (HP.out _ HB0.out).mono ?_;rintro e w1 ⟨rfl,hb⟩;have HB := Lib.hid (bthen HB0.out hb);clear hb)
        | (go_at_call 81;(with_reducible refine (trim_t HTA.out _).mono ?_);rintro e w2 ⟨rfl,rfl⟩)
        | (go_at_call 21;(with_reducible refine (cut_no (s := bsL A) (HG.out.later HB.out) HAZ.out HC.out).mono ?_);rintro e w3 ⟨rfl,hb⟩;have HB3 := Lib.hid (bthen HB.out hb);clear hb))
      go_ret2
      exact ⟨rfl,HB3.out⟩
theorem shortT_small {T : ByteArray} (h : T.size≤300) : shortT T = true := by
  unfold shortT
  have hA := trim_len T.data.toList [45]
  have hz := Lib.size_eq T
  obtain ⟨A,hA'⟩ : ∃ A,Lib.trimPrefix T.data.toList [45] = A := ⟨_,rfl⟩
  rw [hA'] at hA ⊢
  cases hc : cutL 47 A with
  | some xr =>
    have hx := cutL_len (x := xr.1) (r := xr.2) hc
    rw [cut_some (x := xr.1) (r := xr.2) hc,decide_eq_true (by dsimp only;omega),decide_eq_true (by dsimp only;omega)]
    rfl
  | none =>
    rw [cut_none hc,decide_eq_true (by dsimp only;omega)]
    rfl
theorem ratStr_size {q : Rat} (h1 : (limbs q.num.natAbs).length≤12) (h2 : (limbs q.den).length≤12) : (ratStr q).size≤234 := by
  have e1 := dec_len h1 (Nat.le_refl 116)
  have e2 := dec_len h2 (Nat.le_refl 116)
  unfold ratStr decI
  have s1 : (⟨#[45]⟩ : ByteArray).size = 1 := rfl
  have s2 : (⟨#[47]⟩ : ByteArray).size = 1 := rfl
  split <;> split
  all_goals first | omega | (simp only [ByteArray.size_append,s1,s2];omega)
end Go.Proofs.YtkcgikoploohkaaGreatDoor
