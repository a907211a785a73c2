import Derived.Shelf.Strings.Search2
import Derived.Shelf.Strings.Prefix
import Derived.Shelf.Strings.Repeat
import Derived.Test.YtkcgikoploohkaaGreatDoorProg
import Derived.Test.YtkcgikoploohkaaGreatDoorIA
import Derived.Test.YtkcgikoploohkaaGreatDoorRD
import Derived.Test.YtkcgikoploohkaaGreatDoorIW
import Derived.Test.YtkcgikoploohkaaGreatDoorIF
import Derived.Test.YtkcgikoploohkaaGreatDoorIG
import Derived.Test.YtkcgikoploohkaaGreatDoorIC
namespace Go.Proofs.YtkcgikoploohkaaGreatDoor
set_option linter.unusedVariables false
set_option linter.unusedSimpArgs false
set_option maxRecDepth 100000
open Go.Shelf Go.RowKit Go.Lib
def Tryz.lays219_ren : Go.Shelf.Ren := ⟨fun | 219 => 103 | 217 => 141 | 225 => 142 | 224 => 143 | 267 => 144 | 266 => 185 | 314 => 186 | n => n,fun | 9 => 9 | 3 => 3 | 4 => 4 | 5 => 5 | 46 => 124 | 146 => 184 | 51 => 89 | n => n,fun | 1 => 1 | n => n⟩
theorem Tryz.lays219 : Go.Proofs.Lays.n219 Tryz.prog Tryz.lays219_ren := {
  mixed := by kernel_rfl
  f217 := Tryz.func141.trans (congrArg some (by kernel_rfl))
  f219 := Tryz.func103.trans (congrArg some (by kernel_rfl))
  f224 := Tryz.func143.trans (congrArg some (by kernel_rfl))
  f225 := Tryz.func142.trans (congrArg some (by kernel_rfl))
  f266 := Tryz.func185.trans (congrArg some (by kernel_rfl))
  f267 := Tryz.func144.trans (congrArg some (by kernel_rfl))
  f314 := Tryz.func186.trans (congrArg some (by kernel_rfl))
  t3 := Tryz.underlying3
  a3 := Tryz.isAgg3
  z3 := Tryz.sizeOf3
  v3 := Tryz.zeroValue3
  t4 := Tryz.underlying4
  a4 := Tryz.isAgg4
  z4 := Tryz.sizeOf4
  v4 := Tryz.zeroValue4
  t5 := Tryz.underlying5
  a5 := Tryz.isAgg5
  z5 := Tryz.sizeOf5
  v5 := Tryz.zeroValue5
  t9 := Tryz.underlying9
  a9 := Tryz.isAgg9
  z9 := Tryz.sizeOf9
  v9 := Tryz.zeroValue9
  t46 := Tryz.underlying124
  a46 := Tryz.isAgg124
  z46 := Tryz.sizeOf124
  v46 := Tryz.zeroValue124
  t51 := Tryz.underlying89
  a51 := Tryz.isAgg89
  z51 := Tryz.sizeOf89
  v51 := Tryz.zeroValue89
  t146 := Tryz.underlying184
  a146 := Tryz.isAgg184
  z146 := Tryz.sizeOf184
  v146 := Tryz.zeroValue184
  g1 := by kernel_rfl }
theorem Tryz.stringslite_Index_one (s : ByteArray) (c : UInt8) (w : World) :
    Calls Tryz.prog 103 #[.string s,.string ⟨#[c]⟩] w fun e w' => e = .returned (.int .i64 (Lib.indexByte s.data.toList c))∧w' = w := Any.stringslite_Index_one Tryz.lays219 s c w
def Tryz.lays99_ren : Go.Shelf.Ren := ⟨fun | 99 => 151 | 206 => 176 | n => n,fun | 9 => 9 | 4 => 4 | 3 => 3 | n => n,fun | n => n⟩
theorem Tryz.lays99 : Go.Proofs.Lays.n99 Tryz.prog Tryz.lays99_ren := {
  mixed := by kernel_rfl
  f99 := Tryz.func151.trans (congrArg some (by kernel_rfl))
  f206 := Tryz.func176.trans (congrArg some (by kernel_rfl))
  t3 := Tryz.underlying3
  a3 := Tryz.isAgg3
  z3 := Tryz.sizeOf3
  v3 := Tryz.zeroValue3
  t4 := Tryz.underlying4
  a4 := Tryz.isAgg4
  z4 := Tryz.sizeOf4
  v4 := Tryz.zeroValue4
  t9 := Tryz.underlying9
  a9 := Tryz.isAgg9
  z9 := Tryz.sizeOf9
  v9 := Tryz.zeroValue9 }
theorem Tryz.strings_HasPrefix (s p : ByteArray) (w : World) :
    Calls Tryz.prog 151 #[.string s,.string p] w fun e w' => e = .returned (.bool (Lib.hasPrefix s.data.toList p.data.toList))∧w' = w := Any.strings_HasPrefix Tryz.lays99 s p w
def Tryz.lays105_ren : Go.Shelf.Ren := ⟨fun | 105 => 189 | 212 => 206 | 99 => 151 | 165 => 77 | 166 => 78 | 170 => 207 | 169 => 79 | 263 => 214 | 264 => 215 | 206 => 176 | 240 => 123 | 241 => 124 | 276 => 167 | 277 => 168 | n => n,fun | 9 => 9 | 3 => 3 | 4 => 4 | 20 => 20 | 0 => 0 | 46 => 124 | 109 => 206 | 5 => 5 | 72 => 106 | 76 => 72 | 51 => 89 | 146 => 184 | 53 => 87 | 148 => 214 | 70 => 104 | 37 => 22 | 75 => 71 | 127 => 140 | 164 => 169 | 80 => 108 | n => n,fun | n => n⟩
theorem Tryz.lays105 : Go.Proofs.Lays.n105 Tryz.prog Tryz.lays105_ren := {
  mixed := by kernel_rfl
  f99 := Tryz.func151.trans (congrArg some (by kernel_rfl))
  f105 := Tryz.func189.trans (congrArg some (by kernel_rfl))
  f165 := Tryz.func77.trans (congrArg some (by kernel_rfl))
  f166 := Tryz.func78.trans (congrArg some (by kernel_rfl))
  f169 := Tryz.func79.trans (congrArg some (by kernel_rfl))
  f170 := Tryz.func207.trans (congrArg some (by kernel_rfl))
  f206 := Tryz.func176.trans (congrArg some (by kernel_rfl))
  f212 := Tryz.func206.trans (congrArg some (by kernel_rfl))
  f240 := Tryz.func123.trans (congrArg some (by kernel_rfl))
  f241 := Tryz.func124.trans (congrArg some (by kernel_rfl))
  f263 := Tryz.func214.trans (congrArg some (by kernel_rfl))
  f264 := Tryz.func215.trans (congrArg some (by kernel_rfl))
  f276 := Tryz.func167.trans (congrArg some (by kernel_rfl))
  f277 := Tryz.func168.trans (congrArg some (by kernel_rfl))
  t0 := Tryz.underlying0
  a0 := Tryz.isAgg0
  z0 := Tryz.sizeOf0
  v0 := Tryz.zeroValue0
  t3 := Tryz.underlying3
  a3 := Tryz.isAgg3
  z3 := Tryz.sizeOf3
  v3 := Tryz.zeroValue3
  t4 := Tryz.underlying4
  a4 := Tryz.isAgg4
  z4 := Tryz.sizeOf4
  v4 := Tryz.zeroValue4
  t5 := Tryz.underlying5
  a5 := Tryz.isAgg5
  z5 := Tryz.sizeOf5
  v5 := Tryz.zeroValue5
  t9 := Tryz.underlying9
  a9 := Tryz.isAgg9
  z9 := Tryz.sizeOf9
  v9 := Tryz.zeroValue9
  t20 := Tryz.underlying20
  a20 := Tryz.isAgg20
  z20 := Tryz.sizeOf20
  v20 := Tryz.zeroValue20
  t37 := Tryz.underlying22
  a37 := Tryz.isAgg22
  z37 := Tryz.sizeOf22
  v37 := Tryz.zeroValue22
  t46 := Tryz.underlying124
  a46 := Tryz.isAgg124
  z46 := Tryz.sizeOf124
  v46 := Tryz.zeroValue124
  t51 := Tryz.underlying89
  a51 := Tryz.isAgg89
  z51 := Tryz.sizeOf89
  v51 := Tryz.zeroValue89
  t53 := Tryz.underlying87
  a53 := Tryz.isAgg87
  z53 := Tryz.sizeOf87
  v53 := Tryz.zeroValue87
  t70 := Tryz.underlying104
  a70 := Tryz.isAgg104
  z70 := Tryz.sizeOf104
  v70 := Tryz.zeroValue104
  t72 := Tryz.underlying106
  a72 := Tryz.isAgg106
  z72 := Tryz.sizeOf106
  v72 := Tryz.zeroValue106
  t75 := Tryz.underlying71
  a75 := Tryz.isAgg71
  z75 := Tryz.sizeOf71
  v75 := Tryz.zeroValue71
  t76 := Tryz.underlying72
  a76 := Tryz.isAgg72
  z76 := Tryz.sizeOf72
  v76 := Tryz.zeroValue72
  t109 := Tryz.underlying206
  a109 := Tryz.isAgg206
  z109 := Tryz.sizeOf206
  v109 := Tryz.zeroValue206
  t127 := Tryz.underlying140
  a127 := Tryz.isAgg140
  z127 := Tryz.sizeOf140
  v127 := Tryz.zeroValue140
  t146 := Tryz.underlying184
  a146 := Tryz.isAgg184
  z146 := Tryz.sizeOf184
  v146 := Tryz.zeroValue184
  t148 := Tryz.underlying214
  a148 := Tryz.isAgg214
  z148 := Tryz.sizeOf214
  v148 := Tryz.zeroValue214
  t164 := Tryz.underlying169
  a164 := Tryz.isAgg169
  z164 := Tryz.sizeOf169
  v164 := Tryz.zeroValue169 }
theorem Tryz.Builder_Extra_105 : Builder.Extra Tryz.prog Tryz.lays105_ren := {
  sizeBuilder := by kernel_rfl
  liesBuilder := by kernel_rfl
  t5 := Tryz.underlying5
  a5 := Tryz.isAgg5
  z5 := Tryz.sizeOf5
  v5 := Tryz.zeroValue5
  infoByte := by kernel_rfl
  cellsByte := by kernel_rfl
  sizeByte := by kernel_rfl
  neB5 := by decide }
theorem Tryz.strings_Repeat (s : ByteArray) (c : Nat) (w : World) (hc : c≤9223372036854775807) (hlen : s.size * c≤140737488355328) :
    Calls Tryz.prog 189 #[.string s,.int .i64 c] w fun e w' => e = .returned (.string ⟨(Lib.repeatL s.data.toList c).toArray⟩)∧Below w.heap.size w w' := Any.strings_Repeat Tryz.lays105 Tryz.Builder_Extra_105 s c w hc hlen
end Go.Proofs.YtkcgikoploohkaaGreatDoor
/- Blocks of three; what asInt and over tell. No condition. -/
namespace Go.Proofs.YtkcgikoploohkaaGreatDoor
set_option linter.unusedVariables false
set_option linter.unusedSimpArgs false
set_option maxRecDepth 100000
open Go.RowKit Nums
def Tri (w : World) (g : Nat) (u v x : Value) : Prop :=
  w.cell? ⟨g,0,none⟩ = some u∧w.cell? ⟨g,1,none⟩ = some v∧w.cell? ⟨g,2,none⟩ = some x∧w.frozen? ⟨g,0,none⟩ = false∧w.frozen? ⟨g,1,none⟩ = false∧w.frozen? ⟨g,2,none⟩ = false∧g < w.heap.size
theorem Tri.below {B g : Nat} {w w' : World} {u v x : Value} (h : Tri w g u v x) (hb : Below B w w') (hg : g < B) : Tri w' g u v x :=
  ⟨(hb.cell (p := ⟨g,0,none⟩) hg).trans h.1,(hb.cell (p := ⟨g,1,none⟩) hg).trans h.2.1,(hb.cell (p := ⟨g,2,none⟩) hg).trans h.2.2.1,(hb.frozen (p := ⟨g,0,none⟩) hg).trans h.2.2.2.1,(hb.frozen (p := ⟨g,1,none⟩) hg).trans h.2.2.2.2.1,(hb.frozen (p := ⟨g,2,none⟩) hg).trans h.2.2.2.2.2.1,Nat.lt_of_lt_of_le h.2.2.2.2.2.2 hb.size⟩
theorem Tri.later {g : Nat} {w w' : World} {u v x : Value} (h : Tri w g u v x) (hb : Below w.heap.size w w') : Tri w' g u v x := h.below hb h.2.2.2.2.2.2
theorem Tri.alloc {g : Nat} {w : World} {u v x : Value} (h : Tri w g u v x) (o : Obj) : Tri (w.alloc o) g u v x :=
  h.below ((Below.refl _ _).alloc (Nat.le_refl _) o) h.2.2.2.2.2.2
theorem Tri.drew {g : Nat} {w : World} {u v x : Value} (h : Tri w g u v x) : Tri w.drew g u v x := h.below (Below.refl _ _).drew h.2.2.2.2.2.2
theorem tri_new (w : World) (u v x : Value) : Tri (w.alloc (.cells #[u,v,x] 27)) w.heap.size u v x := by
  have h := heap_alloc_new w (.cells #[u,v,x] 27)
  refine ⟨?_, ?_, ?_, ?_, ?_, ?_,by simp⟩
  · rw [cell_of_row _ _ _ #[u,v,x] 27 (0,0) h];rfl
  · rw [cell_of_row _ _ _ #[u,v,x] 27 (0,0) h];rfl
  · rw [cell_of_row _ _ _ #[u,v,x] 27 (0,0) h];rfl
  · exact frozen_of_row _ _ _ #[u,v,x] 27 h
  · exact frozen_of_row _ _ _ #[u,v,x] 27 h
  · exact frozen_of_row _ _ _ #[u,v,x] 27 h
theorem tri_newE {w : World} {g : Nat} {u v x : Value} (h : g = w.heap.size) : Tri (w.alloc (.cells #[u,v,x] 27)) g u v x := h ▸ tri_new w u v x
theorem box_newE {w : World} {g : Nat} {u v : Value} (h : g = w.heap.size) : Box (w.alloc (.cells #[u,v] 25)) g u v := h ▸ box_new w u v
def put3 (w : World) (g : Nat) (p q r : Value) : World := ((w.setCell ⟨g,0,none⟩ p).setCell ⟨g,1,none⟩ q).setCell ⟨g,2,none⟩ r
theorem Row.put3 {w : World} {a : Option Addr} {n c g : Nat} {xs : List Nat} {s : Bool} {a1 a2 : Option Addr} {n1 c1 n2 c2 : Nat} (h : Row w a n c xs) (x : Tri w g (.bool s) (.slice a1 n1 c1) (.slice a2 n2 c2)) (p q r : Value) :
    Row (((w.setCell ⟨g,0,none⟩ p).setCell ⟨g,1,none⟩ q).setCell ⟨g,2,none⟩ r) a n c xs := by
  refine (h.put x.1 x.2.1 p q).set (u := .slice a2 n2 c2) ?_ (by intro x;simp) r
  rw [cell_other (by simp),cell_other (by simp)];exact x.2.2.1
theorem below_put3 {B g : Nat} {a w : World} (h : Below B a w) (hg : B≤g) (p q r : Value) : Below B a (((w.setCell ⟨g,0,none⟩ p).setCell ⟨g,1,none⟩ q).setCell ⟨g,2,none⟩ r) := (below_put h hg p q).setCell hg _
theorem Tri.put {w : World} {g : Nat} {u v x : Value} (h : Tri w g u v x) (p q r : Value) : Tri (((w.setCell ⟨g,0,none⟩ p).setCell ⟨g,1,none⟩ q).setCell ⟨g,2,none⟩ r) g p q r := by
  obtain ⟨h0,h1,h2,h3,h4,h5,h6⟩ := h
  have e1 : (w.setCell ⟨g,0,none⟩ p).cell? ⟨g,1,none⟩ = some v := by rw [cell_other (by simp)];exact h1
  have e2 : ((w.setCell ⟨g,0,none⟩ p).setCell ⟨g,1,none⟩ q).cell? ⟨g,2,none⟩ = some x := by rw [cell_other (by simp),cell_other (by simp)];exact h2
  refine ⟨?_, ?_,cell_here e2,by simpa using h3,by simpa using h4,by simpa using h5,by simpa using h6⟩
  · rw [cell_other (by simp),cell_other (by simp)];exact cell_here h0
  · rw [cell_other (by simp)];exact cell_here e1
theorem Tri.far {w : World} {g g' : Nat} {u v x : Value} (h : Tri w g u v x) (hg : g'≠g) (p q r : Value) : Tri (((w.setCell ⟨g',0,none⟩ p).setCell ⟨g',1,none⟩ q).setCell ⟨g',2,none⟩ r) g u v x := by
  obtain ⟨h0,h1,h2,h3,h4,h5,h6⟩ := h
  refine ⟨?_, ?_, ?_,by simpa using h3,by simpa using h4,by simpa using h5,by simpa using h6⟩
  · rw [cell_other (by simp),cell_other (by simp),cell_other (by simp)];exact h0
  · rw [cell_other (by simp),cell_other (by simp),cell_other (by simp)];exact h1
  · rw [cell_other (by simp),cell_other (by simp),cell_other (by simp)];exact h2
theorem Tri.far2 {w : World} {g g' : Nat} {u v x : Value} (h : Tri w g u v x) (hg : g'≠g) (p q : Value) : Tri ((w.setCell ⟨g',0,none⟩ p).setCell ⟨g',1,none⟩ q) g u v x := by
  obtain ⟨h0,h1,h2,h3,h4,h5,h6⟩ := h
  refine ⟨?_, ?_, ?_,by simpa using h3,by simpa using h4,by simpa using h5,by simpa using h6⟩
  · rw [cell_other (by simp),cell_other (by simp)];exact h0
  · rw [cell_other (by simp),cell_other (by simp)];exact h1
  · rw [cell_other (by simp),cell_other (by simp)];exact h2
def RatK (k j : Nat) (q : Rat) (w : World) (e : Ending) (w' : World) : Prop :=
  ∃ a n c b m d,e = .returned (.agg #[.bool (decide (q.num < 0)),.slice a n c,.slice b m d])∧n≤k∧m≤j∧Row w' a n c (limbs q.num.natAbs)∧Row w' b m d (limbs q.den)∧Below w.heap.size w w'
theorem rat_limbs (q : Rat) : mkRat (sv (decide (q.num < 0)) (val (limbs q.num.natAbs))) (val (limbs q.den)) = q := by
  rw [sv_limbs,val_limbs,Rat.mkRat_self]
theorem asInt_any (a : Option Addr) (n c : Nat) (w : World) :
    Calls Tryz.prog 137 #[.slice a n c] w fun e w' => e = .returned (.agg #[.bool false,.slice a n c])∧Below w.heap.size w w' := by
  go_enter Tryz.func137,Tryz.ntmps137
  go_wp2
  exact bodyPost_ret (v := .agg #[.bool false,.slice a n c]) (by simp [results,Tryz.results137,go_sem]) rfl ⟨rfl,below_one _ _⟩
theorem over_any (s : Bool) (a b : Option Addr) (n c m d : Nat) (w : World) :
    Calls Tryz.prog 90 #[.agg #[.bool s,.slice a n c],.slice b m d] w fun e w' => e = .returned (.agg #[.bool s,.slice a n c,.slice b m d])∧Below w.heap.size w w' := by
  go_enter Tryz.func90,Tryz.ntmps90
  go_wp2
  exact bodyPost_ret (v := .agg #[.bool s,.slice a n c,.slice b m d]) (by simp [results,Tryz.results90,go_sem]) rfl ⟨rfl,below_two _ _ _⟩
end Go.Proofs.YtkcgikoploohkaaGreatDoor
/- What Of and said tell. -/
namespace Go.Proofs.YtkcgikoploohkaaGreatDoor
set_option linter.unusedVariables false
set_option linter.unusedSimpArgs false
set_option maxRecDepth 100000
open Go.RowKit Nums
def RawK (k j : Nat) (q : Rat) (w : World) (e : Ending) (w' : World) : Prop :=
  ∃ s a n c b m d xs ys,e = .returned (.agg #[.bool s,.slice a n c,.slice b m d])∧n≤k∧m≤j∧Row w' a n c xs∧Row w' b m d ys∧mkRat (sv s (val xs)) (val ys) = q∧0 < val ys∧Below w.heap.size w w'
theorem ofR (k : Nat) (Z : Int) (w : World) (h0 : -9223372036854775808≤Z) (h1 : Z < 9223372036854775808) (hk : (limbs Z.natAbs).length≤k) :
    Calls Tryz.prog 53 #[.int .i64 Z] w (RatK k 1 (Z : Rat) w) := by
  have HB := Lib.hid (below_one w (.cells #[.bool false,.slice none 0 0,.slice none 0 0] 27))
  have X0 := Lib.hid (tri_new w (.bool false) (.slice none 0 0) (.slice none 0 0))
  have HK := Lib.hid hk;clear hk
  go_enter Tryz.func53,Tryz.ntmps53
  go_wp2_with fail
  refine (ofI k Z _ h0 h1 HK.out).mono ?_
  rintro e w1 ⟨a,n,c,rfl,hn,hr,hb⟩
  have RL := Lib.hid (row_lit w1 1 1 rfl (by omega) (by omega))
  have b1 := below_one w1 (.cells #[.int .u32 1] 89)
  replace HB := Lib.hid (bthen (bthen HB.out hb) b1)
  replace X0 := Lib.hid ((X0.out.later hb).later b1)
  have R0 := Lib.hid (hr.later b1);clear hr hb b1
  go_wp2_with fail
  refine (over_any _ _ _ _ _ _ _ _).mono ?_
  rintro e w2 ⟨rfl,hb⟩
  replace HB := Lib.hid (bthen HB.out hb)
  replace X0 := Lib.hid (X0.out.later hb)
  replace R0 := Lib.hid (R0.out.later hb)
  replace RL := Lib.hid (RL.out.later hb);clear hb
  obtain ⟨k0,k1,k2,k3,k4,k5,k6⟩ := X0.out
  go_wp2
  exact bodyPost_ret (v := .agg #[.bool (decide (Z < 0)),.slice a n c,.slice (some ⟨w1.heap.size,0,none⟩) 1 1]) (by simp [results,Tryz.results53,go_sem, *]) rfl
    ⟨a,n,c,_,1,1,by rw [Rat.num_intCast],hn,Nat.le_refl _,by rw [Rat.num_intCast];exact R0.out.put3 X0.out _ _ _,by rw [Rat.den_intCast];exact RL.out.put3 X0.out _ _ _,below_put3 HB.out (Nat.le_refl _) _ _ _⟩
theorem said_zero (k j : Nat) (s : Bool) (a b : Option Addr) (n c m d : Nat) (ys : List Nat) (w : World) (h1 : Row w b m d ys) (hm : m≤100) (hj : 1≤j) (hy : val ys = 0) :
    Calls Tryz.prog 89 #[.agg #[.bool s,.slice a n c,.slice b m d]] w (RawK k j 0 w) := by
  have HB := Lib.hid (below_two w (.cells #[.bool s,.slice a n c,.slice b m d] 27) (.cells #[.bool false,.slice none 0 0,.slice none 0 0] 27))
  have X0 := Lib.hid ((tri_new w (.bool s) (.slice a n c) (.slice b m d)).alloc (.cells #[.bool false,.slice none 0 0,.slice none 0 0] 27))
  have X1 : Hid (Tri ((w.alloc (.cells #[.bool s,.slice a n c,.slice b m d] 27)).alloc (.cells #[.bool false,.slice none 0 0,.slice none 0 0] 27)) (w.heap.size + 1) (.bool false) (.slice none 0 0) (.slice none 0 0)) := tri_newE (by simp)
  have R1 := Lib.hid (h1.later HB.out);clear h1
  have HY : Hid (((bitsOf (val ys)).length : Int) = 0) := by show _ = _;rw [hy,bits_zero];rfl
  clear hy
  go_enter Tryz.func89,Tryz.ntmps89
  go_wp2_with fail
  refine (bitsI 0 R1.out hm HY.out).mono ?_
  rintro e w1 ⟨rfl,hb⟩
  replace HB := Lib.hid (bthen HB.out hb)
  replace X0 := Lib.hid (X0.out.later hb)
  replace X1 := Lib.hid (X1.out.later hb)
  clear hb
  obtain ⟨k0,k1,k2,k3,k4,k5,k6⟩ := X0.out
  go_wp2_with fail
  refine (ofR 0 0 _ (by omega) (by omega) (by rw [show (0:Int).natAbs = 0 from rfl,limbs_zero];exact Nat.le_refl _)).mono ?_
  rintro e w2 ⟨a2,n2,c2,b2,m2,d2,rfl,hn2,hm2,hr,hr2,hb⟩
  have R2 := Lib.hid hr;clear hr
  have R3 := Lib.hid hr2;clear hr2
  replace HB := Lib.hid (bthen HB.out hb)
  replace X1 := Lib.hid (X1.out.later hb)
  clear hb k0 k1 k2 k3 k4 k5 k6
  obtain ⟨k0,k1,k2,k3,k4,k5,k6⟩ := X1.out
  go_wp2
  exact bodyPost_ret (v := .agg #[.bool (decide (((0 : Int) : Rat).num < 0)),.slice a2 n2 c2,.slice b2 m2 d2]) (by simp [results,Tryz.results89,go_sem, *]) rfl
    ⟨_,a2,n2,c2,b2,m2,d2,_,_,rfl,by omega,by omega,R2.out.put3 X1.out _ _ _,R3.out.put3 X1.out _ _ _,by rw [rat_limbs];rfl,by rw [val_limbs];decide,below_put3 HB.out (by omega) _ _ _⟩
theorem said_some (k j : Nat) (q : Rat) (s : Bool) (a b : Option Addr) (n c m d : Nat) (xs ys : List Nat) (w : World) (h0 : Row w a n c xs) (h1 : Row w b m d ys) (hn : n≤k) (hm : m≤j) (hj : j≤100) (hy : 0 < val ys) (hq : mkRat (sv s (val xs)) (val ys) = q) :
    Calls Tryz.prog 89 #[.agg #[.bool s,.slice a n c,.slice b m d]] w (RawK k j q w) := by
  have HB := Lib.hid (below_two w (.cells #[.bool s,.slice a n c,.slice b m d] 27) (.cells #[.bool false,.slice none 0 0,.slice none 0 0] 27))
  have X0 := Lib.hid ((tri_new w (.bool s) (.slice a n c) (.slice b m d)).alloc (.cells #[.bool false,.slice none 0 0,.slice none 0 0] 27))
  have X1 : Hid (Tri ((w.alloc (.cells #[.bool s,.slice a n c,.slice b m d] 27)).alloc (.cells #[.bool false,.slice none 0 0,.slice none 0 0] 27)) (w.heap.size + 1) (.bool false) (.slice none 0 0) (.slice none 0 0)) := tri_newE (by simp)
  have R0 := Lib.hid (h0.later HB.out);clear h0
  have R1 := Lib.hid (h1.later HB.out);clear h1
  obtain ⟨T,hT⟩ : ∃ T,((bitsOf (val ys)).length : Int) = T := ⟨_,rfl⟩
  have hb0 : (T == 0) = false := by
    rw [beq_eq_false_iff_ne];rintro rfl
    have : (bitsOf (val ys)).length = 0 := by omega
    have h2 := bval_bits (val ys)
    rw [List.length_eq_zero_iff.1 this] at h2
    simp [bval] at h2
    omega
  have HT := Lib.hid hT;clear hT
  have HQ := Lib.hid hq;clear hq
  go_enter Tryz.func89,Tryz.ntmps89
  go_wp2_with fail
  refine (bitsI T R1.out (by omega) HT.out).mono ?_
  rintro e w1 ⟨rfl,hb⟩
  replace HB := Lib.hid (bthen HB.out hb)
  replace X0 := Lib.hid (X0.out.later hb)
  replace X1 := Lib.hid (X1.out.later hb)
  replace R0 := Lib.hid (R0.out.later hb)
  replace R1 := Lib.hid (R1.out.later hb)
  clear hb
  obtain ⟨k0,k1,k2,k3,k4,k5,k6⟩ := X0.out
  obtain ⟨l0,l1,l2,l3,l4,l5,l6⟩ := X1.out
  go_wp2
  exact bodyPost_ret (v := .agg #[.bool s,.slice a n c,.slice b m d]) (by simp [results,Tryz.results89,go_sem, *]) rfl
    ⟨s,a,n,c,b,m,d,xs,ys,rfl,hn,hm,R0.out.put3 X1.out _ _ _,R1.out.put3 X1.out _ _ _,HQ.out,hy,below_put3 HB.out (by omega) _ _ _⟩
theorem saidR (k j : Nat) (q : Rat) {s : Bool} {a b : Option Addr} {n c m d : Nat} {xs ys : List Nat} {w : World} (h0 : Row w a n c xs) (h1 : Row w b m d ys) (hq : mkRat (sv s (val xs)) (val ys) = q) (hn : n≤k) (hm : m≤j) (hj1 : 1≤j) (hj : j≤100) :
    Calls Tryz.prog 89 #[.agg #[.bool s,.slice a n c,.slice b m d]] w (RawK k j q w) := by
  rcases Nat.eq_zero_or_pos (val ys) with h | h
  · have : q = 0 := by rw [←hq,h,Rat.mkRat_zero]
    subst this
    exact said_zero k j s a b n c m d ys w h1 (by omega) hj1 h
  · exact said_some k j q s a b n c m d xs ys w h0 h1 hn hm hj h hq
end Go.Proofs.YtkcgikoploohkaaGreatDoor
