/- What Args of the answer tells. No condition. -/
import Derived.Test.YtcljmfhelgkfaaaSfP
namespace Go.Proofs.Ytcljmfhelgkfaaa
set_option linter.unusedVariables false
set_option linter.unusedSimpArgs false
set_option maxRecDepth 100000
open Go.RowKit

/-- how many Args an equation's Op has: at least, at most -/
def argsV (op : ByteArray) : Int × Int :=
  if hasOp opsNone op then (0, 0)
  else if hasOp opsOne op then (1, 1)
  else if hasOp opsSome op then (1, 1073741824)
  else if op = opSel then (3, 3)
  else if hasOp opsTwo op then (2, 2)
  else (-1, -1)
theorem args_0 (op : ByteArray) (w : World) (h : op = bs [108, 105, 116]) : Calls Try.prog 15 #[.string op] w fun e w' => e = .returned (.tuple #[.int .i64 (argsV op).1, .int .i64 (argsV op).2]) ∧ w' = w := by
  have HE : Hid (argsV (bs [108, 105, 116]) = (0, 0)) := Lib.hid rfl
  subst h
  unfold bs at HE ⊢
  go_enter Try.func15, Try.ntmps15
  go_wp2
  go_ret2
  exact ⟨by rw [HE.out]; rfl, rfl⟩
theorem args_1 (op : ByteArray) (w : World) (h : op = bs [105, 110]) : Calls Try.prog 15 #[.string op] w fun e w' => e = .returned (.tuple #[.int .i64 (argsV op).1, .int .i64 (argsV op).2]) ∧ w' = w := by
  have HE : Hid (argsV (bs [105, 110]) = (0, 0)) := Lib.hid rfl
  subst h
  unfold bs at HE ⊢
  go_enter Try.func15, Try.ntmps15
  go_wp2
  go_ret2
  exact ⟨by rw [HE.out]; rfl, rfl⟩
theorem args_2 (op : ByteArray) (w : World) (h : op = bs [109, 101, 109]) : Calls Try.prog 15 #[.string op] w fun e w' => e = .returned (.tuple #[.int .i64 (argsV op).1, .int .i64 (argsV op).2]) ∧ w' = w := by
  have HE : Hid (argsV (bs [109, 101, 109]) = (0, 0)) := Lib.hid rfl
  subst h
  unfold bs at HE ⊢
  go_enter Try.func15, Try.ntmps15
  go_wp2
  go_ret2
  exact ⟨by rw [HE.out]; rfl, rfl⟩
theorem args_3 (op : ByteArray) (w : World) (h : op = bs [99, 111, 110, 116]) : Calls Try.prog 15 #[.string op] w fun e w' => e = .returned (.tuple #[.int .i64 (argsV op).1, .int .i64 (argsV op).2]) ∧ w' = w := by
  have HE : Hid (argsV (bs [99, 111, 110, 116]) = (0, 0)) := Lib.hid rfl
  subst h
  unfold bs at HE ⊢
  go_enter Try.func15, Try.ntmps15
  go_wp2
  go_ret2
  exact ⟨by rw [HE.out]; rfl, rfl⟩
theorem args_4 (op : ByteArray) (w : World) (h : op = bs [102, 108, 97, 103]) : Calls Try.prog 15 #[.string op] w fun e w' => e = .returned (.tuple #[.int .i64 (argsV op).1, .int .i64 (argsV op).2]) ∧ w' = w := by
  have HE : Hid (argsV (bs [102, 108, 97, 103]) = (0, 0)) := Lib.hid rfl
  subst h
  unfold bs at HE ⊢
  go_enter Try.func15, Try.ntmps15
  go_wp2
  go_ret2
  exact ⟨by rw [HE.out]; rfl, rfl⟩
theorem args_5 (op : ByteArray) (w : World) (h : op = bs [99, 111, 112, 121]) : Calls Try.prog 15 #[.string op] w fun e w' => e = .returned (.tuple #[.int .i64 (argsV op).1, .int .i64 (argsV op).2]) ∧ w' = w := by
  have HE : Hid (argsV (bs [99, 111, 112, 121]) = (1, 1)) := Lib.hid rfl
  subst h
  unfold bs at HE ⊢
  go_enter Try.func15, Try.ntmps15
  go_wp2
  go_ret2
  exact ⟨by rw [HE.out]; rfl, rfl⟩
theorem args_6 (op : ByteArray) (w : World) (h : op = bs [110, 101, 103]) : Calls Try.prog 15 #[.string op] w fun e w' => e = .returned (.tuple #[.int .i64 (argsV op).1, .int .i64 (argsV op).2]) ∧ w' = w := by
  have HE : Hid (argsV (bs [110, 101, 103]) = (1, 1)) := Lib.hid rfl
  subst h
  unfold bs at HE ⊢
  go_enter Try.func15, Try.ntmps15
  go_wp2
  go_ret2
  exact ⟨by rw [HE.out]; rfl, rfl⟩
theorem args_7 (op : ByteArray) (w : World) (h : op = bs [110, 111, 116]) : Calls Try.prog 15 #[.string op] w fun e w' => e = .returned (.tuple #[.int .i64 (argsV op).1, .int .i64 (argsV op).2]) ∧ w' = w := by
  have HE : Hid (argsV (bs [110, 111, 116]) = (1, 1)) := Lib.hid rfl
  subst h
  unfold bs at HE ⊢
  go_enter Try.func15, Try.ntmps15
  go_wp2
  go_ret2
  exact ⟨by rw [HE.out]; rfl, rfl⟩
theorem args_8 (op : ByteArray) (w : World) (h : op = bs [102, 108, 111, 111, 114]) : Calls Try.prog 15 #[.string op] w fun e w' => e = .returned (.tuple #[.int .i64 (argsV op).1, .int .i64 (argsV op).2]) ∧ w' = w := by
  have HE : Hid (argsV (bs [102, 108, 111, 111, 114]) = (1, 1)) := Lib.hid rfl
  subst h
  unfold bs at HE ⊢
  go_enter Try.func15, Try.ntmps15
  go_wp2
  go_ret2
  exact ⟨by rw [HE.out]; rfl, rfl⟩
theorem args_9 (op : ByteArray) (w : World) (h : op = bs [114, 97, 116]) : Calls Try.prog 15 #[.string op] w fun e w' => e = .returned (.tuple #[.int .i64 (argsV op).1, .int .i64 (argsV op).2]) ∧ w' = w := by
  have HE : Hid (argsV (bs [114, 97, 116]) = (1, 1)) := Lib.hid rfl
  subst h
  unfold bs at HE ⊢
  go_enter Try.func15, Try.ntmps15
  go_wp2
  go_ret2
  exact ⟨by rw [HE.out]; rfl, rfl⟩
theorem args_10 (op : ByteArray) (w : World) (h : op = bs [103, 97, 110, 100]) : Calls Try.prog 15 #[.string op] w fun e w' => e = .returned (.tuple #[.int .i64 (argsV op).1, .int .i64 (argsV op).2]) ∧ w' = w := by
  have HE : Hid (argsV (bs [103, 97, 110, 100]) = (1, 1073741824)) := Lib.hid rfl
  subst h
  unfold bs at HE ⊢
  go_enter Try.func15, Try.ntmps15
  go_wp2
  go_ret2
  exact ⟨by rw [HE.out]; rfl, rfl⟩
theorem args_11 (op : ByteArray) (w : World) (h : op = bs [109, 114, 103]) : Calls Try.prog 15 #[.string op] w fun e w' => e = .returned (.tuple #[.int .i64 (argsV op).1, .int .i64 (argsV op).2]) ∧ w' = w := by
  have HE : Hid (argsV (bs [109, 114, 103]) = (1, 1073741824)) := Lib.hid rfl
  subst h
  unfold bs at HE ⊢
  go_enter Try.func15, Try.ntmps15
  go_wp2
  go_ret2
  exact ⟨by rw [HE.out]; rfl, rfl⟩
theorem args_12 (op : ByteArray) (w : World) (h : op = bs [115, 101, 108]) : Calls Try.prog 15 #[.string op] w fun e w' => e = .returned (.tuple #[.int .i64 (argsV op).1, .int .i64 (argsV op).2]) ∧ w' = w := by
  have HE : Hid (argsV (bs [115, 101, 108]) = (3, 3)) := Lib.hid rfl
  subst h
  unfold bs at HE ⊢
  go_enter Try.func15, Try.ntmps15
  go_wp2
  go_ret2
  exact ⟨by rw [HE.out]; rfl, rfl⟩
theorem args_13 (op : ByteArray) (w : World) (h : op = bs [43]) : Calls Try.prog 15 #[.string op] w fun e w' => e = .returned (.tuple #[.int .i64 (argsV op).1, .int .i64 (argsV op).2]) ∧ w' = w := by
  have HE : Hid (argsV (bs [43]) = (2, 2)) := Lib.hid rfl
  subst h
  unfold bs at HE ⊢
  go_enter Try.func15, Try.ntmps15
  go_wp2
  go_ret2
  exact ⟨by rw [HE.out]; rfl, rfl⟩
theorem args_14 (op : ByteArray) (w : World) (h : op = bs [45]) : Calls Try.prog 15 #[.string op] w fun e w' => e = .returned (.tuple #[.int .i64 (argsV op).1, .int .i64 (argsV op).2]) ∧ w' = w := by
  have HE : Hid (argsV (bs [45]) = (2, 2)) := Lib.hid rfl
  subst h
  unfold bs at HE ⊢
  go_enter Try.func15, Try.ntmps15
  go_wp2
  go_ret2
  exact ⟨by rw [HE.out]; rfl, rfl⟩
theorem args_15 (op : ByteArray) (w : World) (h : op = bs [42]) : Calls Try.prog 15 #[.string op] w fun e w' => e = .returned (.tuple #[.int .i64 (argsV op).1, .int .i64 (argsV op).2]) ∧ w' = w := by
  have HE : Hid (argsV (bs [42]) = (2, 2)) := Lib.hid rfl
  subst h
  unfold bs at HE ⊢
  go_enter Try.func15, Try.ntmps15
  go_wp2
  go_ret2
  exact ⟨by rw [HE.out]; rfl, rfl⟩
theorem args_16 (op : ByteArray) (w : World) (h : op = bs [47]) : Calls Try.prog 15 #[.string op] w fun e w' => e = .returned (.tuple #[.int .i64 (argsV op).1, .int .i64 (argsV op).2]) ∧ w' = w := by
  have HE : Hid (argsV (bs [47]) = (2, 2)) := Lib.hid rfl
  subst h
  unfold bs at HE ⊢
  go_enter Try.func15, Try.ntmps15
  go_wp2
  go_ret2
  exact ⟨by rw [HE.out]; rfl, rfl⟩
theorem args_17 (op : ByteArray) (w : World) (h : op = bs [100, 105, 118]) : Calls Try.prog 15 #[.string op] w fun e w' => e = .returned (.tuple #[.int .i64 (argsV op).1, .int .i64 (argsV op).2]) ∧ w' = w := by
  have HE : Hid (argsV (bs [100, 105, 118]) = (2, 2)) := Lib.hid rfl
  subst h
  unfold bs at HE ⊢
  go_enter Try.func15, Try.ntmps15
  go_wp2
  go_ret2
  exact ⟨by rw [HE.out]; rfl, rfl⟩
theorem args_18 (op : ByteArray) (w : World) (h : op = bs [109, 111, 100]) : Calls Try.prog 15 #[.string op] w fun e w' => e = .returned (.tuple #[.int .i64 (argsV op).1, .int .i64 (argsV op).2]) ∧ w' = w := by
  have HE : Hid (argsV (bs [109, 111, 100]) = (2, 2)) := Lib.hid rfl
  subst h
  unfold bs at HE ⊢
  go_enter Try.func15, Try.ntmps15
  go_wp2
  go_ret2
  exact ⟨by rw [HE.out]; rfl, rfl⟩
theorem args_19 (op : ByteArray) (w : World) (h : op = bs [60]) : Calls Try.prog 15 #[.string op] w fun e w' => e = .returned (.tuple #[.int .i64 (argsV op).1, .int .i64 (argsV op).2]) ∧ w' = w := by
  have HE : Hid (argsV (bs [60]) = (2, 2)) := Lib.hid rfl
  subst h
  unfold bs at HE ⊢
  go_enter Try.func15, Try.ntmps15
  go_wp2
  go_ret2
  exact ⟨by rw [HE.out]; rfl, rfl⟩
theorem args_20 (op : ByteArray) (w : World) (h : op = bs [60, 61]) : Calls Try.prog 15 #[.string op] w fun e w' => e = .returned (.tuple #[.int .i64 (argsV op).1, .int .i64 (argsV op).2]) ∧ w' = w := by
  have HE : Hid (argsV (bs [60, 61]) = (2, 2)) := Lib.hid rfl
  subst h
  unfold bs at HE ⊢
  go_enter Try.func15, Try.ntmps15
  go_wp2
  go_ret2
  exact ⟨by rw [HE.out]; rfl, rfl⟩
theorem args_21 (op : ByteArray) (w : World) (h : op = bs [62]) : Calls Try.prog 15 #[.string op] w fun e w' => e = .returned (.tuple #[.int .i64 (argsV op).1, .int .i64 (argsV op).2]) ∧ w' = w := by
  have HE : Hid (argsV (bs [62]) = (2, 2)) := Lib.hid rfl
  subst h
  unfold bs at HE ⊢
  go_enter Try.func15, Try.ntmps15
  go_wp2
  go_ret2
  exact ⟨by rw [HE.out]; rfl, rfl⟩
theorem args_22 (op : ByteArray) (w : World) (h : op = bs [62, 61]) : Calls Try.prog 15 #[.string op] w fun e w' => e = .returned (.tuple #[.int .i64 (argsV op).1, .int .i64 (argsV op).2]) ∧ w' = w := by
  have HE : Hid (argsV (bs [62, 61]) = (2, 2)) := Lib.hid rfl
  subst h
  unfold bs at HE ⊢
  go_enter Try.func15, Try.ntmps15
  go_wp2
  go_ret2
  exact ⟨by rw [HE.out]; rfl, rfl⟩
theorem args_23 (op : ByteArray) (w : World) (h : op = bs [61, 61]) : Calls Try.prog 15 #[.string op] w fun e w' => e = .returned (.tuple #[.int .i64 (argsV op).1, .int .i64 (argsV op).2]) ∧ w' = w := by
  have HE : Hid (argsV (bs [61, 61]) = (2, 2)) := Lib.hid rfl
  subst h
  unfold bs at HE ⊢
  go_enter Try.func15, Try.ntmps15
  go_wp2
  go_ret2
  exact ⟨by rw [HE.out]; rfl, rfl⟩
theorem args_24 (op : ByteArray) (w : World) (h : op = bs [33, 61]) : Calls Try.prog 15 #[.string op] w fun e w' => e = .returned (.tuple #[.int .i64 (argsV op).1, .int .i64 (argsV op).2]) ∧ w' = w := by
  have HE : Hid (argsV (bs [33, 61]) = (2, 2)) := Lib.hid rfl
  subst h
  unfold bs at HE ⊢
  go_enter Try.func15, Try.ntmps15
  go_wp2
  go_ret2
  exact ⟨by rw [HE.out]; rfl, rfl⟩
theorem args_25 (op : ByteArray) (w : World) (h : op = bs [97, 110, 100]) : Calls Try.prog 15 #[.string op] w fun e w' => e = .returned (.tuple #[.int .i64 (argsV op).1, .int .i64 (argsV op).2]) ∧ w' = w := by
  have HE : Hid (argsV (bs [97, 110, 100]) = (2, 2)) := Lib.hid rfl
  subst h
  unfold bs at HE ⊢
  go_enter Try.func15, Try.ntmps15
  go_wp2
  go_ret2
  exact ⟨by rw [HE.out]; rfl, rfl⟩
theorem args_26 (op : ByteArray) (w : World) (h : op = bs [111, 114]) : Calls Try.prog 15 #[.string op] w fun e w' => e = .returned (.tuple #[.int .i64 (argsV op).1, .int .i64 (argsV op).2]) ∧ w' = w := by
  have HE : Hid (argsV (bs [111, 114]) = (2, 2)) := Lib.hid rfl
  subst h
  unfold bs at HE ⊢
  go_enter Try.func15, Try.ntmps15
  go_wp2
  go_ret2
  exact ⟨by rw [HE.out]; rfl, rfl⟩
theorem argsV_no (op : ByteArray) (h0 : ¬ op = bs [108, 105, 116]) (h1 : ¬ op = bs [105, 110]) (h2 : ¬ op = bs [109, 101, 109]) (h3 : ¬ op = bs [99, 111, 110, 116]) (h4 : ¬ op = bs [102, 108, 97, 103]) (h5 : ¬ op = bs [99, 111, 112, 121]) (h6 : ¬ op = bs [110, 101, 103]) (h7 : ¬ op = bs [110, 111, 116]) (h8 : ¬ op = bs [102, 108, 111, 111, 114]) (h9 : ¬ op = bs [114, 97, 116]) (h10 : ¬ op = bs [103, 97, 110, 100]) (h11 : ¬ op = bs [109, 114, 103]) (h12 : ¬ op = bs [115, 101, 108]) (h13 : ¬ op = bs [43]) (h14 : ¬ op = bs [45]) (h15 : ¬ op = bs [42]) (h16 : ¬ op = bs [47]) (h17 : ¬ op = bs [100, 105, 118]) (h18 : ¬ op = bs [109, 111, 100]) (h19 : ¬ op = bs [60]) (h20 : ¬ op = bs [60, 61]) (h21 : ¬ op = bs [62]) (h22 : ¬ op = bs [62, 61]) (h23 : ¬ op = bs [61, 61]) (h24 : ¬ op = bs [33, 61]) (h25 : ¬ op = bs [97, 110, 100]) (h26 : ¬ op = bs [111, 114]) : argsV op = (-1, -1) := by
  unfold argsV hasOp opsNone opsOne opsSome opsTwo opSel
  rw [if_neg (by simp [h0, h1, h2, h3, h4]), if_neg (by simp [h5, h6, h7, h8, h9]), if_neg (by simp [h10, h11]), if_neg h12, if_neg (by simp [h13, h14, h15, h16, h17, h18, h19, h20, h21, h22, h23, h24, h25, h26])]
theorem args_none (op : ByteArray) (w : World) (h0 : ¬ op = bs [108, 105, 116]) (h1 : ¬ op = bs [105, 110]) (h2 : ¬ op = bs [109, 101, 109]) (h3 : ¬ op = bs [99, 111, 110, 116]) (h4 : ¬ op = bs [102, 108, 97, 103]) (h5 : ¬ op = bs [99, 111, 112, 121]) (h6 : ¬ op = bs [110, 101, 103]) (h7 : ¬ op = bs [110, 111, 116]) (h8 : ¬ op = bs [102, 108, 111, 111, 114]) (h9 : ¬ op = bs [114, 97, 116]) (h10 : ¬ op = bs [103, 97, 110, 100]) (h11 : ¬ op = bs [109, 114, 103]) (h12 : ¬ op = bs [115, 101, 108]) (h13 : ¬ op = bs [43]) (h14 : ¬ op = bs [45]) (h15 : ¬ op = bs [42]) (h16 : ¬ op = bs [47]) (h17 : ¬ op = bs [100, 105, 118]) (h18 : ¬ op = bs [109, 111, 100]) (h19 : ¬ op = bs [60]) (h20 : ¬ op = bs [60, 61]) (h21 : ¬ op = bs [62]) (h22 : ¬ op = bs [62, 61]) (h23 : ¬ op = bs [61, 61]) (h24 : ¬ op = bs [33, 61]) (h25 : ¬ op = bs [97, 110, 100]) (h26 : ¬ op = bs [111, 114]) : Calls Try.prog 15 #[.string op] w fun e w' => e = .returned (.tuple #[.int .i64 (argsV op).1, .int .i64 (argsV op).2]) ∧ w' = w := by
  have HE := Lib.hid (argsV_no op h0 h1 h2 h3 h4 h5 h6 h7 h8 h9 h10 h11 h12 h13 h14 h15 h16 h17 h18 h19 h20 h21 h22 h23 h24 h25 h26)
  have g0 := str_no h0; clear h0
  have g1 := str_no h1; clear h1
  have g2 := str_no h2; clear h2
  have g3 := str_no h3; clear h3
  have g4 := str_no h4; clear h4
  have g5 := str_no h5; clear h5
  have g6 := str_no h6; clear h6
  have g7 := str_no h7; clear h7
  have g8 := str_no h8; clear h8
  have g9 := str_no h9; clear h9
  have g10 := str_no h10; clear h10
  have g11 := str_no h11; clear h11
  have g12 := str_no h12; clear h12
  have g13 := str_no h13; clear h13
  have g14 := str_no h14; clear h14
  have g15 := str_no h15; clear h15
  have g16 := str_no h16; clear h16
  have g17 := str_no h17; clear h17
  have g18 := str_no h18; clear h18
  have g19 := str_no h19; clear h19
  have g20 := str_no h20; clear h20
  have g21 := str_no h21; clear h21
  have g22 := str_no h22; clear h22
  have g23 := str_no h23; clear h23
  have g24 := str_no h24; clear h24
  have g25 := str_no h25; clear h25
  have g26 := str_no h26; clear h26
  go_enter Try.func15, Try.ntmps15
  go_wp2
  go_ret2
  exact ⟨by rw [HE.out]; rfl, rfl⟩
theorem args_t (op : ByteArray) (w : World) : Calls Try.prog 15 #[.string op] w fun e w' => e = .returned (.tuple #[.int .i64 (argsV op).1, .int .i64 (argsV op).2]) ∧ w' = w := by
  by_cases h0 : op = bs [108, 105, 116]
  · exact args_0 op w h0
  by_cases h1 : op = bs [105, 110]
  · exact args_1 op w h1
  by_cases h2 : op = bs [109, 101, 109]
  · exact args_2 op w h2
  by_cases h3 : op = bs [99, 111, 110, 116]
  · exact args_3 op w h3
  by_cases h4 : op = bs [102, 108, 97, 103]
  · exact args_4 op w h4
  by_cases h5 : op = bs [99, 111, 112, 121]
  · exact args_5 op w h5
  by_cases h6 : op = bs [110, 101, 103]
  · exact args_6 op w h6
  by_cases h7 : op = bs [110, 111, 116]
  · exact args_7 op w h7
  by_cases h8 : op = bs [102, 108, 111, 111, 114]
  · exact args_8 op w h8
  by_cases h9 : op = bs [114, 97, 116]
  · exact args_9 op w h9
  by_cases h10 : op = bs [103, 97, 110, 100]
  · exact args_10 op w h10
  by_cases h11 : op = bs [109, 114, 103]
  · exact args_11 op w h11
  by_cases h12 : op = bs [115, 101, 108]
  · exact args_12 op w h12
  by_cases h13 : op = bs [43]
  · exact args_13 op w h13
  by_cases h14 : op = bs [45]
  · exact args_14 op w h14
  by_cases h15 : op = bs [42]
  · exact args_15 op w h15
  by_cases h16 : op = bs [47]
  · exact args_16 op w h16
  by_cases h17 : op = bs [100, 105, 118]
  · exact args_17 op w h17
  by_cases h18 : op = bs [109, 111, 100]
  · exact args_18 op w h18
  by_cases h19 : op = bs [60]
  · exact args_19 op w h19
  by_cases h20 : op = bs [60, 61]
  · exact args_20 op w h20
  by_cases h21 : op = bs [62]
  · exact args_21 op w h21
  by_cases h22 : op = bs [62, 61]
  · exact args_22 op w h22
  by_cases h23 : op = bs [61, 61]
  · exact args_23 op w h23
  by_cases h24 : op = bs [33, 61]
  · exact args_24 op w h24
  by_cases h25 : op = bs [97, 110, 100]
  · exact args_25 op w h25
  by_cases h26 : op = bs [111, 114]
  · exact args_26 op w h26
  exact args_none op w h0 h1 h2 h3 h4 h5 h6 h7 h8 h9 h10 h11 h12 h13 h14 h15 h16 h17 h18 h19 h20 h21 h22 h23 h24 h25 h26
theorem args_enS {op : ByteArray} {n : Nat} (h : enS op n = true) : (isEnd op = true → (argsV op).1 = -1) ∧ (isEnd op = false → 0 ≤ (argsV op).1) := by
  rcases opS_cases h with h | h | h | h | h | h | h | h | h | h | h | h | h | h | h | h | h | h | h | h | h | h | h | h | h | h | h | h | h | h | h
  all_goals
    subst h
    first
    | exact ⟨fun _ => rfl, (fun h => by cases h)⟩
    | exact ⟨(fun h => by cases h), (fun _ => by decide)⟩

end Go.Proofs.Ytcljmfhelgkfaaa
