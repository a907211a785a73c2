import Derived.Test.YtpnlbjnbgemocaaGreatZEyAToFlTN4
namespace Go.Proofs.YtpnlbjnbgemocaaGreat
set_option linter.unusedVariables false
set_option linter.unusedSimpArgs false
set_option maxRecDepth 100000
open Go.RowKit
theorem rg_0 (f:FlatM)(n:Nat)(k:Int):rgL f (bs [108,105,116]) n k=((n:Int)==0):=(show rgL f (bs [108,105,116]) n k=(enB (bs [108,105,116]) n&&true&&true) from rfl).trans (by rw [enB_0,Bool.and_true,Bool.and_true])
set_option maxHeartbeats 400000 in
theorem ri_0 (q:FEqM)(a m d:Option Addr×Nat×Nat)(v:FlatV)(f:FlatM)(B:Nat)(w:World)(hm:a.2.1≤maxLen)(hF:FlatIs w B v f)(hB:B≤w.heap.size)(h:q.op=bs [108,105,116]):Calls Tryz.prog 115 #[flatV v,feqV q a m d] w fun e w'=>e=.returned (.bool (rgL f q.op a.2.1 q.k))∧Below w.heap.size w w':=by
  obtain⟨var,op,args,k,lit,guard⟩:=q
  obtain⟨A,n,c⟩:=a
  unfold maxLen at hm
  simp only at hm h
  have HE:=Lib.hid (rg_0 f n k)
  clear hF hB
  subst h
  unfold bs at HE ⊢
  unfold feqV flatV sl3
  go_enter Tryz.func115,Tryz.ntmps115
  go_wp2
  all_goals
    go_ret
    exact⟨by rw [HE.out];first | rfl | (congr 1;simp;done) | (congr 2;simp;omega),((Below.refl _ _).alloc (Nat.le_refl _) _).alloc (by simp) _⟩
theorem rg_5 (f:FlatM)(n:Nat)(k:Int):rgL f (bs [99,111,112,121]) n k=((n:Int)==1):=(show rgL f (bs [99,111,112,121]) n k=(enB (bs [99,111,112,121]) n&&true&&true) from rfl).trans (by rw [enB_5,Bool.and_true,Bool.and_true])
set_option maxHeartbeats 400000 in
theorem ri_5 (q:FEqM)(a m d:Option Addr×Nat×Nat)(v:FlatV)(f:FlatM)(B:Nat)(w:World)(hm:a.2.1≤maxLen)(hF:FlatIs w B v f)(hB:B≤w.heap.size)(h:q.op=bs [99,111,112,121]):Calls Tryz.prog 115 #[flatV v,feqV q a m d] w fun e w'=>e=.returned (.bool (rgL f q.op a.2.1 q.k))∧Below w.heap.size w w':=by
  obtain⟨var,op,args,k,lit,guard⟩:=q
  obtain⟨A,n,c⟩:=a
  unfold maxLen at hm
  simp only at hm h
  have HE:=Lib.hid (rg_5 f n k)
  clear hF hB
  subst h
  unfold bs at HE ⊢
  unfold feqV flatV sl3
  go_enter Tryz.func115,Tryz.ntmps115
  go_wp2
  all_goals
    go_ret
    exact⟨by rw [HE.out];first | rfl | (congr 1;simp;done) | (congr 2;simp;omega),((Below.refl _ _).alloc (Nat.le_refl _) _).alloc (by simp) _⟩
theorem rg_6 (f:FlatM)(n:Nat)(k:Int):rgL f (bs [110,101,103]) n k=((n:Int)==1):=(show rgL f (bs [110,101,103]) n k=(enB (bs [110,101,103]) n&&true&&true) from rfl).trans (by rw [enB_6,Bool.and_true,Bool.and_true])
set_option maxHeartbeats 400000 in
theorem ri_6 (q:FEqM)(a m d:Option Addr×Nat×Nat)(v:FlatV)(f:FlatM)(B:Nat)(w:World)(hm:a.2.1≤maxLen)(hF:FlatIs w B v f)(hB:B≤w.heap.size)(h:q.op=bs [110,101,103]):Calls Tryz.prog 115 #[flatV v,feqV q a m d] w fun e w'=>e=.returned (.bool (rgL f q.op a.2.1 q.k))∧Below w.heap.size w w':=by
  obtain⟨var,op,args,k,lit,guard⟩:=q
  obtain⟨A,n,c⟩:=a
  unfold maxLen at hm
  simp only at hm h
  have HE:=Lib.hid (rg_6 f n k)
  clear hF hB
  subst h
  unfold bs at HE ⊢
  unfold feqV flatV sl3
  go_enter Tryz.func115,Tryz.ntmps115
  go_wp2
  all_goals
    go_ret
    exact⟨by rw [HE.out];first | rfl | (congr 1;simp;done) | (congr 2;simp;omega),((Below.refl _ _).alloc (Nat.le_refl _) _).alloc (by simp) _⟩
theorem rg_7 (f:FlatM)(n:Nat)(k:Int):rgL f (bs [110,111,116]) n k=((n:Int)==1):=(show rgL f (bs [110,111,116]) n k=(enB (bs [110,111,116]) n&&true&&true) from rfl).trans (by rw [enB_7,Bool.and_true,Bool.and_true])
set_option maxHeartbeats 400000 in
theorem ri_7 (q:FEqM)(a m d:Option Addr×Nat×Nat)(v:FlatV)(f:FlatM)(B:Nat)(w:World)(hm:a.2.1≤maxLen)(hF:FlatIs w B v f)(hB:B≤w.heap.size)(h:q.op=bs [110,111,116]):Calls Tryz.prog 115 #[flatV v,feqV q a m d] w fun e w'=>e=.returned (.bool (rgL f q.op a.2.1 q.k))∧Below w.heap.size w w':=by
  obtain⟨var,op,args,k,lit,guard⟩:=q
  obtain⟨A,n,c⟩:=a
  unfold maxLen at hm
  simp only at hm h
  have HE:=Lib.hid (rg_7 f n k)
  clear hF hB
  subst h
  unfold bs at HE ⊢
  unfold feqV flatV sl3
  go_enter Tryz.func115,Tryz.ntmps115
  go_wp2
  all_goals
    go_ret
    exact⟨by rw [HE.out];first | rfl | (congr 1;simp;done) | (congr 2;simp;omega),((Below.refl _ _).alloc (Nat.le_refl _) _).alloc (by simp) _⟩
theorem rg_8 (f:FlatM)(n:Nat)(k:Int):rgL f (bs [102,108,111,111,114]) n k=((n:Int)==1):=(show rgL f (bs [102,108,111,111,114]) n k=(enB (bs [102,108,111,111,114]) n&&true&&true) from rfl).trans (by rw [enB_8,Bool.and_true,Bool.and_true])
set_option maxHeartbeats 400000 in
theorem ri_8 (q:FEqM)(a m d:Option Addr×Nat×Nat)(v:FlatV)(f:FlatM)(B:Nat)(w:World)(hm:a.2.1≤maxLen)(hF:FlatIs w B v f)(hB:B≤w.heap.size)(h:q.op=bs [102,108,111,111,114]):Calls Tryz.prog 115 #[flatV v,feqV q a m d] w fun e w'=>e=.returned (.bool (rgL f q.op a.2.1 q.k))∧Below w.heap.size w w':=by
  obtain⟨var,op,args,k,lit,guard⟩:=q
  obtain⟨A,n,c⟩:=a
  unfold maxLen at hm
  simp only at hm h
  have HE:=Lib.hid (rg_8 f n k)
  clear hF hB
  subst h
  unfold bs at HE ⊢
  unfold feqV flatV sl3
  go_enter Tryz.func115,Tryz.ntmps115
  go_wp2
  all_goals
    go_ret
    exact⟨by rw [HE.out];first | rfl | (congr 1;simp;done) | (congr 2;simp;omega),((Below.refl _ _).alloc (Nat.le_refl _) _).alloc (by simp) _⟩
theorem rg_9 (f:FlatM)(n:Nat)(k:Int):rgL f (bs [114,97,116]) n k=((n:Int)==1):=(show rgL f (bs [114,97,116]) n k=(enB (bs [114,97,116]) n&&true&&true) from rfl).trans (by rw [enB_9,Bool.and_true,Bool.and_true])
set_option maxHeartbeats 400000 in
theorem ri_9 (q:FEqM)(a m d:Option Addr×Nat×Nat)(v:FlatV)(f:FlatM)(B:Nat)(w:World)(hm:a.2.1≤maxLen)(hF:FlatIs w B v f)(hB:B≤w.heap.size)(h:q.op=bs [114,97,116]):Calls Tryz.prog 115 #[flatV v,feqV q a m d] w fun e w'=>e=.returned (.bool (rgL f q.op a.2.1 q.k))∧Below w.heap.size w w':=by
  obtain⟨var,op,args,k,lit,guard⟩:=q
  obtain⟨A,n,c⟩:=a
  unfold maxLen at hm
  simp only at hm h
  have HE:=Lib.hid (rg_9 f n k)
  clear hF hB
  subst h
  unfold bs at HE ⊢
  unfold feqV flatV sl3
  go_enter Tryz.func115,Tryz.ntmps115
  go_wp2
  all_goals
    go_ret
    exact⟨by rw [HE.out];first | rfl | (congr 1;simp;done) | (congr 2;simp;omega),((Below.refl _ _).alloc (Nat.le_refl _) _).alloc (by simp) _⟩
theorem rg_10 (f:FlatM)(n:Nat)(k:Int):rgL f (bs [103,97,110,100]) n k=decide ((1:Int)≤(n:Int)):=(show rgL f (bs [103,97,110,100]) n k=(enB (bs [103,97,110,100]) n&&true&&true) from rfl).trans (by rw [enB_10,Bool.and_true,Bool.and_true])
set_option maxHeartbeats 400000 in
theorem ri_10 (q:FEqM)(a m d:Option Addr×Nat×Nat)(v:FlatV)(f:FlatM)(B:Nat)(w:World)(hm:a.2.1≤maxLen)(hF:FlatIs w B v f)(hB:B≤w.heap.size)(h:q.op=bs [103,97,110,100]):Calls Tryz.prog 115 #[flatV v,feqV q a m d] w fun e w'=>e=.returned (.bool (rgL f q.op a.2.1 q.k))∧Below w.heap.size w w':=by
  obtain⟨var,op,args,k,lit,guard⟩:=q
  obtain⟨A,n,c⟩:=a
  unfold maxLen at hm
  simp only at hm h
  have HE:=Lib.hid (rg_10 f n k)
  clear hF hB
  subst h
  unfold bs at HE ⊢
  unfold feqV flatV sl3
  go_enter Tryz.func115,Tryz.ntmps115
  go_wp2
  all_goals
    go_ret
    exact⟨by rw [HE.out];first | rfl | (congr 1;simp;done) | (congr 2;simp;omega),((Below.refl _ _).alloc (Nat.le_refl _) _).alloc (by simp) _⟩
theorem rg_11 (f:FlatM)(n:Nat)(k:Int):rgL f (bs [109,114,103]) n k=decide ((1:Int)≤(n:Int)):=(show rgL f (bs [109,114,103]) n k=(enB (bs [109,114,103]) n&&true&&true) from rfl).trans (by rw [enB_11,Bool.and_true,Bool.and_true])
set_option maxHeartbeats 400000 in
theorem ri_11 (q:FEqM)(a m d:Option Addr×Nat×Nat)(v:FlatV)(f:FlatM)(B:Nat)(w:World)(hm:a.2.1≤maxLen)(hF:FlatIs w B v f)(hB:B≤w.heap.size)(h:q.op=bs [109,114,103]):Calls Tryz.prog 115 #[flatV v,feqV q a m d] w fun e w'=>e=.returned (.bool (rgL f q.op a.2.1 q.k))∧Below w.heap.size w w':=by
  obtain⟨var,op,args,k,lit,guard⟩:=q
  obtain⟨A,n,c⟩:=a
  unfold maxLen at hm
  simp only at hm h
  have HE:=Lib.hid (rg_11 f n k)
  clear hF hB
  subst h
  unfold bs at HE ⊢
  unfold feqV flatV sl3
  go_enter Tryz.func115,Tryz.ntmps115
  go_wp2
  all_goals
    go_ret
    exact⟨by rw [HE.out];first | rfl | (congr 1;simp;done) | (congr 2;simp;omega),((Below.refl _ _).alloc (Nat.le_refl _) _).alloc (by simp) _⟩
theorem rg_12 (f:FlatM)(n:Nat)(k:Int):rgL f (bs [43]) n k=((n:Int)==2):=(show rgL f (bs [43]) n k=(enB (bs [43]) n&&true&&true) from rfl).trans (by rw [enB_12,Bool.and_true,Bool.and_true])
set_option maxHeartbeats 400000 in
theorem ri_12 (q:FEqM)(a m d:Option Addr×Nat×Nat)(v:FlatV)(f:FlatM)(B:Nat)(w:World)(hm:a.2.1≤maxLen)(hF:FlatIs w B v f)(hB:B≤w.heap.size)(h:q.op=bs [43]):Calls Tryz.prog 115 #[flatV v,feqV q a m d] w fun e w'=>e=.returned (.bool (rgL f q.op a.2.1 q.k))∧Below w.heap.size w w':=by
  obtain⟨var,op,args,k,lit,guard⟩:=q
  obtain⟨A,n,c⟩:=a
  unfold maxLen at hm
  simp only at hm h
  have HE:=Lib.hid (rg_12 f n k)
  clear hF hB
  subst h
  unfold bs at HE ⊢
  unfold feqV flatV sl3
  go_enter Tryz.func115,Tryz.ntmps115
  go_wp2
  all_goals
    go_ret
    exact⟨by rw [HE.out];first | rfl | (congr 1;simp;done) | (congr 2;simp;omega),((Below.refl _ _).alloc (Nat.le_refl _) _).alloc (by simp) _⟩
theorem rg_13 (f:FlatM)(n:Nat)(k:Int):rgL f (bs [45]) n k=((n:Int)==2):=(show rgL f (bs [45]) n k=(enB (bs [45]) n&&true&&true) from rfl).trans (by rw [enB_13,Bool.and_true,Bool.and_true])
set_option maxHeartbeats 400000 in
theorem ri_13 (q:FEqM)(a m d:Option Addr×Nat×Nat)(v:FlatV)(f:FlatM)(B:Nat)(w:World)(hm:a.2.1≤maxLen)(hF:FlatIs w B v f)(hB:B≤w.heap.size)(h:q.op=bs [45]):Calls Tryz.prog 115 #[flatV v,feqV q a m d] w fun e w'=>e=.returned (.bool (rgL f q.op a.2.1 q.k))∧Below w.heap.size w w':=by
  obtain⟨var,op,args,k,lit,guard⟩:=q
  obtain⟨A,n,c⟩:=a
  unfold maxLen at hm
  simp only at hm h
  have HE:=Lib.hid (rg_13 f n k)
  clear hF hB
  subst h
  unfold bs at HE ⊢
  unfold feqV flatV sl3
  go_enter Tryz.func115,Tryz.ntmps115
  go_wp2
  all_goals
    go_ret
    exact⟨by rw [HE.out];first | rfl | (congr 1;simp;done) | (congr 2;simp;omega),((Below.refl _ _).alloc (Nat.le_refl _) _).alloc (by simp) _⟩
theorem rg_14 (f:FlatM)(n:Nat)(k:Int):rgL f (bs [42]) n k=((n:Int)==2):=(show rgL f (bs [42]) n k=(enB (bs [42]) n&&true&&true) from rfl).trans (by rw [enB_14,Bool.and_true,Bool.and_true])
set_option maxHeartbeats 400000 in
theorem ri_14 (q:FEqM)(a m d:Option Addr×Nat×Nat)(v:FlatV)(f:FlatM)(B:Nat)(w:World)(hm:a.2.1≤maxLen)(hF:FlatIs w B v f)(hB:B≤w.heap.size)(h:q.op=bs [42]):Calls Tryz.prog 115 #[flatV v,feqV q a m d] w fun e w'=>e=.returned (.bool (rgL f q.op a.2.1 q.k))∧Below w.heap.size w w':=by
  obtain⟨var,op,args,k,lit,guard⟩:=q
  obtain⟨A,n,c⟩:=a
  unfold maxLen at hm
  simp only at hm h
  have HE:=Lib.hid (rg_14 f n k)
  clear hF hB
  subst h
  unfold bs at HE ⊢
  unfold feqV flatV sl3
  go_enter Tryz.func115,Tryz.ntmps115
  go_wp2
  all_goals
    go_ret
    exact⟨by rw [HE.out];first | rfl | (congr 1;simp;done) | (congr 2;simp;omega),((Below.refl _ _).alloc (Nat.le_refl _) _).alloc (by simp) _⟩
theorem rg_15 (f:FlatM)(n:Nat)(k:Int):rgL f (bs [47]) n k=((n:Int)==2):=(show rgL f (bs [47]) n k=(enB (bs [47]) n&&true&&true) from rfl).trans (by rw [enB_15,Bool.and_true,Bool.and_true])
set_option maxHeartbeats 400000 in
theorem ri_15 (q:FEqM)(a m d:Option Addr×Nat×Nat)(v:FlatV)(f:FlatM)(B:Nat)(w:World)(hm:a.2.1≤maxLen)(hF:FlatIs w B v f)(hB:B≤w.heap.size)(h:q.op=bs [47]):Calls Tryz.prog 115 #[flatV v,feqV q a m d] w fun e w'=>e=.returned (.bool (rgL f q.op a.2.1 q.k))∧Below w.heap.size w w':=by
  obtain⟨var,op,args,k,lit,guard⟩:=q
  obtain⟨A,n,c⟩:=a
  unfold maxLen at hm
  simp only at hm h
  have HE:=Lib.hid (rg_15 f n k)
  clear hF hB
  subst h
  unfold bs at HE ⊢
  unfold feqV flatV sl3
  go_enter Tryz.func115,Tryz.ntmps115
  go_wp2
  all_goals
    go_ret
    exact⟨by rw [HE.out];first | rfl | (congr 1;simp;done) | (congr 2;simp;omega),((Below.refl _ _).alloc (Nat.le_refl _) _).alloc (by simp) _⟩
theorem rg_16 (f:FlatM)(n:Nat)(k:Int):rgL f (bs [100,105,118]) n k=((n:Int)==2):=(show rgL f (bs [100,105,118]) n k=(enB (bs [100,105,118]) n&&true&&true) from rfl).trans (by rw [enB_16,Bool.and_true,Bool.and_true])
set_option maxHeartbeats 400000 in
theorem ri_16 (q:FEqM)(a m d:Option Addr×Nat×Nat)(v:FlatV)(f:FlatM)(B:Nat)(w:World)(hm:a.2.1≤maxLen)(hF:FlatIs w B v f)(hB:B≤w.heap.size)(h:q.op=bs [100,105,118]):Calls Tryz.prog 115 #[flatV v,feqV q a m d] w fun e w'=>e=.returned (.bool (rgL f q.op a.2.1 q.k))∧Below w.heap.size w w':=by
  obtain⟨var,op,args,k,lit,guard⟩:=q
  obtain⟨A,n,c⟩:=a
  unfold maxLen at hm
  simp only at hm h
  have HE:=Lib.hid (rg_16 f n k)
  clear hF hB
  subst h
  unfold bs at HE ⊢
  unfold feqV flatV sl3
  go_enter Tryz.func115,Tryz.ntmps115
  go_wp2
  all_goals
    go_ret
    exact⟨by rw [HE.out];first | rfl | (congr 1;simp;done) | (congr 2;simp;omega),((Below.refl _ _).alloc (Nat.le_refl _) _).alloc (by simp) _⟩
theorem rg_17 (f:FlatM)(n:Nat)(k:Int):rgL f (bs [109,111,100]) n k=((n:Int)==2):=(show rgL f (bs [109,111,100]) n k=(enB (bs [109,111,100]) n&&true&&true) from rfl).trans (by rw [enB_17,Bool.and_true,Bool.and_true])
set_option maxHeartbeats 400000 in
theorem ri_17 (q:FEqM)(a m d:Option Addr×Nat×Nat)(v:FlatV)(f:FlatM)(B:Nat)(w:World)(hm:a.2.1≤maxLen)(hF:FlatIs w B v f)(hB:B≤w.heap.size)(h:q.op=bs [109,111,100]):Calls Tryz.prog 115 #[flatV v,feqV q a m d] w fun e w'=>e=.returned (.bool (rgL f q.op a.2.1 q.k))∧Below w.heap.size w w':=by
  obtain⟨var,op,args,k,lit,guard⟩:=q
  obtain⟨A,n,c⟩:=a
  unfold maxLen at hm
  simp only at hm h
  have HE:=Lib.hid (rg_17 f n k)
  clear hF hB
  subst h
  unfold bs at HE ⊢
  unfold feqV flatV sl3
  go_enter Tryz.func115,Tryz.ntmps115
  go_wp2
  all_goals
    go_ret
    exact⟨by rw [HE.out];first | rfl | (congr 1;simp;done) | (congr 2;simp;omega),((Below.refl _ _).alloc (Nat.le_refl _) _).alloc (by simp) _⟩
theorem rg_18 (f:FlatM)(n:Nat)(k:Int):rgL f (bs [60]) n k=((n:Int)==2):=(show rgL f (bs [60]) n k=(enB (bs [60]) n&&true&&true) from rfl).trans (by rw [enB_18,Bool.and_true,Bool.and_true])
set_option maxHeartbeats 400000 in
theorem ri_18 (q:FEqM)(a m d:Option Addr×Nat×Nat)(v:FlatV)(f:FlatM)(B:Nat)(w:World)(hm:a.2.1≤maxLen)(hF:FlatIs w B v f)(hB:B≤w.heap.size)(h:q.op=bs [60]):Calls Tryz.prog 115 #[flatV v,feqV q a m d] w fun e w'=>e=.returned (.bool (rgL f q.op a.2.1 q.k))∧Below w.heap.size w w':=by
  obtain⟨var,op,args,k,lit,guard⟩:=q
  obtain⟨A,n,c⟩:=a
  unfold maxLen at hm
  simp only at hm h
  have HE:=Lib.hid (rg_18 f n k)
  clear hF hB
  subst h
  unfold bs at HE ⊢
  unfold feqV flatV sl3
  go_enter Tryz.func115,Tryz.ntmps115
  go_wp2
  all_goals
    go_ret
    exact⟨by rw [HE.out];first | rfl | (congr 1;simp;done) | (congr 2;simp;omega),((Below.refl _ _).alloc (Nat.le_refl _) _).alloc (by simp) _⟩
theorem rg_19 (f:FlatM)(n:Nat)(k:Int):rgL f (bs [60,61]) n k=((n:Int)==2):=(show rgL f (bs [60,61]) n k=(enB (bs [60,61]) n&&true&&true) from rfl).trans (by rw [enB_19,Bool.and_true,Bool.and_true])
set_option maxHeartbeats 400000 in
theorem ri_19 (q:FEqM)(a m d:Option Addr×Nat×Nat)(v:FlatV)(f:FlatM)(B:Nat)(w:World)(hm:a.2.1≤maxLen)(hF:FlatIs w B v f)(hB:B≤w.heap.size)(h:q.op=bs [60,61]):Calls Tryz.prog 115 #[flatV v,feqV q a m d] w fun e w'=>e=.returned (.bool (rgL f q.op a.2.1 q.k))∧Below w.heap.size w w':=by
  obtain⟨var,op,args,k,lit,guard⟩:=q
  obtain⟨A,n,c⟩:=a
  unfold maxLen at hm
  simp only at hm h
  have HE:=Lib.hid (rg_19 f n k)
  clear hF hB
  subst h
  unfold bs at HE ⊢
  unfold feqV flatV sl3
  go_enter Tryz.func115,Tryz.ntmps115
  go_wp2
  all_goals
    go_ret
    exact⟨by rw [HE.out];first | rfl | (congr 1;simp;done) | (congr 2;simp;omega),((Below.refl _ _).alloc (Nat.le_refl _) _).alloc (by simp) _⟩
theorem rg_20 (f:FlatM)(n:Nat)(k:Int):rgL f (bs [62]) n k=((n:Int)==2):=(show rgL f (bs [62]) n k=(enB (bs [62]) n&&true&&true) from rfl).trans (by rw [enB_20,Bool.and_true,Bool.and_true])
set_option maxHeartbeats 400000 in
theorem ri_20 (q:FEqM)(a m d:Option Addr×Nat×Nat)(v:FlatV)(f:FlatM)(B:Nat)(w:World)(hm:a.2.1≤maxLen)(hF:FlatIs w B v f)(hB:B≤w.heap.size)(h:q.op=bs [62]):Calls Tryz.prog 115 #[flatV v,feqV q a m d] w fun e w'=>e=.returned (.bool (rgL f q.op a.2.1 q.k))∧Below w.heap.size w w':=by
  obtain⟨var,op,args,k,lit,guard⟩:=q
  obtain⟨A,n,c⟩:=a
  unfold maxLen at hm
  simp only at hm h
  have HE:=Lib.hid (rg_20 f n k)
  clear hF hB
  subst h
  unfold bs at HE ⊢
  unfold feqV flatV sl3
  go_enter Tryz.func115,Tryz.ntmps115
  go_wp2
  all_goals
    go_ret
    exact⟨by rw [HE.out];first | rfl | (congr 1;simp;done) | (congr 2;simp;omega),((Below.refl _ _).alloc (Nat.le_refl _) _).alloc (by simp) _⟩
theorem rg_21 (f:FlatM)(n:Nat)(k:Int):rgL f (bs [62,61]) n k=((n:Int)==2):=(show rgL f (bs [62,61]) n k=(enB (bs [62,61]) n&&true&&true) from rfl).trans (by rw [enB_21,Bool.and_true,Bool.and_true])
set_option maxHeartbeats 400000 in
theorem ri_21 (q:FEqM)(a m d:Option Addr×Nat×Nat)(v:FlatV)(f:FlatM)(B:Nat)(w:World)(hm:a.2.1≤maxLen)(hF:FlatIs w B v f)(hB:B≤w.heap.size)(h:q.op=bs [62,61]):Calls Tryz.prog 115 #[flatV v,feqV q a m d] w fun e w'=>e=.returned (.bool (rgL f q.op a.2.1 q.k))∧Below w.heap.size w w':=by
  obtain⟨var,op,args,k,lit,guard⟩:=q
  obtain⟨A,n,c⟩:=a
  unfold maxLen at hm
  simp only at hm h
  have HE:=Lib.hid (rg_21 f n k)
  clear hF hB
  subst h
  unfold bs at HE ⊢
  unfold feqV flatV sl3
  go_enter Tryz.func115,Tryz.ntmps115
  go_wp2
  all_goals
    go_ret
    exact⟨by rw [HE.out];first | rfl | (congr 1;simp;done) | (congr 2;simp;omega),((Below.refl _ _).alloc (Nat.le_refl _) _).alloc (by simp) _⟩
theorem rg_22 (f:FlatM)(n:Nat)(k:Int):rgL f (bs [61,61]) n k=((n:Int)==2):=(show rgL f (bs [61,61]) n k=(enB (bs [61,61]) n&&true&&true) from rfl).trans (by rw [enB_22,Bool.and_true,Bool.and_true])
set_option maxHeartbeats 400000 in
theorem ri_22 (q:FEqM)(a m d:Option Addr×Nat×Nat)(v:FlatV)(f:FlatM)(B:Nat)(w:World)(hm:a.2.1≤maxLen)(hF:FlatIs w B v f)(hB:B≤w.heap.size)(h:q.op=bs [61,61]):Calls Tryz.prog 115 #[flatV v,feqV q a m d] w fun e w'=>e=.returned (.bool (rgL f q.op a.2.1 q.k))∧Below w.heap.size w w':=by
  obtain⟨var,op,args,k,lit,guard⟩:=q
  obtain⟨A,n,c⟩:=a
  unfold maxLen at hm
  simp only at hm h
  have HE:=Lib.hid (rg_22 f n k)
  clear hF hB
  subst h
  unfold bs at HE ⊢
  unfold feqV flatV sl3
  go_enter Tryz.func115,Tryz.ntmps115
  go_wp2
  all_goals
    go_ret
    exact⟨by rw [HE.out];first | rfl | (congr 1;simp;done) | (congr 2;simp;omega),((Below.refl _ _).alloc (Nat.le_refl _) _).alloc (by simp) _⟩
theorem rg_23 (f:FlatM)(n:Nat)(k:Int):rgL f (bs [33,61]) n k=((n:Int)==2):=(show rgL f (bs [33,61]) n k=(enB (bs [33,61]) n&&true&&true) from rfl).trans (by rw [enB_23,Bool.and_true,Bool.and_true])
set_option maxHeartbeats 400000 in
theorem ri_23 (q:FEqM)(a m d:Option Addr×Nat×Nat)(v:FlatV)(f:FlatM)(B:Nat)(w:World)(hm:a.2.1≤maxLen)(hF:FlatIs w B v f)(hB:B≤w.heap.size)(h:q.op=bs [33,61]):Calls Tryz.prog 115 #[flatV v,feqV q a m d] w fun e w'=>e=.returned (.bool (rgL f q.op a.2.1 q.k))∧Below w.heap.size w w':=by
  obtain⟨var,op,args,k,lit,guard⟩:=q
  obtain⟨A,n,c⟩:=a
  unfold maxLen at hm
  simp only at hm h
  have HE:=Lib.hid (rg_23 f n k)
  clear hF hB
  subst h
  unfold bs at HE ⊢
  unfold feqV flatV sl3
  go_enter Tryz.func115,Tryz.ntmps115
  go_wp2
  all_goals
    go_ret
    exact⟨by rw [HE.out];first | rfl | (congr 1;simp;done) | (congr 2;simp;omega),((Below.refl _ _).alloc (Nat.le_refl _) _).alloc (by simp) _⟩
theorem rg_24 (f:FlatM)(n:Nat)(k:Int):rgL f (bs [97,110,100]) n k=((n:Int)==2):=(show rgL f (bs [97,110,100]) n k=(enB (bs [97,110,100]) n&&true&&true) from rfl).trans (by rw [enB_24,Bool.and_true,Bool.and_true])
set_option maxHeartbeats 400000 in
theorem ri_24 (q:FEqM)(a m d:Option Addr×Nat×Nat)(v:FlatV)(f:FlatM)(B:Nat)(w:World)(hm:a.2.1≤maxLen)(hF:FlatIs w B v f)(hB:B≤w.heap.size)(h:q.op=bs [97,110,100]):Calls Tryz.prog 115 #[flatV v,feqV q a m d] w fun e w'=>e=.returned (.bool (rgL f q.op a.2.1 q.k))∧Below w.heap.size w w':=by
  obtain⟨var,op,args,k,lit,guard⟩:=q
  obtain⟨A,n,c⟩:=a
  unfold maxLen at hm
  simp only at hm h
  have HE:=Lib.hid (rg_24 f n k)
  clear hF hB
  subst h
  unfold bs at HE ⊢
  unfold feqV flatV sl3
  go_enter Tryz.func115,Tryz.ntmps115
  go_wp2
  all_goals
    go_ret
    exact⟨by rw [HE.out];first | rfl | (congr 1;simp;done) | (congr 2;simp;omega),((Below.refl _ _).alloc (Nat.le_refl _) _).alloc (by simp) _⟩
theorem rg_25 (f:FlatM)(n:Nat)(k:Int):rgL f (bs [111,114]) n k=((n:Int)==2):=(show rgL f (bs [111,114]) n k=(enB (bs [111,114]) n&&true&&true) from rfl).trans (by rw [enB_25,Bool.and_true,Bool.and_true])
set_option maxHeartbeats 400000 in
theorem ri_25 (q:FEqM)(a m d:Option Addr×Nat×Nat)(v:FlatV)(f:FlatM)(B:Nat)(w:World)(hm:a.2.1≤maxLen)(hF:FlatIs w B v f)(hB:B≤w.heap.size)(h:q.op=bs [111,114]):Calls Tryz.prog 115 #[flatV v,feqV q a m d] w fun e w'=>e=.returned (.bool (rgL f q.op a.2.1 q.k))∧Below w.heap.size w w':=by
  obtain⟨var,op,args,k,lit,guard⟩:=q
  obtain⟨A,n,c⟩:=a
  unfold maxLen at hm
  simp only at hm h
  have HE:=Lib.hid (rg_25 f n k)
  clear hF hB
  subst h
  unfold bs at HE ⊢
  unfold feqV flatV sl3
  go_enter Tryz.func115,Tryz.ntmps115
  go_wp2
  all_goals
    go_ret
    exact⟨by rw [HE.out];first | rfl | (congr 1;simp;done) | (congr 2;simp;omega),((Below.refl _ _).alloc (Nat.le_refl _) _).alloc (by simp) _⟩
theorem rg_26 (f:FlatM)(n:Nat)(k:Int):rgL f (bs [115,101,108]) n k=((n:Int)==3):=(show rgL f (bs [115,101,108]) n k=(enB (bs [115,101,108]) n&&true&&true) from rfl).trans (by rw [enB_26,Bool.and_true,Bool.and_true])
set_option maxHeartbeats 400000 in
theorem ri_26 (q:FEqM)(a m d:Option Addr×Nat×Nat)(v:FlatV)(f:FlatM)(B:Nat)(w:World)(hm:a.2.1≤maxLen)(hF:FlatIs w B v f)(hB:B≤w.heap.size)(h:q.op=bs [115,101,108]):Calls Tryz.prog 115 #[flatV v,feqV q a m d] w fun e w'=>e=.returned (.bool (rgL f q.op a.2.1 q.k))∧Below w.heap.size w w':=by
  obtain⟨var,op,args,k,lit,guard⟩:=q
  obtain⟨A,n,c⟩:=a
  unfold maxLen at hm
  simp only at hm h
  have HE:=Lib.hid (rg_26 f n k)
  clear hF hB
  subst h
  unfold bs at HE ⊢
  unfold feqV flatV sl3
  go_enter Tryz.func115,Tryz.ntmps115
  go_wp2
  all_goals
    go_ret
    exact⟨by rw [HE.out];first | rfl | (congr 1;simp;done) | (congr 2;simp;omega),((Below.refl _ _).alloc (Nat.le_refl _) _).alloc (by simp) _⟩
theorem rg_no (f:FlatM)(op:ByteArray)(n:Nat)(k:Int)(h0:¬ op=bs [108,105,116])(h1:¬ op=bs [105,110])(h2:¬ op=bs [109,101,109])(h3:¬ op=bs [99,111,110,116])(h4:¬ op=bs [102,108,97,103])(h5:¬ op=bs [99,111,112,121])(h6:¬ op=bs [110,101,103])(h7:¬ op=bs [110,111,116])(h8:¬ op=bs [102,108,111,111,114])(h9:¬ op=bs [114,97,116])(h10:¬ op=bs [103,97,110,100])(h11:¬ op=bs [109,114,103])(h12:¬ op=bs [43])(h13:¬ op=bs [45])(h14:¬ op=bs [42])(h15:¬ op=bs [47])(h16:¬ op=bs [100,105,118])(h17:¬ op=bs [109,111,100])(h18:¬ op=bs [60])(h19:¬ op=bs [60,61])(h20:¬ op=bs [62])(h21:¬ op=bs [62,61])(h22:¬ op=bs [61,61])(h23:¬ op=bs [33,61])(h24:¬ op=bs [97,110,100])(h25:¬ op=bs [111,114])(h26:¬ op=bs [115,101,108]):rgL f op n k=false:=by
  unfold rgL
  rw [enB_no op n h0 h1 h2 h3 h4 h5 h6 h7 h8 h9 h10 h11 h12 h13 h14 h15 h16 h17 h18 h19 h20 h21 h22 h23 h24 h25 h26];rfl
set_option maxHeartbeats 400000 in
theorem ri_none (q:FEqM)(a m d:Option Addr×Nat×Nat)(v:FlatV)(f:FlatM)(B:Nat)(w:World)(hm:a.2.1≤maxLen)(hF:FlatIs w B v f)(hB:B≤w.heap.size)(h0:¬ q.op=bs [108,105,116])(h1:¬ q.op=bs [105,110])(h2:¬ q.op=bs [109,101,109])(h3:¬ q.op=bs [99,111,110,116])(h4:¬ q.op=bs [102,108,97,103])(h5:¬ q.op=bs [99,111,112,121])(h6:¬ q.op=bs [110,101,103])(h7:¬ q.op=bs [110,111,116])(h8:¬ q.op=bs [102,108,111,111,114])(h9:¬ q.op=bs [114,97,116])(h10:¬ q.op=bs [103,97,110,100])(h11:¬ q.op=bs [109,114,103])(h12:¬ q.op=bs [43])(h13:¬ q.op=bs [45])(h14:¬ q.op=bs [42])(h15:¬ q.op=bs [47])(h16:¬ q.op=bs [100,105,118])(h17:¬ q.op=bs [109,111,100])(h18:¬ q.op=bs [60])(h19:¬ q.op=bs [60,61])(h20:¬ q.op=bs [62])(h21:¬ q.op=bs [62,61])(h22:¬ q.op=bs [61,61])(h23:¬ q.op=bs [33,61])(h24:¬ q.op=bs [97,110,100])(h25:¬ q.op=bs [111,114])(h26:¬ q.op=bs [115,101,108]):Calls Tryz.prog 115 #[flatV v,feqV q a m d] w fun e w'=>e=.returned (.bool (rgL f q.op a.2.1 q.k))∧Below w.heap.size w w':=by
  obtain⟨var,op,args,k,lit,guard⟩:=q
  obtain⟨A,n,c⟩:=a
  unfold maxLen at hm
  simp only at hm h0 h1 h2 h3 h4 h5 h6 h7 h8 h9 h10 h11 h12 h13 h14 h15 h16 h17 h18 h19 h20 h21 h22 h23 h24 h25 h26
  have HE:=Lib.hid (rg_no f op n k h0 h1 h2 h3 h4 h5 h6 h7 h8 h9 h10 h11 h12 h13 h14 h15 h16 h17 h18 h19 h20 h21 h22 h23 h24 h25 h26)
  clear hF hB
  have g0:=str_no h0;clear h0
  have g1:=str_no h1;clear h1
  have g2:=str_no h2;clear h2
  have g3:=str_no h3;clear h3
  have g4:=str_no h4;clear h4
  have g5:=str_no h5;clear h5
  have g6:=str_no h6;clear h6
  have g7:=str_no h7;clear h7
  have g8:=str_no h8;clear h8
  have g9:=str_no h9;clear h9
  have g10:=str_no h10;clear h10
  have g11:=str_no h11;clear h11
  have g12:=str_no h12;clear h12
  have g13:=str_no h13;clear h13
  have g14:=str_no h14;clear h14
  have g15:=str_no h15;clear h15
  have g16:=str_no h16;clear h16
  have g17:=str_no h17;clear h17
  have g18:=str_no h18;clear h18
  have g19:=str_no h19;clear h19
  have g20:=str_no h20;clear h20
  have g21:=str_no h21;clear h21
  have g22:=str_no h22;clear h22
  have g23:=str_no h23;clear h23
  have g24:=str_no h24;clear h24
  have g25:=str_no h25;clear h25
  have g26:=str_no h26;clear h26
  unfold feqV flatV sl3
  go_enter Tryz.func115,Tryz.ntmps115
  go_wp2
  go_ret
  exact⟨by rw [HE.out];rfl,((Below.refl _ _).alloc (Nat.le_refl _) _).alloc (by simp) _⟩
end Go.Proofs.YtpnlbjnbgemocaaGreat
