import Derived.Test.YtpnlbjnbgemocaaGreatZFlU
namespace Go.Proofs.YtpnlbjnbgemocaaGreat
set_option linter.unusedVariables false
set_option linter.unusedSimpArgs false
set_option maxRecDepth 100000
open Go.RowKit
theorem within_q (a:Option Addr)(n c B:Nat)(xs:List Int)(m:Nat)(w:World)(k:Nat)(hr:IRow w B a n c xs) :
    Calls Tryz.prog 114 #[.slice a n c,.int .i64 (m:Int)] (w.drewN k) fun e w'=>e=.returned (.bool (wiB xs m))∧w'=w.drewN k:=
  (within_at a n c B xs m _ (w.drewN k) (show IRow (w.drewN k) B a n c xs from hr) rfl).mono fun _ _ ⟨h1,h2⟩=>⟨h1,h2.symm⟩
theorem plB_false {i:Int}{n:Nat}(h:i<0∨(n:Int)≤i):plB i n=false:=by unfold plB;simp;omega
theorem rg_1 (f:FlatM)(n:Nat)(k:Int):rgL f (bs [105,110]) n k=((n==0)&&plB k f.ins.length&&true):=rfl
set_option maxHeartbeats 1000000 in
theorem ri_1 (q:FEqM)(a m d:Option Addr×Nat×Nat)(v:FlatV)(f:FlatM)(B:Nat)(w:World)(hm:a.2.1≤maxLen)(hF:FlatIs w B v f)(hB:B≤w.heap.size)(h:q.op=bs [105,110]):Calls Tryz.prog 115 #[flatV v,feqV q a m d] w fun e w'=>e=.returned (.bool (rgL f q.op a.2.1 q.k))∧Below w.heap.size w w':=by
  obtain⟨var,op,args,k,lit,guard⟩:=q
  obtain⟨A,n,c⟩:=a
  unfold maxLen at hm
  simp only at hm h
  have HE:=Lib.hid (rg_1 f n k)
  have HN:=Lib.hid hF.names.1
  have HI:=Lib.hid hF.ins.1
  have HM:=Lib.hid hF.mems.1
  have HC:=Lib.hid hF.conts.1
  have HX:=Lib.hid hF.cross.1
  have hmI:=hF.ins.len_le
  have hmM:=hF.mems.len_le
  have hmC:=hF.conts.len_le
  have hmX:=hF.cross.len_le
  have hmN:=hF.names.len_le
  have HBB:=Lib.hid hB
  have HF:=Lib.hid hF;clear hF hB
  unfold maxLen at hmI hmM hmC hmX hmN
  subst h
  unfold bs at HE ⊢
  by_cases hn:n=0
  rotate_left
  · have HV:Hid (rgL f ⟨#[105,110]⟩ n k=false):=Lib.hid (by rw [HE.out,beq_eq_false_iff_ne.2 hn];rfl)
    have g1:((n:Int)==0)=false:=by rw [beq_eq_false_iff_ne];omega
    unfold feqV flatV sl3
    go_enter Tryz.func115,Tryz.ntmps115
    go_wp2
    go_ret
    exact⟨by rw [HV.out];rfl,by first | exact((Below.refl _ _).alloc (Nat.le_refl _) _).alloc (by simp) _ | exact below_drewN (((Below.refl _ _).alloc (Nat.le_refl _) _).alloc (by simp) _)⟩
  subst hn
  by_cases hk0:0≤k
  rotate_left
  · have HV:Hid (rgL f ⟨#[105,110]⟩ 0 k=false):=Lib.hid (by rw [HE.out,plB_false (.inl (by omega))];simp)
    have hk:k<0:=by omega
    have g2:decide (0≤k)=false:=by rw [decide_eq_false_iff_not];omega
    clear hk0
    unfold feqV flatV sl3
    go_enter Tryz.func115,Tryz.ntmps115
    go_wp2
    go_ret
    exact⟨by rw [HV.out];rfl,by first | exact((Below.refl _ _).alloc (Nat.le_refl _) _).alloc (by simp) _ | exact below_drewN (((Below.refl _ _).alloc (Nat.le_refl _) _).alloc (by simp) _)⟩
  by_cases hk1:k<(v.ins.2.1:Int)
  rotate_left
  · have HV:Hid (rgL f ⟨#[105,110]⟩ 0 k=false):=Lib.hid (by rw [HE.out,plB_false (.inr (by rw [HI.out];omega))];simp)
    have hk:(v.ins.2.1:Int)≤k:=by omega
    have g3:decide (k<(v.ins.2.1:Int))=false:=by rw [decide_eq_false_iff_not];omega
    clear hk1
    unfold feqV flatV sl3
    go_enter Tryz.func115,Tryz.ntmps115
    go_wp2
    go_ret
    exact⟨by rw [HV.out];rfl,by first | exact((Below.refl _ _).alloc (Nat.le_refl _) _).alloc (by simp) _ | exact below_drewN (((Below.refl _ _).alloc (Nat.le_refl _) _).alloc (by simp) _)⟩
  have g2:decide (0≤k)=true:=decide_eq_true hk0
  have g3:decide (k<(v.ins.2.1:Int))=true:=decide_eq_true hk1
  have HP:Hid (plB k f.ins.length=true):=Lib.hid (by unfold plB;rw [HI.out];simp;omega)
  have HV:Hid (rgL f ⟨#[105,110]⟩ 0 k=true):=Lib.hid (by rw [HE.out,HP.out];rfl)
  unfold feqV flatV sl3
  go_enter Tryz.func115,Tryz.ntmps115
  go_wp2
  go_ret
  exact⟨by rw [HV.out];rfl,((Below.refl _ _).alloc (Nat.le_refl _) _).alloc (by simp) _⟩
theorem rg_4 (f:FlatM)(n:Nat)(k:Int):rgL f (bs [102,108,97,103]) n k=((n==0)&&plB k f.cross.length&&true):=rfl
set_option maxHeartbeats 1000000 in
theorem ri_4 (q:FEqM)(a m d:Option Addr×Nat×Nat)(v:FlatV)(f:FlatM)(B:Nat)(w:World)(hm:a.2.1≤maxLen)(hF:FlatIs w B v f)(hB:B≤w.heap.size)(h:q.op=bs [102,108,97,103]):Calls Tryz.prog 115 #[flatV v,feqV q a m d] w fun e w'=>e=.returned (.bool (rgL f q.op a.2.1 q.k))∧Below w.heap.size w w':=by
  obtain⟨var,op,args,k,lit,guard⟩:=q
  obtain⟨A,n,c⟩:=a
  unfold maxLen at hm
  simp only at hm h
  have HE:=Lib.hid (rg_4 f n k)
  have HN:=Lib.hid hF.names.1
  have HI:=Lib.hid hF.ins.1
  have HM:=Lib.hid hF.mems.1
  have HC:=Lib.hid hF.conts.1
  have HX:=Lib.hid hF.cross.1
  have hmI:=hF.ins.len_le
  have hmM:=hF.mems.len_le
  have hmC:=hF.conts.len_le
  have hmX:=hF.cross.len_le
  have hmN:=hF.names.len_le
  have HBB:=Lib.hid hB
  have HF:=Lib.hid hF;clear hF hB
  unfold maxLen at hmI hmM hmC hmX hmN
  subst h
  unfold bs at HE ⊢
  by_cases hn:n=0
  rotate_left
  · have HV:Hid (rgL f ⟨#[102,108,97,103]⟩ n k=false):=Lib.hid (by rw [HE.out,beq_eq_false_iff_ne.2 hn];rfl)
    have g1:((n:Int)==0)=false:=by rw [beq_eq_false_iff_ne];omega
    unfold feqV flatV sl3
    go_enter Tryz.func115,Tryz.ntmps115
    go_wp2
    go_ret
    exact⟨by rw [HV.out];rfl,by first | exact((Below.refl _ _).alloc (Nat.le_refl _) _).alloc (by simp) _ | exact below_drewN (((Below.refl _ _).alloc (Nat.le_refl _) _).alloc (by simp) _)⟩
  subst hn
  by_cases hk0:0≤k
  rotate_left
  · have HV:Hid (rgL f ⟨#[102,108,97,103]⟩ 0 k=false):=Lib.hid (by rw [HE.out,plB_false (.inl (by omega))];simp)
    have hk:k<0:=by omega
    have g2:decide (0≤k)=false:=by rw [decide_eq_false_iff_not];omega
    clear hk0
    unfold feqV flatV sl3
    go_enter Tryz.func115,Tryz.ntmps115
    go_wp2
    go_ret
    exact⟨by rw [HV.out];rfl,by first | exact((Below.refl _ _).alloc (Nat.le_refl _) _).alloc (by simp) _ | exact below_drewN (((Below.refl _ _).alloc (Nat.le_refl _) _).alloc (by simp) _)⟩
  by_cases hk1:k<(v.cross.2.1:Int)
  rotate_left
  · have HV:Hid (rgL f ⟨#[102,108,97,103]⟩ 0 k=false):=Lib.hid (by rw [HE.out,plB_false (.inr (by rw [HX.out];omega))];simp)
    have hk:(v.cross.2.1:Int)≤k:=by omega
    have g3:decide (k<(v.cross.2.1:Int))=false:=by rw [decide_eq_false_iff_not];omega
    clear hk1
    unfold feqV flatV sl3
    go_enter Tryz.func115,Tryz.ntmps115
    go_wp2
    go_ret
    exact⟨by rw [HV.out];rfl,by first | exact((Below.refl _ _).alloc (Nat.le_refl _) _).alloc (by simp) _ | exact below_drewN (((Below.refl _ _).alloc (Nat.le_refl _) _).alloc (by simp) _)⟩
  have g2:decide (0≤k)=true:=decide_eq_true hk0
  have g3:decide (k<(v.cross.2.1:Int))=true:=decide_eq_true hk1
  have HP:Hid (plB k f.cross.length=true):=Lib.hid (by unfold plB;rw [HX.out];simp;omega)
  have HV:Hid (rgL f ⟨#[102,108,97,103]⟩ 0 k=true):=Lib.hid (by rw [HE.out,HP.out];rfl)
  unfold feqV flatV sl3
  go_enter Tryz.func115,Tryz.ntmps115
  go_wp2
  go_ret
  exact⟨by rw [HV.out];rfl,((Below.refl _ _).alloc (Nat.le_refl _) _).alloc (by simp) _⟩
theorem rg_2 (f:FlatM)(n:Nat)(k:Int):rgL f (bs [109,101,109]) n k=((n==0)&&plB k f.mems.length&&wiB ((f.mems[k.toNat]?.map MemM.resets).getD []) f.names.length):=rfl
set_option maxHeartbeats 1000000 in
theorem ri_2 (q:FEqM)(a m d:Option Addr×Nat×Nat)(v:FlatV)(f:FlatM)(B:Nat)(w:World)(hm:a.2.1≤maxLen)(hF:FlatIs w B v f)(hB:B≤w.heap.size)(h:q.op=bs [109,101,109]):Calls Tryz.prog 115 #[flatV v,feqV q a m d] w fun e w'=>e=.returned (.bool (rgL f q.op a.2.1 q.k))∧Below w.heap.size w w':=by
  obtain⟨var,op,args,k,lit,guard⟩:=q
  obtain⟨A,n,c⟩:=a
  unfold maxLen at hm
  simp only at hm h
  have HE:=Lib.hid (rg_2 f n k)
  have HN:=Lib.hid hF.names.1
  have HI:=Lib.hid hF.ins.1
  have HM:=Lib.hid hF.mems.1
  have HC:=Lib.hid hF.conts.1
  have HX:=Lib.hid hF.cross.1
  have hmI:=hF.ins.len_le
  have hmM:=hF.mems.len_le
  have hmC:=hF.conts.len_le
  have hmX:=hF.cross.len_le
  have hmN:=hF.names.len_le
  have HBB:=Lib.hid hB
  have HF:=Lib.hid hF;clear hF hB
  unfold maxLen at hmI hmM hmC hmX hmN
  subst h
  unfold bs at HE ⊢
  by_cases hn:n=0
  rotate_left
  · have HV:Hid (rgL f ⟨#[109,101,109]⟩ n k=false):=Lib.hid (by rw [HE.out,beq_eq_false_iff_ne.2 hn];rfl)
    have g1:((n:Int)==0)=false:=by rw [beq_eq_false_iff_ne];omega
    unfold feqV flatV sl3
    go_enter Tryz.func115,Tryz.ntmps115
    go_wp2
    go_quiet (fail)
    go_wp2
    go_ret
    exact⟨by rw [HV.out];rfl,by first | exact((Below.refl _ _).alloc (Nat.le_refl _) _).alloc (by simp) _ | exact below_drewN (((Below.refl _ _).alloc (Nat.le_refl _) _).alloc (by simp) _)⟩
  subst hn
  by_cases hk0:0≤k
  rotate_left
  · have HV:Hid (rgL f ⟨#[109,101,109]⟩ 0 k=false):=Lib.hid (by rw [HE.out,plB_false (.inl (by omega))];simp)
    have hk:k<0:=by omega
    have g2:decide (0≤k)=false:=by rw [decide_eq_false_iff_not];omega
    clear hk0
    unfold feqV flatV sl3
    go_enter Tryz.func115,Tryz.ntmps115
    go_wp2
    go_quiet (fail)
    go_wp2
    go_ret
    exact⟨by rw [HV.out];rfl,by first | exact((Below.refl _ _).alloc (Nat.le_refl _) _).alloc (by simp) _ | exact below_drewN (((Below.refl _ _).alloc (Nat.le_refl _) _).alloc (by simp) _)⟩
  by_cases hk1:k<(v.mems.2.1:Int)
  rotate_left
  · have HV:Hid (rgL f ⟨#[109,101,109]⟩ 0 k=false):=Lib.hid (by rw [HE.out,plB_false (.inr (by rw [HM.out];omega))];simp)
    have hk:(v.mems.2.1:Int)≤k:=by omega
    have g3:decide (k<(v.mems.2.1:Int))=false:=by rw [decide_eq_false_iff_not];omega
    clear hk1
    unfold feqV flatV sl3
    go_enter Tryz.func115,Tryz.ntmps115
    go_wp2
    go_quiet (fail)
    go_wp2
    go_ret
    exact⟨by rw [HV.out];rfl,by first | exact((Below.refl _ _).alloc (Nat.le_refl _) _).alloc (by simp) _ | exact below_drewN (((Below.refl _ _).alloc (Nat.le_refl _) _).alloc (by simp) _)⟩
  have g2:decide (0≤k)=true:=decide_eq_true hk0
  have g3:decide (k<(v.mems.2.1:Int))=true:=decide_eq_true hk1
  have HP:Hid (plB k f.mems.length=true):=Lib.hid (by unfold plB;rw [HM.out];simp;omega)
  obtain⟨j,rfl⟩:∃ j:Nat,k=(j:Int):=⟨k.toNat,by omega⟩
  have hj:j<v.mems.2.1:=by omega
  have HBW:=Lib.hid (show Below w.heap.size w ((w.alloc (.cells (fvs v) 83)).alloc (.cells (qvs ⟨var,⟨#[109,101,109]⟩,args,(j:Int),lit,guard⟩ (A,0,c) m d) 127)) from((Below.refl _ _).alloc (Nat.le_refl _) _).alloc (by simp) _)
  obtain⟨x,hx⟩:=HF.out.mems.ex hj
  obtain⟨b,off,ha,hlb,hat⟩:=HF.out.mems.at_ hx
  obtain⟨A3,L3,C3,p3,q3⟩:=hat.resets
  have hlen3:=q3.len_le
  have HR3:=Lib.hid (q3.below (HBW.out.mono HBB.out))
  have hbw:b<w.heap.size:=Nat.lt_of_lt_of_le hlb HBB.out
  have HV:Hid (rgL f ⟨#[109,101,109]⟩ 0 (j:Int)=wiB x.resets v.names.2.1):=Lib.hid (by rw [HE.out,HP.out,HN.out];simp [hx])
  clear hx hat q3
  unfold fvs qvs at HR3
  rw [ha] at HR3
  unfold feqV flatV sl3
  rw [ha]
  clear ha HBW
  go_enter Tryz.func115,Tryz.ntmps115
  go_wp2
  go_quiet ((go_at_call 114;exact Calls.quiet_of_same (within_q A3 L3 C3 B x.resets v.names.2.1 _ _ HR3.out)))
  go_wp2
  go_ret
  exact⟨by rw [HV.out];rfl,by first | exact((Below.refl _ _).alloc (Nat.le_refl _) _).alloc (by simp) _ | exact below_drewN (((Below.refl _ _).alloc (Nat.le_refl _) _).alloc (by simp) _)⟩
theorem rg_3 (f:FlatM)(n:Nat)(k:Int):rgL f (bs [99,111,110,116]) n k=((n==0)&&plB k f.conts.length&&wiB ((f.conts[k.toNat]?.map ContM.resets).getD []) f.names.length):=rfl
set_option maxHeartbeats 1000000 in
theorem ri_3 (q:FEqM)(a m d:Option Addr×Nat×Nat)(v:FlatV)(f:FlatM)(B:Nat)(w:World)(hm:a.2.1≤maxLen)(hF:FlatIs w B v f)(hB:B≤w.heap.size)(h:q.op=bs [99,111,110,116]):Calls Tryz.prog 115 #[flatV v,feqV q a m d] w fun e w'=>e=.returned (.bool (rgL f q.op a.2.1 q.k))∧Below w.heap.size w w':=by
  obtain⟨var,op,args,k,lit,guard⟩:=q
  obtain⟨A,n,c⟩:=a
  unfold maxLen at hm
  simp only at hm h
  have HE:=Lib.hid (rg_3 f n k)
  have HN:=Lib.hid hF.names.1
  have HI:=Lib.hid hF.ins.1
  have HM:=Lib.hid hF.mems.1
  have HC:=Lib.hid hF.conts.1
  have HX:=Lib.hid hF.cross.1
  have hmI:=hF.ins.len_le
  have hmM:=hF.mems.len_le
  have hmC:=hF.conts.len_le
  have hmX:=hF.cross.len_le
  have hmN:=hF.names.len_le
  have HBB:=Lib.hid hB
  have HF:=Lib.hid hF;clear hF hB
  unfold maxLen at hmI hmM hmC hmX hmN
  subst h
  unfold bs at HE ⊢
  by_cases hn:n=0
  rotate_left
  · have HV:Hid (rgL f ⟨#[99,111,110,116]⟩ n k=false):=Lib.hid (by rw [HE.out,beq_eq_false_iff_ne.2 hn];rfl)
    have g1:((n:Int)==0)=false:=by rw [beq_eq_false_iff_ne];omega
    unfold feqV flatV sl3
    go_enter Tryz.func115,Tryz.ntmps115
    go_wp2
    go_quiet (fail)
    go_wp2
    go_ret
    exact⟨by rw [HV.out];rfl,by first | exact((Below.refl _ _).alloc (Nat.le_refl _) _).alloc (by simp) _ | exact below_drewN (((Below.refl _ _).alloc (Nat.le_refl _) _).alloc (by simp) _)⟩
  subst hn
  by_cases hk0:0≤k
  rotate_left
  · have HV:Hid (rgL f ⟨#[99,111,110,116]⟩ 0 k=false):=Lib.hid (by rw [HE.out,plB_false (.inl (by omega))];simp)
    have hk:k<0:=by omega
    have g2:decide (0≤k)=false:=by rw [decide_eq_false_iff_not];omega
    clear hk0
    unfold feqV flatV sl3
    go_enter Tryz.func115,Tryz.ntmps115
    go_wp2
    go_quiet (fail)
    go_wp2
    go_ret
    exact⟨by rw [HV.out];rfl,by first | exact((Below.refl _ _).alloc (Nat.le_refl _) _).alloc (by simp) _ | exact below_drewN (((Below.refl _ _).alloc (Nat.le_refl _) _).alloc (by simp) _)⟩
  by_cases hk1:k<(v.conts.2.1:Int)
  rotate_left
  · have HV:Hid (rgL f ⟨#[99,111,110,116]⟩ 0 k=false):=Lib.hid (by rw [HE.out,plB_false (.inr (by rw [HC.out];omega))];simp)
    have hk:(v.conts.2.1:Int)≤k:=by omega
    have g3:decide (k<(v.conts.2.1:Int))=false:=by rw [decide_eq_false_iff_not];omega
    clear hk1
    unfold feqV flatV sl3
    go_enter Tryz.func115,Tryz.ntmps115
    go_wp2
    go_quiet (fail)
    go_wp2
    go_ret
    exact⟨by rw [HV.out];rfl,by first | exact((Below.refl _ _).alloc (Nat.le_refl _) _).alloc (by simp) _ | exact below_drewN (((Below.refl _ _).alloc (Nat.le_refl _) _).alloc (by simp) _)⟩
  have g2:decide (0≤k)=true:=decide_eq_true hk0
  have g3:decide (k<(v.conts.2.1:Int))=true:=decide_eq_true hk1
  have HP:Hid (plB k f.conts.length=true):=Lib.hid (by unfold plB;rw [HC.out];simp;omega)
  obtain⟨j,rfl⟩:∃ j:Nat,k=(j:Int):=⟨k.toNat,by omega⟩
  have hj:j<v.conts.2.1:=by omega
  have HBW:=Lib.hid (show Below w.heap.size w ((w.alloc (.cells (fvs v) 83)).alloc (.cells (qvs ⟨var,⟨#[99,111,110,116]⟩,args,(j:Int),lit,guard⟩ (A,0,c) m d) 127)) from((Below.refl _ _).alloc (Nat.le_refl _) _).alloc (by simp) _)
  obtain⟨x,hx⟩:=HF.out.conts.ex hj
  obtain⟨b,off,ha,hlb,hat⟩:=HF.out.conts.at_ hx
  obtain⟨A3,L3,C3,p3,q3⟩:=hat.resets
  have hlen3:=q3.len_le
  have HR3:=Lib.hid (q3.below (HBW.out.mono HBB.out))
  have hbw:b<w.heap.size:=Nat.lt_of_lt_of_le hlb HBB.out
  have HV:Hid (rgL f ⟨#[99,111,110,116]⟩ 0 (j:Int)=wiB x.resets v.names.2.1):=Lib.hid (by rw [HE.out,HP.out,HN.out];simp [hx])
  clear hx hat q3
  unfold fvs qvs at HR3
  rw [ha] at HR3
  unfold feqV flatV sl3
  rw [ha]
  clear ha HBW
  go_enter Tryz.func115,Tryz.ntmps115
  go_wp2
  go_quiet ((go_at_call 114;exact Calls.quiet_of_same (within_q A3 L3 C3 B x.resets v.names.2.1 _ _ HR3.out)))
  go_wp2
  go_ret
  exact⟨by rw [HV.out];rfl,by first | exact((Below.refl _ _).alloc (Nat.le_refl _) _).alloc (by simp) _ | exact below_drewN (((Below.refl _ _).alloc (Nat.le_refl _) _).alloc (by simp) _)⟩
theorem right_t (q:FEqM)(a m d:Option Addr×Nat×Nat)(v:FlatV)(f:FlatM)(B:Nat)(w:World)(hm:a.2.1≤maxLen)(hF:FlatIs w B v f)(hB:B≤w.heap.size):Calls Tryz.prog 115 #[flatV v,feqV q a m d] w fun e w'=>e=.returned (.bool (rgL f q.op a.2.1 q.k))∧Below w.heap.size w w':=by
  by_cases h0:q.op=bs [108,105,116]
  · exact ri_0 q a m d v f B w hm hF hB h0
  by_cases h1:q.op=bs [105,110]
  · exact ri_1 q a m d v f B w hm hF hB h1
  by_cases h2:q.op=bs [109,101,109]
  · exact ri_2 q a m d v f B w hm hF hB h2
  by_cases h3:q.op=bs [99,111,110,116]
  · exact ri_3 q a m d v f B w hm hF hB h3
  by_cases h4:q.op=bs [102,108,97,103]
  · exact ri_4 q a m d v f B w hm hF hB h4
  by_cases h5:q.op=bs [99,111,112,121]
  · exact ri_5 q a m d v f B w hm hF hB h5
  by_cases h6:q.op=bs [110,101,103]
  · exact ri_6 q a m d v f B w hm hF hB h6
  by_cases h7:q.op=bs [110,111,116]
  · exact ri_7 q a m d v f B w hm hF hB h7
  by_cases h8:q.op=bs [102,108,111,111,114]
  · exact ri_8 q a m d v f B w hm hF hB h8
  by_cases h9:q.op=bs [114,97,116]
  · exact ri_9 q a m d v f B w hm hF hB h9
  by_cases h10:q.op=bs [103,97,110,100]
  · exact ri_10 q a m d v f B w hm hF hB h10
  by_cases h11:q.op=bs [109,114,103]
  · exact ri_11 q a m d v f B w hm hF hB h11
  by_cases h12:q.op=bs [43]
  · exact ri_12 q a m d v f B w hm hF hB h12
  by_cases h13:q.op=bs [45]
  · exact ri_13 q a m d v f B w hm hF hB h13
  by_cases h14:q.op=bs [42]
  · exact ri_14 q a m d v f B w hm hF hB h14
  by_cases h15:q.op=bs [47]
  · exact ri_15 q a m d v f B w hm hF hB h15
  by_cases h16:q.op=bs [100,105,118]
  · exact ri_16 q a m d v f B w hm hF hB h16
  by_cases h17:q.op=bs [109,111,100]
  · exact ri_17 q a m d v f B w hm hF hB h17
  by_cases h18:q.op=bs [60]
  · exact ri_18 q a m d v f B w hm hF hB h18
  by_cases h19:q.op=bs [60,61]
  · exact ri_19 q a m d v f B w hm hF hB h19
  by_cases h20:q.op=bs [62]
  · exact ri_20 q a m d v f B w hm hF hB h20
  by_cases h21:q.op=bs [62,61]
  · exact ri_21 q a m d v f B w hm hF hB h21
  by_cases h22:q.op=bs [61,61]
  · exact ri_22 q a m d v f B w hm hF hB h22
  by_cases h23:q.op=bs [33,61]
  · exact ri_23 q a m d v f B w hm hF hB h23
  by_cases h24:q.op=bs [97,110,100]
  · exact ri_24 q a m d v f B w hm hF hB h24
  by_cases h25:q.op=bs [111,114]
  · exact ri_25 q a m d v f B w hm hF hB h25
  by_cases h26:q.op=bs [115,101,108]
  · exact ri_26 q a m d v f B w hm hF hB h26
  exact ri_none q a m d v f B w hm hF hB h0 h1 h2 h3 h4 h5 h6 h7 h8 h9 h10 h11 h12 h13 h14 h15 h16 h17 h18 h19 h20 h21 h22 h23 h24 h25 h26
theorem right_b (q:FEqM)(a m d:Option Addr×Nat×Nat)(v:FlatV)(f:FlatM)(B:Nat)(b:Bool)(w:World)(hm:a.2.1≤maxLen)(hF:FlatIs w B v f)(hB:B≤w.heap.size)(h:rgL f q.op a.2.1 q.k=b) :
    Calls Tryz.prog 115 #[flatV v,feqV q a m d] w fun e w'=>e=.returned (.bool b)∧Below w.heap.size w w':=by
  subst h;exact right_t q a m d v f B w hm hF hB
end Go.Proofs.YtpnlbjnbgemocaaGreat
