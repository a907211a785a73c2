import Derived.Test.YtpnlbjnbgemocaaGreatZFlV
namespace Go.Proofs.YtpnlbjnbgemocaaGreat
set_option linter.unusedVariables false
set_option linter.unusedSimpArgs false
set_option maxRecDepth 100000
open Go.RowKit
theorem within2 (a:Option Addr)(n c B:Nat)(xs:List Int)(b:Bool)(w:World)(hr:IRow w B a n c xs)(h:wiB xs 2=b) :
    Calls Tryz.prog 114 #[.slice a n c,.int .i64 2] w fun e w'=>e=.returned (.bool b)∧w=w':=within_at a n c B xs 2 b w hr h
def asB (f:FlatM)(l:List COpM):Bool:=asksB f 0 l&&decide (0<l.length)
theorem asB_no {f:FlatM}{l:List COpM}(h:asksB f 0 l=false):asB f l=false:=by unfold asB;rw [h];rfl
set_option maxHeartbeats 8000000 in
theorem asks_t (l:List COpM)(a:Option Addr)(n c:Nat)(v:FlatV)(f:FlatM)(B:Nat)(w:World)(hF:FlatIs w B v f)(hr:SRow 2 COpAt w B a n c l)(hB:B≤w.heap.size) :
    Calls Tryz.prog 116 #[flatV v,.slice a n c,.int .i64 (v.names.2.1:Int)] w fun e w'=>e=.returned (.bool (asB f l))∧Below w.heap.size w w':=by
  have hm:=hr.len_le
  have hmC:=hF.conts.len_le
  have HN:=Lib.hid hF.names.1
  have HC:=Lib.hid hF.conts.1
  have HL:=Lib.hid hr.1
  have HB0:=Lib.hid (show Below w.heap.size w (w.alloc (.cells (fvs v) 83)) from(Below.refl _ _).alloc (Nat.le_refl _) _)
  have HK:=Lib.hid (Blk.new w 83 (fvs v))
  have HR:=Lib.hid (show SRow 2 COpAt (w.alloc (.cells (fvs v) 83)) B a n c l from hr.keep fun _ _ _ q1 q2=>q2.keep q1 fun _ hp=>(HB0.out.mono hB).cell hp)
  have HBB:=Lib.hid hB
  clear hF hr hB
  unfold maxLen at hm hmC
  unfold flatV sl3
  go_enter Tryz.func116,Tryz.ntmps116
  go_wp2
  go_loop [7] (fun t=>∃ k:Nat,k≤n∧t=.int .i64 k∧Hid (asksB f 0 (l.take k)=true)) (fun t=>n-(intOf t).toNat)
  case atStart=>exact⟨0,Nat.zero_le _,rfl,Lib.hid rfl⟩
  case round=>
    obtain⟨k,hk,rfl,hz⟩:=hrel
    by_cases hlt:k<n
    · obtain⟨W,hW⟩:∃ W,W=w.alloc (.cells (fvs v) 83):=⟨_,rfl⟩
      have hbl0:W.heap.size=w.heap.size+1:=by rw [hW];simp
      rw [←hW] at HK HR HB0
      unfold fvs at hW
      rw [←hW]
      have HB1:Hid (Below w.heap.size w W):=HB0
      have HW:=Lib.hid hW;clear hW
      obtain⟨⟨op,args⟩,hx⟩:=HR.out.ex hlt
      obtain⟨b,off,ha,hlb,hat⟩:=HR.out.at_ hx
      obtain⟨⟨A,n',c'⟩,hrow,e0,e1⟩:=hat.cells
      obtain⟨f0,f1,f2,f3,f4,f5,f6,f7⟩:=HK.out.flat
      have hm':=hrow.len_le
      unfold maxLen at hm'
      have HRW:=Lib.hid hrow
      have HRL:=Lib.hid hrow.1
      have hcc:=hrow.2.1
      have hcx:c'≤9223372036854775807:=by have:=hrow.2.2.1;unfold maxLen at this;omega
      have HX:=Lib.hid hx
      have HAK:Hid (askB f k ⟨op,args⟩=askL op args k v.names.2.1 v.conts.2.1):=Lib.hid (by unfold askB;rw [HN.out,HC.out])
      rw [ha]
      simp only at e0 e1 hm' hcc hcx
      clear hat hrow hx ha HB0 hbl0
      by_cases h0:op=bs [118,97,114]
      · subst h0
        unfold bs at e0
        have HE:=Lib.hid (ask_0 args k v.names.2.1 v.conts.2.1)
        by_cases hn:n'=1
        rotate_left
        · have g1:((n':Int)==1)=false:=by rw [beq_eq_false_iff_ne];omega
          have HV:Hid (askL (bs [118,97,114]) args k v.names.2.1 v.conts.2.1=false):=Lib.hid (by rw [HE.out,HRL.out,beq_eq_false_iff_ne.2 hn];rfl)
          clear hn
          go_wp2
          go_ret
          exact⟨ret_bool' (asB_no (asksB_no HX.out (by rw [HAK.out,HV.out]))).symm,HB1.out⟩
        subst hn
        cases hw:wiB args v.names.2.1 with
        | false=>
          have HWI:=Lib.hid hw;clear hw
          have HV:Hid (askL (bs [118,97,114]) args k v.names.2.1 v.conts.2.1=false):=Lib.hid (by rw [HE.out,HRL.out,HWI.out];rfl)
          go_wp2_with (go_at_call 114;refine(within_at A 1 c' B args v.names.2.1 false _ HRW.out HWI.out).mono ?_;rintro e w' ⟨rfl,rfl⟩)
          go_ret
          exact⟨ret_bool' (asB_no (asksB_no HX.out (by rw [HAK.out,HV.out]))).symm,HB1.out⟩
        | true=>
          have HWI:=Lib.hid hw;clear hw
          have HV:Hid (askL (bs [118,97,114]) args k v.names.2.1 v.conts.2.1=true):=Lib.hid (by rw [HE.out,HRL.out,HWI.out];rfl)
          go_wp2_with (go_at_call 114;refine(within_at A 1 c' B args v.names.2.1 true _ HRW.out HWI.out).mono ?_;rintro e w' ⟨rfl,rfl⟩)
          go_round
          case rel=>exact⟨k+1,by omega,by go_num,Lib.hid (by rw [asksB_succ HX.out,hz.out,HAK.out,HV.out];rfl)⟩
          case measure=>simp [intOf];omega
      by_cases h1:op=bs [99,111,110,116]
      · subst h1
        unfold bs at e0
        have HE:=Lib.hid (ask_1 args k v.names.2.1 v.conts.2.1)
        by_cases hn:n'=1
        rotate_left
        · have g1:((n':Int)==1)=false:=by rw [beq_eq_false_iff_ne];omega
          have HV:Hid (askL (bs [99,111,110,116]) args k v.names.2.1 v.conts.2.1=false):=Lib.hid (by rw [HE.out,HRL.out,beq_eq_false_iff_ne.2 hn];rfl)
          clear hn
          go_wp2
          go_ret
          exact⟨ret_bool' (asB_no (asksB_no HX.out (by rw [HAK.out,HV.out]))).symm,HB1.out⟩
        subst hn
        cases hw:wiB args v.conts.2.1 with
        | false=>
          have HWI:=Lib.hid hw;clear hw
          have HV:Hid (askL (bs [99,111,110,116]) args k v.names.2.1 v.conts.2.1=false):=Lib.hid (by rw [HE.out,HRL.out,HWI.out];rfl)
          go_wp2_with (go_at_call 114;refine(within_at A 1 c' B args v.conts.2.1 false _ HRW.out HWI.out).mono ?_;rintro e w' ⟨rfl,rfl⟩)
          go_ret
          exact⟨ret_bool' (asB_no (asksB_no HX.out (by rw [HAK.out,HV.out]))).symm,HB1.out⟩
        | true=>
          have HWI:=Lib.hid hw;clear hw
          have HV:Hid (askL (bs [99,111,110,116]) args k v.names.2.1 v.conts.2.1=true):=Lib.hid (by rw [HE.out,HRL.out,HWI.out];rfl)
          go_wp2_with (go_at_call 114;refine(within_at A 1 c' B args v.conts.2.1 true _ HRW.out HWI.out).mono ?_;rintro e w' ⟨rfl,rfl⟩)
          go_round
          case rel=>exact⟨k+1,by omega,by go_num,Lib.hid (by rw [asksB_succ HX.out,hz.out,HAK.out,HV.out];rfl)⟩
          case measure=>simp [intOf];omega
      by_cases h2:op=bs [110,101,103]
      · subst h2
        unfold bs at e0
        have HE:=Lib.hid (ask_2 args k v.names.2.1 v.conts.2.1)
        by_cases hn:n'=1
        rotate_left
        · have g1:((n':Int)==1)=false:=by rw [beq_eq_false_iff_ne];omega
          have HV:Hid (askL (bs [110,101,103]) args k v.names.2.1 v.conts.2.1=false):=Lib.hid (by rw [HE.out,HRL.out,beq_eq_false_iff_ne.2 hn];rfl)
          clear hn
          go_wp2
          go_ret
          exact⟨ret_bool' (asB_no (asksB_no HX.out (by rw [HAK.out,HV.out]))).symm,HB1.out⟩
        subst hn
        cases hw:wiB args k with
        | false=>
          have HWI:=Lib.hid hw;clear hw
          have HV:Hid (askL (bs [110,101,103]) args k v.names.2.1 v.conts.2.1=false):=Lib.hid (by rw [HE.out,HRL.out,HWI.out];rfl)
          go_wp2_with (go_at_call 114;refine(within_at A 1 c' B args k false _ HRW.out HWI.out).mono ?_;rintro e w' ⟨rfl,rfl⟩)
          go_ret
          exact⟨ret_bool' (asB_no (asksB_no HX.out (by rw [HAK.out,HV.out]))).symm,HB1.out⟩
        | true=>
          have HWI:=Lib.hid hw;clear hw
          have HV:Hid (askL (bs [110,101,103]) args k v.names.2.1 v.conts.2.1=true):=Lib.hid (by rw [HE.out,HRL.out,HWI.out];rfl)
          go_wp2_with (go_at_call 114;refine(within_at A 1 c' B args k true _ HRW.out HWI.out).mono ?_;rintro e w' ⟨rfl,rfl⟩)
          go_round
          case rel=>exact⟨k+1,by omega,by go_num,Lib.hid (by rw [asksB_succ HX.out,hz.out,HAK.out,HV.out];rfl)⟩
          case measure=>simp [intOf];omega
      by_cases h3:op=bs [43]
      · subst h3
        unfold bs at e0
        have HE:=Lib.hid (ask_3 args k v.names.2.1 v.conts.2.1)
        by_cases hn:n'=2
        rotate_left
        · have g1:((n':Int)==2)=false:=by rw [beq_eq_false_iff_ne];omega
          have HV:Hid (askL (bs [43]) args k v.names.2.1 v.conts.2.1=false):=Lib.hid (by rw [HE.out,HRL.out,beq_eq_false_iff_ne.2 hn];rfl)
          clear hn
          go_wp2
          go_ret
          exact⟨ret_bool' (asB_no (asksB_no HX.out (by rw [HAK.out,HV.out]))).symm,HB1.out⟩
        subst hn
        cases hw:wiB args k with
        | false=>
          have HWI:=Lib.hid hw;clear hw
          have HV:Hid (askL (bs [43]) args k v.names.2.1 v.conts.2.1=false):=Lib.hid (by rw [HE.out,HRL.out,HWI.out];rfl)
          go_wp2_with (go_at_call 114;refine(within_at A 2 c' B args k false _ HRW.out HWI.out).mono ?_;rintro e w' ⟨rfl,rfl⟩)
          go_ret
          exact⟨ret_bool' (asB_no (asksB_no HX.out (by rw [HAK.out,HV.out]))).symm,HB1.out⟩
        | true=>
          have HWI:=Lib.hid hw;clear hw
          have HV:Hid (askL (bs [43]) args k v.names.2.1 v.conts.2.1=true):=Lib.hid (by rw [HE.out,HRL.out,HWI.out];rfl)
          go_wp2_with (go_at_call 114;refine(within_at A 2 c' B args k true _ HRW.out HWI.out).mono ?_;rintro e w' ⟨rfl,rfl⟩)
          go_round
          case rel=>exact⟨k+1,by omega,by go_num,Lib.hid (by rw [asksB_succ HX.out,hz.out,HAK.out,HV.out];rfl)⟩
          case measure=>simp [intOf];omega
      by_cases h4:op=bs [45]
      · subst h4
        unfold bs at e0
        have HE:=Lib.hid (ask_4 args k v.names.2.1 v.conts.2.1)
        by_cases hn:n'=2
        rotate_left
        · have g1:((n':Int)==2)=false:=by rw [beq_eq_false_iff_ne];omega
          have HV:Hid (askL (bs [45]) args k v.names.2.1 v.conts.2.1=false):=Lib.hid (by rw [HE.out,HRL.out,beq_eq_false_iff_ne.2 hn];rfl)
          clear hn
          go_wp2
          go_ret
          exact⟨ret_bool' (asB_no (asksB_no HX.out (by rw [HAK.out,HV.out]))).symm,HB1.out⟩
        subst hn
        cases hw:wiB args k with
        | false=>
          have HWI:=Lib.hid hw;clear hw
          have HV:Hid (askL (bs [45]) args k v.names.2.1 v.conts.2.1=false):=Lib.hid (by rw [HE.out,HRL.out,HWI.out];rfl)
          go_wp2_with (go_at_call 114;refine(within_at A 2 c' B args k false _ HRW.out HWI.out).mono ?_;rintro e w' ⟨rfl,rfl⟩)
          go_ret
          exact⟨ret_bool' (asB_no (asksB_no HX.out (by rw [HAK.out,HV.out]))).symm,HB1.out⟩
        | true=>
          have HWI:=Lib.hid hw;clear hw
          have HV:Hid (askL (bs [45]) args k v.names.2.1 v.conts.2.1=true):=Lib.hid (by rw [HE.out,HRL.out,HWI.out];rfl)
          go_wp2_with (go_at_call 114;refine(within_at A 2 c' B args k true _ HRW.out HWI.out).mono ?_;rintro e w' ⟨rfl,rfl⟩)
          go_round
          case rel=>exact⟨k+1,by omega,by go_num,Lib.hid (by rw [asksB_succ HX.out,hz.out,HAK.out,HV.out];rfl)⟩
          case measure=>simp [intOf];omega
      by_cases h5:op=bs [47]
      · subst h5
        unfold bs at e0
        have HE:=Lib.hid (ask_5 args k v.names.2.1 v.conts.2.1)
        by_cases hn:n'=2
        rotate_left
        · have g1:((n':Int)==2)=false:=by rw [beq_eq_false_iff_ne];omega
          have HV:Hid (askL (bs [47]) args k v.names.2.1 v.conts.2.1=false):=Lib.hid (by rw [HE.out,HRL.out,beq_eq_false_iff_ne.2 hn];rfl)
          clear hn
          go_wp2
          go_ret
          exact⟨ret_bool' (asB_no (asksB_no HX.out (by rw [HAK.out,HV.out]))).symm,HB1.out⟩
        subst hn
        cases hw:wiB args k with
        | false=>
          have HWI:=Lib.hid hw;clear hw
          have HV:Hid (askL (bs [47]) args k v.names.2.1 v.conts.2.1=false):=Lib.hid (by rw [HE.out,HRL.out,HWI.out];rfl)
          go_wp2_with (go_at_call 114;refine(within_at A 2 c' B args k false _ HRW.out HWI.out).mono ?_;rintro e w' ⟨rfl,rfl⟩)
          go_ret
          exact⟨ret_bool' (asB_no (asksB_no HX.out (by rw [HAK.out,HV.out]))).symm,HB1.out⟩
        | true=>
          have HWI:=Lib.hid hw;clear hw
          have HV:Hid (askL (bs [47]) args k v.names.2.1 v.conts.2.1=true):=Lib.hid (by rw [HE.out,HRL.out,HWI.out];rfl)
          go_wp2_with (go_at_call 114;refine(within_at A 2 c' B args k true _ HRW.out HWI.out).mono ?_;rintro e w' ⟨rfl,rfl⟩)
          go_round
          case rel=>exact⟨k+1,by omega,by go_num,Lib.hid (by rw [asksB_succ HX.out,hz.out,HAK.out,HV.out];rfl)⟩
          case measure=>simp [intOf];omega
      by_cases h6:op=bs [42]
      · subst h6
        unfold bs at e0
        have HE:=Lib.hid (ask_6 args k v.names.2.1 v.conts.2.1)
        by_cases hn:n'=3
        rotate_left
        · have g1:((n':Int)==3)=false:=by rw [beq_eq_false_iff_ne];omega
          have HV:Hid (askL (bs [42]) args k v.names.2.1 v.conts.2.1=false):=Lib.hid (by rw [HE.out,HRL.out,beq_eq_false_iff_ne.2 hn];rfl)
          clear hn
          go_wp2
          go_ret
          exact⟨ret_bool' (asB_no (asksB_no HX.out (by rw [HAK.out,HV.out]))).symm,HB1.out⟩
        subst hn
        obtain⟨x,y,z,rfl⟩:=three_int HRL.out
        obtain⟨b',off',ha',hb',hcell⟩:=HRW.out.at_ (i:=0) (show 0<3 by decide)
        simp only at ha'
        subst ha'
        clear hcell
        have hc1:¬ c'=1:=by omega
        have hc2:¬ c'=2:=by omega
        have HR1:=Lib.hid (HRW.out.take 2 (show 2≤3 by decide))
        have HR2:=Lib.hid (HRW.out.drop 2 (show 2<3 by decide))
        cases hw:wiB [x,y] k with
        | false=>
          have HWI:=Lib.hid hw;clear hw
          have HV:Hid (askL (bs [42]) [x,y,z] k v.names.2.1 v.conts.2.1=false):=Lib.hid (by rw [HE.out];show(_&&(wiB [x,y] k&&_))=_;rw [HWI.out];simp)
          go_wp2_with (go_at_call 114;refine(within_at (some ⟨b',off',none⟩) 2 c' B [x,y] k false _ HR1.out HWI.out).mono ?_;rintro e w' ⟨rfl,rfl⟩)
          go_ret
          exact⟨ret_bool' (asB_no (asksB_no HX.out (by rw [HAK.out,HV.out]))).symm,HB1.out⟩
        | true=>
          have HWI:=Lib.hid hw;clear hw
          cases hw:wiB [z] 2 with
          | false=>
            have HW2:=Lib.hid hw;clear hw
            have HV:Hid (askL (bs [42]) [x,y,z] k v.names.2.1 v.conts.2.1=false):=Lib.hid (by rw [HE.out];show(_&&(wiB [x,y] k&&wiB [z] 2))=_;rw [HWI.out,HW2.out];simp)
            go_wp2_with (first | (have _t:=HWI;go_at_call 114;refine(within_at (some ⟨b',off',none⟩) 2 c' B [x,y] k true _ HR1.out HWI.out).mono ?_;rintro e w' ⟨rfl,rfl⟩;clear HWI _t) | (go_at_call 114;refine(within2 (some ⟨b',off'+2,none⟩) 1 (c'-2) B [z] false _ HR2.out HW2.out).mono ?_;rintro e w' ⟨rfl,rfl⟩))
            go_ret
            exact⟨ret_bool' (asB_no (asksB_no HX.out (by rw [HAK.out,HV.out]))).symm,HB1.out⟩
          | true=>
            have HW2:=Lib.hid hw;clear hw
            have HV:Hid (askL (bs [42]) [x,y,z] k v.names.2.1 v.conts.2.1=true):=Lib.hid (by rw [HE.out];show(_&&(wiB [x,y] k&&wiB [z] 2))=_;rw [HWI.out,HW2.out];simp)
            go_wp2_with (first | (have _t:=HWI;go_at_call 114;refine(within_at (some ⟨b',off',none⟩) 2 c' B [x,y] k true _ HR1.out HWI.out).mono ?_;rintro e w' ⟨rfl,rfl⟩;clear HWI _t) | (go_at_call 114;refine(within2 (some ⟨b',off'+2,none⟩) 1 (c'-2) B [z] true _ HR2.out HW2.out).mono ?_;rintro e w' ⟨rfl,rfl⟩))
            go_round
            case rel=>exact⟨k+1,by omega,by go_num,Lib.hid (by rw [asksB_succ HX.out,hz.out,HAK.out,HV.out];rfl)⟩
            case measure=>simp [intOf];omega
      by_cases h7:op=bs [115,101,108]
      · subst h7
        unfold bs at e0
        have HE:=Lib.hid (ask_7 args k v.names.2.1 v.conts.2.1)
        by_cases hn:n'=3
        rotate_left
        · have g1:((n':Int)==3)=false:=by rw [beq_eq_false_iff_ne];omega
          have HV:Hid (askL (bs [115,101,108]) args k v.names.2.1 v.conts.2.1=false):=Lib.hid (by rw [HE.out,HRL.out,beq_eq_false_iff_ne.2 hn];rfl)
          clear hn
          go_wp2
          go_ret
          exact⟨ret_bool' (asB_no (asksB_no HX.out (by rw [HAK.out,HV.out]))).symm,HB1.out⟩
        subst hn
        obtain⟨x,y,z,rfl⟩:=three_int HRL.out
        obtain⟨b',off',ha',hb',hcell⟩:=HRW.out.at_ (i:=0) (show 0<3 by decide)
        simp only at ha'
        subst ha'
        clear hcell
        have hc1:¬ c'=1:=by omega
        have hc2:¬ c'=2:=by omega
        have HR1:=Lib.hid (HRW.out.take 1 (show 1≤3 by decide))
        have HR2:=Lib.hid (HRW.out.drop 1 (show 1<3 by decide))
        cases hw:wiB [x] v.names.2.1 with
        | false=>
          have HWI:=Lib.hid hw;clear hw
          have HV:Hid (askL (bs [115,101,108]) [x,y,z] k v.names.2.1 v.conts.2.1=false):=Lib.hid (by rw [HE.out];show(_&&(wiB [x] v.names.2.1&&_))=_;rw [HWI.out];simp)
          go_wp2_with (go_at_call 114;refine(within_at (some ⟨b',off',none⟩) 1 c' B [x] v.names.2.1 false _ HR1.out HWI.out).mono ?_;rintro e w' ⟨rfl,rfl⟩)
          go_ret
          exact⟨ret_bool' (asB_no (asksB_no HX.out (by rw [HAK.out,HV.out]))).symm,HB1.out⟩
        | true=>
          have HWI:=Lib.hid hw;clear hw
          cases hw:wiB [y,z] k with
          | false=>
            have HW2:=Lib.hid hw;clear hw
            have HV:Hid (askL (bs [115,101,108]) [x,y,z] k v.names.2.1 v.conts.2.1=false):=Lib.hid (by rw [HE.out];show(_&&(wiB [x] v.names.2.1&&wiB [y,z] k))=_;rw [HWI.out,HW2.out];simp)
            go_wp2_with (first | (have _t:=HWI;go_at_call 114;refine(within_at (some ⟨b',off',none⟩) 1 c' B [x] v.names.2.1 true _ HR1.out HWI.out).mono ?_;rintro e w' ⟨rfl,rfl⟩;clear HWI _t) | (go_at_call 114;refine(within_at (some ⟨b',off'+1,none⟩) 2 (c'-1) B [y,z] k false _ HR2.out HW2.out).mono ?_;rintro e w' ⟨rfl,rfl⟩))
            go_ret
            exact⟨ret_bool' (asB_no (asksB_no HX.out (by rw [HAK.out,HV.out]))).symm,HB1.out⟩
          | true=>
            have HW2:=Lib.hid hw;clear hw
            have HV:Hid (askL (bs [115,101,108]) [x,y,z] k v.names.2.1 v.conts.2.1=true):=Lib.hid (by rw [HE.out];show(_&&(wiB [x] v.names.2.1&&wiB [y,z] k))=_;rw [HWI.out,HW2.out];simp)
            go_wp2_with (first | (have _t:=HWI;go_at_call 114;refine(within_at (some ⟨b',off',none⟩) 1 c' B [x] v.names.2.1 true _ HR1.out HWI.out).mono ?_;rintro e w' ⟨rfl,rfl⟩;clear HWI _t) | (go_at_call 114;refine(within_at (some ⟨b',off'+1,none⟩) 2 (c'-1) B [y,z] k true _ HR2.out HW2.out).mono ?_;rintro e w' ⟨rfl,rfl⟩))
            go_round
            case rel=>exact⟨k+1,by omega,by go_num,Lib.hid (by rw [asksB_succ HX.out,hz.out,HAK.out,HV.out];rfl)⟩
            case measure=>simp [intOf];omega
      have HV:=Lib.hid (ask_no op args k v.names.2.1 v.conts.2.1 h0 h1 h2 h3 h4 h5 h6 h7)
      have g0:=str_no h0;clear h0
      have g1:=str_no h1;clear h1
      have g2:=str_no h2;clear h2
      have g3:=str_no h3;clear h3
      have g4:=str_no h4;clear h4
      have g5:=str_no h5;clear h5
      have g6:=str_no h6;clear h6
      have g7:=str_no h7;clear h7
      go_wp2
      go_ret
      exact⟨ret_bool' (asB_no (asksB_no HX.out (by rw [HAK.out,HV.out]))).symm,HB1.out⟩
    · have hkn:n=k:=by omega
      have HV:Hid (asB f l=decide (0<l.length)):=Lib.hid (by unfold asB;rw [asksB_end HL.out (by rw [hkn];exact hz.out)];rfl)
      by_cases h0:0<n
      · have HV2:Hid (asB f l=true):=Lib.hid (by rw [HV.out,decide_eq_true_eq,HL.out];exact h0)
        clear hkn
        go_wp2
        go_ret
        exact⟨by rw [HV2.out];first | rfl | (congr 1;simp;omega),HB0.out⟩
      · have HV2:Hid (asB f l=false):=Lib.hid (by rw [HV.out,decide_eq_false_iff_not,HL.out];exact h0)
        have h00:n=0:=by omega
        subst h00
        clear hkn h0
        go_wp2
        go_ret
        exact⟨by rw [HV2.out];rfl,HB0.out⟩
theorem asks_b (l:List COpM)(a:Option Addr)(n c:Nat)(v:FlatV)(f:FlatM)(B:Nat)(b:Bool)(w:World)(hF:FlatIs w B v f)(hr:SRow 2 COpAt w B a n c l)(hB:B≤w.heap.size)(h:asB f l=b) :
    Calls Tryz.prog 116 #[flatV v,.slice a n c,.int .i64 (v.names.2.1:Int)] w fun e w'=>e=.returned (.bool b)∧Below w.heap.size w w':=by
  subst h;exact asks_t l a n c v f B w hF hr hB
end Go.Proofs.YtpnlbjnbgemocaaGreat
