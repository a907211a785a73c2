import Derived.Test.YtpnlbjnbgemocaaGreatZNdAToPlanMN6
import Derived.Test.YtpnlbjnbgemocaaGreatZSfAToFlPN13
import Derived.Laws.AppendOwnNone
import Derived.Lib.SliceRun
import Derived.Deep.RegionLaw
import Derived.Deep.DeepCutAuto
import Derived.Laws.Rows
import Derived.Test.YtpnlbjnbgemocaaGreatZFlAToHpKN11
import Derived.Deep.RegionWith
import Derived.OwnWalk
namespace Go.Proofs.YtpnlbjnbgemocaaGreat
set_option linter.unusedVariables false
set_option linter.unusedSimpArgs false
set_option maxRecDepth 100000
open Go.RowKit
structure InsM where
  op:ByteArray
  dst:Int
  args:Option Addr×Nat×Nat
  k:Int
  kind:Int
  neg:Bool
  mag:Option Addr×Nat×Nat
  den:Option Addr×Nat×Nat
  name:ByteArray
  guard:Int
  resets:Option Addr×Nat×Nat
def InsM.cs (x:InsM):List Value:=[.string x.op,.int .i64 x.dst,sl3 x.args,.int .i64 x.k,.int .i64 x.kind,.bool x.neg,sl3 x.mag,sl3 x.den,.string x.name,.int .i64 x.guard,sl3 x.resets]
def insV (x:InsM):Value:=.agg x.cs.toArray
theorem InsM.cs_len (x:InsM):x.cs.length=11:=rfl
theorem InsM.cs_one (x:InsM):∀ u∈x.cs,u.oneCell'=true:=by
  intro u hu
  simp only [InsM.cs,List.mem_cons,List.not_mem_nil,or_false] at hu
  rcases hu with rfl | rfl | rfl | rfl | rfl | rfl | rfl | rfl | rfl | rfl | rfl <;> rfl
def flatC (xs:List InsM):List Value:=xs.flatMap InsM.cs
theorem flatC_len (xs:List InsM):(flatC xs).length=xs.length*11:=by
  induction xs with
  | nil=>rfl
  | cons x xs ih=>unfold flatC at ih ⊢;simp only [List.flatMap_cons,List.length_append,InsM.cs_len,List.length_cons,ih];omega
theorem flatC_append (xs ys:List InsM):flatC (xs++ys)=flatC xs++flatC ys:=List.flatMap_append
theorem flatC_get:∀(xs:List InsM) (i:Nat) (x:InsM),xs[i]?=some x→∀ j,j<11→(flatC xs)[i*11+j]?=x.cs[j]?
  | [],i,x,h=>by simp at h
  | y::ys,0,x,h=>by
    intro j hj
    simp at h;subst h
    unfold flatC
    rw [List.flatMap_cons,List.getElem?_append_left (by rw [InsM.cs_len];omega)]
    simp
  | y::ys,i+1,x,h=>by
    intro j hj
    have:=flatC_get ys i x (by simpa using h) j hj
    unfold flatC at this ⊢
    rw [List.flatMap_cons,List.getElem?_append_right (by rw [InsM.cs_len];omega),InsM.cs_len,show(i+1)*11+j-11=i*11+j by omega]
    exact this
def OwnS (w:World)(B:Nat)(v:Value)(xs:List InsM):Prop:=w.ownsRow B 96 11 v xs.length (flatC xs)
section
variable {w w':World} {B B':Nat} {v:Value} {xs:List InsM}
theorem OwnS.len (h:OwnS w B v xs):∃ a c,v=.slice a xs.length c:=by
  rcases h.2 with ⟨rfl,h0⟩ | ⟨g,cap,cur,rfl,_⟩
  · exact⟨none,0,by rw [h0]⟩
  · exact⟨_,cap,rfl⟩
theorem OwnS.keep (h:OwnS w B v xs)(hk:∀ k,v.ownBlock=some k→w'.heap[k]?=w.heap[k]?):OwnS w' B v xs:=by
  refine⟨h.1, ?_⟩
  rcases h.2 with h0 | ⟨g,cap,cur,rfl,hb,hg,hr⟩
  · exact Or.inl h0
  · exact Or.inr ⟨g,cap,cur,rfl,hb,(hk g rfl).trans hg,hr⟩
theorem OwnS.lt (h:OwnS w B v xs){k:Nat}(hk:v.ownBlock=some k):B≤k∧k<w.heap.size:=World.ownsRow.lt h k hk
theorem OwnS.below (h:OwnS w B v xs)(hb:Below B' w w')(hB:w.heap.size≤B'):OwnS w' B v xs:=
  h.keep fun k hk=>hb.block k (Nat.lt_of_lt_of_le (h.lt hk).2 hB)
theorem OwnS.later (h:OwnS w B v xs)(hb:Below w.heap.size w w'):OwnS w' B v xs:=h.below hb (Nat.le_refl _)
theorem OwnS.more (h:OwnS w B v xs)(hB:B'≤B):OwnS w B' v xs:=by
  refine⟨h.1, ?_⟩
  rcases h.2 with h0 | ⟨g,cap,cur,rfl,hb,hr⟩
  · exact Or.inl h0
  · exact Or.inr ⟨g,cap,cur,rfl,Nat.le_trans hB hb,hr⟩
theorem OwnS.nil (w:World)(B:Nat):OwnS w B (.slice none 0 0) []:=World.ownsRow_nil w B 96 11
end
theorem Tryz.infoIns:(Tryz.prog.info? 96).map (fun i=>(i.zero,i.size,i.bytes))=some (some (insV ⟨⟨#[]⟩,0,(none,0,0),0,0,false,(none,0,0),(none,0,0),⟨#[]⟩,0,(none,0,0)⟩),11,168):=by kernel_rfl
theorem runS (w:World)(ty:TypeId)(B:Nat)(v:Value)(xs:List InsM)(hown:OwnS w B v xs)(ad:Addr)(n c:Nat)(ys:List InsM)(hys:ys.length=n)(hn:∀ j u,(flatC ys)[j]?=some u→w.cell? (ad.add j)=some u)(hB:B≤w.heap.size)(hl:xs.length≤100000000)(hy:n≤1000000) :
    ∃ v' w',(Builtin.append_ #[23,23] ty #[v,.slice (some ad) n c]).run Tryz.prog w=.ok v' w'∧OwnS w' B v' (xs++ys)∧Only [v.ownBlock] w w'∧(v'.ownBlock=v.ownBlock∨∃ k,v'.ownBlock=some k∧w.heap.size≤k):=by
  obtain⟨i0,hi,hz0,hz1,hz2⟩:=info_parts Tryz.infoIns
  obtain⟨v',w',h1,h2,h3,h4,h5⟩:=run_append_own_at (P:=Tryz.prog) w B 23 ty 96 i0 _ 11 168 Tryz.underlying23 hi hz0 hz1 hz2 rfl (by decide) v xs.length (flatC xs) hown ad n c (flatC ys) (by rw [flatC_len,hys]) hn (fun u hu=>by
    unfold flatC at hu
    rw [List.mem_flatMap] at hu
    obtain⟨y,_,hu⟩:=hu
    exact y.cs_one u hu) (by unfold maxLen;omega) (by omega) hB
  refine⟨v',w',h1, ?_,Only.of_grown h3 (Or.inl (by simp)), ?_⟩
  · unfold OwnS;rw [flatC_append,List.length_append,hys];exact h2
  · rcases h5 with h | h
    · exact Or.inl h
    · exact Or.inr ⟨_,h,Nat.le_refl _⟩
theorem cell_ins_new (w:World)(x:InsM)(T:TypeId){H:Nat}(hH:w.heap.size=H):∀ j u,(flatC [x])[j]?=some u→(w.alloc (.cells x.cs.toArray T)).cell? ((⟨H,0,none⟩:Addr).add j)=some u:=by
  intro j u hu
  subst hH
  have e:(⟨w.heap.size,0,none⟩:Addr).add j=⟨w.heap.size,j,none⟩:=by unfold Addr.add;split <;> simp_all
  rw [e,cell_of_row _ w.heap.size j _ T (0,0) (heap_alloc_new w _)]
  simpa [flatC] using hu
theorem appendX {w:World}{ops:Array Oper}{rest:List Oper}{o:Oper}{a:Act}{Q:Exit→Act→World→Prop}(hgd:o.guard=none)(s x:Operand)
    (hop:o.op=.call { callee:=.builtin .append,args:=#[s,x],argTypes:=#[23,23] })
    (B:Nat) (v:Value) (xs:List InsM) (X:InsM) (T:TypeId) (H:Nat) (hs:a.eval s=v) (hx:a.eval x=.slice (some ⟨H,0,none⟩) 1 1) (hH:w.heap.size=H) (hown:OwnS w B v xs) (hB:B≤H) (hl:xs.length≤100000000)
    (hK:∀ v' w',OwnS w' B v' (xs++[X])→Only [v.ownBlock] w w'→(v'.ownBlock=v.ownBlock∨∃ k,v'.ownBlock=some k∧H≤k)→wpList Tryz.prog ops Q rest (a.put o.dst v') w') :
    wpList Tryz.prog ops Q (o::rest) a (w.alloc (.cells X.cs.toArray T)):=by
  subst hH
  obtain⟨i0,hi,hz0,hz1,hz2⟩:=info_parts Tryz.infoIns
  refine wpList_append_own_at _ hgd s x 23 hop B 96 i0 _ 11 168 Tryz.underlying23 hi hz0 hz1 hz2 rfl (by decide) v xs.length (flatC xs) hs (World.ownsRow.alloc hown _) ⟨w.heap.size,0,none⟩ 1 1 X.cs hx rfl (fun j u hu=>cell_ins_new w X T rfl j u (by simpa [flatC] using hu)) X.cs_one (by unfold maxLen;omega) (by omega) (by simp;omega) ?_
  intro v' w' hown' hgrow _ hat
  refine hK v' w' ?_ ((Only.refl _ w |>.alloc _).trans (Only.of_grown hgrow (Or.inl (by simp)))) ?_
  · unfold OwnS;rw [flatC_append];simpa [flatC] using hown'
  · rcases hat with h | h
    · exact Or.inl h
    · exact Or.inr ⟨_,h,by simp⟩
theorem stepX {w:World}{ops:Array Oper}{o:Oper}{a:Act}{K:Act→World→Prop}{Q:Exit→Act→World→Prop}{E:Prop}(hgd:o.guard=none)(s x:Operand)
    (hop:o.op=.call { callee:=.builtin .append,args:=#[s,x],argTypes:=#[23,23] })
    (B:Nat) (v:Value) (xs:List InsM) (X:InsM) (T:TypeId) (H:Nat) (hs:a.eval s=v) (hx:a.eval x=.slice (some ⟨H,0,none⟩) 1 1) (hH:w.heap.size=H) (hown:OwnS w B v xs) (hB:B≤H) (hl:xs.length≤100000000)
    (hK:∀ v' w',OwnS w' B v' (xs++[X])→Only [v.ownBlock] w w'→(v'.ownBlock=v.ownBlock∨∃ k,v'.ownBlock=some k∧H≤k)→K (a.put o.dst v') w') :
    if Region.wanted o (yielded ops a.tmps)=true then Oper.wp Tryz.prog o a (w.alloc (.cells X.cs.toArray T)) K Q else E:=by
  subst hH
  have hw:Region.wanted o (yielded ops a.tmps)=true:=by simp [Region.wanted,hgd]
  rw [if_pos hw]
  obtain⟨v',w',hr',h2,h3,h4⟩:=runS (w.alloc (.cells X.cs.toArray T)) o.type B v xs (hown.later ((Below.refl _ _).alloc (Nat.le_refl _) _)) ⟨w.heap.size,0,none⟩ 1 1 [X] rfl (cell_ins_new w X T rfl) (by simp;omega) hl (by omega)
  unfold Oper.wp execOp
  simp only [hop,resolve,invoke,builtin,Sem.run_bind,Sem.run_pure,Result.andThen_ok,List.map_toArray,List.map_cons,List.map_nil,hs,hx,hr']
  refine hK v' w' h2 ((Only.refl _ w |>.alloc _).trans h3) ?_
  rcases h4 with h | ⟨k,h,hk⟩
  · exact Or.inl h
  · exact Or.inr ⟨k,h,by simp at hk;omega⟩
theorem Only.ownS {B:Nat}{v:Value}{xs:List InsM}{a b:World}(h:Only [v.ownBlock] a b)(ho:OwnS a B v xs)(hB:B≤a.heap.size):Below B a b:=
  h.below hB fun j hj=>by
    simp at hj
    exact(ho.lt hj.symm).1
def slotS (xs:List Int)(x:Int):Int:=if x<0 then -1 else xs.getD x.toNat 0
end Go.Proofs.YtpnlbjnbgemocaaGreat
namespace Go.Proofs.YtpnlbjnbgemocaaGreat
set_option linter.unusedVariables false
set_option linter.unusedSimpArgs false
set_option maxRecDepth 100000
open Go.RowKit
end Go.Proofs.YtpnlbjnbgemocaaGreat
namespace Go.Proofs.YtpnlbjnbgemocaaGreat
set_option linter.unusedVariables false
set_option linter.unusedSimpArgs false
set_option maxRecDepth 100000
open Go.RowKit
theorem Blk.put {w:World}{g T:Nat}{vs:List Value}(h:Blk w g T vs.toArray)(j:Nat)(u:Value):Blk (w.setCell ⟨g,j,none⟩ u) g T (vs.set j u).toArray:=by
  have:=heap_setCell_same w g j _ T u h
  unfold Blk
  rw [this]
  congr 2
  simp
theorem ret_row {fn:Func}{p:Tmp}{ty:TypeId}{fs:Array Field}(h:fn.results=#[.cell p ty]){a:Act}{w:World}{R:Ending→World→Prop}(g:Nat)(cs:Array Value)(hg:Blk w g ty cs)(hp:a.tmps.getD p undef=.pointer (some ⟨g,0,none⟩))(hd:a.defers=[])
    (hu:Tryz.prog.underlying ty=some (.struct fs)) (hi:(Tryz.prog.info? ty).map (·.size)=some cs.size) (hR:R (.returned (.agg cs)) w):bodyPost Tryz.prog fn R .ret a w:=
  bodyPost_ret_by (results_cell_row h _ w g ty cs (0,0) (.struct fs) hp hg hu rfl hi) hd hR
end Go.Proofs.YtpnlbjnbgemocaaGreat
namespace Go.Proofs.YtpnlbjnbgemocaaGreat
set_option linter.unusedVariables false
set_option linter.unusedSimpArgs false
set_option maxRecDepth 100000
open Go.RowKit
theorem enS_1 (n:Nat):enS (bs [105,110]) n=((n:Int)==0):=(show enS (bs [105,110]) n=(n==0) from rfl).trans (nat_beq n 0)
theorem enS_6 (n:Nat):enS (bs [110,101,103]) n=((n:Int)==1):=(show enS (bs [110,101,103]) n=(n==1) from rfl).trans (nat_beq n 1)
theorem enS_12 (n:Nat):enS (bs [111,117,116]) n=((n:Int)==1):=(show enS (bs [111,117,116]) n=(n==1) from rfl).trans (nat_beq n 1)
set_option maxHeartbeats 400000 in
theorem en_1 (q:InsP)(a m d r:Option Addr×Nat×Nat)(w:World)(hm:a.2.1≤maxLen)(h:q.op=bs [105,110]):Calls Tryz.prog 149 #[insU q a m d r] w fun e w'=>e=.returned (.bool (enS q.op a.2.1))∧Below w.heap.size w w':=by
  obtain⟨op,dst,args,k,lit,guard,resets⟩:=q
  obtain⟨A,n,c⟩:=a
  unfold maxLen at hm
  simp only at hm h
  have HE:=Lib.hid (enS_1 n)
  subst h
  unfold bs at HE ⊢
  unfold insU
  go_enter Tryz.func149,Tryz.ntmps149
  go_wp2
  all_goals
    go_ret
    exact⟨by rw [HE.out];first | rfl | (congr 1;simp;done) | (congr 2;simp;omega),(Below.refl _ _).alloc (Nat.le_refl _) _⟩
set_option maxHeartbeats 400000 in
theorem en_6 (q:InsP)(a m d r:Option Addr×Nat×Nat)(w:World)(hm:a.2.1≤maxLen)(h:q.op=bs [110,101,103]):Calls Tryz.prog 149 #[insU q a m d r] w fun e w'=>e=.returned (.bool (enS q.op a.2.1))∧Below w.heap.size w w':=by
  obtain⟨op,dst,args,k,lit,guard,resets⟩:=q
  obtain⟨A,n,c⟩:=a
  unfold maxLen at hm
  simp only at hm h
  have HE:=Lib.hid (enS_6 n)
  subst h
  unfold bs at HE ⊢
  unfold insU
  go_enter Tryz.func149,Tryz.ntmps149
  go_wp2
  all_goals
    go_ret
    exact⟨by rw [HE.out];first | rfl | (congr 1;simp;done) | (congr 2;simp;omega),(Below.refl _ _).alloc (Nat.le_refl _) _⟩
set_option maxHeartbeats 400000 in
theorem en_12 (q:InsP)(a m d r:Option Addr×Nat×Nat)(w:World)(hm:a.2.1≤maxLen)(h:q.op=bs [111,117,116]):Calls Tryz.prog 149 #[insU q a m d r] w fun e w'=>e=.returned (.bool (enS q.op a.2.1))∧Below w.heap.size w w':=by
  obtain⟨op,dst,args,k,lit,guard,resets⟩:=q
  obtain⟨A,n,c⟩:=a
  unfold maxLen at hm
  simp only at hm h
  have HE:=Lib.hid (enS_12 n)
  subst h
  unfold bs at HE ⊢
  unfold insU
  go_enter Tryz.func149,Tryz.ntmps149
  go_wp2
  all_goals
    go_ret
    exact⟨by rw [HE.out];first | rfl | (congr 1;simp;done) | (congr 2;simp;omega),(Below.refl _ _).alloc (Nat.le_refl _) _⟩
def OkA (q:InsP):Prop:=(q.op=bs [105,110]∨q.op=bs [110,101,103]∨q.op=bs [111,117,116])∧q.resets.length=0
theorem hasEnough_t (q:InsP)(ho:OkA q)(a m d r:Option Addr×Nat×Nat)(w:World)(hm:a.2.1≤maxLen):Calls Tryz.prog 149 #[insU q a m d r] w fun e w'=>e=.returned (.bool (enS q.op a.2.1))∧Below w.heap.size w w':=by
  rcases ho.1 with h | h | h
  · exact en_1 q a m d r w hm h
  · exact en_6 q a m d r w hm h
  · exact en_12 q a m d r w hm h
end Go.Proofs.YtpnlbjnbgemocaaGreat
namespace Go.Proofs.YtpnlbjnbgemocaaGreat
set_option linter.unusedVariables false
set_option linter.unusedSimpArgs false
set_option maxRecDepth 100000
open Go.RowKit
theorem plK_0 (k ni no nm nc nx:Int):plK (bs [105,110]) k ni no nm nc nx=inB k ni:=rfl
set_option maxHeartbeats 1000000 in
theorem hp_0 (c:CodeM)(v:CodeV)(B g S N gs gl:Nat)(W L:List Int)(q:InsP)(a m d r:Option Addr×Nat×Nat)(w:World)(hr:Rd w B g c v S N gs gl W L)(h:q.op=bs [105,110]):Calls Tryz.prog 150 #[.pointer (some ⟨g,0,none⟩),insU q a m d r] w fun e w'=>e=.returned (.bool (plK q.op q.k c.ins c.outs v.mems.2.1 v.conts.2.1 c.crosses))∧Below w.heap.size w w':=by
  have HR:=Lib.hid hr
  obtain⟨op,dst,args,k,lit,guard,resets⟩:=q
  simp only at h
  have HE:=Lib.hid (plK_0 k c.ins c.outs v.mems.2.1 v.conts.2.1 c.crosses)
  have hmm:v.mems.2.1≤maxLen:=hr.is.mems.len_le
  have hmc:v.conts.2.1≤maxLen:=hr.is.conts.len_le
  unfold maxLen at hmm hmc
  obtain⟨n0,n1,n2,n3,n4,n5,n6,n7,n8,n9,n10,n11⟩:=HR.out.cells
  have hgl:g<w.heap.size:=HR.out.blk.lt
  clear n2 n4 n7 n8 n9 n10 n11
  clear hr
  subst h
  unfold bs at HE ⊢
  unfold insU
  go_enter Tryz.func150,Tryz.ntmps150
  go_wp2_with fail
  go_quiet ((go_at_call 175;exact Calls.quiet_of_same (isPlace_t k c.ins _ _ rfl)))
  go_wp2
  go_ret
  exact⟨by rw [HE.out];rfl,by first | exact(Below.refl _ _).alloc (Nat.le_refl _) _ | exact below_drewN ((Below.refl _ _).alloc (Nat.le_refl _) _)⟩
theorem plK_1 (k ni no nm nc nx:Int):plK (bs [111,117,116]) k ni no nm nc nx=inB k no:=rfl
set_option maxHeartbeats 1000000 in
theorem hp_1 (c:CodeM)(v:CodeV)(B g S N gs gl:Nat)(W L:List Int)(q:InsP)(a m d r:Option Addr×Nat×Nat)(w:World)(hr:Rd w B g c v S N gs gl W L)(h:q.op=bs [111,117,116]):Calls Tryz.prog 150 #[.pointer (some ⟨g,0,none⟩),insU q a m d r] w fun e w'=>e=.returned (.bool (plK q.op q.k c.ins c.outs v.mems.2.1 v.conts.2.1 c.crosses))∧Below w.heap.size w w':=by
  have HR:=Lib.hid hr
  obtain⟨op,dst,args,k,lit,guard,resets⟩:=q
  simp only at h
  have HE:=Lib.hid (plK_1 k c.ins c.outs v.mems.2.1 v.conts.2.1 c.crosses)
  have hmm:v.mems.2.1≤maxLen:=hr.is.mems.len_le
  have hmc:v.conts.2.1≤maxLen:=hr.is.conts.len_le
  unfold maxLen at hmm hmc
  obtain⟨n0,n1,n2,n3,n4,n5,n6,n7,n8,n9,n10,n11⟩:=HR.out.cells
  have hgl:g<w.heap.size:=HR.out.blk.lt
  clear n2 n4 n7 n8 n9 n10 n11
  clear hr
  subst h
  unfold bs at HE ⊢
  unfold insU
  go_enter Tryz.func150,Tryz.ntmps150
  go_wp2_with fail
  go_quiet ((go_at_call 175;exact Calls.quiet_of_same (isPlace_t k c.outs _ _ rfl)))
  go_wp2
  go_ret
  exact⟨by rw [HE.out];rfl,by first | exact(Below.refl _ _).alloc (Nat.le_refl _) _ | exact below_drewN ((Below.refl _ _).alloc (Nat.le_refl _) _)⟩
theorem plK_n (k ni no nm nc nx:Int):plK (bs [110,101,103]) k ni no nm nc nx=true:=rfl
set_option maxHeartbeats 1000000 in
theorem hp_n (c:CodeM)(v:CodeV)(B g S N gs gl:Nat)(W L:List Int)(q:InsP)(a m d r:Option Addr×Nat×Nat)(w:World)(hr:Rd w B g c v S N gs gl W L)(h:q.op=bs [110,101,103]):Calls Tryz.prog 150 #[.pointer (some ⟨g,0,none⟩),insU q a m d r] w fun e w'=>e=.returned (.bool (plK q.op q.k c.ins c.outs v.mems.2.1 v.conts.2.1 c.crosses))∧Below w.heap.size w w':=by
  have HR:=Lib.hid hr
  obtain⟨op,dst,args,k,lit,guard,resets⟩:=q
  simp only at h
  have HE:=Lib.hid (plK_n k c.ins c.outs v.mems.2.1 v.conts.2.1 c.crosses)
  have hmm:v.mems.2.1≤maxLen:=hr.is.mems.len_le
  have hmc:v.conts.2.1≤maxLen:=hr.is.conts.len_le
  unfold maxLen at hmm hmc
  obtain⟨n0,n1,n2,n3,n4,n5,n6,n7,n8,n9,n10,n11⟩:=HR.out.cells
  have hgl:g<w.heap.size:=HR.out.blk.lt
  clear n2 n4 n7 n8 n9 n10 n11
  clear hr
  subst h
  unfold bs at HE ⊢
  unfold insU
  go_enter Tryz.func150,Tryz.ntmps150
  go_wp2
  go_ret
  exact⟨by rw [HE.out];rfl,(Below.refl _ _).alloc (Nat.le_refl _) _⟩
theorem hasPlace_t (c:CodeM)(v:CodeV)(B g S N gs gl:Nat)(W L:List Int)(q:InsP)(ho:OkA q)(a m d r:Option Addr×Nat×Nat)(w:World)(hr:Rd w B g c v S N gs gl W L):Calls Tryz.prog 150 #[.pointer (some ⟨g,0,none⟩),insU q a m d r] w fun e w'=>e=.returned (.bool (plK q.op q.k c.ins c.outs v.mems.2.1 v.conts.2.1 c.crosses))∧Below w.heap.size w w':=by
  rcases ho.1 with h | h | h
  · exact hp_0 c v B g S N gs gl W L q a m d r w hr h
  · exact hp_n c v B g S N gs gl W L q a m d r w hr h
  · exact hp_1 c v B g S N gs gl W L q a m d r w hr h
end Go.Proofs.YtpnlbjnbgemocaaGreat
namespace Go.Proofs.YtpnlbjnbgemocaaGreat
set_option linter.unusedVariables false
set_option linter.unusedSimpArgs false
set_option maxRecDepth 100000
open Go.RowKit
set_option maxHeartbeats 1000000 in
theorem allC_t (A:Option Addr)(n c B:Nat)(xs:List Int)(b:Bool)(w:World)(hr:IRow w B A n c xs)(h:xs.all (cntB)=b) :
    Calls Tryz.prog 105 #[.slice A n c,.func (.func 106) #[] #[]] w fun e w'=>e=.returned (.bool b)∧w'=w:=by
  have hm':=hr.len_le
  have HR:=Lib.hid hr;clear hr
  have HB:=Lib.hid h;clear h
  unfold maxLen at hm'
  go_enter Tryz.func105,Tryz.ntmps105
  go_wp2_with fail
  go_loop [9] (fun t=>∃ k:Nat,k≤n∧t=.int .i64 k∧Hid ((xs.take k).all (cntB)=true)) (fun t=>n-(intOf t).toNat)
  case atStart=>exact⟨0,Nat.zero_le _,rfl,Lib.hid rfl⟩
  case round=>
    obtain⟨k,hk,rfl,hz⟩:=hrel
    by_cases hlt:k<n
    · obtain⟨g,off,rfl,hg,hcell⟩:=HR.out.at_ hlt
      have HX:=Lib.hid (irow_get HR.out hlt)
      obtain⟨X,hX⟩:∃ X,xs.getD k 0=X:=⟨_,rfl⟩
      rw [hX] at hcell HX
      clear hX
      cases hp:(cntB) X with
      | true=>
        have HP:=Lib.hid hp;clear hp
        go_wp2_with (go_at_call 106;refine(isCount_t X true _ HP.out).mono ?_;rintro e w' ⟨rfl,rfl⟩)
        go_round
        case rel=>exact⟨k+1,by omega,by go_num,Lib.hid (by rw [all_succ HX.out,HP.out,hz.out];rfl)⟩
        case measure=>simp [intOf];omega
      | false=>
        have HP:=Lib.hid hp;clear hp
        go_wp2_with (go_at_call 106;refine(isCount_t X false _ HP.out).mono ?_;rintro e w' ⟨rfl,rfl⟩)
        go_ret
        exact⟨ret_bool' (by rw [←HB.out];exact(all_no HX.out HP.out).symm),rfl⟩
    · go_wp2
      go_ret
      exact⟨ret_bool' (by rw [←HB.out];exact(all_end HR.out.1 (by rw [show n=k by omega];exact hz.out)).symm),rfl⟩
set_option maxHeartbeats 1000000 in
theorem allW_t (A:Option Addr)(n c B:Nat)(xs:List Int)(gs S:Nat)(W:List Int)(b:Bool)(w:World)(hr:IRow w B A n c xs)(hm:BMem w gs (mkB S W))(hS:S≤65536)(h:xs.all (wrB S W)=b) :
    Calls Tryz.prog 105 #[.slice A n c,.func (.func 153) #[.slice (some ⟨gs,0,none⟩) S S] #[]] w fun e w'=>e=.returned (.bool b)∧w'=w:=by
  have hm':=hr.len_le
  have HR:=Lib.hid hr;clear hr
  have HB:=Lib.hid h;clear h
  have HM:=Lib.hid hm;clear hm
  unfold maxLen at hm'
  go_enter Tryz.func105,Tryz.ntmps105
  go_wp2_with fail
  go_loop [9] (fun t=>∃ k:Nat,k≤n∧t=.int .i64 k∧Hid ((xs.take k).all (wrB S W)=true)) (fun t=>n-(intOf t).toNat)
  case atStart=>exact⟨0,Nat.zero_le _,rfl,Lib.hid rfl⟩
  case round=>
    obtain⟨k,hk,rfl,hz⟩:=hrel
    by_cases hlt:k<n
    · obtain⟨g,off,rfl,hg,hcell⟩:=HR.out.at_ hlt
      have HX:=Lib.hid (irow_get HR.out hlt)
      obtain⟨X,hX⟩:∃ X,xs.getD k 0=X:=⟨_,rfl⟩
      rw [hX] at hcell HX
      clear hX
      cases hp:(wrB S W) X with
      | true=>
        have HP:=Lib.hid hp;clear hp
        go_wp2_with (go_at_call 153;refine(written_t gs S W X true _ HM.out hS HP.out).mono ?_;rintro e w' ⟨rfl,rfl⟩)
        go_round
        case rel=>exact⟨k+1,by omega,by go_num,Lib.hid (by rw [all_succ HX.out,HP.out,hz.out];rfl)⟩
        case measure=>simp [intOf];omega
      | false=>
        have HP:=Lib.hid hp;clear hp
        go_wp2_with (go_at_call 153;refine(written_t gs S W X false _ HM.out hS HP.out).mono ?_;rintro e w' ⟨rfl,rfl⟩)
        go_ret
        exact⟨ret_bool' (by rw [←HB.out];exact(all_no HX.out HP.out).symm),rfl⟩
    · go_wp2
      go_ret
      exact⟨ret_bool' (by rw [←HB.out];exact(all_end HR.out.1 (by rw [show n=k by omega];exact hz.out)).symm),rfl⟩
end Go.Proofs.YtpnlbjnbgemocaaGreat
