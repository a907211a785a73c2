import Derived.Test.YtpnlbjnbgemocaaGreatZEyREyS
import Derived.Test.YtpnlbjnbgemocaaGreatZMdAMdBSfQ
import Derived.ProofKit
import Derived.OpenShut
import Derived.ShutString
import Derived.ChangeOld
import Derived.Lib.SmallJoins
import Derived.SizedLaws
namespace Go.Proofs.YtpnlbjnbgemocaaGreat
set_option linter.unusedVariables false
set_option linter.unusedSimpArgs false
set_option maxRecDepth 100000
open Go.ChangeShapes Go.WideShapes Go.ChangeAt Go.RowKit Go.Joins
theorem deed_tr {w:World}{cs:List Value}(h:Tr w 48 cs):∃ d i f m q,Value.agg cs.toArray=.agg #[.int .i64 d.kind,.slice i.1 i.2.1 i.2.2,.slice f.1 f.2.1 f.2.2,.bool d.dt.neg,.slice m.1 m.2.1 m.2.2,.slice q.1 q.2.1 q.2.2,.int .i64 d.bits]∧DeedIs w w.heap.size d i f m q:=by
  have hl:cs.length=7:=(h.struct Tryz.underlying48).1.trans (by kernel_rfl)
  have hs:=(h.struct Tryz.underlying48).2
  obtain⟨v0,v1,v2,v3,v4,v5,v6,rfl⟩:=len7 hl
  have k0:Tr w 3 [v0]:=hs 0 _ rfl
  have k1:Tr w 40 [v1]:=hs 1 _ rfl
  have k2:Tr w 41 [v2]:=hs 2 _ rfl
  have k3:Tr w 46 [v3,v4,v5]:=hs 3 _ rfl
  have k4:Tr w 3 [v6]:=hs 4 _ rfl
  have hs3:=(k3.struct Tryz.underlying46).2
  have j0:Tr w 44 [v3,v4]:=hs3 0 _ rfl
  have j1:Tr w 42 [v5]:=hs3 1 _ rfl
  have hs4:=(j0.struct Tryz.underlying44).2
  have l0:Tr w 4 [v3]:=hs4 0 _ rfl
  have l1:Tr w 42 [v4]:=hs4 1 _ rfl
  obtain⟨x0,e0,b0⟩:=k0.i64 Tryz.underlying3
  obtain⟨a1,n1,c1,xs1,rfl,r1⟩:=SRow.of_tr 3 Tryz.underlying40 (by kernel_rfl) (by decide) k1 (fun _ _ _=>rat_came)
  obtain⟨a2,n2,c2,xs2,rfl,r2⟩:=SRow.of_tr (R:=BoolAt) 1 Tryz.underlying41 (by kernel_rfl) (by decide) k2 (fun _ _ _ q1 q2 q3 q4=>bool_came q1 q2 q3 q4)
  obtain⟨x3,e3⟩:=l0.bool Tryz.underlying4
  obtain⟨a4,n4,c4,xs4,rfl,r4⟩:=urow_of_tr l1
  obtain⟨a5,n5,c5,xs5,rfl,r5⟩:=urow_of_tr j1
  obtain⟨x6,e6,b6⟩:=k4.i64 Tryz.underlying3
  injection e0 with e0;injection e3 with e3;injection e6 with e6
  subst e0 e3 e6
  exact⟨⟨x0,xs1,xs2,⟨x3,xs4,xs5⟩,x6⟩,(a1,n1,c1),(a2,n2,c2),(a4,n4,c4),(a5,n5,c5),rfl,b0,r1,r2,r4,r5,b6⟩
theorem deed_of_trod {H:Type}{enc:TypeId×Value→H}{r:Reach}{b0:Nat}{W:World}{v:Value}{d:DataW H}{p:List MemPlace}{base:Nat}
    (hv:Value.okWide Tryz.prog W r b0 48 v) (h:DataW.Trod enc Tryz.prog W base (fun _=>true) true 48 v d p) (hz:∀ n∈d.weights Tryz.prog 48,n≤reachBytes):∃ d i f m q,v=.agg #[.int .i64 d.kind,.slice i.1 i.2.1 i.2.2,.slice f.1 f.2.1 f.2.2,.bool d.dt.neg,.slice m.1 m.2.1 m.2.2,.slice q.1 q.2.1 q.2.2,.int .i64 d.bits]∧DeedIs W W.heap.size d i f m q:=by
  obtain⟨cs,rfl,_⟩:=okWide_struct Tryz.underlying48 hv
  obtain⟨fuel,hf⟩:=h
  have ht:Tr W 48 cs.toList:=⟨H,enc,base,_,_,fuel,_,by simpa [Value.cells] using hf,hz⟩
  obtain⟨d,i,f,m,q,e,hi⟩:=deed_tr ht
  exact⟨d,i,f,m,q,by simpa using e,hi⟩
theorem execNone_lifted (os:Os)(started:os.Started)(H:Type)(enc:TypeId×Value→H) :
    ReturnsInHanded {} Tryz.checked os 6 .any (Rows.execNoneSpec.pre6 enc Tryz.prog Tryz.f6 Rows.execNoneRow.domain false) (Rows.execNoneSpec.post enc Tryz.prog Tryz.f6 false true false false):=by
  refine returnsInHanded_of_change_sized (C:=Tryz.checked) Tryz.ownKnob started (by kernel_rfl) Tryz.func6
    (ChangeSpec.witness6 (enc:=enc) (C:=Tryz.checked) false ⟨#[],#[.agg #[.int .i64 0,.slice none 0 0,.slice none 0 0,.bool false,.slice none 0 0,.slice none 0 0,.int .i64 0]],[]⟩ 8 (by kernel_rfl) (by kernel_rfl) (by kernel_rfl) (by kernel_rfl)) ?_
  intro W base args ds gs before hval0 hW hcnd hz _
  have hval:∀(j:Nat) t v,Tryz.f6.params[j]?=some t→args[j]?=some v→Value.okWide Tryz.prog W .any base t v:=hval0
  have hW':=hW
  obtain⟨p,q,hA0,hV,rfl,hfz,hnd⟩:=hW
  have hA:DataW.TrodAll enc Tryz.prog W 0 (fun _=>true) true Tryz.f6.params.toList args.toList ds p:=hA0
  rw [Tryz.params6] at hA hval
  obtain⟨v0,vs0,d0,ds0,p0,q0,hargs,rfl,rfl,h0,r0⟩:=trodAll_cons hA
  obtain⟨rfl,rfl,rfl⟩:=trodAll_nil r0
  obtain rfl:args=#[v0]:=by cases args;simp_all
  obtain⟨rfl,rfl⟩:=trodVars_none hV
  have k0:=h0
  have lt0:∀ x∈p0,x.block<W.heap.size:=by obtain⟨m,hm⟩:=k0;exact DataW.trod_lt m _ _ _ hm
  obtain⟨d,i,f,m,q,rfl,hfi⟩:=deed_of_trod (hval 0 48 v0 rfl rfl) h0 (fun n hn=>of_decide_eq_true (List.all_eq_true.1 hz n (DataW.weights_mem_each (j:=0) (t:=48) (d:=d0) rfl rfl n hn)))
  clear hA0 hval0
  refine(execNone_walk awake17_t d i f m q W hfi).mono fun e W' ⟨he,bel⟩=>?_
  subst he
  exact⟨_,rfl,_,_,_,[],_,[],hW',trodAll_mk1 (shut_bool Tryz.underlying4 _),(trodAll_cons_mk (Below.trod Tryz.laidOut (by kernel_rfl) (of_decide_eq_true (by kernel_rfl)) k0 bel lt0) trodAll_mk0),rfl,bel.frame _,fun h=>by cases h⟩
theorem execNone_over:Rows.execNoneRow.holds Tryz.pinned (OpenSpec.ofChange Rows.execNoneSpec):=
  OpenClaim.holds_of_wide 6 Tryz.f6 rfl rfl rfl rfl rfl rfl rfl ⟨rfl,rfl,rfl,rfl,rfl⟩ rfl rfl rfl rfl rfl (by kernel_rfl) Tryz.func6 (by kernel_rfl)
    (of_decide_eq_true (by kernel_rfl)) (by unfold Func.isWrapper;first | (rw [if_pos (by decide +kernel)];kernel_rfl) | (rw [if_neg (by decide +kernel)];exact⟨rfl,rfl⟩))
    (fun os started H enc _=>execNone_lifted os started H enc)
theorem execNone_holds:Rows.ExecNoneSaid:=execNone_over
#print axioms execNone_holds
end Go.Proofs.YtpnlbjnbgemocaaGreat
