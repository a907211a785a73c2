import Derived.Test.YtpnlbjnbgemocaaGreatZNAToHpMN7
import Derived.Deep.RegionHeld3
import Derived.Deep.DeepCutAuto
import Derived.Test.YtpnlbjnbgemocaaGreatZPlEToExBN12
import Derived.Deep.RegionWith
namespace Go.Proofs.YtpnlbjnbgemocaaGreat
set_option linter.unusedVariables false
set_option linter.unusedSimpArgs false
set_option maxRecDepth 100000
open Go.RowKit
section
variable {P:Program} {ops:Array Oper} {Q:Exit→Act→World→Prop} {md:Region.Mode} {S:World→Prop}
def listP (base:Array Bool):List Nat→List Bool→Array Bool
  | i::is,b::bs=>if b then(listP base is bs).setIfInBounds i true else listP base is bs
  | _,_=>base
def pats:Nat→List (List Bool)
  | 0=>[[]]
  | n+1=>(pats n).flatMap fun p=>[false::p,true::p]
theorem pats_all:∀ p:List Bool,p∈pats p.length
  | []=>by simp [pats]
  | b::p=>by
    have:=pats_all p
    simp only [pats,List.length_cons,List.mem_flatMap]
    exact⟨p,this,by cases b <;> simp⟩
def patOk (md:Region.Mode)(ops:Array Oper)(base:Array Bool)(idx:List Nat)(ok:List Bool→Bool):Bool:=
  ok (List.replicate idx.length false)&&(pats idx.length).all fun p=>!(ok p)||p.all (fun b=>b)||(!(Region.ready md ops (listP base idx p)).isEmpty&&(Region.ready md ops (listP base idx p)).all fun i=>(List.range idx.length).any fun k=>idx[k]?==some i&&p[k]?==some false&&ok (p.set k true)&&(listP base idx (p.set k true)).toList==((listP base idx p).setIfInBounds i true).toList)
theorem anyOrder (idx:List Nat)(base:Array Bool)(ok:List Bool→Bool)(f0:Nat)(L:List Value→Act)(F:Nat→Value→World→Prop)(mk:Nat→Bool)(bl:Value→Nat)(G:World→Prop)(Rl:World→World→Prop)
    (hok:patOk md ops base idx ok=true)
    (hmono:∀ k v w w',F k v w→Rl w w'→F k v w')
    (hbl:∀ k v w,mk k=true→F k v w→bl v<w.heap.size)
    (hGS:∀ w,G w→S w)
    (hstep:∀(k i:Nat) (p:List Bool) (vs:List Value) (w:World),idx[k]?=some i→p.length=idx.length→vs.length=idx.length→ok p=true→(Region.ready md ops (listP base idx p)).contains i=true→(∀(j:Nat) (v:Value),p[j]?=some true→vs[j]?=some v→F j v w)→G w →
      wpOp P ops Q i (fun a' w'=>∃ v,a'=L (vs.set k v)∧F k v w'∧(mk k=true→w.heap.size≤bl v)∧Rl w w'∧G w') (L vs) w)
    (hend:∀ vs w,vs.length=idx.length→(∀(k:Nat) (v:Value),k<idx.length→vs[k]?=some v→F k v w)→(∀(j k:Nat) (u v:Value),j<idx.length→k<idx.length→mk j=true→mk k=true→vs[j]?=some u→vs[k]?=some v→j≠k→bl u≠bl v)→G w→wpAnyH P md ops Q S f0 (listP base idx (List.replicate idx.length true)) (L vs) w) :
    ∀ n p vs w,p.count false=n→p.length=idx.length→vs.length=idx.length→ok p=true→(∀(k:Nat) (v:Value),p[k]?=some true→vs[k]?=some v→F k v w)→(∀(j k:Nat) (u v:Value),p[j]?=some true→p[k]?=some true→mk j=true→mk k=true→vs[j]?=some u→vs[k]?=some v→j≠k→bl u≠bl v)→G w→wpAnyH P md ops Q S (n+f0) (listP base idx p) (L vs) w
  | 0,p,vs,w=>by
    intro hc hp hv _ hF hD hG
    have e:p=List.replicate idx.length true:=by
      rw [List.eq_replicate_iff]
      refine⟨hp,fun b hb=>?_⟩
      have:=List.count_eq_zero.1 hc
      cases b
      · exact(this hb).elim
      · rfl
    have ht:∀ k,k<idx.length→p[k]?=some true:=fun k hk=>by rw [e];simp [hk]
    rw [Nat.zero_add]
    have:=hend vs w hv (fun k v hk hkv=>hF k v (ht k hk) hkv) (fun j k u v hj hk m1 m2 h1 h2 h3=>hD j k u v (ht j hj) (ht k hk) m1 m2 h1 h2 h3) hG
    rw [e];exact this
  | n + 1, p, vs, w => by
    intro hc hp hv hkp0 hF hD hG
    unfold patOk at hok
    have h1:=(List.all_eq_true.1 (Bool.and_eq_true _ _▸hok).2) p (by rw [←hp];exact pats_all p)
    rw [hkp0,Bool.not_true,Bool.false_or,Bool.or_eq_true] at h1
    rcases h1 with h1 | h1
    · have:false ∉ p:=fun h=>by have:=List.all_eq_true.1 h1 false h;cases this
      have:=List.count_eq_zero.2 this
      omega
    · rw [Bool.and_eq_true] at h1
      obtain⟨hne,hall⟩:=h1
      rw [Nat.succ_add]
      refine wpAnyH_all rfl (fun h=>by rw [h] at hne;cases hne) (fun i hi=>?_)
      have h2:=List.all_eq_true.1 hall i hi
      obtain⟨k,hkr,hk⟩:=List.any_eq_true.1 h2
      simp only [Bool.and_eq_true,beq_iff_eq] at hk
      obtain⟨⟨⟨hki,hkp⟩,hkok⟩,hl⟩:=hk
      have hkl:k<idx.length:=by simpa using hkr
      have hl':listP base idx (p.set k true)=(listP base idx p).setIfInBounds i true:=Array.toList_inj.1 hl
      refine wpOp_mono ?_ (hstep k i p vs w hki hp hv hkp0 (by simpa using hi) hF hG)
      rintro a' w' ⟨v,rfl,hFv,hfr,hb,hG'⟩
      refine⟨hGS _ hG', ?_⟩
      rw [←hl']
      refine anyOrder idx base ok f0 L F mk bl G Rl hok hmono hbl hGS hstep hend n (p.set k true) (vs.set k v) w' ?_ (by simpa using hp) (by simpa using hv) hkok ?_ ?_ hG'
      · have hkp':k<p.length:=by omega
        rw [List.count_set hkp']
        have:p[k]=false:=by rw [List.getElem?_eq_getElem hkp'] at hkp;injection hkp
        rw [this];simp;omega
      · intro j u hj hu
        by_cases e:j=k
        · subst e
          rw [List.getElem?_set_self (by omega)] at hu
          injection hu with hu;subst hu;exact hFv
        · rw [List.getElem?_set_ne (Ne.symm e)] at hj hu
          exact hmono _ _ _ _ (hF j u hj hu) hb
      · intro j m x y hj hm mj mm hx hy hjm
        by_cases e:j=k
        · subst e
          rw [List.getElem?_set_self (by omega)] at hx
          injection hx with hx;subst hx
          rw [List.getElem?_set_ne hjm] at hm hy
          have:=hbl _ _ _ mm (hF m y hm hy)
          have:=hfr mj
          omega
        · rw [List.getElem?_set_ne (Ne.symm e)] at hj hx
          by_cases e2:m=k
          · subst e2
            rw [List.getElem?_set_self (by omega)] at hy
            injection hy with hy;subst hy
            have:=hbl _ _ _ mj (hF j x hj hx)
            have:=hfr mm
            omega
          · rw [List.getElem?_set_ne (Ne.symm e2)] at hm hy
            exact hD j m x y hj hm mj mm hx hy hjm
def need (md:Region.Mode)(ops:Array Oper)(base:Array Bool)(idx:List Nat)(ok:List Bool→Bool)(i j:Nat):Bool:=(pats idx.length).all fun p=>!(ok p)||!(Region.ready md ops (listP base idx p)).contains i||p[j]?==some true
theorem need_spec {base:Array Bool}{idx:List Nat}{ok:List Bool→Bool}{i j:Nat}(h:need md ops base idx ok i j=true){p:List Bool}(hp:p.length=idx.length)(hk:ok p=true)(hr:(Region.ready md ops (listP base idx p)).contains i=true):p[j]?=some true:=by
  have h1:=(List.all_eq_true.1 h) p (by rw [←hp];exact pats_all p)
  rw [hk,hr] at h1
  simpa using h1
theorem opStep {i:Nat}{K:Act→World→Prop}{a:Act}{w:World}(hn:(ops[i]?).isSome=true)
    (h:∀ o,ops[i]?=some o→∀ K':Act→World→Prop,Shut (∀ a w,K a w→K' a w)→if Region.wanted o (yielded ops a.tmps)=true then Oper.wp P o a w K' Q else K' (a.put o.dst undef) w):wpOp P ops Q i K a w:=by
  cases ho:ops[i]? with
  | none=>rw [ho] at hn;cases hn
  | some o=>exact wpOp_step ho (fun K' hK=>h o ho K' hK)
def okE (es:List (Nat×Nat))(p:List Bool):Bool:=es.all fun e=>!(p.getD e.1 false)||p.getD e.2 false
end
section
variable {P:Program} {ops:Array Oper} {Q:Exit→Act→World→Prop} {md:Region.Mode} {S:World→Prop}
theorem takeH (i d:Nat)(v:Value){fuel:Nat}{listed:Array Bool}{a:Act}{w:World}(hd:(ops[i]?).map (·.dst)=some (some d))
    (hs:Region.noSelect ops=true) (hf:Region.free md ops listed i=true) (hr:(Region.ready md ops listed).contains i=true)
    (hQ:∀ c a w,Q (.panic c) (a.put (some d) v) w→Q (.panic c) a w) (hw:(ops[i]?).map (fun o=>Region.wanted o (yielded ops a.tmps))=some true)
    (hy:∀ o,ops[i]?=some o→∀ w,S w→(execOp a.eval o).run P w=.ok (.value v) w) (hS:S w)
    (h:wpAnyH P md ops Q S fuel (listed.setIfInBounds i true) (a.put (some d) v) w):wpAnyH P md ops Q S (fuel+1) listed a w:=by
  cases ho:ops[i]? with
  | none=>rw [ho] at hd;cases hd
  | some o=>
    have h5:=hy o ho
    rw [ho] at hd hw
    have e1:o.dst=some d:=by simpa using hd
    have e2:Region.wanted o (yielded ops a.tmps)=true:=by simpa using hw
    exact wpAnyH_take (oi:=o) (v:=v) ho hs hf hr (by rw [e1];exact hQ) (Or.inl ⟨e2,h5⟩) hS (by rw [e1];exact h)
theorem callH (i:Nat){fuel:Nat}{listed:Array Bool}{a:Act}{w:World}(hr:Region.ready md ops listed=[i])(hn:(ops[i]?).isSome=true)
    (h:∀ o,ops[i]?=some o→∀ K':Act→World→Prop,Shut (∀ a w,S w→(S w→wpAnyH P md ops Q S fuel (listed.setIfInBounds i true) a w)→K' a w)→if Region.wanted o (yielded ops a.tmps)=true then Oper.wp P o a w K' Q else K' (a.put o.dst undef) w):wpAnyH P md ops Q S (fuel+1) listed a w:=by
  refine wpAnyH_ready (rs:=[i]) hr (by simp) ?_
  cases ho:ops[i]? with
  | none=>rw [ho] at hn;cases hn
  | some o=>exact AllReadyH.cons ho (h o ho) AllReadyH.nil
end
theorem mk_run (T E:TypeId)(zc:Array Value)(sz b:Nat)(hu:Tryz.prog.underlying T=some (.slice E))(hinfo:(Tryz.prog.info? E).map (fun i=>(i.zero,i.size,i.bytes))=some (some (.agg zc),sz,b))(hz:(Value.agg zc).cells=zc)(hb:b≤1000)(n:Nat)(hn:n≤1000000)(w:World) :
    (Instr.makeSlice T (.int .i64 (n:Int)) (.int .i64 (n:Int))).run Tryz.prog w=.ok (.slice (some ⟨w.heap.size,0,none⟩) n n) (w.alloc (.cells (madeCells zc (n*sz)) E)):=by
  obtain⟨i,hi,hz0,hz1,hz2⟩:=info_parts hinfo
  have hr:=run_make (P:=Tryz.prog) w T E i _ hu hi hz0 .i64 .i64 n n (by omega) (Int.le_refl _) (by rw [hz2];have:(b:Int)*n≤1000*1000000:=Int.mul_le_mul (by omega) (by omega) (by omega) (by omega);omega) (by omega)
  simp only [Int.toNat_natCast] at hr
  rw [hr,hz,hz1]
theorem mkG {w:World}{ops:Array Oper}{rest:List Oper}{o:Oper}{a:Act}{Q:Exit→Act→World→Prop}(T E:TypeId)(zc:Array Value)(sz b:Nat)(hu:Tryz.prog.underlying T=some (.slice E))(hinfo:(Tryz.prog.info? E).map (fun i=>(i.zero,i.size,i.bytes))=some (some (.agg zc),sz,b))(hz:(Value.agg zc).cells=zc)(hb:b≤1000)
    (hg:o.guard=none) (l:Operand) (hop:o.op=Op.makeSlice T l l) (n:Nat) (hl:a.eval l=.int .i64 (n:Int)) (hn:n≤1000000)
    (hK:wpList Tryz.prog ops Q rest (a.put o.dst (.slice (some ⟨w.heap.size,0,none⟩) n n)) (w.alloc (.cells (madeCells zc (n*sz)) E))) :
    wpList Tryz.prog ops Q (o::rest) a w:=by
  refine wpList_plain hg fun K hK'=>?_
  have hr:=mk_run T E zc sz b hu hinfo hz hb n hn w
  unfold Oper.wp
  simp [execOp,hop,hl,hr,Result.andThen]
  exact hK' _ _ hK
def zVal:Array Value:=#[.int .i64 0,.bool false,.slice none 0 0,.slice none 0 0,.string ⟨#[]⟩]
def zIns:Array Value:=#[.string ⟨#[]⟩,.int .i64 0,.slice none 0 0,.int .i64 0,.int .i64 0,.bool false,.slice none 0 0,.slice none 0 0,.string ⟨#[]⟩,.int .i64 0,.slice none 0 0]
def zRate:Array Value:=#[.bool false,.int .i64 0,.bool false,.slice none 0 0,.slice none 0 0,.string ⟨#[]⟩]
def zLine:Array Value:=#[.int .i64 0,.bool false,.slice none 0 0,.slice none 0 0,.string ⟨#[]⟩,.int .i64 0,.bool false,.slice none 0 0,.slice none 0 0,.string ⟨#[]⟩]
theorem Tryz.zInfo51:(Tryz.prog.info? 51).map (fun i=>(i.zero,i.size,i.bytes))=some (some (.agg zVal),5,80):=by kernel_rfl
theorem Tryz.zInfo96:(Tryz.prog.info? 96).map (fun i=>(i.zero,i.size,i.bytes))=some (some (.agg zIns),11,168):=by kernel_rfl
theorem Tryz.zInfo100:(Tryz.prog.info? 100).map (fun i=>(i.zero,i.size,i.bytes))=some (some (.agg zRate),6,88):=by kernel_rfl
theorem Tryz.zInfo105:(Tryz.prog.info? 106).map (fun i=>(i.zero,i.size,i.bytes))=some (some (.agg zLine),10,160):=by kernel_rfl
theorem zVal_cells:(Value.agg zVal).cells=zVal:=by rfl
theorem zIns_cells:(Value.agg zIns).cells=zIns:=by rfl
theorem zRate_cells:(Value.agg zRate).cells=zRate:=by rfl
theorem zLine_cells:(Value.agg zLine).cells=zLine:=by rfl
theorem made_get {z:Array Value}{n p:Nat}(hp:p<n):(madeCells z n)[p]?=some (z[p % z.size]!):=by
  simp [madeCells,hp]
theorem made_zero (z:Array Value):madeCells z 0=#[]:=by simp [madeCells]
end Go.Proofs.YtpnlbjnbgemocaaGreat
namespace Go.Proofs.YtpnlbjnbgemocaaGreat
set_option linter.unusedVariables false
set_option linter.unusedSimpArgs false
set_option maxRecDepth 100000
open Go.RowKit Gr
theorem getD_map {l:List Nat}(k:Nat):(ints l).getD k 0=((l.getD k 0:Nat):Int):=ints_getD l k
theorem chain_lst:IsLst [[],[0],[1]] [0,1,2]:=by
  have e0:∀ k,¬ E [[],[0],[1]] 0 k:=by rintro k ⟨_,_,h⟩;simp at h
  have e1:∀ k,E [[],[0],[1]] 1 k→k=0:=by rintro k ⟨_,_,h⟩;simp at h;omega
  have e2:∀ k,E [[],[0],[1]] 2 k→k=1:=by rintro k ⟨_,_,h⟩;simp at h;omega
  have n1:E [[],[0],[1]] 1 0:=⟨by simp,by simp,by simp⟩
  have n2:E [[],[0],[1]] 2 1:=⟨by simp,by simp,by simp⟩
  intro a b x e
  match a,e with
  | [],e=>
    simp at e
    obtain⟨rfl,rfl⟩:=e
    exact⟨⟨by simp,by simp,fun k hk=>(e0 k hk).elim⟩,fun y _=>Nat.zero_le _⟩
  | [p],e=>
    simp at e
    obtain⟨rfl,rfl,rfl⟩:=e
    refine⟨⟨by simp,by simp,fun k hk=>by rw [e1 k hk];simp⟩,fun y hy=>?_⟩
    have:=hy.2.1
    simp at this;omega
  | [p,q],e=>
    simp at e
    obtain⟨rfl,rfl,rfl,rfl⟩:=e
    refine⟨⟨by simp,by simp,fun k hk=>by rw [e2 k hk];simp⟩,fun y hy=>?_⟩
    have:=hy.2.1
    simp at this;omega
  | p::q::r::s,e=>simp at e
end Go.Proofs.YtpnlbjnbgemocaaGreat
namespace Go.Proofs.YtpnlbjnbgemocaaGreat
set_option linter.unusedVariables false
set_option linter.unusedSimpArgs false
set_option maxRecDepth 100000
open Go.RowKit
theorem asksB_app (f:FlatM):∀(i:Nat) (l m:List COpM),asksB f i (l++m)=(asksB f i l&&asksB f (i+l.length) m):=by
  intro i l
  induction l generalizing i with
  | nil=>intro m;rfl
  | cons o l ih=>
    intro m
    show(askB f i o&&asksB f (i+1) (l++m))=((askB f i o&&asksB f (i+1) l)&&asksB f (i+(l.length+1)) m)
    rw [ih (i+1) m,Bool.and_assoc,show i+1+l.length=i+(l.length+1) by omega]
theorem asksB_succ {f:FlatM}{l:List COpM}{k:Nat}{o:COpM}(h:l[k]?=some o):asksB f 0 (l.take (k+1))=(asksB f 0 (l.take k)&&askB f k o):=by
  have hk:k<l.length:=(List.getElem?_eq_some_iff.1 h).1
  rw [List.take_add_one,h,asksB_app]
  show(_&&(askB f (0+(l.take k).length) o&&true))=_
  rw [List.length_take,Nat.min_eq_left (Nat.le_of_lt hk),Nat.zero_add,Bool.and_true]
theorem asksB_no {f:FlatM}{l:List COpM}{k:Nat}{o:COpM}(h:l[k]?=some o)(hn:askB f k o=false):asksB f 0 l=false:=by
  have e:=asksB_app f 0 (l.take (k+1)) (l.drop (k+1))
  rw [List.take_append_drop,asksB_succ h,hn] at e
  rw [e];simp
theorem asksB_end {f:FlatM}{l:List COpM}{n:Nat}(hn:l.length=n)(h:asksB f 0 (l.take n)=true):asksB f 0 l=true:=by
  rwa [List.take_of_length_le (by omega)] at h
theorem crossB_guard {f:FlatM}{x:CrossM}(h:guB x.guard f.names.length=false):crossB f x=false:=by
  unfold crossB;rw [h];simp
end Go.Proofs.YtpnlbjnbgemocaaGreat
namespace Go.Proofs.YtpnlbjnbgemocaaGreat
set_option linter.unusedVariables false
set_option linter.unusedSimpArgs false
set_option maxRecDepth 100000
open Go.RowKit
theorem goodB_0 {f:FlatM}(h:onceB f=false):goodB f=false:=by unfold goodB;rw [h];rfl
theorem goodB_1 {f:FlatM}(h:eqsB f=false):goodB f=false:=by unfold goodB;rw [h];simp
theorem goodB_2 {f:FlatM}(h:keptB f=false):goodB f=false:=by unfold goodB;rw [h];simp
theorem goodB_3 {f:FlatM}(h:crsB f=false):goodB f=false:=by unfold goodB;rw [h];simp
end Go.Proofs.YtpnlbjnbgemocaaGreat
