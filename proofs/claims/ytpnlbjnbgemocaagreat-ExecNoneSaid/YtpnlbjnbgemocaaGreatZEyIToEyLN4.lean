import Derived.Test.YtpnlbjnbgemocaaGreatZEyDToRpRN7
import Derived.Test.YtpnlbjnbgemocaaGreatZExT
import Derived.Deep.DeepCutAuto
import Derived.Deep.RegionLaw
import Derived.Deep.RegionHeld3
namespace Go.Proofs.YtpnlbjnbgemocaaGreat
set_option linter.unusedVariables false
set_option linter.unusedSimpArgs false
set_option maxRecDepth 100000
open Go.RowKit Nums
theorem NoU.mem {arr:Array Value}:NoU arr↔∀ u∈arr.toList,∀ z:Int,u≠Value.int .u32 z:=by
  constructor
  · intro h u hu
    obtain⟨i,hi,e⟩:=List.mem_iff_getElem.1 hu
    exact h i u (by rw [←Array.getElem?_toList,List.getElem?_eq_getElem hi,e])
  · intro h p u hu
    rw [←Array.getElem?_toList] at hu
    exact h u (List.mem_of_getElem? hu)
theorem VM.cs_noU (x:VM):∀ u∈x.cs,∀ z:Int,u≠Value.int .u32 z:=by
  intro u hu z
  simp only [VM.cs,List.mem_cons,List.not_mem_nil,or_false] at hu
  rcases hu with rfl | rfl | rfl | rfl | rfl <;> simp
def NoUB (w:World)(v:Value):Prop:=∀ h,v.ownBlock=some h→∃ cur T,Blk w h T cur∧NoU cur
def OwnZ (w:World)(B:Nat)(v:Value)(xs:List VM):Prop:=OwnW w B v xs∧NoUB w v
section
variable {w w':World} {B B':Nat} {v:Value} {xs:List VM}
theorem OwnZ.only {S:List (Option Nat)}(h:OwnZ w B v xs)(hb:Only S w w')(hv:∀ k,v.ownBlock=some k→some k ∉ S):OwnZ w' B v xs:=
  ⟨h.1.only hb hv,fun k hk=>by obtain⟨cur,T,h1,h2⟩:=h.2 k hk;exact⟨cur,T,(hb.block k h1.lt (hv k hk)).trans h1,h2⟩⟩
theorem OwnZ.later (h:OwnZ w B v xs)(hb:Below w.heap.size w w'):OwnZ w' B v xs:=
  ⟨h.1.later hb,fun k hk=>by obtain⟨cur,T,h1,h2⟩:=h.2 k hk;exact⟨cur,T,h1.later hb,h2⟩⟩
theorem OwnZ.more (h:OwnZ w B v xs)(hB:B'≤B):OwnZ w B' v xs:=⟨h.1.more hB,h.2⟩
theorem OwnZ.nil (w:World)(B:Nat):OwnZ w B (.slice none 0 0) []:=⟨OwnW.nil w B,fun k hk=>by simp [Value.ownBlock] at hk⟩
theorem OwnZ.one {x:VM}(h:OwnZ w B v [x]):∃ g c,v=.slice (some ⟨g,0,none⟩) 1 c:=by
  rcases h.1.2 with ⟨_,h0⟩ | ⟨g,cap,cur,rfl,_⟩
  · simp at h0
  · exact⟨g,cap,rfl⟩
theorem OwnZ.cut {g n c:Nat}(h:OwnZ w B (.slice (some ⟨g,0,none⟩) n c) xs):OwnZ w B (.slice (some ⟨g,0,none⟩) 0 c) []:=by
  refine⟨?_,fun k hk=>h.2 k hk⟩
  rcases h.1.2 with ⟨h0,_⟩ | ⟨g',cap,cur,hv,hb,hg,hn,hc,hs,ht⟩
  · cases h0
  · injection hv with e1 e2 e3
    injection e1 with e1
    injection e1 with e1
    subst e1 e3
    exact⟨by simp [flatW],Or.inr ⟨g,c,cur,rfl,hb,hg,Nat.zero_le _,hc,hs,by simp [flatW]⟩⟩
theorem RV.Is.onlyU {r:RV}{k j g T:Nat}{q:Rat}{cur:Array Value}(h:r.Is k j q w)(hx:Blk w g T cur)(hn:NoU cur)(ho:Only [some g] w w'):r.Is k j q w':=by
  have key:∀ {a:Option Addr} {n c:Nat} {xs:List Nat},Row w a n c xs→Row w' a n c xs:=by
    intro a n c xs hr
    obtain⟨h1,h2,h3,h4,h5,b,off,h6,h7⟩:=hr
    refine⟨h1,h2,h3,h4,h5,b,off,h6,fun i hi=>⟨Nat.lt_of_lt_of_le (h7 i hi).1 ho.size, ?_⟩⟩
    have hc:=(h7 i hi).2
    have hne:b≠g:=by
      rintro rfl
      rw [cell_of_row w b (off+i) _ T (0,0) hx] at hc
      exact hn _ _ hc _ rfl
    exact(ho.cell (p:=⟨b,off+i,none⟩) (h7 i hi).1 (by simp;exact hne)).trans hc
  obtain⟨xs,ys,h1,h2,h3⟩:=h
  exact⟨xs,ys,key h1,key h2,h3⟩
end
theorem zero_noU (n:Nat):∀ u∈(Builtin.zeroCells zVal n).toList,∀ z:Int,u≠Value.int .u32 z:=by
  intro u hu z
  simp only [Builtin.zeroCells] at hu
  simp at hu
  obtain⟨i,_,rfl⟩:=hu
  exact zVal_noU _ z
theorem runZ (w:World)(ty:TypeId)(B:Nat)(v:Value)(xs:List VM)(hown:OwnZ w B v xs)(ad:Addr)(c:Nat)(X:VM)(hn:∀ j u,(flatW [X])[j]?=some u→w.cell? (ad.add j)=some u)(hB:B≤w.heap.size)(hl:xs.length≤1000000) :
    ∃ v' w',(Builtin.append_ #[22,22] ty #[v,.slice (some ad) 1 c]).run Tryz.prog w=.ok v' w'∧OwnZ w' B v' (xs++[X])∧Only [v.ownBlock] w w'∧(v'.ownBlock=v.ownBlock∨∃ k,v'.ownBlock=some k∧w.heap.size≤k):=by
  obtain⟨v',w',hr,h2,h3,h4⟩:=runW w ty B v xs hown.1 ad 1 c [X] rfl hn hB (by omega) (by omega)
  refine⟨v',w',hr,⟨h2, ?_⟩,h3,h4⟩
  obtain⟨i0,hi,hz0,hz1,hz2⟩:=info_parts Tryz.infoVaW
  have hX:∀ u∈flatW [X],∀ z:Int,u≠Value.int .u32 z:=fun u hu=>X.cs_noU u (by simpa [flatW] using hu)
  have hXl:(flatW [X]).length=1*i0.size:=by rw [flatW_len,hz1];rfl
  have hcs:(Value.agg #[.int .i64 0,.bool false,.slice none 0 0,.slice none 0 0,.string ⟨#[]⟩]).cells=zVal:=zVal_cells
  rcases hown.1.2 with ⟨rfl,h0⟩ | ⟨g,cap,cur,rfl,hbg,hg,hnc,hcm,hcs',htake⟩
  · have hr2:=run_append_nil (P:=Tryz.prog) w 22 ty 51 i0 _ Tryz.underlying22 hi hz0 ad 1 c (flatW [X]) hXl hn (by omega) (by omega) (by rw [hz2];omega)
    rw [hr] at hr2
    injection hr2 with e1 e2
    subst e1 e2
    intro h hh
    simp [Value.ownBlock] at hh
    subst hh
    refine⟨_,_,heap_alloc_new w.drew _,NoU.mem.2 fun u hu=>?_⟩
    rw [Array.toList_append,List.mem_append] at hu
    rcases hu with hu | hu
    · exact hX u (by simpa using hu)
    · rw [hcs] at hu;exact zero_noU _ u hu
  · obtain⟨cur2,T2,hk2,hno⟩:=hown.2 g rfl
    have hcur:cur2=cur:=by
      have e:some (Obj.cells cur2 T2 (0,0))=some (Obj.cells cur 51 (0,0)):=hk2.symm.trans hg
      injection e with e;injection e
    subst hcur
    have hno':=NoU.mem.1 hno
    by_cases hroom:xs.length+1≤cap
    · have hr2:=run_append_room (P:=Tryz.prog) w 22 ty 51 i0 Tryz.underlying22 hi g xs.length cap cur2 hg ad 1 c (flatW [X]) hXl hn (fun u hu=>X.cs_one u (by simpa [flatW] using hu)) hroom (by rw [flatW_len,hz1,hcs'];have:=Nat.mul_le_mul_right 5 hroom;simp;omega)
      rw [hr] at hr2
      injection hr2 with e1 e2
      subst e1 e2
      intro h hh
      simp [Value.ownBlock] at hh
      subst hh
      refine⟨_,_,setRow_heap w g cur2 _ _ _ hg,NoU.mem.2 fun u hu=>?_⟩
      simp only [List.mem_append] at hu
      rcases hu with (hu | hu) | hu
      · exact hno' u (List.mem_of_mem_take hu)
      · exact hX u hu
      · exact hno' u (List.mem_of_mem_drop hu)
    · have hr2:=run_append_grow (P:=Tryz.prog) w 22 ty 51 i0 _ Tryz.underlying22 hi hz0 ⟨g,0,none⟩ xs.length cap (flatW xs) (by rw [flatW_len,hz1]) (hown.1.cells (g:=g) rfl) ad 1 c (flatW [X]) hXl hn (by omega) (by omega) (growslice_fits (by omega) (by rw [hz2];omega))
      rw [hr] at hr2
      injection hr2 with e1 e2
      subst e1 e2
      intro h hh
      simp [Value.ownBlock] at hh
      subst hh
      refine⟨_,_,heap_alloc_new w.drew _,NoU.mem.2 fun u hu=>?_⟩
      rw [Array.toList_append,Array.toList_append,List.mem_append,List.mem_append] at hu
      rcases hu with (hu | hu) | hu
      · have hu':u∈flatW xs:=by simpa using hu
        unfold flatW at hu'
        rw [List.mem_flatMap] at hu'
        obtain⟨y,_,hy⟩:=hu'
        exact y.cs_noU u hy
      · exact hX u (by simpa using hu)
      · rw [hcs] at hu;exact zero_noU _ u hu
theorem stepZY {w:World}{ops:Array Oper}{o:Oper}{a:Act}{K:Act→World→Prop}{Q:Exit→Act→World→Prop}{E:Prop}{cs:Array Value}(hgd:o.guard=none)(s x:Operand)
    (hop:o.op=.call { callee:=.builtin .append,args:=#[s,x],argTypes:=#[22,22] })
    (B:Nat) (v:Value) (xs:List VM) (X:VM) (T:TypeId) (H:Nat) (hs:a.eval s=v) (hx:a.eval x=.slice (some ⟨H,0,none⟩) 1 1) (hH:w.heap.size=H) (hcs:X.cs.toArray=cs) (hown:OwnZ w B v xs) (hB:B≤H) (hl:xs.length≤1000000)
    (hK:∀ v' w',OwnZ w' B v' (xs++[X])→Only [v.ownBlock] w w'→(v'.ownBlock=v.ownBlock∨∃ k,v'.ownBlock=some k∧H≤k)→K (a.put o.dst v') w') :
    if Region.wanted o (yielded ops a.tmps)=true then Oper.wp Tryz.prog o a (w.alloc (.cells cs T)) K Q else E:=by
  subst hH hcs
  have hw:Region.wanted o (yielded ops a.tmps)=true:=by simp [Region.wanted,hgd]
  rw [if_pos hw]
  obtain⟨v',w',hr',h2,h3,h4⟩:=runZ (w.alloc (.cells X.cs.toArray T)) o.type B v xs (hown.later ((Below.refl _ _).alloc (Nat.le_refl _) _)) ⟨w.heap.size,0,none⟩ 1 X (cell_val_new w X T rfl) (by simp;omega) hl
  unfold Oper.wp execOp
  simp only [hop,resolve,invoke,builtin,Sem.run_bind,Sem.run_pure,Result.andThen_ok,List.map_toArray,List.map_cons,List.map_nil,hs,hx,hr']
  refine hK v' w' h2 ((Only.refl _ w |>.alloc _).trans h3) ?_
  rcases h4 with h | ⟨k,h,hk⟩
  · exact Or.inl h
  · exact Or.inr ⟨k,h,by simp at hk;omega⟩
theorem stepZD {w:World}{ops:Array Oper}{o:Oper}{a:Act}{K:Act→World→Prop}{Q:Exit→Act→World→Prop}{E:Prop}{cs:Array Value}(hgd:o.guard=none)(s x:Operand)
    (hop:o.op=.call { callee:=.builtin .append,args:=#[s,x],argTypes:=#[22,22] })
    (B:Nat) (v:Value) (xs:List VM) (X:VM) (T:TypeId) (H:Nat) (hs:a.eval s=v) (hx:a.eval x=.slice (some ⟨H,0,none⟩) 1 1) (hH:w.heap.size=H) (hcs:X.cs.toArray=cs) (hown:OwnZ w B v xs) (hB:B≤H) (hl:xs.length≤1000000)
    (hK:∀ v' w',OwnZ w' B v' (xs++[X])→Only [v.ownBlock] w w'→(v'.ownBlock=v.ownBlock∨∃ k,v'.ownBlock=some k∧H≤k)→K (a.put o.dst v') w') :
    if Region.wanted o (yielded ops a.tmps)=true then Oper.wp Tryz.prog o a (w.alloc (.cells cs T)).drew K Q else E:=
  stepZY (w:=w.drew) hgd s x hop B v xs X T H hs hx hH hcs (hown.later (Below.refl _ _).drew) hB hl fun v' w' h1 h2 h3=>hK v' w' h1 ((Only.refl _ w).drew.trans h2) h3
end Go.Proofs.YtpnlbjnbgemocaaGreat
namespace Go.Proofs.YtpnlbjnbgemocaaGreat
set_option linter.unusedVariables false
set_option linter.unusedSimpArgs false
set_option maxRecDepth 100000
open Go.RowKit Nums
set_option maxHeartbeats 8000000 in
theorem equation_negN {w:World}(g sb ab ao ca ns cs s:Nat)(bits:Int)(dv bg:Bool)(x:VM)(m3 m4 m5 m6 m7 m8 m9 m10 m11 m12 m13 m15 m16 m17 m18 m19 m20 d kv l0 l1 l2 l3 l4 rs gi gf:Value)
    (hm:Blk w g 65 #[.int .i64 bits,.bool dv,.bool bg,m3,m4,m5,m6,m7,m8,m9,m10,m11,m12,m13,.slice (some ⟨sb,0,none⟩) ns cs,m15,m16,m17,m18,m19,m20,.slice none 0 0]) (hsl:sb<w.heap.size) (hne:sb≠g) (hx:VAt w sb (s*5) x) (hs:s<ns) (hns:ns≤10) (ha:w.cell? ⟨ab,ao,none⟩=some (.int .i64 (s:Int))) (hab:ab<w.heap.size) (hag:ab≠g) (hk:x.k≠0) (ht:¬ bits<(bitsQ (-x.q):Int)) :
    Calls Tryz.prog 104 #[.pointer (some ⟨g,0,none⟩),.agg #[.string ⟨#[110,101,103]⟩,d,.slice (some ⟨ab,ao,none⟩) 1 ca,kv,l0,l1,l2,l3,l4,.int .i64 (-1),rs],.agg #[gi,gf]] w fun e w'=>(∃ r:RV,e=.returned (.agg #[.int .i64 2,.bool r.s,.slice r.a r.n r.c,.slice r.b r.m r.d,.string ⟨#[]⟩])∧r.Is 19 19 (-x.q) w')∧Only [some g] w w'∧∃ h c,Blk w' g 65 #[.int .i64 bits,.bool dv,.bool bg,m3,m4,m5,m6,m7,m8,m9,m10,m11,m12,m13,.slice (some ⟨sb,0,none⟩) ns cs,m15,m16,m17,m18,m19,m20,.slice (some ⟨h,0,none⟩) 1 c]∧OwnZ w' w.heap.size (.slice (some ⟨h,0,none⟩) 1 c) [x]∧(w.heap.size≤h):=by
  obtain⟨W1,hW1⟩:∃ W1,W1=w.alloc (.cells #[.string ⟨#[110,101,103]⟩,d,.slice (some ⟨ab,ao,none⟩) 1 ca,kv,l0,l1,l2,l3,l4,.int .i64 (-1),rs] 96):=⟨_,rfl⟩
  obtain⟨W2,hW2⟩:∃ W2,W2=W1.alloc (.cells #[gi,gf] 124):=⟨_,rfl⟩
  obtain⟨W3,hW3⟩:∃ W3,W3=W2.alloc (.cells #[.int .i64 0,.bool false,.slice none 0 0,.slice none 0 0,.string ⟨#[]⟩] 51):=⟨_,rfl⟩
  have hb1:Below w.heap.size w W1:=by rw [hW1];exact below_one _ _
  have hb2:Below W1.heap.size W1 W2:=by rw [hW2];exact below_one _ _
  have hb3:Below W2.heap.size W2 W3:=by rw [hW3];exact below_one _ _
  have hb:Below w.heap.size w W3:=bthen (bthen hb1 hb2) hb3
  have hl1:w.heap.size<W1.heap.size:=by rw [hW1];simp
  have hl2:W1.heap.size<W2.heap.size:=by rw [hW2];simp
  have hl3:W2.heap.size<W3.heap.size:=by rw [hW3];simp
  have hgl:=hm.lt
  have b1:=((show Blk W1 w.heap.size 96 #[.string ⟨#[110,101,103]⟩,d,.slice (some ⟨ab,ao,none⟩) 1 ca,kv,l0,l1,l2,l3,l4,.int .i64 (-1),rs] by rw [hW1];exact Blk.new _ _ _).later hb2).later hb3
  have b3:Blk W3 W2.heap.size 51 #[.int .i64 0,.bool false,.slice none 0 0,.slice none 0 0,.string ⟨#[]⟩]:=by rw [hW3];exact Blk.new _ _ _
  have bm:=hm.later hb
  have hx3:=hx.later hsl hb
  have ha3:=(hb.cell (p:=⟨ab,ao,none⟩) hab).trans ha
  have HS1:=Lib.hid (show w.heap.size+1=W1.heap.size by rw [hW1];simp)
  have HS2:=Lib.hid (show W1.heap.size+1=W2.heap.size by rw [hW2];simp)
  have HS3:=Lib.hid (show w.heap.size+2=W2.heap.size by rw [hW2,hW1];simp)
  obtain⟨W4,hW4⟩:∃ W4,W4=W3.setCell ⟨g,21,none⟩ (.slice none 0 0):=⟨_,rfl⟩
  have bm4:Blk W4 g 65 #[.int .i64 bits,.bool dv,.bool bg,m3,m4,m5,m6,m7,m8,m9,m10,m11,m12,m13,.slice (some ⟨sb,0,none⟩) ns cs,m15,m16,m17,m18,m19,m20,.slice none 0 0]:=by rw [hW4];exact bm.putR 21 _
  have ho4:Only [some g] w W4:=by rw [hW4];exact(Only.of_below hb).trans (Only.set (by simp) _ _ _)
  have hz4:W4.heap.size=W3.heap.size:=by rw [hW4];simp
  have b14:Blk W4 w.heap.size 96 #[.string ⟨#[110,101,103]⟩,d,.slice (some ⟨ab,ao,none⟩) 1 ca,kv,l0,l1,l2,l3,l4,.int .i64 (-1),rs]:=by rw [hW4];exact b1.onlyE (Only.set (S:=[some g]) (by simp) _ _ _) b1.lt (by simp;omega)
  have b34:Blk W4 W2.heap.size 51 #[.int .i64 0,.bool false,.slice none 0 0,.slice none 0 0,.string ⟨#[]⟩]:=by rw [hW4];exact b3.onlyE (Only.set (S:=[some g]) (by simp) _ _ _) b3.lt (by simp;omega)
  have hx4:VAt W4 sb (s*5) x:=by rw [hW4];exact hx3.setM bm (i:=21) rfl (by intro z;simp) hne _
  have ha4:W4.cell? ⟨ab,ao,none⟩=some (.int .i64 (s:Int)):=by rw [hW4,World.cell?_setCell_far _ _ _ _ (fun e=>hag e.symm)];exact ha3
  have HOWN:=Lib.hid (OwnZ.nil W4 w.heap.size)
  have HNE:=Lib.hid (show w.heap.size≤W4.heap.size by have:=hb.size;omega)
  have HBM:=Lib.hid bm4
  have HO:=Lib.hid ho4
  have HB1:=Lib.hid b14
  have HB3:=Lib.hid b34
  have HX:=Lib.hid hx4
  have HA:=Lib.hid ha4
  have HL:=Lib.hid (show w.heap.size<W2.heap.size∧W2.heap.size<W3.heap.size∧W3.heap.size=W4.heap.size∧g<w.heap.size∧sb<w.heap.size∧sb≠g from⟨by omega,hl3,hz4.symm,hgl,hsl,hne⟩)
  have HH:=Lib.hid (And.intro hk (And.intro ht (And.intro hs hns)))
  have p0:=b1.cell 0 rfl
  have p9:=b1.cell 9 rfl
  have g21:=bm.cell 21 rfl
  have f21:=bm.free 21
  have HP:=Lib.hid (b1.cell 2 rfl)
  have HW1:=Lib.hid hW1
  have HW2:=Lib.hid hW2
  have HW3:=Lib.hid hW3
  have HW4:=Lib.hid hW4
  clear hb1 hb2 hb3 hb hl1 hl2 hl3 hgl b1 b3 bm hx3 ha3 bm4 ho4 hz4 b14 b34 hx4 ha4 hm hsl hne hx hs hns ha hab hag hk ht hW1 hW2 hW3 hW4
  go_enter Tryz.func104,Tryz.ntmps104
  go_upto_region 1 with fail
  rw [←HW1.out,←HW2.out,←HW3.out];simp only [HS1.out,HS2.out,HS3.out];clear HW1 HW2 HW3 HS1 HS2 HS3
  go_upto_region 17 with (go_at_call 39;(with_reducible refine(isOn_none _ _).mono ?_);rintro e w1 ⟨rfl,hw⟩;subst hw)
  rw [←HW4.out];clear HW4 p0 p9 g21 f21
  have p2:=HB1.out.cell 2 rfl
  go_upto_region 18 with fail
  clear p2
  go_loopw [104] (fun t wr=>(t=.int .i64 0∧Hid (wr=W4))∨(∃(h:Nat) (c:Nat),t=.int .i64 1∧Hid (Blk wr g 65 #[.int .i64 bits,.bool dv,.bool bg,m3,m4,m5,m6,m7,m8,m9,m10,m11,m12,m13,.slice (some ⟨sb,0,none⟩) ns cs,m15,m16,m17,m18,m19,m20,.slice (some ⟨h,0,none⟩) 1 c])∧Hid (Only [some g] w wr)∧Hid (Blk wr w.heap.size 96 #[.string ⟨#[110,101,103]⟩,d,.slice (some ⟨ab,ao,none⟩) 1 ca,kv,l0,l1,l2,l3,l4,.int .i64 (-1),rs])∧Hid (Blk wr W2.heap.size 51 #[.int .i64 0,.bool false,.slice none 0 0,.slice none 0 0,.string ⟨#[]⟩])∧Hid (OwnZ wr w.heap.size (.slice (some ⟨h,0,none⟩) 1 c) [x])∧Hid (x.r.Is 19 19 x.q wr)∧Hid (W4.heap.size≤h))) (fun t _=>1-(intOf t).toNat)
  case atStart=>exact Or.inl ⟨rfl,Lib.hid rfl⟩
  case round =>
    rcases hrel with ⟨rfl,hwr⟩ | ⟨h,c,rfl,HBM',HO',HB1',HB3',HOW,HXN,HSM⟩
    · have hwr:=hwr.out
      subst hwr
      have HA':=HA.out
      have p21:=HBM.out.cell 21 rfl
      have p14:=HBM.out.cell 14 rfl
      have p21a:∀ o,(wr.alloc o).cell? ⟨g,21,none⟩=some (.slice none 0 0):=fun o=>Lib.cell?_alloc_some _ p21
      obtain⟨c0,c1,c2,c3,c4,-⟩:=HX.out
      have hsI:(s:Int)<(ns:Int):=by have:=HH.out.2.2.1;omega
      have hnsI:(ns:Int)≤10:=by have:=HH.out.2.2.2;omega
      go_upto_region 20 with fail
      go_region_law (refine stepZD rfl _ _ rfl (w.heap.size) (.slice none 0 0) [] x 51 wr.heap.size rfl rfl rfl rfl HOWN.out HNE.out (by simp) ?_;intro v5 w5 hown honly hat;have ho5:Only [none] wr w5:=honly;have hown5:OwnZ w5 (w.heap.size) v5 [x]:=hown;obtain⟨h5,c5,hv5⟩:=hown5.one;subst hv5;have hx5:x.r.Is 19 19 x.q w5:=HX.out.num.later (ho5.below (Nat.le_refl _) (by intro j hj;simp at hj));have hsm:wr.heap.size≤h5:=(by rcases hat with h | ⟨k,h,hk⟩;exact absurd h (by simp [Value.ownBlock]);exact(by have:h5=k:=(by simpa [Value.ownBlock] using h);omega));have HX5:=Lib.hid hx5;have HSM5:=Lib.hid hsm;have HO5:=Lib.hid ho5;have HW5:=Lib.hid hown5;have HBM5:=Lib.hid (HBM.out.onlyE ho5 HBM.out.lt (by simp));have HB15:=Lib.hid (HB1.out.onlyE ho5 HB1.out.lt (by simp));have HB35:=Lib.hid (HB3.out.onlyE ho5 HB3.out.lt (by simp));have q21:=HBM5.out.cell 21 rfl;have qf:=HBM5.out.free 21;clear hown honly hat ho5 hown5 hx5 hsm)
      all_goals
        go_wp2_with fail
        go_roundw
        case rel=>exact Or.inr ⟨h5,c5,rfl,Lib.hid (HBM5.out.putR 21 _),Lib.hid ((HO.out.trans (Only.of_below (HO5.out.below (Nat.le_refl _) (by intro j hj;simp at hj)))).trans (Only.set (by simp) _ _ _)),Lib.hid (HB15.out.onlyE (Only.set (S:=[some g]) (by simp) _ _ _) HB15.out.lt (by simp;have:=HL.out;omega)),Lib.hid (HB35.out.onlyE (Only.set (S:=[some g]) (by simp) _ _ _) HB35.out.lt (by simp;have:=HL.out;omega)),Lib.hid (HW5.out.only (Only.set (S:=[some g]) (by simp) _ _ _) (by intro k hk;simp [Value.ownBlock] at hk;subst hk;have:=HSM5.out;have:=HL.out;have:=HNE.out;simp;omega)),Lib.hid (HX5.out.setB HBM5.out (i:=21) rfl (by intro z;simp) _),HSM5⟩
        case measure=>simp [intOf]
    · have p0:=HB1'.out.cell 0 rfl
      have p21:=HBM'.out.cell 21 rfl
      have HF:=Lib.hid (FAt.ofM HBM'.out)
      obtain⟨a',c',hv,hrow⟩:=HOW.out.1.row (by intro y hy;simp at hy;subst hy;exact HXN.out)
      have HV:=Lib.hid (show VRow wr (some ⟨h,0,none⟩) 1 c [x] by cases hv;exact hrow)
      clear hv hrow
      go_upto_region 22 with fail
      go_region_held3 (fun w'=>w'.cell? ⟨w.heap.size,0,none⟩=some (.string ⟨#[110,101,103]⟩)∧w'.cell? ⟨g,21,none⟩=some (.slice (some ⟨h,0,none⟩) 1 c))
        (first | (refine⟨?_, ?_⟩ <;> with_reducible assumption) | (exact⟨by rw [cell_put5 HL.out.1];exact p0,by rw [cell_put5 (Nat.lt_trans HL.out.2.2.2.1 HL.out.1)];exact p21⟩) | (go_keep;done))
        (first
          | (go_at_call 128
             refine(op_neg (some ⟨h,0,none⟩) c x g bits dv bg (HV.out.later (by first | exact Below.refl _ _ | exact(Below.refl _ _).drew)) HH.out.1 (HF.out.later (by first | exact Below.refl _ _ | exact(Below.refl _ _).drew)) (by have:=HH.out.2.1;omega)).mono ?_
             rintro e w7 ⟨rn,rfl,hn,hb0⟩
             have hb:Below wr.heap.size wr w7:=bthen (by first | exact Below.refl _ _ | exact(Below.refl _ _).drew) hb0
             have HQ:=Lib.hid hn
             have HB7:=Lib.hid hb
             have HBM7:=Lib.hid (HBM'.out.later hb)
             have HK3:=Lib.hid (HB3'.out.later hb)
             clear hn hb0 p0 p21
             have p0:=(HB1'.out.later hb).cell 0 rfl
             have p21:=HBM7.out.cell 21 rfl
             clear hb
             obtain⟨z0,z1,z2,z3,z4⟩:=HK3.out.fiveR
             obtain⟨y0,y1,y2,y3,y4⟩:=HK3.out.fiveF))
      all_goals
        go_wp2_with fail
        exact bodyPost_ret (v:=.agg #[.int .i64 2,.bool rn.s,.slice rn.a rn.n rn.c,.slice rn.b rn.m rn.d,.string ⟨#[]⟩]) (by simp [results,Tryz.results104,go_sem, *]) rfl ⟨⟨rn,rfl,HQ.out.put5 HK3.out _ _ _ _ _⟩,(HO'.out.trans (Only.of_below HB7.out)).andThen (only_put5 _ _ _ _ _ _ _) (by intro k hk hlt;have:=HL.out;simp at hk;omega),h,c,HBM7.out.onlyE (only_put5 _ _ _ _ _ _ _) HBM7.out.lt (by have:=HL.out;simp;omega),(HOW.out.later HB7.out).only (only_put5 _ _ _ _ _ _ _) (by intro k hk;simp [Value.ownBlock] at hk;subst hk;have:=HSM.out;have:=HL.out;have:=HNE.out;simp;omega),(by have:=HSM.out;have:=HL.out;omega)⟩
set_option maxHeartbeats 8000000 in
theorem equation_negO {w:World}(g sb ab ao ca ns cs s:Nat)(bits:Int)(dv bg:Bool)(x:VM)(h0 cc0 B0:Nat)(y:VM)(m3 m4 m5 m6 m7 m8 m9 m10 m11 m12 m13 m15 m16 m17 m18 m19 m20 d kv l0 l1 l2 l3 l4 rs gi gf:Value)
    (hm:Blk w g 65 #[.int .i64 bits,.bool dv,.bool bg,m3,m4,m5,m6,m7,m8,m9,m10,m11,m12,m13,.slice (some ⟨sb,0,none⟩) ns cs,m15,m16,m17,m18,m19,m20,.slice (some ⟨h0,0,none⟩) 1 cc0]) (hown0:OwnZ w B0 (.slice (some ⟨h0,0,none⟩) 1 cc0) [y]) (hB0:B0≤w.heap.size) (hne0:h0≠g∧h0≠sb∧h0≠ab) (hsl:sb<w.heap.size) (hne:sb≠g) (hx:VAt w sb (s*5) x) (hs:s<ns) (hns:ns≤10) (ha:w.cell? ⟨ab,ao,none⟩=some (.int .i64 (s:Int))) (hab:ab<w.heap.size) (hag:ab≠g) (hk:x.k≠0) (ht:¬ bits<(bitsQ (-x.q):Int)) :
    Calls Tryz.prog 104 #[.pointer (some ⟨g,0,none⟩),.agg #[.string ⟨#[110,101,103]⟩,d,.slice (some ⟨ab,ao,none⟩) 1 ca,kv,l0,l1,l2,l3,l4,.int .i64 (-1),rs],.agg #[gi,gf]] w fun e w'=>(∃ r:RV,e=.returned (.agg #[.int .i64 2,.bool r.s,.slice r.a r.n r.c,.slice r.b r.m r.d,.string ⟨#[]⟩])∧r.Is 19 19 (-x.q) w')∧Only [some g,some h0] w w'∧∃ h c,Blk w' g 65 #[.int .i64 bits,.bool dv,.bool bg,m3,m4,m5,m6,m7,m8,m9,m10,m11,m12,m13,.slice (some ⟨sb,0,none⟩) ns cs,m15,m16,m17,m18,m19,m20,.slice (some ⟨h,0,none⟩) 1 c]∧OwnZ w' B0 (.slice (some ⟨h,0,none⟩) 1 c) [x]∧(h=h0∨w.heap.size≤h):=by
  obtain⟨W1,hW1⟩:∃ W1,W1=w.alloc (.cells #[.string ⟨#[110,101,103]⟩,d,.slice (some ⟨ab,ao,none⟩) 1 ca,kv,l0,l1,l2,l3,l4,.int .i64 (-1),rs] 96):=⟨_,rfl⟩
  obtain⟨W2,hW2⟩:∃ W2,W2=W1.alloc (.cells #[gi,gf] 124):=⟨_,rfl⟩
  obtain⟨W3,hW3⟩:∃ W3,W3=W2.alloc (.cells #[.int .i64 0,.bool false,.slice none 0 0,.slice none 0 0,.string ⟨#[]⟩] 51):=⟨_,rfl⟩
  have hb1:Below w.heap.size w W1:=by rw [hW1];exact below_one _ _
  have hb2:Below W1.heap.size W1 W2:=by rw [hW2];exact below_one _ _
  have hb3:Below W2.heap.size W2 W3:=by rw [hW3];exact below_one _ _
  have hb:Below w.heap.size w W3:=bthen (bthen hb1 hb2) hb3
  have hl1:w.heap.size<W1.heap.size:=by rw [hW1];simp
  have hl2:W1.heap.size<W2.heap.size:=by rw [hW2];simp
  have hl3:W2.heap.size<W3.heap.size:=by rw [hW3];simp
  have hgl:=hm.lt
  have b1:=((show Blk W1 w.heap.size 96 #[.string ⟨#[110,101,103]⟩,d,.slice (some ⟨ab,ao,none⟩) 1 ca,kv,l0,l1,l2,l3,l4,.int .i64 (-1),rs] by rw [hW1];exact Blk.new _ _ _).later hb2).later hb3
  have b3:Blk W3 W2.heap.size 51 #[.int .i64 0,.bool false,.slice none 0 0,.slice none 0 0,.string ⟨#[]⟩]:=by rw [hW3];exact Blk.new _ _ _
  have bm:=hm.later hb
  have hx3:=hx.later hsl hb
  have ha3:=(hb.cell (p:=⟨ab,ao,none⟩) hab).trans ha
  have HS1:=Lib.hid (show w.heap.size+1=W1.heap.size by rw [hW1];simp)
  have HS2:=Lib.hid (show W1.heap.size+1=W2.heap.size by rw [hW2];simp)
  have HS3:=Lib.hid (show w.heap.size+2=W2.heap.size by rw [hW2,hW1];simp)
  obtain⟨W4,hW4⟩:∃ W4,W4=W3.setCell ⟨g,21,none⟩ (.slice (some ⟨h0,0,none⟩) 0 cc0):=⟨_,rfl⟩
  have bm4:Blk W4 g 65 #[.int .i64 bits,.bool dv,.bool bg,m3,m4,m5,m6,m7,m8,m9,m10,m11,m12,m13,.slice (some ⟨sb,0,none⟩) ns cs,m15,m16,m17,m18,m19,m20,.slice (some ⟨h0,0,none⟩) 0 cc0]:=by rw [hW4];exact bm.putR 21 _
  have ho4:Only [some g] w W4:=by rw [hW4];exact(Only.of_below hb).trans (Only.set (by simp) _ _ _)
  have hz4:W4.heap.size=W3.heap.size:=by rw [hW4];simp
  have b14:Blk W4 w.heap.size 96 #[.string ⟨#[110,101,103]⟩,d,.slice (some ⟨ab,ao,none⟩) 1 ca,kv,l0,l1,l2,l3,l4,.int .i64 (-1),rs]:=by rw [hW4];exact b1.onlyE (Only.set (S:=[some g]) (by simp) _ _ _) b1.lt (by simp;omega)
  have b34:Blk W4 W2.heap.size 51 #[.int .i64 0,.bool false,.slice none 0 0,.slice none 0 0,.string ⟨#[]⟩]:=by rw [hW4];exact b3.onlyE (Only.set (S:=[some g]) (by simp) _ _ _) b3.lt (by simp;omega)
  have hx4:VAt W4 sb (s*5) x:=by rw [hW4];exact hx3.setM bm (i:=21) rfl (by intro z;simp) hne _
  have ha4:W4.cell? ⟨ab,ao,none⟩=some (.int .i64 (s:Int)):=by rw [hW4,World.cell?_setCell_far _ _ _ _ (fun e=>hag e.symm)];exact ha3
  have HOWN:=Lib.hid (show OwnZ W4 B0 (.slice (some ⟨h0,0,none⟩) 0 cc0) [] from OwnZ.cut (hown0.only ho4 (by intro k hk;simp [Value.ownBlock] at hk;subst hk;simp;exact hne0.1)))
  have hl0:h0<w.heap.size:=(hown0.1.lt rfl).2
  have HNE:=Lib.hid (show h0<w.heap.size∧h0≠g∧h0≠sb∧h0≠ab∧B0≤W4.heap.size from⟨hl0,hne0.1,hne0.2.1,hne0.2.2,by have:=hb.size;omega⟩)
  clear hown0 hne0 hB0 hl0
  have HBM:=Lib.hid bm4
  have HO:=Lib.hid ho4
  have HB1:=Lib.hid b14
  have HB3:=Lib.hid b34
  have HX:=Lib.hid hx4
  have HA:=Lib.hid ha4
  have HL:=Lib.hid (show w.heap.size<W2.heap.size∧W2.heap.size<W3.heap.size∧W3.heap.size=W4.heap.size∧g<w.heap.size∧sb<w.heap.size∧sb≠g from⟨by omega,hl3,hz4.symm,hgl,hsl,hne⟩)
  have HH:=Lib.hid (And.intro hk (And.intro ht (And.intro hs hns)))
  have p0:=b1.cell 0 rfl
  have p9:=b1.cell 9 rfl
  have g21:=bm.cell 21 rfl
  have f21:=bm.free 21
  have HP:=Lib.hid (b1.cell 2 rfl)
  have HW1:=Lib.hid hW1
  have HW2:=Lib.hid hW2
  have HW3:=Lib.hid hW3
  have HW4:=Lib.hid hW4
  clear hb1 hb2 hb3 hb hl1 hl2 hl3 hgl b1 b3 bm hx3 ha3 bm4 ho4 hz4 b14 b34 hx4 ha4 hm hsl hne hx hs hns ha hab hag hk ht hW1 hW2 hW3 hW4
  go_enter Tryz.func104,Tryz.ntmps104
  go_upto_region 1 with fail
  rw [←HW1.out,←HW2.out,←HW3.out];simp only [HS1.out,HS2.out,HS3.out];clear HW1 HW2 HW3 HS1 HS2 HS3
  go_upto_region 17 with (go_at_call 39;(with_reducible refine(isOn_none _ _).mono ?_);rintro e w1 ⟨rfl,hw⟩;subst hw)
  rw [←HW4.out];clear HW4 p0 p9 g21 f21
  have p2:=HB1.out.cell 2 rfl
  go_upto_region 18 with fail
  clear p2
  go_loopw [104] (fun t wr=>(t=.int .i64 0∧Hid (wr=W4))∨(∃(h:Nat) (c:Nat),t=.int .i64 1∧Hid (Blk wr g 65 #[.int .i64 bits,.bool dv,.bool bg,m3,m4,m5,m6,m7,m8,m9,m10,m11,m12,m13,.slice (some ⟨sb,0,none⟩) ns cs,m15,m16,m17,m18,m19,m20,.slice (some ⟨h,0,none⟩) 1 c])∧Hid (Only [some g,some h0] w wr)∧Hid (Blk wr w.heap.size 96 #[.string ⟨#[110,101,103]⟩,d,.slice (some ⟨ab,ao,none⟩) 1 ca,kv,l0,l1,l2,l3,l4,.int .i64 (-1),rs])∧Hid (Blk wr W2.heap.size 51 #[.int .i64 0,.bool false,.slice none 0 0,.slice none 0 0,.string ⟨#[]⟩])∧Hid (OwnZ wr B0 (.slice (some ⟨h,0,none⟩) 1 c) [x])∧Hid (x.r.Is 19 19 x.q wr)∧Hid (h=h0∨W4.heap.size≤h))) (fun t _=>1-(intOf t).toNat)
  case atStart=>exact Or.inl ⟨rfl,Lib.hid rfl⟩
  case round =>
    rcases hrel with ⟨rfl,hwr⟩ | ⟨h,c,rfl,HBM',HO',HB1',HB3',HOW,HXN,HSM⟩
    · have hwr:=hwr.out
      subst hwr
      have HA':=HA.out
      have p21:=HBM.out.cell 21 rfl
      have p14:=HBM.out.cell 14 rfl
      have p21a:∀ o,(wr.alloc o).cell? ⟨g,21,none⟩=some (.slice (some ⟨h0,0,none⟩) 0 cc0):=fun o=>Lib.cell?_alloc_some _ p21
      obtain⟨c0,c1,c2,c3,c4,-⟩:=HX.out
      have hsI:(s:Int)<(ns:Int):=by have:=HH.out.2.2.1;omega
      have hnsI:(ns:Int)≤10:=by have:=HH.out.2.2.2;omega
      go_upto_region 20 with fail
      go_region_law (refine stepZD rfl _ _ rfl (B0) (.slice (some ⟨h0,0,none⟩) 0 cc0) [] x 51 wr.heap.size rfl rfl rfl rfl HOWN.out HNE.out.2.2.2.2 (by simp) ?_;intro v5 w5 hown honly hat;have ho5:Only [some h0] wr w5:=honly;have hown5:OwnZ w5 (B0) v5 [x]:=hown;obtain⟨h5,c5,hv5⟩:=hown5.one;subst hv5;have hx5:x.r.Is 19 19 x.q w5:=(by obtain⟨cur,T0,hk0,hno0⟩:=HOWN.out.2 h0 rfl;exact HX.out.num.onlyU hk0 hno0 ho5);have hsm:h5=h0∨wr.heap.size≤h5:=(by rcases hat with h | ⟨k,h,hk⟩;exact Or.inl (by simpa [Value.ownBlock] using h);exact Or.inr (by have:h5=k:=(by simpa [Value.ownBlock] using h);omega));have HX5:=Lib.hid hx5;have HSM5:=Lib.hid hsm;have HO5:=Lib.hid ho5;have HW5:=Lib.hid hown5;have HBM5:=Lib.hid (HBM.out.onlyE ho5 HBM.out.lt (by have:=HNE.out;have:=HL.out;simp;omega));have HB15:=Lib.hid (HB1.out.onlyE ho5 HB1.out.lt (by have:=HNE.out;have:=HL.out;simp;omega));have HB35:=Lib.hid (HB3.out.onlyE ho5 HB3.out.lt (by have:=HNE.out;have:=HL.out;simp;omega));have q21:=HBM5.out.cell 21 rfl;have qf:=HBM5.out.free 21;clear hown honly hat ho5 hown5 hx5 hsm)
      all_goals
        go_wp2_with fail
        go_roundw
        case rel=>exact Or.inr ⟨h5,c5,rfl,Lib.hid (HBM5.out.putR 21 _),Lib.hid (((HO.out.weak (by intro j hj;simp at hj ⊢;exact Or.inl hj)).trans (HO5.out.weak (by intro j hj;simp at hj ⊢;exact Or.inr hj))).trans (Only.set (by simp) _ _ _)),Lib.hid (HB15.out.onlyE (Only.set (S:=[some g]) (by simp) _ _ _) HB15.out.lt (by simp;have:=HL.out;omega)),Lib.hid (HB35.out.onlyE (Only.set (S:=[some g]) (by simp) _ _ _) HB35.out.lt (by simp;have:=HL.out;omega)),Lib.hid (HW5.out.only (Only.set (S:=[some g]) (by simp) _ _ _) (by intro k hk;simp [Value.ownBlock] at hk;subst hk;have:=HSM5.out;have:=HL.out;have:=HNE.out;simp;omega)),Lib.hid (HX5.out.setB HBM5.out (i:=21) rfl (by intro z;simp) _),HSM5⟩
        case measure=>simp [intOf]
    · have p0:=HB1'.out.cell 0 rfl
      have p21:=HBM'.out.cell 21 rfl
      have HF:=Lib.hid (FAt.ofM HBM'.out)
      obtain⟨a',c',hv,hrow⟩:=HOW.out.1.row (by intro y hy;simp at hy;subst hy;exact HXN.out)
      have HV:=Lib.hid (show VRow wr (some ⟨h,0,none⟩) 1 c [x] by cases hv;exact hrow)
      clear hv hrow
      go_upto_region 22 with fail
      go_region_held3 (fun w'=>w'.cell? ⟨w.heap.size,0,none⟩=some (.string ⟨#[110,101,103]⟩)∧w'.cell? ⟨g,21,none⟩=some (.slice (some ⟨h,0,none⟩) 1 c))
        (first | (refine⟨?_, ?_⟩ <;> with_reducible assumption) | (exact⟨by rw [cell_put5 HL.out.1];exact p0,by rw [cell_put5 (Nat.lt_trans HL.out.2.2.2.1 HL.out.1)];exact p21⟩) | (go_keep;done))
        (first
          | (go_at_call 128
             refine(op_neg (some ⟨h,0,none⟩) c x g bits dv bg (HV.out.later (by first | exact Below.refl _ _ | exact(Below.refl _ _).drew)) HH.out.1 (HF.out.later (by first | exact Below.refl _ _ | exact(Below.refl _ _).drew)) (by have:=HH.out.2.1;omega)).mono ?_
             rintro e w7 ⟨rn,rfl,hn,hb0⟩
             have hb:Below wr.heap.size wr w7:=bthen (by first | exact Below.refl _ _ | exact(Below.refl _ _).drew) hb0
             have HQ:=Lib.hid hn
             have HB7:=Lib.hid hb
             have HBM7:=Lib.hid (HBM'.out.later hb)
             have HK3:=Lib.hid (HB3'.out.later hb)
             clear hn hb0 p0 p21
             have p0:=(HB1'.out.later hb).cell 0 rfl
             have p21:=HBM7.out.cell 21 rfl
             clear hb
             obtain⟨z0,z1,z2,z3,z4⟩:=HK3.out.fiveR
             obtain⟨y0,y1,y2,y3,y4⟩:=HK3.out.fiveF))
      all_goals
        go_wp2_with fail
        exact bodyPost_ret (v:=.agg #[.int .i64 2,.bool rn.s,.slice rn.a rn.n rn.c,.slice rn.b rn.m rn.d,.string ⟨#[]⟩]) (by simp [results,Tryz.results104,go_sem, *]) rfl ⟨⟨rn,rfl,HQ.out.put5 HK3.out _ _ _ _ _⟩,(HO'.out.trans (Only.of_below HB7.out)).andThen (only_put5 _ _ _ _ _ _ _) (by intro k hk hlt;have:=HL.out;simp at hk;omega),h,c,HBM7.out.onlyE (only_put5 _ _ _ _ _ _ _) HBM7.out.lt (by have:=HL.out;simp;omega),(HOW.out.later HB7.out).only (only_put5 _ _ _ _ _ _ _) (by intro k hk;simp [Value.ownBlock] at hk;subst hk;have:=HSM.out;have:=HL.out;have:=HNE.out;simp;omega),(by have:=HSM.out;have:=HL.out;omega)⟩
end Go.Proofs.YtpnlbjnbgemocaaGreat
namespace Go.Proofs.YtpnlbjnbgemocaaGreat
set_option linter.unusedVariables false
set_option linter.unusedSimpArgs false
set_option maxRecDepth 100000
open Go.RowKit Nums
theorem cell_put5q {w:World}{sb o0 o1 o2 o3 o4 h i:Nat}{a b c d e:Value}(hne:sb≠h):(((((w.setCell ⟨sb,o0,none⟩ a).setCell ⟨sb,o1,none⟩ b).setCell ⟨sb,o2,none⟩ c).setCell ⟨sb,o3,none⟩ d).setCell ⟨sb,o4,none⟩ e).cell? ⟨h,i,none⟩=w.cell? ⟨h,i,none⟩:=by
  rw [World.cell?_setCell_far _ _ _ _ hne,World.cell?_setCell_far _ _ _ _ hne,World.cell?_setCell_far _ _ _ _ hne,World.cell?_setCell_far _ _ _ _ hne,World.cell?_setCell_far _ _ _ _ hne]
theorem only_put5q (S:List (Option Nat))(sb o0 o1 o2 o3 o4:Nat)(hS:some sb∈S)(w:World)(a b c d e:Value):Only S w (((((w.setCell ⟨sb,o0,none⟩ a).setCell ⟨sb,o1,none⟩ b).setCell ⟨sb,o2,none⟩ c).setCell ⟨sb,o3,none⟩ d).setCell ⟨sb,o4,none⟩ e):=
  ((((Only.set hS _ _ _).trans (Only.set hS _ _ _)).trans (Only.set hS _ _ _)).trans (Only.set hS _ _ _)).trans (Only.set hS _ _ _)
theorem RV.Is.onlyL {r:RV}{k j:Nat}{q:Rat}{w w':World}{S:List (Option Nat)}(h:r.Is k j q w)(hn:∀ g,some g∈S→∃ cur T,Blk w g T cur∧NoU cur)(ho:Only S w w'):r.Is k j q w':=by
  have key:∀ {a:Option Addr} {n c:Nat} {xs:List Nat},Row w a n c xs→Row w' a n c xs:=by
    intro a n c xs hr
    obtain⟨h1,h2,h3,h4,h5,b,off,h6,h7⟩:=hr
    refine⟨h1,h2,h3,h4,h5,b,off,h6,fun i hi=>⟨Nat.lt_of_lt_of_le (h7 i hi).1 ho.size, ?_⟩⟩
    have hc:=(h7 i hi).2
    have hne:some b ∉ S:=by
      intro hb
      obtain⟨cur,T,hx,hno⟩:=hn b hb
      rw [cell_of_row w b (off+i) _ T (0,0) hx] at hc
      exact hno _ _ hc _ rfl
    exact(ho.cell (p:=⟨b,off+i,none⟩) (h7 i hi).1 hne).trans hc
  obtain⟨xs,ys,h1,h2,h3⟩:=h
  exact⟨xs,ys,key h1,key h2,h3⟩
set_option maxHeartbeats 8000000 in
theorem stepE_in {w:World}(SE:List (Option Nat))(U:Value→World→Prop)(g sb dst ns cs TS:Nat)(q:Rat)(bits:Int)(dv bg:Bool)(m3 m4 m5 m6 m7 m8 m9 m10 m11 m12 m13 m15 m16 m17 m18 m19 m20 u0 aa kv l0 l1 l2 l3 l4 gd rs gi gf:Value)(vs:Array Value)
    (hE:∀ W,Below w.heap.size w W→Calls Tryz.prog 104 #[.pointer (some ⟨g,0,none⟩),.agg #[.string ⟨#[105,110]⟩,.int .i64 (dst:Int),aa,kv,l0,l1,l2,l3,l4,gd,rs],.agg #[gi,gf]] W fun e w'=>(∃ r:RV,e=.returned (.agg #[.int .i64 2,.bool r.s,.slice r.a r.n r.c,.slice r.b r.m r.d,.string ⟨#[]⟩])∧r.Is 19 19 q w')∧Only SE W w'∧∃ u,Blk w' g 65 #[.int .i64 bits,.bool dv,.bool bg,m3,m4,m5,m6,m7,m8,m9,m10,m11,m12,m13,.slice (some ⟨sb,0,none⟩) ns cs,m15,m16,m17,m18,m19,m20,u]∧U u w')
    (hSE:some sb ∉ SE∧∀ j,some j∈SE→j<w.heap.size) (hU:∀ u W W',U u W→Only [some sb] W W'→U u W') (hno:NoU vs) (hvs:vs.size=ns*5)
    (hm:Blk w g 65 #[.int .i64 bits,.bool dv,.bool bg,m3,m4,m5,m6,m7,m8,m9,m10,m11,m12,m13,.slice (some ⟨sb,0,none⟩) ns cs,m15,m16,m17,m18,m19,m20,u0]) (hs:Blk w sb TS vs) (hne:sb≠g) (hd:dst<ns) (hns:ns≤10) :
    Calls Tryz.prog 61 #[.pointer (some ⟨g,0,none⟩),.agg #[.string ⟨#[105,110]⟩,.int .i64 (dst:Int),aa,kv,l0,l1,l2,l3,l4,gd,rs],.agg #[gi,gf]] w fun e w'=>e=.returned (.tuple #[])∧Only (some sb::SE) w w'∧(∃ u,Blk w' g 65 #[.int .i64 bits,.bool dv,.bool bg,m3,m4,m5,m6,m7,m8,m9,m10,m11,m12,m13,.slice (some ⟨sb,0,none⟩) ns cs,m15,m16,m17,m18,m19,m20,u]∧U u w')∧∃ r:RV,Blk w' sb TS (put5A vs (dst*5) (.int .i64 2) (.bool r.s) (.slice r.a r.n r.c) (.slice r.b r.m r.d) (.string ⟨#[]⟩))∧r.Is 19 19 q w':=by
  obtain⟨W1,hW1⟩:∃ W1,W1=w.alloc (.cells #[.string ⟨#[105,110]⟩,.int .i64 (dst:Int),aa,kv,l0,l1,l2,l3,l4,gd,rs] 96):=⟨_,rfl⟩
  obtain⟨W2,hW2⟩:∃ W2,W2=W1.alloc (.cells #[gi,gf] 124):=⟨_,rfl⟩
  have hb1:Below w.heap.size w W1:=by rw [hW1];exact below_one _ _
  have hb2:Below W1.heap.size W1 W2:=by rw [hW2];exact below_one _ _
  have hb:Below w.heap.size w W2:=bthen hb1 hb2
  have HK1:=Lib.hid ((show Blk W1 w.heap.size 96 #[.string ⟨#[105,110]⟩,.int .i64 (dst:Int),aa,kv,l0,l1,l2,l3,l4,gd,rs] by rw [hW1];exact Blk.new _ _ _).later hb2)
  have HK2:=Lib.hid (show Blk W2 W1.heap.size 124 #[gi,gf] by rw [hW2];exact Blk.new _ _ _)
  have HB:=Lib.hid hb
  have HM:=Lib.hid (hm.later hb)
  have HS:=Lib.hid (hs.later hb)
  have HE:=Lib.hid hE
  have HVS:=Lib.hid (And.intro hno (And.intro (show dst*5+5≤vs.size by omega) (And.intro hSE hU)))
  have HL:=Lib.hid (show sb<w.heap.size∧g<w.heap.size∧w.heap.size<W1.heap.size∧W1.heap.size<W2.heap.size∧sb≠g from⟨hs.lt,hm.lt,by rw [hW1];simp,by rw [hW2];simp,hne⟩)
  have N1:sb≠w.heap.size:=by have:=HL.out;omega
  have N2:sb≠W1.heap.size:=by have:=HL.out;omega
  have hdI:(dst:Int)<(ns:Int):=by omega
  have hnI:(ns:Int)≤10:=by omega
  have HS1:=Lib.hid (show w.heap.size+1=W1.heap.size by rw [hW1];simp)
  have HW1:=Lib.hid hW1
  have HW2:=Lib.hid hW2
  clear hb1 hb2 hb hm hs hE hno hvs hSE hU hd hns hW1 hW2
  have p0:=HK1.out.cell 0 rfl
  have p1:=HK1.out.cell 1 rfl
  have p2:=HK1.out.cell 2 rfl
  have p3:=HK1.out.cell 3 rfl
  have p4:=HK1.out.cell 4 rfl
  have p5:=HK1.out.cell 5 rfl
  have p6:=HK1.out.cell 6 rfl
  have p7:=HK1.out.cell 7 rfl
  have p8:=HK1.out.cell 8 rfl
  have p9:=HK1.out.cell 9 rfl
  have p10:=HK1.out.cell 10 rfl
  have r0:=HK2.out.cell 0 rfl
  have r1:=HK2.out.cell 1 rfl
  have s0:=HM.out.cell 14 rfl
  go_enter Tryz.func61,Tryz.ntmps61
  go_upto_region 1 with fail
  rw [←HW1.out,←HW2.out];simp only [HS1.out];clear HW1 HW2 HS1
  go_upto_region 2 with fail
  go_region_held3 (fun w'=>w'.cell? ⟨w.heap.size,0,none⟩=some (.string ⟨#[105,110]⟩)∧w'.cell? ⟨w.heap.size,1,none⟩=some (.int .i64 (dst:Int))∧w'.cell? ⟨w.heap.size,2,none⟩=some (aa)∧w'.cell? ⟨w.heap.size,3,none⟩=some (kv)∧w'.cell? ⟨w.heap.size,4,none⟩=some (l0)∧w'.cell? ⟨w.heap.size,5,none⟩=some (l1)∧w'.cell? ⟨w.heap.size,6,none⟩=some (l2)∧w'.cell? ⟨w.heap.size,7,none⟩=some (l3)∧w'.cell? ⟨w.heap.size,8,none⟩=some (l4)∧w'.cell? ⟨w.heap.size,9,none⟩=some (gd)∧w'.cell? ⟨w.heap.size,10,none⟩=some (rs)∧w'.cell? ⟨W1.heap.size,0,none⟩=some gi∧w'.cell? ⟨W1.heap.size,1,none⟩=some gf∧w'.cell? ⟨g,14,none⟩=some (.slice (some ⟨sb,0,none⟩) ns cs))
    (first | (refine⟨?_, ?_, ?_, ?_, ?_, ?_, ?_, ?_, ?_, ?_, ?_, ?_, ?_, ?_⟩ <;> with_reducible assumption) | (refine⟨?_, ?_, ?_, ?_, ?_, ?_, ?_, ?_, ?_, ?_, ?_, ?_, ?_, ?_⟩ <;> (first | rw [cell_put5q N1] | rw [cell_put5q N2] | rw [cell_put5q hne]) <;> with_reducible assumption) | (go_keep;done))
    (first
      | (go_at_call 104
         refine(HE.out _ (HB.out.trans (by first | exact Below.refl _ _ | exact(Below.refl _ _).drew))).mono ?_
         rintro e w3 ⟨⟨r,rfl,hr⟩,ho,u,hmm,huu⟩
         have ho2:Only SE W2 w3:=(by first | exact Only.refl _ _ | exact(Only.refl _ _).drew:Only SE W2 _).trans ho
         have HUU:=Lib.hid huu
         have HO:=Lib.hid ho2
         have HR:=Lib.hid hr
         have HM3:=Lib.hid hmm
         have HK1':=Lib.hid (HK1.out.onlyE ho2 HK1.out.lt (fun e=>by have:=HVS.out.2.2.1.2 _ e;omega))
         have HK2':=Lib.hid (HK2.out.onlyE ho2 HK2.out.lt (fun e=>by have:=HVS.out.2.2.1.2 _ e;have:=HL.out;omega))
         have HS3:=Lib.hid (HS.out.onlyE ho2 HS.out.lt HVS.out.2.2.1.1)
         clear hr ho ho2 hmm huu p0 p1 p2 p3 p4 p5 p6 p7 p8 p9 p10 r0 r1 s0
         have p0:=HK1'.out.cell 0 rfl
         have p1:=HK1'.out.cell 1 rfl
         have p2:=HK1'.out.cell 2 rfl
         have p3:=HK1'.out.cell 3 rfl
         have p4:=HK1'.out.cell 4 rfl
         have p5:=HK1'.out.cell 5 rfl
         have p6:=HK1'.out.cell 6 rfl
         have p7:=HK1'.out.cell 7 rfl
         have p8:=HK1'.out.cell 8 rfl
         have p9:=HK1'.out.cell 9 rfl
         have p10:=HK1'.out.cell 10 rfl
         have r0:=HK2'.out.cell 0 rfl
         have r1:=HK2'.out.cell 1 rfl
         have s0:=HM3.out.cell 14 rfl
         obtain⟨x0,hx0⟩:=arr_some (arr:=vs) (p:=dst*5) rfl (by have:=HVS.out.2.1;omega)
         have e0:=HS3.out.cell _ hx0
         clear hx0
         obtain⟨x1,hx1⟩:=arr_some (arr:=vs) (p:=dst*5+1) rfl (by have:=HVS.out.2.1;omega)
         have e1:=HS3.out.cell _ hx1
         clear hx1
         obtain⟨x2,hx2⟩:=arr_some (arr:=vs) (p:=dst*5+2) rfl (by have:=HVS.out.2.1;omega)
         have e2:=HS3.out.cell _ hx2
         clear hx2
         obtain⟨x3,hx3⟩:=arr_some (arr:=vs) (p:=dst*5+3) rfl (by have:=HVS.out.2.1;omega)
         have e3:=HS3.out.cell _ hx3
         clear hx3
         obtain⟨x4,hx4⟩:=arr_some (arr:=vs) (p:=dst*5+4) rfl (by have:=HVS.out.2.1;omega)
         have e4:=HS3.out.cell _ hx4
         clear hx4
         have f0:=HS3.out.free (dst*5)
         have f1:=HS3.out.free (dst*5+1)
         have f2:=HS3.out.free (dst*5+2)
         have f3:=HS3.out.free (dst*5+3)
         have f4:=HS3.out.free (dst*5+4)))
  all_goals
    go_wp2_with fail
    exact⟨rfl,.tuple #[],(by simp [results,Tryz.results61,go_sem]),rfl,((Only.of_below HB.out).trans (HO.out.weak (by intro j hj;simp;exact Or.inr hj))).trans (only_put5q _ _ _ _ _ _ _ (by simp) _ _ _ _ _ _),⟨u,HM3.out.onlyE (only_put5q [some sb] _ _ _ _ _ _ (by simp) _ _ _ _ _ _) HM3.out.lt (by have:=HL.out;simp;omega),HVS.out.2.2.2 _ _ _ HUU.out (only_put5q [some sb] _ _ _ _ _ _ (by simp) _ _ _ _ _ _)⟩,r,((((HS3.out.putI _ _).putI _ _).putI _ _).putI _ _).putI _ _,RV.Is.set5N ⟨2,r,⟨#[]⟩,q⟩ HR.out HS3.out HVS.out.1 HVS.out.2.1⟩
set_option maxHeartbeats 8000000 in
theorem stepE_neg {w:World}(SE:List (Option Nat))(U:Value→World→Prop)(g sb dst ns cs TS:Nat)(q:Rat)(bits:Int)(dv bg:Bool)(m3 m4 m5 m6 m7 m8 m9 m10 m11 m12 m13 m15 m16 m17 m18 m19 m20 u0 aa kv l0 l1 l2 l3 l4 gd rs gi gf:Value)(vs:Array Value)
    (hE:∀ W,Below w.heap.size w W→Calls Tryz.prog 104 #[.pointer (some ⟨g,0,none⟩),.agg #[.string ⟨#[110,101,103]⟩,.int .i64 (dst:Int),aa,kv,l0,l1,l2,l3,l4,gd,rs],.agg #[gi,gf]] W fun e w'=>(∃ r:RV,e=.returned (.agg #[.int .i64 2,.bool r.s,.slice r.a r.n r.c,.slice r.b r.m r.d,.string ⟨#[]⟩])∧r.Is 19 19 q w')∧Only SE W w'∧∃ u,Blk w' g 65 #[.int .i64 bits,.bool dv,.bool bg,m3,m4,m5,m6,m7,m8,m9,m10,m11,m12,m13,.slice (some ⟨sb,0,none⟩) ns cs,m15,m16,m17,m18,m19,m20,u]∧U u w')
    (hSE:some sb ∉ SE∧∀ j,some j∈SE→j<w.heap.size) (hU:∀ u W W',U u W→Only [some sb] W W'→U u W') (hno:NoU vs) (hvs:vs.size=ns*5)
    (hm:Blk w g 65 #[.int .i64 bits,.bool dv,.bool bg,m3,m4,m5,m6,m7,m8,m9,m10,m11,m12,m13,.slice (some ⟨sb,0,none⟩) ns cs,m15,m16,m17,m18,m19,m20,u0]) (hs:Blk w sb TS vs) (hne:sb≠g) (hd:dst<ns) (hns:ns≤10) :
    Calls Tryz.prog 61 #[.pointer (some ⟨g,0,none⟩),.agg #[.string ⟨#[110,101,103]⟩,.int .i64 (dst:Int),aa,kv,l0,l1,l2,l3,l4,gd,rs],.agg #[gi,gf]] w fun e w'=>e=.returned (.tuple #[])∧Only (some sb::SE) w w'∧(∃ u,Blk w' g 65 #[.int .i64 bits,.bool dv,.bool bg,m3,m4,m5,m6,m7,m8,m9,m10,m11,m12,m13,.slice (some ⟨sb,0,none⟩) ns cs,m15,m16,m17,m18,m19,m20,u]∧U u w')∧∃ r:RV,Blk w' sb TS (put5A vs (dst*5) (.int .i64 2) (.bool r.s) (.slice r.a r.n r.c) (.slice r.b r.m r.d) (.string ⟨#[]⟩))∧r.Is 19 19 q w':=by
  obtain⟨W1,hW1⟩:∃ W1,W1=w.alloc (.cells #[.string ⟨#[110,101,103]⟩,.int .i64 (dst:Int),aa,kv,l0,l1,l2,l3,l4,gd,rs] 96):=⟨_,rfl⟩
  obtain⟨W2,hW2⟩:∃ W2,W2=W1.alloc (.cells #[gi,gf] 124):=⟨_,rfl⟩
  have hb1:Below w.heap.size w W1:=by rw [hW1];exact below_one _ _
  have hb2:Below W1.heap.size W1 W2:=by rw [hW2];exact below_one _ _
  have hb:Below w.heap.size w W2:=bthen hb1 hb2
  have HK1:=Lib.hid ((show Blk W1 w.heap.size 96 #[.string ⟨#[110,101,103]⟩,.int .i64 (dst:Int),aa,kv,l0,l1,l2,l3,l4,gd,rs] by rw [hW1];exact Blk.new _ _ _).later hb2)
  have HK2:=Lib.hid (show Blk W2 W1.heap.size 124 #[gi,gf] by rw [hW2];exact Blk.new _ _ _)
  have HB:=Lib.hid hb
  have HM:=Lib.hid (hm.later hb)
  have HS:=Lib.hid (hs.later hb)
  have HE:=Lib.hid hE
  have HVS:=Lib.hid (And.intro hno (And.intro (show dst*5+5≤vs.size by omega) (And.intro hSE hU)))
  have HL:=Lib.hid (show sb<w.heap.size∧g<w.heap.size∧w.heap.size<W1.heap.size∧W1.heap.size<W2.heap.size∧sb≠g from⟨hs.lt,hm.lt,by rw [hW1];simp,by rw [hW2];simp,hne⟩)
  have N1:sb≠w.heap.size:=by have:=HL.out;omega
  have N2:sb≠W1.heap.size:=by have:=HL.out;omega
  have hdI:(dst:Int)<(ns:Int):=by omega
  have hnI:(ns:Int)≤10:=by omega
  have HS1:=Lib.hid (show w.heap.size+1=W1.heap.size by rw [hW1];simp)
  have HW1:=Lib.hid hW1
  have HW2:=Lib.hid hW2
  clear hb1 hb2 hb hm hs hE hno hvs hSE hU hd hns hW1 hW2
  have p0:=HK1.out.cell 0 rfl
  have p1:=HK1.out.cell 1 rfl
  have p2:=HK1.out.cell 2 rfl
  have p3:=HK1.out.cell 3 rfl
  have p4:=HK1.out.cell 4 rfl
  have p5:=HK1.out.cell 5 rfl
  have p6:=HK1.out.cell 6 rfl
  have p7:=HK1.out.cell 7 rfl
  have p8:=HK1.out.cell 8 rfl
  have p9:=HK1.out.cell 9 rfl
  have p10:=HK1.out.cell 10 rfl
  have r0:=HK2.out.cell 0 rfl
  have r1:=HK2.out.cell 1 rfl
  have s0:=HM.out.cell 14 rfl
  go_enter Tryz.func61,Tryz.ntmps61
  go_upto_region 1 with fail
  rw [←HW1.out,←HW2.out];simp only [HS1.out];clear HW1 HW2 HS1
  go_upto_region 2 with fail
  go_region_held3 (fun w'=>w'.cell? ⟨w.heap.size,0,none⟩=some (.string ⟨#[110,101,103]⟩)∧w'.cell? ⟨w.heap.size,1,none⟩=some (.int .i64 (dst:Int))∧w'.cell? ⟨w.heap.size,2,none⟩=some (aa)∧w'.cell? ⟨w.heap.size,3,none⟩=some (kv)∧w'.cell? ⟨w.heap.size,4,none⟩=some (l0)∧w'.cell? ⟨w.heap.size,5,none⟩=some (l1)∧w'.cell? ⟨w.heap.size,6,none⟩=some (l2)∧w'.cell? ⟨w.heap.size,7,none⟩=some (l3)∧w'.cell? ⟨w.heap.size,8,none⟩=some (l4)∧w'.cell? ⟨w.heap.size,9,none⟩=some (gd)∧w'.cell? ⟨w.heap.size,10,none⟩=some (rs)∧w'.cell? ⟨W1.heap.size,0,none⟩=some gi∧w'.cell? ⟨W1.heap.size,1,none⟩=some gf∧w'.cell? ⟨g,14,none⟩=some (.slice (some ⟨sb,0,none⟩) ns cs))
    (first | (refine⟨?_, ?_, ?_, ?_, ?_, ?_, ?_, ?_, ?_, ?_, ?_, ?_, ?_, ?_⟩ <;> with_reducible assumption) | (refine⟨?_, ?_, ?_, ?_, ?_, ?_, ?_, ?_, ?_, ?_, ?_, ?_, ?_, ?_⟩ <;> (first | rw [cell_put5q N1] | rw [cell_put5q N2] | rw [cell_put5q hne]) <;> with_reducible assumption) | (go_keep;done))
    (first
      | (go_at_call 104
         refine(HE.out _ (HB.out.trans (by first | exact Below.refl _ _ | exact(Below.refl _ _).drew))).mono ?_
         rintro e w3 ⟨⟨r,rfl,hr⟩,ho,u,hmm,huu⟩
         have ho2:Only SE W2 w3:=(by first | exact Only.refl _ _ | exact(Only.refl _ _).drew:Only SE W2 _).trans ho
         have HUU:=Lib.hid huu
         have HO:=Lib.hid ho2
         have HR:=Lib.hid hr
         have HM3:=Lib.hid hmm
         have HK1':=Lib.hid (HK1.out.onlyE ho2 HK1.out.lt (fun e=>by have:=HVS.out.2.2.1.2 _ e;omega))
         have HK2':=Lib.hid (HK2.out.onlyE ho2 HK2.out.lt (fun e=>by have:=HVS.out.2.2.1.2 _ e;have:=HL.out;omega))
         have HS3:=Lib.hid (HS.out.onlyE ho2 HS.out.lt HVS.out.2.2.1.1)
         clear hr ho ho2 hmm huu p0 p1 p2 p3 p4 p5 p6 p7 p8 p9 p10 r0 r1 s0
         have p0:=HK1'.out.cell 0 rfl
         have p1:=HK1'.out.cell 1 rfl
         have p2:=HK1'.out.cell 2 rfl
         have p3:=HK1'.out.cell 3 rfl
         have p4:=HK1'.out.cell 4 rfl
         have p5:=HK1'.out.cell 5 rfl
         have p6:=HK1'.out.cell 6 rfl
         have p7:=HK1'.out.cell 7 rfl
         have p8:=HK1'.out.cell 8 rfl
         have p9:=HK1'.out.cell 9 rfl
         have p10:=HK1'.out.cell 10 rfl
         have r0:=HK2'.out.cell 0 rfl
         have r1:=HK2'.out.cell 1 rfl
         have s0:=HM3.out.cell 14 rfl
         obtain⟨x0,hx0⟩:=arr_some (arr:=vs) (p:=dst*5) rfl (by have:=HVS.out.2.1;omega)
         have e0:=HS3.out.cell _ hx0
         clear hx0
         obtain⟨x1,hx1⟩:=arr_some (arr:=vs) (p:=dst*5+1) rfl (by have:=HVS.out.2.1;omega)
         have e1:=HS3.out.cell _ hx1
         clear hx1
         obtain⟨x2,hx2⟩:=arr_some (arr:=vs) (p:=dst*5+2) rfl (by have:=HVS.out.2.1;omega)
         have e2:=HS3.out.cell _ hx2
         clear hx2
         obtain⟨x3,hx3⟩:=arr_some (arr:=vs) (p:=dst*5+3) rfl (by have:=HVS.out.2.1;omega)
         have e3:=HS3.out.cell _ hx3
         clear hx3
         obtain⟨x4,hx4⟩:=arr_some (arr:=vs) (p:=dst*5+4) rfl (by have:=HVS.out.2.1;omega)
         have e4:=HS3.out.cell _ hx4
         clear hx4
         have f0:=HS3.out.free (dst*5)
         have f1:=HS3.out.free (dst*5+1)
         have f2:=HS3.out.free (dst*5+2)
         have f3:=HS3.out.free (dst*5+3)
         have f4:=HS3.out.free (dst*5+4)))
  all_goals
    go_wp2_with fail
    exact⟨rfl,.tuple #[],(by simp [results,Tryz.results61,go_sem]),rfl,((Only.of_below HB.out).trans (HO.out.weak (by intro j hj;simp;exact Or.inr hj))).trans (only_put5q _ _ _ _ _ _ _ (by simp) _ _ _ _ _ _),⟨u,HM3.out.onlyE (only_put5q [some sb] _ _ _ _ _ _ (by simp) _ _ _ _ _ _) HM3.out.lt (by have:=HL.out;simp;omega),HVS.out.2.2.2 _ _ _ HUU.out (only_put5q [some sb] _ _ _ _ _ _ (by simp) _ _ _ _ _ _)⟩,r,((((HS3.out.putI _ _).putI _ _).putI _ _).putI _ _).putI _ _,RV.Is.set5N ⟨2,r,⟨#[]⟩,q⟩ HR.out HS3.out HVS.out.1 HVS.out.2.1⟩
end Go.Proofs.YtpnlbjnbgemocaaGreat
namespace Go.Proofs.YtpnlbjnbgemocaaGreat
set_option linter.unusedVariables false
set_option linter.unusedSimpArgs false
set_option maxRecDepth 100000
open Go.RowKit Nums
theorem drew_cell (w:World)(p:Addr):w.drew.cell? p=w.cell? p:=rfl
theorem cell_put5d {w:World}{sb o0 o1 o2 o3 o4 h i:Nat}{a b c d e:Value}(hne:sb≠h):(((((w.setCell ⟨sb,o0,none⟩ a).setCell ⟨sb,o1,none⟩ b).setCell ⟨sb,o2,none⟩ c).setCell ⟨sb,o3,none⟩ d).setCell ⟨sb,o4,none⟩ e).drew.cell? ⟨h,i,none⟩=w.drew.cell? ⟨h,i,none⟩:=(drew_cell _ _).trans ((cell_put5q hne).trans (drew_cell _ _).symm)
set_option maxHeartbeats 8000000 in
theorem step_outZ {w:World}(g sb ob ab ao ca ns cs no co s k TS:Nat)(m0 m1 m2 m3 m4 m5 m6 m7 m8 m9 m10 m11 m12 m13 m15 m16 m18 m19 m20 m21 dv0 l0 l1 l2 l3 l4 rs gi gf:Value)(x:VM)(vs:Array Value)
    (hm:Blk w g 65 #[m0,m1,m2,m3,m4,m5,m6,m7,m8,m9,m10,m11,m12,m13,.slice (some ⟨sb,0,none⟩) ns cs,m15,m16,.slice (some ⟨ob,0,none⟩) no co,m18,m19,m20,m21]) (hsl:sb<w.heap.size) (hx:VAt w sb (s*5) x) (ho:Blk w ob TS vs) (hno:NoU vs) (hvs:vs.size=no*5) (ha:w.cell? ⟨ab,ao,none⟩=some (.int .i64 (s:Int))) (hab:ab<w.heap.size) (hog:ob≠g) (hos:ob≠sb) (hoa:ob≠ab) (hs:s<ns) (hns:ns≤10) (hk:k<no) (hnn:no≤10) :
    Calls Tryz.prog 61 #[.pointer (some ⟨g,0,none⟩),.agg #[.string ⟨#[111,117,116]⟩,dv0,.slice (some ⟨ab,ao,none⟩) 1 ca,.int .i64 (k:Int),l0,l1,l2,l3,l4,.int .i64 (-1),rs],.agg #[gi,gf]] w fun e w'=>e=.returned (.tuple #[])∧Only [some ob] w w'∧Blk w' ob TS (put5A vs (k*5) (.int .i64 x.k) (.bool x.r.s) (.slice x.r.a x.r.n x.r.c) (.slice x.r.b x.r.m x.r.d) (.string x.nm))∧x.r.Is 19 19 x.q w':=by
  obtain⟨W1,hW1⟩:∃ W1,W1=w.alloc (.cells #[.string ⟨#[111,117,116]⟩,dv0,.slice (some ⟨ab,ao,none⟩) 1 ca,.int .i64 (k:Int),l0,l1,l2,l3,l4,.int .i64 (-1),rs] 96):=⟨_,rfl⟩
  obtain⟨W2,hW2⟩:∃ W2,W2=W1.alloc (.cells #[gi,gf] 124):=⟨_,rfl⟩
  have hb1:Below w.heap.size w W1:=by rw [hW1];exact below_one _ _
  have hb2:Below W1.heap.size W1 W2:=by rw [hW2];exact below_one _ _
  have hb:Below w.heap.size w W2:=bthen hb1 hb2
  have HK1:=Lib.hid ((show Blk W1 w.heap.size 96 #[.string ⟨#[111,117,116]⟩,dv0,.slice (some ⟨ab,ao,none⟩) 1 ca,.int .i64 (k:Int),l0,l1,l2,l3,l4,.int .i64 (-1),rs] by rw [hW1];exact Blk.new _ _ _).later hb2)
  have HB:=Lib.hid hb
  have HM:=Lib.hid (hm.later hb)
  have HO:=Lib.hid (ho.later hb)
  have HX:=Lib.hid (hx.later hsl hb)
  have HNO:=Lib.hid hno
  have HVS:=Lib.hid (show k*5+5≤vs.size by omega)
  have a0:=(hb.cell (p:=⟨ab,ao,none⟩) hab).trans ha
  have N1:ob≠w.heap.size:=by have:=ho.lt;omega
  have hsI:(s:Int)<(ns:Int):=by omega
  have hnI:(ns:Int)≤10:=by omega
  have hkI:(k:Int)<(no:Int):=by omega
  have hoI:(no:Int)≤10:=by omega
  have HS1:=Lib.hid (show w.heap.size+1=W1.heap.size by rw [hW1];simp)
  have HW1:=Lib.hid hW1
  have HW2:=Lib.hid hW2
  have q0:=HK1.out.cell 0 rfl
  have q9:=HK1.out.cell 9 rfl
  clear hb1 hb2 hb hm ho hx hsl hab hs hns hk hnn hno hvs hW1 hW2 ha
  go_enter Tryz.func61,Tryz.ntmps61
  go_upto_region 1 with fail
  rw [←HW1.out,←HW2.out];simp only [HS1.out];clear HW1 HW2 HS1
  go_upto_region 9 with (go_at_call 39;(with_reducible refine(isOn_none _ _).mono ?_);rintro e w1 ⟨rfl,hw⟩;subst hw)
  have HHS:Hid ((fun(w':World)=>w'.cell? ⟨w.heap.size,2,none⟩=some (.slice (some ⟨ab,ao,none⟩) 1 ca)∧w'.cell? ⟨w.heap.size,3,none⟩=some (.int .i64 (k:Int))∧w'.cell? ⟨g,14,none⟩=some (.slice (some ⟨sb,0,none⟩) ns cs)∧w'.cell? ⟨g,17,none⟩=some (.slice (some ⟨ob,0,none⟩) no co)∧w'.cell? ⟨ab,ao,none⟩=some (.int .i64 (s:Int))∧w'.cell? ⟨sb,s*5,none⟩=some (.int .i64 x.k)∧w'.cell? ⟨sb,s*5+1,none⟩=some (.bool x.r.s)∧w'.cell? ⟨sb,s*5+2,none⟩=some (.slice x.r.a x.r.n x.r.c)∧w'.cell? ⟨sb,s*5+3,none⟩=some (.slice x.r.b x.r.m x.r.d)∧w'.cell? ⟨sb,s*5+4,none⟩=some (.string x.nm)) w1.drew):=Lib.hid (by
    have h1:=HK1.out.later (Below.refl _ _).drew
    have h2:=HM.out.later (Below.refl _ _).drew
    have h3:=HX.out
    exact⟨h1.cell 2 rfl,h1.cell 3 rfl,h2.cell 14 rfl,h2.cell 17 rfl,a0,h3.c0,h3.c1,h3.c2,h3.c3,h3.c4⟩)
  clear q0 q9 a0
  refine wp_region_held_drew (S:=fun(w':World)=>w'.cell? ⟨w.heap.size,2,none⟩=some (.slice (some ⟨ab,ao,none⟩) 1 ca)∧w'.cell? ⟨w.heap.size,3,none⟩=some (.int .i64 (k:Int))∧w'.cell? ⟨g,14,none⟩=some (.slice (some ⟨sb,0,none⟩) ns cs)∧w'.cell? ⟨g,17,none⟩=some (.slice (some ⟨ob,0,none⟩) no co)∧w'.cell? ⟨ab,ao,none⟩=some (.int .i64 (s:Int))∧w'.cell? ⟨sb,s*5,none⟩=some (.int .i64 x.k)∧w'.cell? ⟨sb,s*5+1,none⟩=some (.bool x.r.s)∧w'.cell? ⟨sb,s*5+2,none⟩=some (.slice x.r.a x.r.n x.r.c)∧w'.cell? ⟨sb,s*5+3,none⟩=some (.slice x.r.b x.r.m x.r.d)∧w'.cell? ⟨sb,s*5+4,none⟩=some (.string x.nm)) (by kernel_rfl) HHS.out (fun hHeld=>?_)
  refine takeH 0 83 ?_ (by kernel_rfl) (by kernel_rfl) (by kernel_rfl) (by kernel_rfl) (fun _ _ _ h=>h) (by kernel_rfl) (fun o ho w hSw=>?_) (by exact HHS.out) ?_
  rotate_left
  · (simp only [List.getElem?_toArray,List.getElem?_cons_succ,List.getElem?_cons_zero,Option.some.injEq] at ho;subst ho;(try dsimp only at hSw);go_simp;try with_reducible rfl)
  try simp only [Act.put,List.setIfInBounds_toArray,List.set_cons_zero,List.set_cons_succ]
  refine takeH 1 84 ?_ (by kernel_rfl) (by kernel_rfl) (by kernel_rfl) (by kernel_rfl) (fun _ _ _ h=>h) (by kernel_rfl) (fun o ho w hSw=>?_) (by exact HHS.out) ?_
  rotate_left
  · (simp only [List.getElem?_toArray,List.getElem?_cons_succ,List.getElem?_cons_zero,Option.some.injEq] at ho;subst ho;(try dsimp only at hSw);go_simp;try with_reducible rfl)
  try simp only [Act.put,List.setIfInBounds_toArray,List.set_cons_zero,List.set_cons_succ]
  refine takeH 2 85 ?_ (by kernel_rfl) (by kernel_rfl) (by kernel_rfl) (by kernel_rfl) (fun _ _ _ h=>h) (by kernel_rfl) (fun o ho w hSw=>?_) (by exact HHS.out) ?_
  rotate_left
  · (simp only [List.getElem?_toArray,List.getElem?_cons_succ,List.getElem?_cons_zero,Option.some.injEq] at ho;subst ho;(try dsimp only at hSw);go_simp;try with_reducible rfl)
  try simp only [Act.put,List.setIfInBounds_toArray,List.set_cons_zero,List.set_cons_succ]
  refine takeH 3 86 ?_ (by kernel_rfl) (by kernel_rfl) (by kernel_rfl) (by kernel_rfl) (fun _ _ _ h=>h) (by kernel_rfl) (fun o ho w hSw=>?_) (by exact HHS.out) ?_
  rotate_left
  · (simp only [List.getElem?_toArray,List.getElem?_cons_succ,List.getElem?_cons_zero,Option.some.injEq] at ho;subst ho;(try dsimp only at hSw);go_simp;try with_reducible rfl)
  try simp only [Act.put,List.setIfInBounds_toArray,List.set_cons_zero,List.set_cons_succ]
  refine takeH 4 87 ?_ (by kernel_rfl) (by kernel_rfl) (by kernel_rfl) (by kernel_rfl) (fun _ _ _ h=>h) (by kernel_rfl) (fun o ho w hSw=>?_) (by exact HHS.out) ?_
  rotate_left
  · (simp only [List.getElem?_toArray,List.getElem?_cons_succ,List.getElem?_cons_zero,Option.some.injEq] at ho;subst ho;(try dsimp only at hSw);go_simp;try with_reducible rfl)
  try simp only [Act.put,List.setIfInBounds_toArray,List.set_cons_zero,List.set_cons_succ]
  refine takeH 5 88 ?_ (by kernel_rfl) (by kernel_rfl) (by kernel_rfl) (by kernel_rfl) (fun _ _ _ h=>h) (by kernel_rfl) (fun o ho w hSw=>?_) (by exact HHS.out) ?_
  rotate_left
  · (simp only [List.getElem?_toArray,List.getElem?_cons_succ,List.getElem?_cons_zero,Option.some.injEq] at ho;subst ho;(try dsimp only at hSw);go_simp;try with_reducible rfl)
  try simp only [Act.put,List.setIfInBounds_toArray,List.set_cons_zero,List.set_cons_succ]
  refine takeH 6 89 ?_ (by kernel_rfl) (by kernel_rfl) (by kernel_rfl) (by kernel_rfl) (fun _ _ _ h=>h) (by kernel_rfl) (fun o ho w hSw=>?_) (by exact HHS.out) ?_
  rotate_left
  · (simp only [List.getElem?_toArray,List.getElem?_cons_succ,List.getElem?_cons_zero,Option.some.injEq] at ho;subst ho;(try dsimp only at hSw);go_simp;try with_reducible rfl)
  try simp only [Act.put,List.setIfInBounds_toArray,List.set_cons_zero,List.set_cons_succ]
  refine takeH 7 90 ?_ (by kernel_rfl) (by kernel_rfl) (by kernel_rfl) (by kernel_rfl) (fun _ _ _ h=>h) (by kernel_rfl) (fun o ho w hSw=>?_) (by exact HHS.out) ?_
  rotate_left
  · (simp only [List.getElem?_toArray,List.getElem?_cons_succ,List.getElem?_cons_zero,Option.some.injEq] at ho;subst ho;(try dsimp only at hSw);go_simp;try with_reducible rfl)
  try simp only [Act.put,List.setIfInBounds_toArray,List.set_cons_zero,List.set_cons_succ]
  refine takeH 8 91 ?_ (by kernel_rfl) (by kernel_rfl) (by kernel_rfl) (by kernel_rfl) (fun _ _ _ h=>h) (by kernel_rfl) (fun o ho w hSw=>?_) (by exact HHS.out) ?_
  rotate_left
  · (simp only [List.getElem?_toArray,List.getElem?_cons_succ,List.getElem?_cons_zero,Option.some.injEq] at ho;subst ho;(try dsimp only at hSw);go_simp;try with_reducible rfl)
  try simp only [Act.put,List.setIfInBounds_toArray,List.set_cons_zero,List.set_cons_succ]
  refine takeH 9 92 ?_ (by kernel_rfl) (by kernel_rfl) (by kernel_rfl) (by kernel_rfl) (fun _ _ _ h=>h) (by kernel_rfl) (fun o ho w hSw=>?_) (by exact HHS.out) ?_
  rotate_left
  · (simp only [List.getElem?_toArray,List.getElem?_cons_succ,List.getElem?_cons_zero,Option.some.injEq] at ho;subst ho;(try dsimp only at hSw);go_simp;try with_reducible rfl)
  try simp only [Act.put,List.setIfInBounds_toArray,List.set_cons_zero,List.set_cons_succ]
  refine takeH 10 93 ?_ (by kernel_rfl) (by kernel_rfl) (by kernel_rfl) (by kernel_rfl) (fun _ _ _ h=>h) (by kernel_rfl) (fun o ho w hSw=>?_) (by exact HHS.out) ?_
  rotate_left
  · (simp only [List.getElem?_toArray,List.getElem?_cons_succ,List.getElem?_cons_zero,Option.some.injEq] at ho;subst ho;(try dsimp only at hSw);go_simp;try with_reducible rfl)
  try simp only [Act.put,List.setIfInBounds_toArray,List.set_cons_zero,List.set_cons_succ]
  refine takeH 11 94 ?_ (by kernel_rfl) (by kernel_rfl) (by kernel_rfl) (by kernel_rfl) (fun _ _ _ h=>h) (by kernel_rfl) (fun o ho w hSw=>?_) (by exact HHS.out) ?_
  rotate_left
  · (simp only [List.getElem?_toArray,List.getElem?_cons_succ,List.getElem?_cons_zero,Option.some.injEq] at ho;subst ho;(try dsimp only at hSw);go_simp;try with_reducible rfl)
  try simp only [Act.put,List.setIfInBounds_toArray,List.set_cons_zero,List.set_cons_succ]
  refine takeH 12 95 ?_ (by kernel_rfl) (by kernel_rfl) (by kernel_rfl) (by kernel_rfl) (fun _ _ _ h=>h) (by kernel_rfl) (fun o ho w hSw=>?_) (by exact HHS.out) ?_
  rotate_left
  · (simp only [List.getElem?_toArray,List.getElem?_cons_succ,List.getElem?_cons_zero,Option.some.injEq] at ho;subst ho;(try dsimp only at hSw);go_simp;try with_reducible rfl)
  try simp only [Act.put,List.setIfInBounds_toArray,List.set_cons_zero,List.set_cons_succ]
  refine takeH 13 96 ?_ (by kernel_rfl) (by kernel_rfl) (by kernel_rfl) (by kernel_rfl) (fun _ _ _ h=>h) (by kernel_rfl) (fun o ho w hSw=>?_) (by exact HHS.out) ?_
  rotate_left
  · (simp only [List.getElem?_toArray,List.getElem?_cons_succ,List.getElem?_cons_zero,Option.some.injEq] at ho;subst ho;(try dsimp only at hSw);go_simp;try with_reducible rfl)
  try simp only [Act.put,List.setIfInBounds_toArray,List.set_cons_zero,List.set_cons_succ]
  refine takeH 14 97 ?_ (by kernel_rfl) (by kernel_rfl) (by kernel_rfl) (by kernel_rfl) (fun _ _ _ h=>h) (by kernel_rfl) (fun o ho w hSw=>?_) (by exact HHS.out) ?_
  rotate_left
  · (simp only [List.getElem?_toArray,List.getElem?_cons_succ,List.getElem?_cons_zero,Option.some.injEq] at ho;subst ho;(try dsimp only at hSw);go_simp;try with_reducible rfl)
  try simp only [Act.put,List.setIfInBounds_toArray,List.set_cons_zero,List.set_cons_succ]
  refine takeH 15 98 ?_ (by kernel_rfl) (by kernel_rfl) (by kernel_rfl) (by kernel_rfl) (fun _ _ _ h=>h) (by kernel_rfl) (fun o ho w hSw=>?_) (by exact HHS.out) ?_
  rotate_left
  · (simp only [List.getElem?_toArray,List.getElem?_cons_succ,List.getElem?_cons_zero,Option.some.injEq] at ho;subst ho;(try dsimp only at hSw);go_simp;try with_reducible rfl)
  try simp only [Act.put,List.setIfInBounds_toArray,List.set_cons_zero,List.set_cons_succ]
  refine takeH 16 99 ?_ (by kernel_rfl) (by kernel_rfl) (by kernel_rfl) (by kernel_rfl) (fun _ _ _ h=>h) (by kernel_rfl) (fun o ho w hSw=>?_) (by exact HHS.out) ?_
  rotate_left
  · (simp only [List.getElem?_toArray,List.getElem?_cons_succ,List.getElem?_cons_zero,Option.some.injEq] at ho;subst ho;(try dsimp only at hSw);go_simp;try with_reducible rfl)
  try simp only [Act.put,List.setIfInBounds_toArray,List.set_cons_zero,List.set_cons_succ]
  obtain⟨s0,s1,s2,s3,s4,s5,s6,s7,s8,s9⟩:=HHS.out
  obtain⟨x0,hx0⟩:=arr_some (arr:=vs) (p:=k*5) rfl (by have:=HVS.out;omega)
  have e0:=HO.out.cell _ hx0
  have f0:=HO.out.free (k*5)
  clear hx0
  obtain⟨x1,hx1⟩:=arr_some (arr:=vs) (p:=k*5+1) rfl (by have:=HVS.out;omega)
  have e1:=HO.out.cell _ hx1
  have f1:=HO.out.free (k*5+1)
  clear hx1
  obtain⟨x2,hx2⟩:=arr_some (arr:=vs) (p:=k*5+2) rfl (by have:=HVS.out;omega)
  have e2:=HO.out.cell _ hx2
  have f2:=HO.out.free (k*5+2)
  clear hx2
  obtain⟨x3,hx3⟩:=arr_some (arr:=vs) (p:=k*5+3) rfl (by have:=HVS.out;omega)
  have e3:=HO.out.cell _ hx3
  have f3:=HO.out.free (k*5+3)
  clear hx3
  obtain⟨x4,hx4⟩:=arr_some (arr:=vs) (p:=k*5+4) rfl (by have:=HVS.out;omega)
  have e4:=HO.out.cell _ hx4
  have f4:=HO.out.free (k*5+4)
  clear hx4
  refine callH 17 (by kernel_rfl) (by kernel_rfl) (fun o ho K' hK=>?_)
  simp only [List.getElem?_toArray,List.getElem?_cons_succ,List.getElem?_cons_zero,Option.some.injEq] at ho;subst ho
  go_simp
  refine hK.out _ _ ⟨(cell_put5d N1).trans s0,(cell_put5d N1).trans s1,(cell_put5d hog).trans s2,(cell_put5d hog).trans s3,(cell_put5d hoa).trans s4,(cell_put5d hos).trans s5,(cell_put5d hos).trans s6,(cell_put5d hos).trans s7,(cell_put5d hos).trans s8,(cell_put5d hos).trans s9⟩ (fun _=>?_)
  try simp only [Act.put,List.setIfInBounds_toArray,List.set_cons_zero,List.set_cons_succ]
  refine wpAnyH_done (by kernel_rfl) ?_ _
  clear hHeld
  go_wp2_with fail
  exact⟨rfl,.tuple #[],(by simp [results,Tryz.results61,go_sem]),rfl,((Only.of_below HB.out).trans (only_put5q _ _ _ _ _ _ _ (by simp) _ _ _ _ _ _)).drew,(((((HO.out.putI _ _).putI _ _).putI _ _).putI _ _).putI _ _:Blk _ _ _ _).later (Below.refl _ _).drew,(RV.Is.set5N x HX.out.num HO.out HNO.out HVS.out).later (Below.refl _ _).drew⟩
end Go.Proofs.YtpnlbjnbgemocaaGreat
