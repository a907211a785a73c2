import Derived.Test.YtkcgikoploohkaaGreatDoorZPq2ToPq3
import Derived.Deep.DeepCutAuto
import Derived.Laws.EntriesVeiled
namespace Go.Proofs.YtkcgikoploohkaaGreatDoor
set_option linter.unusedVariables false
set_option linter.unusedSimpArgs false
set_option maxRecDepth 100000
open Go.RowKit Go.Shelf Nums
structure RpX (w0 w : World) (g : Nat) (la : Option Addr) (ln lc : Nat) (LL : List ByteArray) (v : SV) (xs : List CM) (h : Rat) : Prop where
  z : SBlk w w0.heap.size sv0
  s : SBlk w g v
  o : OwnN w g v.sl xs
  n : NumsIn xs w
  hh : v.h.Is v.h.n v.h.m h w
  r : SRow w la ln lc LL
  b : Below w0.heap.size w0 w
  gl : Gl w
  gg : w0.heap.size < g
  s9 : 9≤w0.heap.size
  lb : ∀ b off,la = some ⟨b,off,none⟩→0 < ln→b < g
theorem RpX.later {w0 w w' : World} {g : Nat} {la : Option Addr} {ln lc : Nat} {LL : List ByteArray} {v : SV} {xs : List CM} {h : Rat} (hs : RpX w0 w g la ln lc LL v xs h) (hb : Below w.heap.size w w') : RpX w0 w' g la ln lc LL v xs h :=
  ⟨hs.z.later hb,hs.s.later hb,hs.o.later hb,hs.n.later hb,hs.hh.later hb,hs.r.later hb,bthen hs.b hb,hs.gl.later hb,hs.gg,hs.s9,hs.lb⟩
structure RpI (O : Nat ⊕ ScT) (LL : List ByteArray) (ends : Bool) (k : Nat) (v : SV) (xs : List CM) (h : Rat) (rest : List UInt8) : Prop where
  l : LL.drop k = (linesM rest).1
  e : ends = (linesM rest).2
  z : rest.length + k≤65536
  q : xs.length≤k
  o : O = stageM k h v.cas v.bits rest (xs.map CM.told)
  f : ∀ x∈xs,x.Fit
  hf : 1≤k→v.h.Fit h
  x0 : k≤2→xs = []
  c0 : k = 0→v.cas = 0∧v.bits = 0
theorem len_drop {LL : List ByteArray} {k : Nat} {M : List ByteArray} (h : LL.drop k = M) : LL.length - k = M.length := by rw [←h,List.length_drop]
theorem rest_nil {O : Nat ⊕ ScT} {LL : List ByteArray} {ends : Bool} {k : Nat} {v : SV} {xs : List CM} {h : Rat} {rest : List UInt8} (hi : RpI O LL ends k v xs h rest) (hk : LL.length≤k) : rest = [] := by
  have e := len_drop hi.l
  cases hc : cutL 10 rest with
  | some p =>
    obtain ⟨x,r⟩ := p
    rw [lines_cut hc] at e
    simp at e
    omega
  | none =>
    by_cases h0 : rest = []
    · exact h0
    · rw [lines_last h0 hc] at e
      simp at e
      omega
theorem rest_line {O : Nat ⊕ ScT} {LL : List ByteArray} {ends : Bool} {k : Nat} {v : SV} {xs : List CM} {h : Rat} {rest : List UInt8} (hi : RpI O LL ends k v xs h rest) (hk : k < LL.length) :
    rest≠[]∧((∃ x r,cutL 10 rest = some (x,r)∧LL[k]? = some (bsL x)∧LL.drop (k + 1) = (linesM r).1∧ends = (linesM r).2∧(ends || decide ((k : Int) < (LL.length : Int) - 1)) = true)∨(cutL 10 rest = none∧LL[k]? = some (bsL rest)∧(ends || decide ((k : Int) < (LL.length : Int) - 1)) = false)) := by
  have e := hi.l
  have el := len_drop e
  have hd : LL.drop k = LL[k] :: LL.drop (k + 1) := List.drop_eq_getElem_cons hk
  have hne : rest≠[] := by
    intro h0
    rw [h0,lines_nil] at el
    simp at el
    omega
  refine ⟨hne, ?_⟩
  cases hc : cutL 10 rest with
  | some p =>
    obtain ⟨x,r⟩ := p
    have e2 := hi.e
    rw [lines_cut hc] at e e2
    rw [hd] at e
    injection e with e3 e4
    have e4' : LL.drop (k + 1) = (linesM r).1 := e4
    refine .inl ⟨x,r,rfl,by rw [List.getElem?_eq_getElem hk,e3],e4',e2, ?_⟩
    cases hends : ends with
    | true => rfl
    | false =>
      rw [Bool.false_or,decide_eq_true_eq]
      have e5 : (linesM r).2 = false := by rw [←hends,e2]
      have e6 : (linesM r).1≠[] := by
        intro h0
        unfold linesM at e5 h0
        split at e5
        · cases e5
        · rename_i hz
          rw [if_neg hz] at h0
          simp at h0
      have := congrArg List.length e4'
      rw [List.length_drop] at this
      have : 0 < (linesM r).1.length := List.length_pos_iff.2 e6
      omega
  | none =>
    have e2 := hi.e
    rw [lines_last hne hc] at e e2 el
    rw [hd] at e
    injection e with e3 e4
    refine .inr ⟨rfl,by rw [List.getElem?_eq_getElem hk,e3], ?_⟩
    have e2' : ends = false := e2
    rw [e2',Bool.false_or,decide_eq_false_iff_not]
    simp at el
    omega
theorem SRow.ge {S : List Nat} {w w' : World} {a : Option Addr} {n c g : Nat} {L : List ByteArray} (h : SRow w a n c L) (ho : Only S w w') (hS : ∀ i∈S,g≤i) (hlb : ∀ b off,a = some ⟨b,off,none⟩→0 < n→b < g) : SRow w' a n c L := by
  obtain ⟨h1,h2,h3,b,off,h4,h5⟩ := h
  refine ⟨h1,h2,h3,b,off,h4,fun i x hx => ?_⟩
  obtain ⟨k1,k2⟩ := h5 i x hx
  have hi : i < L.length := (List.getElem?_eq_some_iff.1 hx).1
  have hbg := hlb b off (h4.resolve_right (by omega)) (by omega)
  have hb : b ∉ S := fun hm => by have := hS b hm;omega
  exact ⟨Nat.lt_of_lt_of_le k1 ho.size,(World.cell?_of_block (w := w) (ho.block b k1 hb)).trans k2⟩
theorem OwnN.base {w : World} {B B' : Nat} {v : Value} {xs : List CM} (h : OwnN w B v xs) (hB : B'≤B) : OwnN w B' v xs := by
  obtain ⟨⟨h1,h2⟩,h3⟩ := h
  refine ⟨⟨h1, ?_⟩,h3⟩
  rcases h2 with h2 | ⟨g,cap,cur,e,hb,hr⟩
  · exact .inl h2
  · exact .inr ⟨g,cap,cur,e,Nat.le_trans hB hb,hr⟩
theorem word_size {x : List UInt8} {y : ByteArray} (h : y∈wordsM (bsL x)) : y.size≤x.length := by
  rw [words_spl] at h
  obtain ⟨z,hz,rfl⟩ := List.mem_map.1 h
  rw [bsL_size]
  exact spl_mem x z hz
theorem RpX.turn {w0 w w' : World} {g : Nat} {la : Option Addr} {ln lc : Nat} {LL : List ByteArray} {v v' : SV} {xs : List CM} {h q : Rat} (hs : RpX w0 w g la ln lc LL v xs h) (ho : Only [g] w w') (hsb : SBlk w' g v') (hsl : v'.sl = v.sl) (hh : v'.h.Is v'.h.n v'.h.m q w) : RpX w0 w' g la ln lc LL v' xs q := by
  have hne : w0.heap.size≠g := by have := hs.gg;omega
  have hnu : ∀ i∈[g],NoU w i := fun i hi => by rw [List.mem_singleton] at hi;subst hi;exact hs.s.noU
  refine ⟨Blk.only hs.z ho (by simpa using hne),hsb, ?_,hs.n.only ho hnu,hh.only ho hnu,hs.r.ge ho (fun i hi => by rw [List.mem_singleton] at hi;omega) hs.lb,hs.b.trans (ho.below hs.b.size (fun j hj => by rw [List.mem_singleton] at hj;have := hs.gg;omega)),hs.gl.only ho (fun i hi => by rw [List.mem_singleton] at hi;subst hi;have := hs.s9;have := hs.gg;omega),hs.gg,hs.s9,hs.lb⟩
  rw [hsl]
  exact hs.o.only ho (fun k hk hm => by rw [List.mem_singleton] at hm;exact hs.o.ne hs.s (by decide) k hk hm)
theorem RpX.push {w0 u w' : World} {g : Nat} {la : Option Addr} {ln lc : Nat} {LL : List ByteArray} {v : SV} {xs : List CM} {h : Rat} {xx : CM} {a3 : Option Addr} {n3 c3 : Nat} (hs : RpX w0 u g la ln lc LL v xs h)
    (hown : OwnN w' g (.slice a3 n3 c3) (xs ++ [xx])) (honly : Only v.sl.ownBlock.toList u w') (ht : xx.t.Is xx.t.n xx.t.m xx.p u) (hv : xx.v.Is xx.v.n xx.v.m xx.q u) :
    RpX w0 (w'.setCell ⟨g,5,none⟩ (.slice a3 n3 c3)) g la ln lc LL ⟨v.h,v.cas,v.bits,a3,n3,c3⟩ (xs ++ [xx]) h := by
  have hset : Only [g] w' (w'.setCell ⟨g,5,none⟩ (.slice a3 n3 c3)) := Only.set (List.mem_singleton.2 rfl) 5 _ _
  have hge : ∀ i∈v.sl.ownBlock.toList,g≤i := fun i hi => (hs.o.1.lt (by simpa using hi)).1
  have hnu : ∀ i∈v.sl.ownBlock.toList,NoU u i := fun i hi => hs.o.2 i (by simpa using hi)
  have hs1 : SBlk w' g v := Blk.only hs.s honly (hs.o.notin hs.s (by decide))
  have hnu1 : ∀ i∈[g],NoU w' i := fun i hi => by rw [List.mem_singleton] at hi;subst hi;exact hs1.noU
  have hne : w0.heap.size≠g := by have := hs.gg;omega
  have hb1 : Below w0.heap.size u w' := honly.below hs.b.size (fun j hj => by have := hge j hj;have := hs.gg;omega)
  have hb2 : Below w0.heap.size u (w'.setCell ⟨g,5,none⟩ (.slice a3 n3 c3)) := hb1.trans (hset.below (Nat.le_trans hs.b.size honly.size) (fun j hj => by rw [List.mem_singleton] at hj;have := hs.gg;omega))
  refine ⟨Blk.only (Blk.only hs.z honly (hs.o.notin hs.z (by decide))) hset (by simpa using hne),Blk.set hs1 5 _, ?_, ?_,(hs.hh.only honly hnu).only hset hnu1, ?_,hs.b.trans hb2, ?_,hs.gg,hs.s9,hs.lb⟩
  · exact hown.only hset (fun k hk hm => by rw [List.mem_singleton] at hm;exact hown.ne hs1 (by decide) k hk hm)
  · have h1 : NumsIn (xs ++ [xx]) u := by
      intro y hy
      rcases List.mem_append.1 hy with hy | hy
      · exact hs.n y hy
      · rw [List.mem_singleton] at hy
        rw [hy]
        exact ⟨ht,hv⟩
    exact (h1.only honly hnu).only hset hnu1
  · exact (hs.r.ge honly hge hs.lb).ge hset (fun i hi => by rw [List.mem_singleton] at hi;omega) hs.lb
  · exact (hs.gl.only honly (fun i hi => by have := hge i hi;have := hs.gg;have := hs.s9;omega)).only hset (fun i hi => by rw [List.mem_singleton] at hi;subst hi;have := hs.s9;have := hs.gg;omega)
theorem rp_err {O : Nat ⊕ ScT} {w0 w W : World} {g : Nat} {la : Option Addr} {ln lc : Nat} {LL : List ByteArray} {v : SV} {xs : List CM} {h : Rat} {k : Nat} (ho : O = .inl k) (hs : RpX w0 w g la ln lc LL v xs h) (hon : Only [w0.heap.size] w W) : ParRes O w0 (.returned (.tuple #[.agg #[.bool false,.slice none 0 0,.slice none 0 0,.int .i64 0,.int .i64 0,.slice none 0 0],.int .i64 200,.int .i64 (k : Int)])) W := by
  subst ho
  exact ⟨rfl,hs.b.trans (hon.below hs.b.size (fun j hj => by rw [List.mem_singleton] at hj;omega))⟩
set_option maxHeartbeats 16000000 in
theorem rparse_run (a : Option Addr) (n c : Nat) (l : List UInt8) (w : World) (hg : Gl w) (h : TRow w a n c l) (hn : n≤2000) : Calls Tryz.prog 9 #[.slice a n c] w (ParRes (parseM numS l) w) := by
  have hb1 := below_one w (.cells #[.bool false,.slice none 0 0,.slice none 0 0,.int .i64 0,.int .i64 0,.slice none 0 0] 30)
  have HZ := Lib.hid (show SBlk (w.alloc (.cells #[.bool false,.slice none 0 0,.slice none 0 0,.int .i64 0,.int .i64 0,.slice none 0 0] 30)) w.heap.size sv0 from Blk.new _ _ _)
  have HBR := Lib.hid (show BRw (w.alloc (.cells #[.bool false,.slice none 0 0,.slice none 0 0,.int .i64 0,.int .i64 0,.slice none 0 0] 30)) a n c l from TRow.later h hb1)
  have HG := Lib.hid (hg.later hb1)
  have HB := Lib.hid hb1
  have HS9 := Lib.hid hg.s
  have hnI : (n : Int)≤2000 := by omega
  have HNN := Lib.hid (show n≤65536 by omega)
  have hcm : c≤9223372036854775807 := by have := h.2.2.1;unfold maxLen at this;omega
  have hnc := h.2.1
  have HLL := Lib.hid (show l.length≤2000 by rw [h.1];exact hn)
  obtain ⟨O,hO⟩ : ∃ O,parseM numS l = O := ⟨_,rfl⟩
  rw [hO]
  have HO := Lib.hid hO
  clear hb1 hg h hn hO
  go_enter Tryz.func9,Tryz.ntmps9
  go_upto_region 4 with (go_at_call 32;(with_reducible refine (lines_t a n c l _ HBR.out HNN.out).mono ?_);rintro e w2 ⟨la,ln,lc,rfl,hl,hb⟩;have HR := Lib.hid hl;replace HZ := Lib.hid (SBlk.later HZ.out hb);replace HG := Lib.hid (HG.out.later hb);replace HB := Lib.hid (bthen HB.out hb);clear hl hb)
  obtain ⟨LL,hLL⟩ : ∃ LL,(linesM l).1 = LL := ⟨_,rfl⟩
  obtain ⟨ends,hends⟩ : ∃ e,(linesM l).2 = e := ⟨_,rfl⟩
  rw [hLL] at HR
  rw [hends]
  have hb := below_one w2 (.cells #[.bool false,.slice none 0 0,.slice none 0 0,.int .i64 0,.int .i64 0,.slice none 0 0] 30)
  have HX : Hid (RpX w (w2.alloc (.cells #[.bool false,.slice none 0 0,.slice none 0 0,.int .i64 0,.int .i64 0,.slice none 0 0] 30)) w2.heap.size la ln lc LL sv0 [] 0) := Lib.hid ⟨HZ.out.later hb,Blk.new _ _ _,OwnN.nil _ _,(fun x hx => by cases hx),rv0_is _,HR.out.later hb,bthen HB.out hb,HG.out.later hb,HZ.out.lt,HS9.out,fun b off hbo h0 => by obtain ⟨h1,-,-,b',off',h4,h5⟩ := HR.out;have e := h4.resolve_right (by omega);rw [hbo] at e;injection e with e;injection e with e;subst e;exact (h5 0 _ (List.getElem?_eq_getElem (by omega))).1⟩
  have HI : Hid (RpI O LL ends 0 sv0 [] 0 l) := Lib.hid ⟨by rw [List.drop_zero,hLL],hends.symm,by have := HLL.out;omega,Nat.le_refl _,HO.out.symm,(fun x hx => by cases hx),(fun hk => by omega),(fun _ => rfl),(fun _ => ⟨rfl,rfl⟩)⟩
  have hln : LL.length = ln := HR.out.1
  have hlnc : ln≤lc := HR.out.2.1
  have hlcm : lc≤9223372036854775807 := by have := HR.out.2.2.1;unfold maxLen at this;omega
  have HLN := Lib.hid hln
  clear hLL hends hb HR HZ HG HB hln HBR
  go_upto_region 6 with fail
  obtain ⟨W3,hW3⟩ : ∃ W3,W3 = w2.alloc (.cells #[.bool false,.slice none 0 0,.slice none 0 0,.int .i64 0,.int .i64 0,.slice none 0 0] 30) := ⟨_,rfl⟩
  rw [←hW3] at HX ⊢
  obtain ⟨g,hg⟩ : ∃ g,w2.heap.size = g := ⟨_,rfl⟩
  rw [hg] at HX ⊢
  clear hW3 hg
  go_loopw [8] (fun i wr => ∃ (k : Nat) (v : SV) (xs : List CM) (h : Rat) (rest : List UInt8),i = .int .i64 (k : Int)∧k≤65536∧Hid (RpX w wr g la ln lc LL v xs h)∧Hid (RpI O LL ends k v xs h rest)) (fun i _ => 70000 - (intOf i).toNat)
  case atStart => exact ⟨0,sv0,[],0,l,rfl,by omega,HX,HI⟩
  case round =>
    obtain ⟨k,v,xs,h,rest,rfl,hk6,HX2,HI⟩ := hrel
    clear HX
    have HX := HX2
    clear HX2
    obtain ⟨p0,p1,p2,p3,p4,p5⟩ := HX.out.s.cells;obtain ⟨z0,z1,z2,z3,z4,z5⟩ := HX.out.z.cells;have zf := Blk.free HX.out.z;have pf := Blk.free HX.out.s
    by_cases hkl : ln≤k
    · have HNIL := Lib.hid (rest_nil HI.out (by rw [HLN.out];exact hkl))
      by_cases hk3 : k < 3
      · have e1 : (k : Int) < 3 := by omega
        have e2 : (ln : Int)≤(k : Int) := by omega
        have HE : Hid (O = .inl (k + 1)) := by
          have ho := HI.out.o
          rw [HNIL.out] at ho
          have hno : ∀ {α : Type} {f : List ByteArray→Option α},lineM f [] = none := fun {α f} => line_none rfl
          rcases (show k = 0∨k = 1∨k = 2 by omega) with rfl | rfl | rfl
          · exact Lib.hid (ho.trans (st_no0 hno))
          · exact Lib.hid (ho.trans (st_no1 hno))
          · exact Lib.hid (ho.trans (st_no2 hno))
        have hk1 : (k : Int) + 1≤9223372036854775807 := by omega
        clear hkl hk3
        go_wp2_with fail
        refine bodyPost_ret (v := .tuple #[.agg #[.bool false,.slice none 0 0,.slice none 0 0,.int .i64 0,.int .i64 0,.slice none 0 0],.int .i64 200,.int .i64 ((k + 1 : Nat) : Int)]) (by simp [results,Tryz.results9,go_sem, *]) rfl ?_
        exact rp_err HE.out HX.out (only_put6 _ _ _ _ _ _ _ _)
      · have e1 : ¬ (k : Int) < 3 := by omega
        have e2 : ¬ (k : Int) < (ln : Int) := by omega
        have HE : Hid (O = .inr ⟨h,v.cas,v.bits,xs.map CM.told⟩) := by
          have ho := HI.out.o
          rw [HNIL.out] at ho
          obtain ⟨m,hm⟩ : ∃ m,k = m + 3 := ⟨k - 3,by omega⟩
          rw [hm] at ho
          exact Lib.hid (ho.trans st_end)
        have HF := Lib.hid (HI.out.hf (by omega))
        clear hkl hk3
        go_wp2_with fail
        refine bodyPost_ret (v := .tuple #[.agg #[.bool v.h.s,.slice v.h.a v.h.n v.h.c,.slice v.h.b v.h.m v.h.d,.int .i64 v.cas,.int .i64 v.bits,.slice v.a v.n v.c],.int .i64 0,.int .i64 0]) (by simp [results,Tryz.results9,go_sem, *]) rfl ?_
        exact par_end HX.out.b HX.out.z (only_put6 _ _ _ _ _ _ _ _) (HX.out.o.base (Nat.le_of_lt HX.out.gg)) HX.out.n HI.out.f HX.out.hh HF.out HE.out
    · have hkl2 : k < ln := by omega
      have HRL := Lib.hid (rest_line HI.out (by rw [HLN.out];exact hkl2))
      clear hkl
      rcases (show k = 0∨k = 1∨k = 2∨3≤k by omega) with rfl | rfl | rfl | hk3
      · have e2 : (0 : Int) < (ln : Int) := by omega
        have e3 : ¬ (ln : Int)≤(0 : Int) := by omega
        obtain ⟨hne,hcase⟩ := HRL.out
        have HNE := Lib.hid hne
        clear hne
        rcases hcase with ⟨x,r,hcut,hLk,hdr,he2,hok⟩ | ⟨hcut,hLk,hok⟩
        · have HCUT := Lib.hid hcut
          have HDR := Lib.hid (show LL.drop (0 + 1) = (linesM r).1∧ends = (linesM r).2 from ⟨hdr,he2⟩)
          have HYS := Lib.hid (show (bsL x).size≤65536 by rw [bsL_size];have := line_len hcut;have := HI.out.z;omega)
          obtain ⟨b,off,hla,hlb,hlc⟩ := HX.out.r.at_ hLk
          subst hla
          obtain ⟨y,hy⟩ : ∃ y,bsL x = y := ⟨_,rfl⟩
          rw [hy] at HYS hlc
          have HY := Lib.hid hy
          clear hcut hLk hdr he2 hlb hy
          try rw [Nat.add_zero] at hlc
          rcases (show ends = true∨(ends = false∧(0 : Int) < (ln : Int) - 1) by cases ends;exact .inr ⟨rfl,by rw [HLN.out] at hok;simpa using hok⟩;exact .inl rfl) with rfl | ⟨rfl,hlast⟩
          · clear hok
            go_upto_region 15 with (go_at_call 33;(with_reducible refine (words_t y _ HYS.out).mono ?_);rintro e w4 ⟨wa,wn,wc,rfl,hr,hb⟩;have HWR := Lib.hid hr;replace HX := Lib.hid (HX.out.later hb);clear hb hr;clear p0 p1 p2 p3 p4 p5 z0 z1 z2 z3 z4 z5 zf pf;obtain ⟨p0,p1,p2,p3,p4,p5⟩ := HX.out.s.cells;obtain ⟨z0,z1,z2,z3,z4,z5⟩ := HX.out.z.cells;have zf := Blk.free HX.out.z;have pf := Blk.free HX.out.s)
            by_cases hn2 : wn = 2
            · subst hn2
              obtain ⟨y0,y1,hyy⟩ := two HWR.out.1
              have HYY := Lib.hid hyy
              rw [hyy] at HWR
              have hs1 : y1.size≤1000000 := by have hm : y1∈wordsM (bsL x) := (by rw [HY.out,hyy];simp);have h8 := word_size hm;have h9 := HYS.out;rw [←HY.out,bsL_size] at h9;omega
              have HS1Z := Lib.hid hs1
              clear hyy hs1
              obtain ⟨b2,off2,rfl,-,hb2,d0,d1⟩ := srow2 HWR.out
              clear hb2
              by_cases hw : y0 = bHOR
              · subst hw
                have HLW := Lib.hid (show lineM (wordM bHOR numS) rest = (numS y1).map fun z => (z,r) by rw [line_words HCUT.out,HY.out,HYY.out,wordM_eq])
                unfold bHOR at d0
                have HRF := Lib.hid (rf_t HX.out.gl HS1Z.out)
                go_upto_region 19 with (go_at_call 34;(with_reducible refine (HRF.out _).mono ?_);rintro e w5 ⟨r1,E1,q1,rfl,hr,hl,ho,hb⟩;have hb1 := bthen hb (below_one w5 (.cells #[.bool r1.s,.slice r1.a r1.n r1.c,.slice r1.b r1.m r1.d] 27));replace HX := Lib.hid (HX.out.later hb1);have HR1 := Lib.hid (hr.later (below_one w5 (.cells #[.bool r1.s,.slice r1.a r1.n r1.c,.slice r1.b r1.m r1.d] 27)));have HT1 := Lib.hid (Blk.new w5 27 #[.bool r1.s,.slice r1.a r1.n r1.c,.slice r1.b r1.m r1.d]);have HO1 := Lib.hid ho;have HL1 := Lib.hid hl;clear p0 p1 p2 p3 p4 p5 z0 z1 z2 z3 z4 z5 zf pf;obtain ⟨p0,p1,p2,p3,p4,p5⟩ := HX.out.s.cells;obtain ⟨z0,z1,z2,z3,z4,z5⟩ := HX.out.z.cells;have zf := Blk.free HX.out.z;have pf := Blk.free HX.out.s;obtain ⟨t0,t1,t2,-,-,-,-⟩ := HT1.out.tri;have hgl := HX.out.s.lt;clear hb hb1 hr hl ho)
                obtain ⟨W5,hW5⟩ : ∃ W5,W5 = w5.alloc (.cells #[.bool r1.s,.slice r1.a r1.n r1.c,.slice r1.b r1.m r1.d] 27) := ⟨_,rfl⟩
                rw [←hW5] at HX HR1 HT1 hgl p0 p1 p2 p3 p4 p5 z0 z1 z2 z3 z4 z5 zf pf t0 t1 t2 ⊢
                obtain ⟨g1,hg1⟩ : ∃ g,w5.heap.size = g := ⟨_,rfl⟩
                rw [hg1] at HT1 t0 t1 t2 ⊢
                have hgg : g≠g1 := by
                  intro e
                  have h1 := HX.out.s
                  have h2 := HT1.out
                  unfold SBlk Blk at h1
                  unfold Blk at h2
                  rw [e,h2] at h1
                  injection h1 with h1
                  injection h1 with _ h1
                  exact absurd h1 (by decide)
                clear hW5 hg1 hgl
                go_upto_region 20 with fail
                obtain ⟨W6,hW6⟩ : ∃ W6,W6 = ((W5.setCell ⟨g,0,none⟩ (.bool r1.s)).setCell ⟨g,1,none⟩ (.slice r1.a r1.n r1.c)).setCell ⟨g,2,none⟩ (.slice r1.b r1.m r1.d) := ⟨_,rfl⟩
                rw [←hW6]
                have hon : Only [g] W5 W6 := by
                  have k : ∀ (i : Nat) (u : World) (x : Value),Only [g] u (u.setCell ⟨g,i,none⟩ x) := fun i u x => Only.set (List.mem_singleton.2 rfl) i u x
                  rw [hW6];exact ((k 0 _ _).trans (k 1 _ _)).trans (k 2 _ _)
                have hnu : ∀ i∈[g],NoU W5 i := fun i hi => by rw [List.mem_singleton] at hi;subst hi;exact HX.out.s.noU
                replace HT1 := Lib.hid (Blk.only HT1.out hon (by rw [List.mem_singleton];exact fun e => hgg e.symm))
                have HR2 := Lib.hid (HR1.out.only hon hnu)
                replace HX := Lib.hid (RpX.turn (v' := ⟨r1,v.cas,v.bits,v.a,v.n,v.c⟩) HX.out hon (by rw [hW6];exact ((HX.out.s.set 0 _).set 1 _).set 2 _) rfl HR1.out)
                replace HR1 := HR2
                clear hW6 hon hnu hgg HR2 t0 t1 t2
                clear p0 p1 p2 p3 p4 p5 z0 z1 z2 z3 z4 z5 zf pf
                obtain ⟨p0,p1,p2,p3,p4,p5⟩ := HX.out.s.cells;obtain ⟨z0,z1,z2,z3,z4,z5⟩ := HX.out.z.cells;have zf := Blk.free HX.out.z;have pf := Blk.free HX.out.s
                obtain ⟨t0,t1,t2,-,-,-,-⟩ := HT1.out.tri
                by_cases hE : E1 = 0
                · subst hE
                  replace HO1 := Lib.hid (show numS y1 = numO q1∧r1.Fit q1 by have := HO1.out;rwa [if_pos rfl] at this)
                  obtain ⟨S1,hS1⟩ : ∃ b,shortT (ratStr q1) = b := ⟨_,rfl⟩
                  have HS1 := Lib.hid hS1
                  clear hS1
                  cases S1 with
                  | true =>
                    have HNX : Hid (RpI O LL true 1 ⟨r1,v.cas,v.bits,v.a,v.n,v.c⟩ xs q1 r) := by
                      have ho := HI.out.o
                      have hc0 := HI.out.c0 rfl
                      have hx0 := HI.out.x0 (by omega)
                      have hl : lineM (wordM bHOR numS) rest = some (q1,r) := by rw [HLW.out,HO1.out.1];unfold numO;rw [HS1.out];rfl
                      rw [st_0 hl] at ho
                      refine Lib.hid ⟨HDR.out.1,HDR.out.2,by have := line_len HCUT.out;have := HI.out.z;omega,by rw [hx0];exact Nat.zero_le _, ?_,HI.out.f,fun _ => HO1.out.2,fun _ => hx0,fun hk => by omega⟩
                      rw [ho,hx0]
                      show stageM 1 q1 0 0 r [] = stageM 1 q1 v.cas v.bits r []
                      rw [hc0.1,hc0.2]
                    go_wp2_with (go_at_call 35;(with_reducible refine (short35X_t HR1.out (Nat.le_trans HL1.out.1 (by decide)) (Nat.le_trans HL1.out.2 (by decide))).mono ?_);rw [HS1.out];rintro e w7 ⟨rfl,hb⟩;replace HX := Lib.hid (HX.out.later hb);clear hb;clear p0 p1 p2 p3 p4 p5 z0 z1 z2 z3 z4 z5 zf pf;obtain ⟨p0,p1,p2,p3,p4,p5⟩ := HX.out.s.cells;obtain ⟨z0,z1,z2,z3,z4,z5⟩ := HX.out.z.cells;have zf := Blk.free HX.out.z;have pf := Blk.free HX.out.s)
                    go_roundw
                    case rel => exact ⟨1,_,xs,q1,r,by go_num,by omega,HX,HNX⟩
                    case measure => simp [intOf]
                  | false =>
                    have HN : Hid (lineM (wordM bHOR numS) rest = none) := by
                      rw [HLW.out,HO1.out.1];unfold numO;rw [HS1.out];exact Lib.hid rfl
                    have HE := Lib.hid (show O = .inl 1 from HI.out.o.trans (st_no0 HN.out))
                    go_wp2_with (go_at_call 35;(with_reducible refine (short35X_t HR1.out (Nat.le_trans HL1.out.1 (by decide)) (Nat.le_trans HL1.out.2 (by decide))).mono ?_);rw [HS1.out];rintro e w7 ⟨rfl,hb⟩;replace HX := Lib.hid (HX.out.later hb);clear hb;clear p0 p1 p2 p3 p4 p5 z0 z1 z2 z3 z4 z5 zf pf;obtain ⟨p0,p1,p2,p3,p4,p5⟩ := HX.out.s.cells;obtain ⟨z0,z1,z2,z3,z4,z5⟩ := HX.out.z.cells;have zf := Blk.free HX.out.z;have pf := Blk.free HX.out.s)
                    refine bodyPost_ret (v := .tuple #[.agg #[.bool false,.slice none 0 0,.slice none 0 0,.int .i64 0,.int .i64 0,.slice none 0 0],.int .i64 200,.int .i64 ((1 : Nat) : Int)]) (by simp [results,Tryz.results9,go_sem, *]) rfl ?_
                    exact rp_err HE.out HX.out (only_put6 _ _ _ _ _ _ _ _)
                · have hE2 : (E1 == 0) = false := beq_eq_false_iff_ne.2 hE
                  replace HO1 := Lib.hid (show numS y1 = none by have := HO1.out;rwa [if_neg hE] at this)
                  clear hE
                  have HN : Hid (lineM (wordM bHOR numS) rest = none) := by
                    rw [HLW.out,HO1.out];exact Lib.hid rfl
                  have HE := Lib.hid (show O = .inl 1 from HI.out.o.trans (st_no0 HN.out))
                  go_wp2_with fail
                  refine bodyPost_ret (v := .tuple #[.agg #[.bool false,.slice none 0 0,.slice none 0 0,.int .i64 0,.int .i64 0,.slice none 0 0],.int .i64 200,.int .i64 ((1 : Nat) : Int)]) (by simp [results,Tryz.results9,go_sem, *]) rfl ?_
                  exact rp_err HE.out HX.out (only_put6 _ _ _ _ _ _ _ _)
              · have ew : (y0.toList == [104,111,114,105,122,111,110]) = false := ne_list hw
                have HLW := Lib.hid (show lineM (wordM bHOR numS) rest = none by rw [line_words HCUT.out,HY.out,HYY.out,wordM_ne hw];rfl)
                clear hw
                have HE := Lib.hid (show O = .inl 1 from HI.out.o.trans (st_no0 HLW.out))
                go_wp2_with fail
                refine bodyPost_ret (v := .tuple #[.agg #[.bool false,.slice none 0 0,.slice none 0 0,.int .i64 0,.int .i64 0,.slice none 0 0],.int .i64 200,.int .i64 ((1 : Nat) : Int)]) (by simp [results,Tryz.results9,go_sem, *]) rfl ?_
                exact rp_err HE.out HX.out (only_put6 _ _ _ _ _ _ _ _)
            · have ew : ((wn : Int) == 2) = false := by rw [beq_eq_false_iff_ne];omega
              have HLW := Lib.hid (show lineM (wordM bHOR numS) rest = none by rw [line_words HCUT.out,HY.out,wordM_len (by rw [HWR.out.1];exact hn2)];rfl)
              clear hn2
              have HE := Lib.hid (show O = .inl 1 from HI.out.o.trans (st_no0 HLW.out))
              go_wp2_with fail
              refine bodyPost_ret (v := .tuple #[.agg #[.bool false,.slice none 0 0,.slice none 0 0,.int .i64 0,.int .i64 0,.slice none 0 0],.int .i64 200,.int .i64 ((1 : Nat) : Int)]) (by simp [results,Tryz.results9,go_sem, *]) rfl ?_
              exact rp_err HE.out HX.out (only_put6 _ _ _ _ _ _ _ _)
          · clear hok
            have hl2 : (1 : Int) < (ln : Int) := by omega
            go_upto_region 15 with (go_at_call 33;(with_reducible refine (words_t y _ HYS.out).mono ?_);rintro e w4 ⟨wa,wn,wc,rfl,hr,hb⟩;have HWR := Lib.hid hr;replace HX := Lib.hid (HX.out.later hb);clear hb hr;clear p0 p1 p2 p3 p4 p5 z0 z1 z2 z3 z4 z5 zf pf;obtain ⟨p0,p1,p2,p3,p4,p5⟩ := HX.out.s.cells;obtain ⟨z0,z1,z2,z3,z4,z5⟩ := HX.out.z.cells;have zf := Blk.free HX.out.z;have pf := Blk.free HX.out.s)
            clear hlast hl2
            by_cases hn2 : wn = 2
            · subst hn2
              obtain ⟨y0,y1,hyy⟩ := two HWR.out.1
              have HYY := Lib.hid hyy
              rw [hyy] at HWR
              have hs1 : y1.size≤1000000 := by have hm : y1∈wordsM (bsL x) := (by rw [HY.out,hyy];simp);have h8 := word_size hm;have h9 := HYS.out;rw [←HY.out,bsL_size] at h9;omega
              have HS1Z := Lib.hid hs1
              clear hyy hs1
              obtain ⟨b2,off2,rfl,-,hb2,d0,d1⟩ := srow2 HWR.out
              clear hb2
              by_cases hw : y0 = bHOR
              · subst hw
                have HLW := Lib.hid (show lineM (wordM bHOR numS) rest = (numS y1).map fun z => (z,r) by rw [line_words HCUT.out,HY.out,HYY.out,wordM_eq])
                unfold bHOR at d0
                have HRF := Lib.hid (rf_t HX.out.gl HS1Z.out)
                go_upto_region 19 with (go_at_call 34;(with_reducible refine (HRF.out _).mono ?_);rintro e w5 ⟨r1,E1,q1,rfl,hr,hl,ho,hb⟩;have hb1 := bthen hb (below_one w5 (.cells #[.bool r1.s,.slice r1.a r1.n r1.c,.slice r1.b r1.m r1.d] 27));replace HX := Lib.hid (HX.out.later hb1);have HR1 := Lib.hid (hr.later (below_one w5 (.cells #[.bool r1.s,.slice r1.a r1.n r1.c,.slice r1.b r1.m r1.d] 27)));have HT1 := Lib.hid (Blk.new w5 27 #[.bool r1.s,.slice r1.a r1.n r1.c,.slice r1.b r1.m r1.d]);have HO1 := Lib.hid ho;have HL1 := Lib.hid hl;clear p0 p1 p2 p3 p4 p5 z0 z1 z2 z3 z4 z5 zf pf;obtain ⟨p0,p1,p2,p3,p4,p5⟩ := HX.out.s.cells;obtain ⟨z0,z1,z2,z3,z4,z5⟩ := HX.out.z.cells;have zf := Blk.free HX.out.z;have pf := Blk.free HX.out.s;obtain ⟨t0,t1,t2,-,-,-,-⟩ := HT1.out.tri;have hgl := HX.out.s.lt;clear hb hb1 hr hl ho)
                obtain ⟨W5,hW5⟩ : ∃ W5,W5 = w5.alloc (.cells #[.bool r1.s,.slice r1.a r1.n r1.c,.slice r1.b r1.m r1.d] 27) := ⟨_,rfl⟩
                rw [←hW5] at HX HR1 HT1 hgl p0 p1 p2 p3 p4 p5 z0 z1 z2 z3 z4 z5 zf pf t0 t1 t2 ⊢
                obtain ⟨g1,hg1⟩ : ∃ g,w5.heap.size = g := ⟨_,rfl⟩
                rw [hg1] at HT1 t0 t1 t2 ⊢
                have hgg : g≠g1 := by
                  intro e
                  have h1 := HX.out.s
                  have h2 := HT1.out
                  unfold SBlk Blk at h1
                  unfold Blk at h2
                  rw [e,h2] at h1
                  injection h1 with h1
                  injection h1 with _ h1
                  exact absurd h1 (by decide)
                clear hW5 hg1 hgl
                go_upto_region 20 with fail
                obtain ⟨W6,hW6⟩ : ∃ W6,W6 = ((W5.setCell ⟨g,0,none⟩ (.bool r1.s)).setCell ⟨g,1,none⟩ (.slice r1.a r1.n r1.c)).setCell ⟨g,2,none⟩ (.slice r1.b r1.m r1.d) := ⟨_,rfl⟩
                rw [←hW6]
                have hon : Only [g] W5 W6 := by
                  have k : ∀ (i : Nat) (u : World) (x : Value),Only [g] u (u.setCell ⟨g,i,none⟩ x) := fun i u x => Only.set (List.mem_singleton.2 rfl) i u x
                  rw [hW6];exact ((k 0 _ _).trans (k 1 _ _)).trans (k 2 _ _)
                have hnu : ∀ i∈[g],NoU W5 i := fun i hi => by rw [List.mem_singleton] at hi;subst hi;exact HX.out.s.noU
                replace HT1 := Lib.hid (Blk.only HT1.out hon (by rw [List.mem_singleton];exact fun e => hgg e.symm))
                have HR2 := Lib.hid (HR1.out.only hon hnu)
                replace HX := Lib.hid (RpX.turn (v' := ⟨r1,v.cas,v.bits,v.a,v.n,v.c⟩) HX.out hon (by rw [hW6];exact ((HX.out.s.set 0 _).set 1 _).set 2 _) rfl HR1.out)
                replace HR1 := HR2
                clear hW6 hon hnu hgg HR2 t0 t1 t2
                clear p0 p1 p2 p3 p4 p5 z0 z1 z2 z3 z4 z5 zf pf
                obtain ⟨p0,p1,p2,p3,p4,p5⟩ := HX.out.s.cells;obtain ⟨z0,z1,z2,z3,z4,z5⟩ := HX.out.z.cells;have zf := Blk.free HX.out.z;have pf := Blk.free HX.out.s
                obtain ⟨t0,t1,t2,-,-,-,-⟩ := HT1.out.tri
                by_cases hE : E1 = 0
                · subst hE
                  replace HO1 := Lib.hid (show numS y1 = numO q1∧r1.Fit q1 by have := HO1.out;rwa [if_pos rfl] at this)
                  obtain ⟨S1,hS1⟩ : ∃ b,shortT (ratStr q1) = b := ⟨_,rfl⟩
                  have HS1 := Lib.hid hS1
                  clear hS1
                  cases S1 with
                  | true =>
                    have HNX : Hid (RpI O LL false 1 ⟨r1,v.cas,v.bits,v.a,v.n,v.c⟩ xs q1 r) := by
                      have ho := HI.out.o
                      have hc0 := HI.out.c0 rfl
                      have hx0 := HI.out.x0 (by omega)
                      have hl : lineM (wordM bHOR numS) rest = some (q1,r) := by rw [HLW.out,HO1.out.1];unfold numO;rw [HS1.out];rfl
                      rw [st_0 hl] at ho
                      refine Lib.hid ⟨HDR.out.1,HDR.out.2,by have := line_len HCUT.out;have := HI.out.z;omega,by rw [hx0];exact Nat.zero_le _, ?_,HI.out.f,fun _ => HO1.out.2,fun _ => hx0,fun hk => by omega⟩
                      rw [ho,hx0]
                      show stageM 1 q1 0 0 r [] = stageM 1 q1 v.cas v.bits r []
                      rw [hc0.1,hc0.2]
                    go_wp2_with (go_at_call 35;(with_reducible refine (short35X_t HR1.out (Nat.le_trans HL1.out.1 (by decide)) (Nat.le_trans HL1.out.2 (by decide))).mono ?_);rw [HS1.out];rintro e w7 ⟨rfl,hb⟩;replace HX := Lib.hid (HX.out.later hb);clear hb;clear p0 p1 p2 p3 p4 p5 z0 z1 z2 z3 z4 z5 zf pf;obtain ⟨p0,p1,p2,p3,p4,p5⟩ := HX.out.s.cells;obtain ⟨z0,z1,z2,z3,z4,z5⟩ := HX.out.z.cells;have zf := Blk.free HX.out.z;have pf := Blk.free HX.out.s)
                    go_roundw
                    case rel => exact ⟨1,_,xs,q1,r,by go_num,by omega,HX,HNX⟩
                    case measure => simp [intOf]
                  | false =>
                    have HN : Hid (lineM (wordM bHOR numS) rest = none) := by
                      rw [HLW.out,HO1.out.1];unfold numO;rw [HS1.out];exact Lib.hid rfl
                    have HE := Lib.hid (show O = .inl 1 from HI.out.o.trans (st_no0 HN.out))
                    go_wp2_with (go_at_call 35;(with_reducible refine (short35X_t HR1.out (Nat.le_trans HL1.out.1 (by decide)) (Nat.le_trans HL1.out.2 (by decide))).mono ?_);rw [HS1.out];rintro e w7 ⟨rfl,hb⟩;replace HX := Lib.hid (HX.out.later hb);clear hb;clear p0 p1 p2 p3 p4 p5 z0 z1 z2 z3 z4 z5 zf pf;obtain ⟨p0,p1,p2,p3,p4,p5⟩ := HX.out.s.cells;obtain ⟨z0,z1,z2,z3,z4,z5⟩ := HX.out.z.cells;have zf := Blk.free HX.out.z;have pf := Blk.free HX.out.s)
                    refine bodyPost_ret (v := .tuple #[.agg #[.bool false,.slice none 0 0,.slice none 0 0,.int .i64 0,.int .i64 0,.slice none 0 0],.int .i64 200,.int .i64 ((1 : Nat) : Int)]) (by simp [results,Tryz.results9,go_sem, *]) rfl ?_
                    exact rp_err HE.out HX.out (only_put6 _ _ _ _ _ _ _ _)
                · have hE2 : (E1 == 0) = false := beq_eq_false_iff_ne.2 hE
                  replace HO1 := Lib.hid (show numS y1 = none by have := HO1.out;rwa [if_neg hE] at this)
                  clear hE
                  have HN : Hid (lineM (wordM bHOR numS) rest = none) := by
                    rw [HLW.out,HO1.out];exact Lib.hid rfl
                  have HE := Lib.hid (show O = .inl 1 from HI.out.o.trans (st_no0 HN.out))
                  go_wp2_with fail
                  refine bodyPost_ret (v := .tuple #[.agg #[.bool false,.slice none 0 0,.slice none 0 0,.int .i64 0,.int .i64 0,.slice none 0 0],.int .i64 200,.int .i64 ((1 : Nat) : Int)]) (by simp [results,Tryz.results9,go_sem, *]) rfl ?_
                  exact rp_err HE.out HX.out (only_put6 _ _ _ _ _ _ _ _)
              · have ew : (y0.toList == [104,111,114,105,122,111,110]) = false := ne_list hw
                have HLW := Lib.hid (show lineM (wordM bHOR numS) rest = none by rw [line_words HCUT.out,HY.out,HYY.out,wordM_ne hw];rfl)
                clear hw
                have HE := Lib.hid (show O = .inl 1 from HI.out.o.trans (st_no0 HLW.out))
                go_wp2_with fail
                refine bodyPost_ret (v := .tuple #[.agg #[.bool false,.slice none 0 0,.slice none 0 0,.int .i64 0,.int .i64 0,.slice none 0 0],.int .i64 200,.int .i64 ((1 : Nat) : Int)]) (by simp [results,Tryz.results9,go_sem, *]) rfl ?_
                exact rp_err HE.out HX.out (only_put6 _ _ _ _ _ _ _ _)
            · have ew : ((wn : Int) == 2) = false := by rw [beq_eq_false_iff_ne];omega
              have HLW := Lib.hid (show lineM (wordM bHOR numS) rest = none by rw [line_words HCUT.out,HY.out,wordM_len (by rw [HWR.out.1];exact hn2)];rfl)
              clear hn2
              have HE := Lib.hid (show O = .inl 1 from HI.out.o.trans (st_no0 HLW.out))
              go_wp2_with fail
              refine bodyPost_ret (v := .tuple #[.agg #[.bool false,.slice none 0 0,.slice none 0 0,.int .i64 0,.int .i64 0,.slice none 0 0],.int .i64 200,.int .i64 ((1 : Nat) : Int)]) (by simp [results,Tryz.results9,go_sem, *]) rfl ?_
              exact rp_err HE.out HX.out (only_put6 _ _ _ _ _ _ _ _)
        · have HCUT := Lib.hid hcut
          have HYS := Lib.hid (show (bsL rest).size≤65536 by rw [bsL_size];have := HI.out.z;omega)
          obtain ⟨b,off,hla,hlb,hlc⟩ := HX.out.r.at_ hLk
          subst hla
          obtain ⟨y,hy⟩ : ∃ y,bsL rest = y := ⟨_,rfl⟩
          rw [hy] at HYS hlc
          have HY := Lib.hid hy
          clear hcut hLk hlb hy
          try rw [Nat.add_zero] at hlc
          obtain ⟨rfl,hlast⟩ : ends = false∧¬ (0 : Int) < (ln : Int) - 1 := by cases ends;exact ⟨rfl,by rw [HLN.out] at hok;simpa using hok⟩;exact absurd hok (by simp)
          clear hok
          have hl2 : decide ((1 : Int) < (ln : Int)) = false := decide_eq_false (by omega)
          have hl3 : decide ((0 : Int) < (ln : Int) - 1) = false := decide_eq_false (by omega)
          clear hlast
          go_upto_region 15 with (go_at_call 33;(with_reducible refine (words_t y _ HYS.out).mono ?_);rintro e w4 ⟨wa,wn,wc,rfl,hr,hb⟩;have HWR := Lib.hid hr;replace HX := Lib.hid (HX.out.later hb);clear hb hr;clear p0 p1 p2 p3 p4 p5 z0 z1 z2 z3 z4 z5 zf pf;obtain ⟨p0,p1,p2,p3,p4,p5⟩ := HX.out.s.cells;obtain ⟨z0,z1,z2,z3,z4,z5⟩ := HX.out.z.cells;have zf := Blk.free HX.out.z;have pf := Blk.free HX.out.s)
          try simp only [hl2,hl3]
          clear hl2 hl3
          have HE := Lib.hid (show O = .inl 1 from HI.out.o.trans (st_no0 (line_none HCUT.out)))
          go_wp2_with fail
          refine bodyPost_ret (v := .tuple #[.agg #[.bool false,.slice none 0 0,.slice none 0 0,.int .i64 0,.int .i64 0,.slice none 0 0],.int .i64 200,.int .i64 ((1 : Nat) : Int)]) (by simp [results,Tryz.results9,go_sem, *]) rfl ?_
          exact rp_err HE.out HX.out (only_put6 _ _ _ _ _ _ _ _)
      · have e2 : (1 : Int) < (ln : Int) := by omega
        have e3 : ¬ (ln : Int)≤(1 : Int) := by omega
        obtain ⟨hne,hcase⟩ := HRL.out
        have HNE := Lib.hid hne
        clear hne
        rcases hcase with ⟨x,r,hcut,hLk,hdr,he2,hok⟩ | ⟨hcut,hLk,hok⟩
        · have HCUT := Lib.hid hcut
          have HDR := Lib.hid (show LL.drop (1 + 1) = (linesM r).1∧ends = (linesM r).2 from ⟨hdr,he2⟩)
          have HYS := Lib.hid (show (bsL x).size≤65536 by rw [bsL_size];have := line_len hcut;have := HI.out.z;omega)
          obtain ⟨b,off,hla,hlb,hlc⟩ := HX.out.r.at_ hLk
          subst hla
          obtain ⟨y,hy⟩ : ∃ y,bsL x = y := ⟨_,rfl⟩
          rw [hy] at HYS hlc
          have HY := Lib.hid hy
          clear hcut hLk hdr he2 hlb hy
          try rw [Nat.add_zero] at hlc
          rcases (show ends = true∨(ends = false∧(1 : Int) < (ln : Int) - 1) by cases ends;exact .inr ⟨rfl,by rw [HLN.out] at hok;simpa using hok⟩;exact .inl rfl) with rfl | ⟨rfl,hlast⟩
          · clear hok
            go_upto_region 15 with (go_at_call 33;(with_reducible refine (words_t y _ HYS.out).mono ?_);rintro e w4 ⟨wa,wn,wc,rfl,hr,hb⟩;have HWR := Lib.hid hr;replace HX := Lib.hid (HX.out.later hb);clear hb hr;clear p0 p1 p2 p3 p4 p5 z0 z1 z2 z3 z4 z5 zf pf;obtain ⟨p0,p1,p2,p3,p4,p5⟩ := HX.out.s.cells;obtain ⟨z0,z1,z2,z3,z4,z5⟩ := HX.out.z.cells;have zf := Blk.free HX.out.z;have pf := Blk.free HX.out.s)
            by_cases hn2 : wn = 2
            · subst hn2
              obtain ⟨y0,y1,hyy⟩ := two HWR.out.1
              have HYY := Lib.hid hyy
              rw [hyy] at HWR
              have hs1 : y1.size≤1000000 := by have hm : y1∈wordsM (bsL x) := (by rw [HY.out,hyy];simp);have h8 := word_size hm;have h9 := HYS.out;rw [←HY.out,bsL_size] at h9;omega
              have HS1Z := Lib.hid hs1
              clear hyy hs1
              obtain ⟨b2,off2,rfl,-,hb2,d0,d1⟩ := srow2 HWR.out
              clear hb2
              by_cases hw : y0 = bCAS
              · subst hw
                have HLW := Lib.hid (show lineM (wordM bCAS cntS) rest = (cntS y1).map fun z => (z,r) by rw [line_words HCUT.out,HY.out,HYY.out,wordM_eq])
                unfold bCAS at d0
                go_upto_region 32 with (go_at_call 36;(with_reducible refine (number36_t y1 _ HS1Z.out).mono ?_);rintro e w5 ⟨nv,bb,rfl,ho,hww⟩;obtain rfl : w4 = w5 := hww;have HO1 := Lib.hid ho;clear ho)
                obtain ⟨W6,hW6⟩ : ∃ W6,W6 = w4.setCell ⟨g,3,none⟩ (.int .i64 nv) := ⟨_,rfl⟩
                rw [←hW6]
                have hon : Only [g] w4 W6 := by rw [hW6];exact Only.set (List.mem_singleton.2 rfl) 3 _ _
                replace HX := Lib.hid (RpX.turn (v' := ⟨v.h,nv,v.bits,v.a,v.n,v.c⟩) HX.out hon (by rw [hW6];exact Blk.set HX.out.s 3 _) rfl HX.out.hh)
                clear hW6 hon
                clear p0 p1 p2 p3 p4 p5 z0 z1 z2 z3 z4 z5 zf pf
                obtain ⟨p0,p1,p2,p3,p4,p5⟩ := HX.out.s.cells;obtain ⟨z0,z1,z2,z3,z4,z5⟩ := HX.out.z.cells;have zf := Blk.free HX.out.z;have pf := Blk.free HX.out.s
                cases bb with
                | true =>
                  have HNX : Hid (RpI O LL true 2 ⟨v.h,nv,v.bits,v.a,v.n,v.c⟩ xs h r) := by
                    have ho := HI.out.o
                    have hcn : cntS y1 = some nv := by have := HO1.out;rwa [if_pos rfl] at this
                    have hl : lineM (wordM bCAS cntS) rest = some (nv,r) := by rw [HLW.out,hcn];rfl
                    refine Lib.hid ⟨HDR.out.1,HDR.out.2,by have := line_len HCUT.out;have := HI.out.z;omega,by have := HI.out.q;omega,ho.trans (st_1 hl),HI.out.f,fun _ => HI.out.hf (by omega),fun _ => HI.out.x0 (by omega),fun hk => by omega⟩
                  go_wp2_with fail
                  go_roundw
                  case rel => exact ⟨2,_,xs,h,r,by go_num,by omega,HX,HNX⟩
                  case measure => simp [intOf]
                | false =>
                  have hcn : cntS y1 = none := by have := HO1.out;rwa [if_neg (by decide)] at this
                  have HN := Lib.hid (show lineM (wordM bCAS cntS) rest = none by rw [HLW.out,hcn];rfl)
                  clear hcn
                  have HE := Lib.hid (show O = .inl 2 from HI.out.o.trans (st_no1 HN.out))
                  go_wp2_with fail
                  refine bodyPost_ret (v := .tuple #[.agg #[.bool false,.slice none 0 0,.slice none 0 0,.int .i64 0,.int .i64 0,.slice none 0 0],.int .i64 200,.int .i64 ((2 : Nat) : Int)]) (by simp [results,Tryz.results9,go_sem, *]) rfl ?_
                  exact rp_err HE.out HX.out (only_put6 _ _ _ _ _ _ _ _)
              · have ew : (y0.toList == [99,97,115,99,97,100,101]) = false := ne_list hw
                have HLW := Lib.hid (show lineM (wordM bCAS cntS) rest = none by rw [line_words HCUT.out,HY.out,HYY.out,wordM_ne hw];rfl)
                clear hw
                have HE := Lib.hid (show O = .inl 2 from HI.out.o.trans (st_no1 HLW.out))
                go_wp2_with fail
                refine bodyPost_ret (v := .tuple #[.agg #[.bool false,.slice none 0 0,.slice none 0 0,.int .i64 0,.int .i64 0,.slice none 0 0],.int .i64 200,.int .i64 ((2 : Nat) : Int)]) (by simp [results,Tryz.results9,go_sem, *]) rfl ?_
                exact rp_err HE.out HX.out (only_put6 _ _ _ _ _ _ _ _)
            · have ew : ((wn : Int) == 2) = false := by rw [beq_eq_false_iff_ne];omega
              have HLW := Lib.hid (show lineM (wordM bCAS cntS) rest = none by rw [line_words HCUT.out,HY.out,wordM_len (by rw [HWR.out.1];exact hn2)];rfl)
              clear hn2
              have HE := Lib.hid (show O = .inl 2 from HI.out.o.trans (st_no1 HLW.out))
              go_wp2_with fail
              refine bodyPost_ret (v := .tuple #[.agg #[.bool false,.slice none 0 0,.slice none 0 0,.int .i64 0,.int .i64 0,.slice none 0 0],.int .i64 200,.int .i64 ((2 : Nat) : Int)]) (by simp [results,Tryz.results9,go_sem, *]) rfl ?_
              exact rp_err HE.out HX.out (only_put6 _ _ _ _ _ _ _ _)
          · clear hok
            have hl2 : (2 : Int) < (ln : Int) := by omega
            go_upto_region 15 with (go_at_call 33;(with_reducible refine (words_t y _ HYS.out).mono ?_);rintro e w4 ⟨wa,wn,wc,rfl,hr,hb⟩;have HWR := Lib.hid hr;replace HX := Lib.hid (HX.out.later hb);clear hb hr;clear p0 p1 p2 p3 p4 p5 z0 z1 z2 z3 z4 z5 zf pf;obtain ⟨p0,p1,p2,p3,p4,p5⟩ := HX.out.s.cells;obtain ⟨z0,z1,z2,z3,z4,z5⟩ := HX.out.z.cells;have zf := Blk.free HX.out.z;have pf := Blk.free HX.out.s)
            clear hlast hl2
            by_cases hn2 : wn = 2
            · subst hn2
              obtain ⟨y0,y1,hyy⟩ := two HWR.out.1
              have HYY := Lib.hid hyy
              rw [hyy] at HWR
              have hs1 : y1.size≤1000000 := by have hm : y1∈wordsM (bsL x) := (by rw [HY.out,hyy];simp);have h8 := word_size hm;have h9 := HYS.out;rw [←HY.out,bsL_size] at h9;omega
              have HS1Z := Lib.hid hs1
              clear hyy hs1
              obtain ⟨b2,off2,rfl,-,hb2,d0,d1⟩ := srow2 HWR.out
              clear hb2
              by_cases hw : y0 = bCAS
              · subst hw
                have HLW := Lib.hid (show lineM (wordM bCAS cntS) rest = (cntS y1).map fun z => (z,r) by rw [line_words HCUT.out,HY.out,HYY.out,wordM_eq])
                unfold bCAS at d0
                go_upto_region 32 with (go_at_call 36;(with_reducible refine (number36_t y1 _ HS1Z.out).mono ?_);rintro e w5 ⟨nv,bb,rfl,ho,hww⟩;obtain rfl : w4 = w5 := hww;have HO1 := Lib.hid ho;clear ho)
                obtain ⟨W6,hW6⟩ : ∃ W6,W6 = w4.setCell ⟨g,3,none⟩ (.int .i64 nv) := ⟨_,rfl⟩
                rw [←hW6]
                have hon : Only [g] w4 W6 := by rw [hW6];exact Only.set (List.mem_singleton.2 rfl) 3 _ _
                replace HX := Lib.hid (RpX.turn (v' := ⟨v.h,nv,v.bits,v.a,v.n,v.c⟩) HX.out hon (by rw [hW6];exact Blk.set HX.out.s 3 _) rfl HX.out.hh)
                clear hW6 hon
                clear p0 p1 p2 p3 p4 p5 z0 z1 z2 z3 z4 z5 zf pf
                obtain ⟨p0,p1,p2,p3,p4,p5⟩ := HX.out.s.cells;obtain ⟨z0,z1,z2,z3,z4,z5⟩ := HX.out.z.cells;have zf := Blk.free HX.out.z;have pf := Blk.free HX.out.s
                cases bb with
                | true =>
                  have HNX : Hid (RpI O LL false 2 ⟨v.h,nv,v.bits,v.a,v.n,v.c⟩ xs h r) := by
                    have ho := HI.out.o
                    have hcn : cntS y1 = some nv := by have := HO1.out;rwa [if_pos rfl] at this
                    have hl : lineM (wordM bCAS cntS) rest = some (nv,r) := by rw [HLW.out,hcn];rfl
                    refine Lib.hid ⟨HDR.out.1,HDR.out.2,by have := line_len HCUT.out;have := HI.out.z;omega,by have := HI.out.q;omega,ho.trans (st_1 hl),HI.out.f,fun _ => HI.out.hf (by omega),fun _ => HI.out.x0 (by omega),fun hk => by omega⟩
                  go_wp2_with fail
                  go_roundw
                  case rel => exact ⟨2,_,xs,h,r,by go_num,by omega,HX,HNX⟩
                  case measure => simp [intOf]
                | false =>
                  have hcn : cntS y1 = none := by have := HO1.out;rwa [if_neg (by decide)] at this
                  have HN := Lib.hid (show lineM (wordM bCAS cntS) rest = none by rw [HLW.out,hcn];rfl)
                  clear hcn
                  have HE := Lib.hid (show O = .inl 2 from HI.out.o.trans (st_no1 HN.out))
                  go_wp2_with fail
                  refine bodyPost_ret (v := .tuple #[.agg #[.bool false,.slice none 0 0,.slice none 0 0,.int .i64 0,.int .i64 0,.slice none 0 0],.int .i64 200,.int .i64 ((2 : Nat) : Int)]) (by simp [results,Tryz.results9,go_sem, *]) rfl ?_
                  exact rp_err HE.out HX.out (only_put6 _ _ _ _ _ _ _ _)
              · have ew : (y0.toList == [99,97,115,99,97,100,101]) = false := ne_list hw
                have HLW := Lib.hid (show lineM (wordM bCAS cntS) rest = none by rw [line_words HCUT.out,HY.out,HYY.out,wordM_ne hw];rfl)
                clear hw
                have HE := Lib.hid (show O = .inl 2 from HI.out.o.trans (st_no1 HLW.out))
                go_wp2_with fail
                refine bodyPost_ret (v := .tuple #[.agg #[.bool false,.slice none 0 0,.slice none 0 0,.int .i64 0,.int .i64 0,.slice none 0 0],.int .i64 200,.int .i64 ((2 : Nat) : Int)]) (by simp [results,Tryz.results9,go_sem, *]) rfl ?_
                exact rp_err HE.out HX.out (only_put6 _ _ _ _ _ _ _ _)
            · have ew : ((wn : Int) == 2) = false := by rw [beq_eq_false_iff_ne];omega
              have HLW := Lib.hid (show lineM (wordM bCAS cntS) rest = none by rw [line_words HCUT.out,HY.out,wordM_len (by rw [HWR.out.1];exact hn2)];rfl)
              clear hn2
              have HE := Lib.hid (show O = .inl 2 from HI.out.o.trans (st_no1 HLW.out))
              go_wp2_with fail
              refine bodyPost_ret (v := .tuple #[.agg #[.bool false,.slice none 0 0,.slice none 0 0,.int .i64 0,.int .i64 0,.slice none 0 0],.int .i64 200,.int .i64 ((2 : Nat) : Int)]) (by simp [results,Tryz.results9,go_sem, *]) rfl ?_
              exact rp_err HE.out HX.out (only_put6 _ _ _ _ _ _ _ _)
        · have HCUT := Lib.hid hcut
          have HYS := Lib.hid (show (bsL rest).size≤65536 by rw [bsL_size];have := HI.out.z;omega)
          obtain ⟨b,off,hla,hlb,hlc⟩ := HX.out.r.at_ hLk
          subst hla
          obtain ⟨y,hy⟩ : ∃ y,bsL rest = y := ⟨_,rfl⟩
          rw [hy] at HYS hlc
          have HY := Lib.hid hy
          clear hcut hLk hlb hy
          try rw [Nat.add_zero] at hlc
          obtain ⟨rfl,hlast⟩ : ends = false∧¬ (1 : Int) < (ln : Int) - 1 := by cases ends;exact ⟨rfl,by rw [HLN.out] at hok;simpa using hok⟩;exact absurd hok (by simp)
          clear hok
          have hl2 : decide ((2 : Int) < (ln : Int)) = false := decide_eq_false (by omega)
          have hl3 : decide ((1 : Int) < (ln : Int) - 1) = false := decide_eq_false (by omega)
          clear hlast
          go_upto_region 15 with (go_at_call 33;(with_reducible refine (words_t y _ HYS.out).mono ?_);rintro e w4 ⟨wa,wn,wc,rfl,hr,hb⟩;have HWR := Lib.hid hr;replace HX := Lib.hid (HX.out.later hb);clear hb hr;clear p0 p1 p2 p3 p4 p5 z0 z1 z2 z3 z4 z5 zf pf;obtain ⟨p0,p1,p2,p3,p4,p5⟩ := HX.out.s.cells;obtain ⟨z0,z1,z2,z3,z4,z5⟩ := HX.out.z.cells;have zf := Blk.free HX.out.z;have pf := Blk.free HX.out.s)
          try simp only [hl2,hl3]
          clear hl2 hl3
          have HE := Lib.hid (show O = .inl 2 from HI.out.o.trans (st_no1 (line_none HCUT.out)))
          go_wp2_with fail
          refine bodyPost_ret (v := .tuple #[.agg #[.bool false,.slice none 0 0,.slice none 0 0,.int .i64 0,.int .i64 0,.slice none 0 0],.int .i64 200,.int .i64 ((2 : Nat) : Int)]) (by simp [results,Tryz.results9,go_sem, *]) rfl ?_
          exact rp_err HE.out HX.out (only_put6 _ _ _ _ _ _ _ _)
      · have e2 : (2 : Int) < (ln : Int) := by omega
        have e3 : ¬ (ln : Int)≤(2 : Int) := by omega
        obtain ⟨hne,hcase⟩ := HRL.out
        have HNE := Lib.hid hne
        clear hne
        rcases hcase with ⟨x,r,hcut,hLk,hdr,he2,hok⟩ | ⟨hcut,hLk,hok⟩
        · have HCUT := Lib.hid hcut
          have HDR := Lib.hid (show LL.drop (2 + 1) = (linesM r).1∧ends = (linesM r).2 from ⟨hdr,he2⟩)
          have HYS := Lib.hid (show (bsL x).size≤65536 by rw [bsL_size];have := line_len hcut;have := HI.out.z;omega)
          obtain ⟨b,off,hla,hlb,hlc⟩ := HX.out.r.at_ hLk
          subst hla
          obtain ⟨y,hy⟩ : ∃ y,bsL x = y := ⟨_,rfl⟩
          rw [hy] at HYS hlc
          have HY := Lib.hid hy
          clear hcut hLk hdr he2 hlb hy
          try rw [Nat.add_zero] at hlc
          rcases (show ends = true∨(ends = false∧(2 : Int) < (ln : Int) - 1) by cases ends;exact .inr ⟨rfl,by rw [HLN.out] at hok;simpa using hok⟩;exact .inl rfl) with rfl | ⟨rfl,hlast⟩
          · clear hok
            go_upto_region 15 with (go_at_call 33;(with_reducible refine (words_t y _ HYS.out).mono ?_);rintro e w4 ⟨wa,wn,wc,rfl,hr,hb⟩;have HWR := Lib.hid hr;replace HX := Lib.hid (HX.out.later hb);clear hb hr;clear p0 p1 p2 p3 p4 p5 z0 z1 z2 z3 z4 z5 zf pf;obtain ⟨p0,p1,p2,p3,p4,p5⟩ := HX.out.s.cells;obtain ⟨z0,z1,z2,z3,z4,z5⟩ := HX.out.z.cells;have zf := Blk.free HX.out.z;have pf := Blk.free HX.out.s)
            by_cases hn2 : wn = 2
            · subst hn2
              obtain ⟨y0,y1,hyy⟩ := two HWR.out.1
              have HYY := Lib.hid hyy
              rw [hyy] at HWR
              have hs1 : y1.size≤1000000 := by have hm : y1∈wordsM (bsL x) := (by rw [HY.out,hyy];simp);have h8 := word_size hm;have h9 := HYS.out;rw [←HY.out,bsL_size] at h9;omega
              have HS1Z := Lib.hid hs1
              clear hyy hs1
              obtain ⟨b2,off2,rfl,-,hb2,d0,d1⟩ := srow2 HWR.out
              clear hb2
              by_cases hw : y0 = bBITS
              · subst hw
                have HLW := Lib.hid (show lineM (wordM bBITS cntS) rest = (cntS y1).map fun z => (z,r) by rw [line_words HCUT.out,HY.out,HYY.out,wordM_eq])
                unfold bBITS at d0
                go_upto_region 32 with (go_at_call 36;(with_reducible refine (number36_t y1 _ HS1Z.out).mono ?_);rintro e w5 ⟨nv,bb,rfl,ho,hww⟩;obtain rfl : w4 = w5 := hww;have HO1 := Lib.hid ho;clear ho)
                obtain ⟨W6,hW6⟩ : ∃ W6,W6 = w4.setCell ⟨g,4,none⟩ (.int .i64 nv) := ⟨_,rfl⟩
                rw [←hW6]
                have hon : Only [g] w4 W6 := by rw [hW6];exact Only.set (List.mem_singleton.2 rfl) 4 _ _
                replace HX := Lib.hid (RpX.turn (v' := ⟨v.h,v.cas,nv,v.a,v.n,v.c⟩) HX.out hon (by rw [hW6];exact Blk.set HX.out.s 4 _) rfl HX.out.hh)
                clear hW6 hon
                clear p0 p1 p2 p3 p4 p5 z0 z1 z2 z3 z4 z5 zf pf
                obtain ⟨p0,p1,p2,p3,p4,p5⟩ := HX.out.s.cells;obtain ⟨z0,z1,z2,z3,z4,z5⟩ := HX.out.z.cells;have zf := Blk.free HX.out.z;have pf := Blk.free HX.out.s
                cases bb with
                | true =>
                  have HNX : Hid (RpI O LL true 3 ⟨v.h,v.cas,nv,v.a,v.n,v.c⟩ xs h r) := by
                    have ho := HI.out.o
                    have hcn : cntS y1 = some nv := by have := HO1.out;rwa [if_pos rfl] at this
                    have hl : lineM (wordM bBITS cntS) rest = some (nv,r) := by rw [HLW.out,hcn];rfl
                    refine Lib.hid ⟨HDR.out.1,HDR.out.2,by have := line_len HCUT.out;have := HI.out.z;omega,by have := HI.out.q;omega, ?_,HI.out.f,fun _ => HI.out.hf (by omega),fun hk => by omega,fun hk => by omega⟩
                    rw [HI.out.x0 (by omega)] at ho ⊢
                    exact ho.trans (st_2 hl)
                  go_wp2_with fail
                  go_roundw
                  case rel => exact ⟨3,_,xs,h,r,by go_num,by omega,HX,HNX⟩
                  case measure => simp [intOf]
                | false =>
                  have hcn : cntS y1 = none := by have := HO1.out;rwa [if_neg (by decide)] at this
                  have HN := Lib.hid (show lineM (wordM bBITS cntS) rest = none by rw [HLW.out,hcn];rfl)
                  clear hcn
                  have HE := Lib.hid (show O = .inl 3 from HI.out.o.trans (st_no2 HN.out))
                  go_wp2_with fail
                  refine bodyPost_ret (v := .tuple #[.agg #[.bool false,.slice none 0 0,.slice none 0 0,.int .i64 0,.int .i64 0,.slice none 0 0],.int .i64 200,.int .i64 ((3 : Nat) : Int)]) (by simp [results,Tryz.results9,go_sem, *]) rfl ?_
                  exact rp_err HE.out HX.out (only_put6 _ _ _ _ _ _ _ _)
              · have ew : (y0.toList == [98,105,116,115]) = false := ne_list hw
                have HLW := Lib.hid (show lineM (wordM bBITS cntS) rest = none by rw [line_words HCUT.out,HY.out,HYY.out,wordM_ne hw];rfl)
                clear hw
                have HE := Lib.hid (show O = .inl 3 from HI.out.o.trans (st_no2 HLW.out))
                go_wp2_with fail
                refine bodyPost_ret (v := .tuple #[.agg #[.bool false,.slice none 0 0,.slice none 0 0,.int .i64 0,.int .i64 0,.slice none 0 0],.int .i64 200,.int .i64 ((3 : Nat) : Int)]) (by simp [results,Tryz.results9,go_sem, *]) rfl ?_
                exact rp_err HE.out HX.out (only_put6 _ _ _ _ _ _ _ _)
            · have ew : ((wn : Int) == 2) = false := by rw [beq_eq_false_iff_ne];omega
              have HLW := Lib.hid (show lineM (wordM bBITS cntS) rest = none by rw [line_words HCUT.out,HY.out,wordM_len (by rw [HWR.out.1];exact hn2)];rfl)
              clear hn2
              have HE := Lib.hid (show O = .inl 3 from HI.out.o.trans (st_no2 HLW.out))
              go_wp2_with fail
              refine bodyPost_ret (v := .tuple #[.agg #[.bool false,.slice none 0 0,.slice none 0 0,.int .i64 0,.int .i64 0,.slice none 0 0],.int .i64 200,.int .i64 ((3 : Nat) : Int)]) (by simp [results,Tryz.results9,go_sem, *]) rfl ?_
              exact rp_err HE.out HX.out (only_put6 _ _ _ _ _ _ _ _)
          · clear hok
            have hl2 : (3 : Int) < (ln : Int) := by omega
            go_upto_region 15 with (go_at_call 33;(with_reducible refine (words_t y _ HYS.out).mono ?_);rintro e w4 ⟨wa,wn,wc,rfl,hr,hb⟩;have HWR := Lib.hid hr;replace HX := Lib.hid (HX.out.later hb);clear hb hr;clear p0 p1 p2 p3 p4 p5 z0 z1 z2 z3 z4 z5 zf pf;obtain ⟨p0,p1,p2,p3,p4,p5⟩ := HX.out.s.cells;obtain ⟨z0,z1,z2,z3,z4,z5⟩ := HX.out.z.cells;have zf := Blk.free HX.out.z;have pf := Blk.free HX.out.s)
            clear hlast hl2
            by_cases hn2 : wn = 2
            · subst hn2
              obtain ⟨y0,y1,hyy⟩ := two HWR.out.1
              have HYY := Lib.hid hyy
              rw [hyy] at HWR
              have hs1 : y1.size≤1000000 := by have hm : y1∈wordsM (bsL x) := (by rw [HY.out,hyy];simp);have h8 := word_size hm;have h9 := HYS.out;rw [←HY.out,bsL_size] at h9;omega
              have HS1Z := Lib.hid hs1
              clear hyy hs1
              obtain ⟨b2,off2,rfl,-,hb2,d0,d1⟩ := srow2 HWR.out
              clear hb2
              by_cases hw : y0 = bBITS
              · subst hw
                have HLW := Lib.hid (show lineM (wordM bBITS cntS) rest = (cntS y1).map fun z => (z,r) by rw [line_words HCUT.out,HY.out,HYY.out,wordM_eq])
                unfold bBITS at d0
                go_upto_region 32 with (go_at_call 36;(with_reducible refine (number36_t y1 _ HS1Z.out).mono ?_);rintro e w5 ⟨nv,bb,rfl,ho,hww⟩;obtain rfl : w4 = w5 := hww;have HO1 := Lib.hid ho;clear ho)
                obtain ⟨W6,hW6⟩ : ∃ W6,W6 = w4.setCell ⟨g,4,none⟩ (.int .i64 nv) := ⟨_,rfl⟩
                rw [←hW6]
                have hon : Only [g] w4 W6 := by rw [hW6];exact Only.set (List.mem_singleton.2 rfl) 4 _ _
                replace HX := Lib.hid (RpX.turn (v' := ⟨v.h,v.cas,nv,v.a,v.n,v.c⟩) HX.out hon (by rw [hW6];exact Blk.set HX.out.s 4 _) rfl HX.out.hh)
                clear hW6 hon
                clear p0 p1 p2 p3 p4 p5 z0 z1 z2 z3 z4 z5 zf pf
                obtain ⟨p0,p1,p2,p3,p4,p5⟩ := HX.out.s.cells;obtain ⟨z0,z1,z2,z3,z4,z5⟩ := HX.out.z.cells;have zf := Blk.free HX.out.z;have pf := Blk.free HX.out.s
                cases bb with
                | true =>
                  have HNX : Hid (RpI O LL false 3 ⟨v.h,v.cas,nv,v.a,v.n,v.c⟩ xs h r) := by
                    have ho := HI.out.o
                    have hcn : cntS y1 = some nv := by have := HO1.out;rwa [if_pos rfl] at this
                    have hl : lineM (wordM bBITS cntS) rest = some (nv,r) := by rw [HLW.out,hcn];rfl
                    refine Lib.hid ⟨HDR.out.1,HDR.out.2,by have := line_len HCUT.out;have := HI.out.z;omega,by have := HI.out.q;omega, ?_,HI.out.f,fun _ => HI.out.hf (by omega),fun hk => by omega,fun hk => by omega⟩
                    rw [HI.out.x0 (by omega)] at ho ⊢
                    exact ho.trans (st_2 hl)
                  go_wp2_with fail
                  go_roundw
                  case rel => exact ⟨3,_,xs,h,r,by go_num,by omega,HX,HNX⟩
                  case measure => simp [intOf]
                | false =>
                  have hcn : cntS y1 = none := by have := HO1.out;rwa [if_neg (by decide)] at this
                  have HN := Lib.hid (show lineM (wordM bBITS cntS) rest = none by rw [HLW.out,hcn];rfl)
                  clear hcn
                  have HE := Lib.hid (show O = .inl 3 from HI.out.o.trans (st_no2 HN.out))
                  go_wp2_with fail
                  refine bodyPost_ret (v := .tuple #[.agg #[.bool false,.slice none 0 0,.slice none 0 0,.int .i64 0,.int .i64 0,.slice none 0 0],.int .i64 200,.int .i64 ((3 : Nat) : Int)]) (by simp [results,Tryz.results9,go_sem, *]) rfl ?_
                  exact rp_err HE.out HX.out (only_put6 _ _ _ _ _ _ _ _)
              · have ew : (y0.toList == [98,105,116,115]) = false := ne_list hw
                have HLW := Lib.hid (show lineM (wordM bBITS cntS) rest = none by rw [line_words HCUT.out,HY.out,HYY.out,wordM_ne hw];rfl)
                clear hw
                have HE := Lib.hid (show O = .inl 3 from HI.out.o.trans (st_no2 HLW.out))
                go_wp2_with fail
                refine bodyPost_ret (v := .tuple #[.agg #[.bool false,.slice none 0 0,.slice none 0 0,.int .i64 0,.int .i64 0,.slice none 0 0],.int .i64 200,.int .i64 ((3 : Nat) : Int)]) (by simp [results,Tryz.results9,go_sem, *]) rfl ?_
                exact rp_err HE.out HX.out (only_put6 _ _ _ _ _ _ _ _)
            · have ew : ((wn : Int) == 2) = false := by rw [beq_eq_false_iff_ne];omega
              have HLW := Lib.hid (show lineM (wordM bBITS cntS) rest = none by rw [line_words HCUT.out,HY.out,wordM_len (by rw [HWR.out.1];exact hn2)];rfl)
              clear hn2
              have HE := Lib.hid (show O = .inl 3 from HI.out.o.trans (st_no2 HLW.out))
              go_wp2_with fail
              refine bodyPost_ret (v := .tuple #[.agg #[.bool false,.slice none 0 0,.slice none 0 0,.int .i64 0,.int .i64 0,.slice none 0 0],.int .i64 200,.int .i64 ((3 : Nat) : Int)]) (by simp [results,Tryz.results9,go_sem, *]) rfl ?_
              exact rp_err HE.out HX.out (only_put6 _ _ _ _ _ _ _ _)
        · have HCUT := Lib.hid hcut
          have HYS := Lib.hid (show (bsL rest).size≤65536 by rw [bsL_size];have := HI.out.z;omega)
          obtain ⟨b,off,hla,hlb,hlc⟩ := HX.out.r.at_ hLk
          subst hla
          obtain ⟨y,hy⟩ : ∃ y,bsL rest = y := ⟨_,rfl⟩
          rw [hy] at HYS hlc
          have HY := Lib.hid hy
          clear hcut hLk hlb hy
          try rw [Nat.add_zero] at hlc
          obtain ⟨rfl,hlast⟩ : ends = false∧¬ (2 : Int) < (ln : Int) - 1 := by cases ends;exact ⟨rfl,by rw [HLN.out] at hok;simpa using hok⟩;exact absurd hok (by simp)
          clear hok
          have hl2 : decide ((3 : Int) < (ln : Int)) = false := decide_eq_false (by omega)
          have hl3 : decide ((2 : Int) < (ln : Int) - 1) = false := decide_eq_false (by omega)
          clear hlast
          go_upto_region 15 with (go_at_call 33;(with_reducible refine (words_t y _ HYS.out).mono ?_);rintro e w4 ⟨wa,wn,wc,rfl,hr,hb⟩;have HWR := Lib.hid hr;replace HX := Lib.hid (HX.out.later hb);clear hb hr;clear p0 p1 p2 p3 p4 p5 z0 z1 z2 z3 z4 z5 zf pf;obtain ⟨p0,p1,p2,p3,p4,p5⟩ := HX.out.s.cells;obtain ⟨z0,z1,z2,z3,z4,z5⟩ := HX.out.z.cells;have zf := Blk.free HX.out.z;have pf := Blk.free HX.out.s)
          try simp only [hl2,hl3]
          clear hl2 hl3
          have HE := Lib.hid (show O = .inl 3 from HI.out.o.trans (st_no2 (line_none HCUT.out)))
          go_wp2_with fail
          refine bodyPost_ret (v := .tuple #[.agg #[.bool false,.slice none 0 0,.slice none 0 0,.int .i64 0,.int .i64 0,.slice none 0 0],.int .i64 200,.int .i64 ((3 : Nat) : Int)]) (by simp [results,Tryz.results9,go_sem, *]) rfl ?_
          exact rp_err HE.out HX.out (only_put6 _ _ _ _ _ _ _ _)
      · have e1 : ¬ (k : Int) < 3 := by omega
        have e2 : (k : Int) < (ln : Int) := by omega
        have e3 : ¬ (ln : Int)≤(k : Int) := by omega
        have f0 : ((k : Int) == 0) = false := by rw [beq_eq_false_iff_ne];omega
        have f1 : ((k : Int) == 1) = false := by rw [beq_eq_false_iff_ne];omega
        have f2 : ((k : Int) == 2) = false := by rw [beq_eq_false_iff_ne];omega
        obtain ⟨hne,hcase⟩ := HRL.out
        have HNE := Lib.hid hne
        clear hne
        rcases hcase with ⟨x,r,hcut,hLk,hdr,he2,hok⟩ | ⟨hcut,hLk,hok⟩
        · have HCUT := Lib.hid hcut
          have HDR := Lib.hid (show LL.drop (k + 1) = (linesM r).1∧ends = (linesM r).2 from ⟨hdr,he2⟩)
          have HYS := Lib.hid (show (bsL x).size≤65536 by rw [bsL_size];have := line_len hcut;have := HI.out.z;omega)
          obtain ⟨b,off,hla,hlb,hlc⟩ := HX.out.r.at_ hLk
          subst hla
          obtain ⟨y,hy⟩ : ∃ y,bsL x = y := ⟨_,rfl⟩
          rw [hy] at HYS hlc
          have HY := Lib.hid hy
          clear hcut hLk hdr he2 hlb hy
          try rw [Nat.add_zero] at hlc
          rcases (show ends = true∨(ends = false∧(k : Int) < (ln : Int) - 1) by cases ends;exact .inr ⟨rfl,by rw [HLN.out] at hok;simpa using hok⟩;exact .inl rfl) with rfl | ⟨rfl,hlast⟩
          · clear hok
            go_upto_region 15 with (go_at_call 33;(with_reducible refine (words_t y _ HYS.out).mono ?_);rintro e w4 ⟨wa,wn,wc,rfl,hr,hb⟩;have HWR := Lib.hid hr;replace HX := Lib.hid (HX.out.later hb);clear hb hr;clear p0 p1 p2 p3 p4 p5 z0 z1 z2 z3 z4 z5 zf pf;obtain ⟨p0,p1,p2,p3,p4,p5⟩ := HX.out.s.cells;obtain ⟨z0,z1,z2,z3,z4,z5⟩ := HX.out.z.cells;have zf := Blk.free HX.out.z;have pf := Blk.free HX.out.s)
            have HWZ := Lib.hid (show ∀ z∈wordsM y,z.size≤1000000 from fun z hz => by rw [←HY.out] at hz;have h8 := word_size hz;have h9 := HYS.out;rw [←HY.out,bsL_size] at h9;omega)
            have HLW := Lib.hid (show lineM (changeM numS) rest = (changeM numS (wordsM y)).map fun z => (z,r) by rw [line_words HCUT.out,HY.out])
            go_upto_region 13 with (go_at_call 37;(with_reducible refine (rchange_t _ _ _ _ _ HX.out.gl HWR.out HWZ.out).mono ?_);rintro e w5 ⟨xx,bb,rfl,ht,hv,hok2,hb⟩;have hb1 := bthen hb (below_one w5 (.cells #[.bool xx.t.s,.slice xx.t.a xx.t.n xx.t.c,.slice xx.t.b xx.t.m xx.t.d,.string xx.nm,.bool xx.v.s,.slice xx.v.a xx.v.n xx.v.c,.slice xx.v.b xx.v.m xx.v.d] 43));replace HX := Lib.hid (HX.out.later hb1);have HT := Lib.hid (RV.Is.later ht (below_one w5 (.cells #[.bool xx.t.s,.slice xx.t.a xx.t.n xx.t.c,.slice xx.t.b xx.t.m xx.t.d,.string xx.nm,.bool xx.v.s,.slice xx.v.a xx.v.n xx.v.c,.slice xx.v.b xx.v.m xx.v.d] 43)));have HV := Lib.hid (RV.Is.later hv (below_one w5 (.cells #[.bool xx.t.s,.slice xx.t.a xx.t.n xx.t.c,.slice xx.t.b xx.t.m xx.t.d,.string xx.nm,.bool xx.v.s,.slice xx.v.a xx.v.n xx.v.c,.slice xx.v.b xx.v.m xx.v.d] 43)));have HK2 := Lib.hid hok2;have HC := Lib.hid (Blk.new w5 43 #[.bool xx.t.s,.slice xx.t.a xx.t.n xx.t.c,.slice xx.t.b xx.t.m xx.t.d,.string xx.nm,.bool xx.v.s,.slice xx.v.a xx.v.n xx.v.c,.slice xx.v.b xx.v.m xx.v.d]);obtain ⟨x0,x1,x2,x3,x4,x5,x6⟩ := HC.out.sev;clear p0 p1 p2 p3 p4 p5 z0 z1 z2 z3 z4 z5 zf pf;obtain ⟨p0,p1,p2,p3,p4,p5⟩ := HX.out.s.cells;obtain ⟨z0,z1,z2,z3,z4,z5⟩ := HX.out.z.cells;have zf := Blk.free HX.out.z;have pf := Blk.free HX.out.s;clear ht hv hok2 hb hb1)
            cases bb with
            | true =>
              go_upto_region 32 with (at_builtin;have hw3 := below_one (w5.alloc (.cells #[.bool xx.t.s,.slice xx.t.a xx.t.n xx.t.c,.slice xx.t.b xx.t.m xx.t.d,.string xx.nm,.bool xx.v.s,.slice xx.v.a xx.v.n xx.v.c,.slice xx.v.b xx.v.m xx.v.d] 43)) (.cells #[.bool xx.t.s,.slice xx.t.a xx.t.n xx.t.c,.slice xx.t.b xx.t.m xx.t.d,.string xx.nm,.bool xx.v.s,.slice xx.v.a xx.v.n xx.v.c,.slice xx.v.b xx.v.m xx.v.d] 43);refine appendC rfl _ _ rfl g v.sl xs xx 43 (w5.heap.size + 1) rfl rfl (by simp) (HX.out.o.later hw3) (by have := HX.out.s.lt;simp at this;omega) (by have := HI.out.q;omega) ?_;intro v3 w3 hown honly hat;obtain ⟨a3,c3,hv3⟩ := hown.sl;obtain ⟨n3,hn3⟩ : ∃ n,(xs ++ [xx]).length = n := ⟨_,rfl⟩;rw [hn3] at hv3;subst hv3;clear hn3;have HO3 := Lib.hid hown;have HY3 := Lib.hid honly;have HX3 := Lib.hid (HX.out.later hw3);have HT3 := Lib.hid (RV.Is.later HT.out hw3);have HV3 := Lib.hid (RV.Is.later HV.out hw3);have HS4 := Lib.hid (show SBlk w3 g v from Blk.only HX3.out.s HY3.out (HX3.out.o.notin HX3.out.s (by decide)));clear p0 p1 p2 p3 p4 p5 z0 z1 z2 z3 z4 z5 zf pf;obtain ⟨-,-,-,-,-,k5'⟩ := HS4.out.cells;have kf' := Blk.free HS4.out;clear hown honly hat hw3 x0 x1 x2 x3 x4 x5 x6)
              replace HX := Lib.hid (RpX.push HX3.out HO3.out HY3.out HT3.out HV3.out)
              obtain ⟨W6,hW6⟩ : ∃ W6,W6 = w3.setCell ⟨g,5,none⟩ (.slice a3 n3 c3) := ⟨_,rfl⟩
              rw [←hW6] at HX ⊢
              clear hW6 HX3 HS4 k5' kf'
              obtain ⟨p0,p1,p2,p3,p4,p5⟩ := HX.out.s.cells;obtain ⟨z0,z1,z2,z3,z4,z5⟩ := HX.out.z.cells;have zf := Blk.free HX.out.z;have pf := Blk.free HX.out.s
              have HNX : Hid (RpI O LL true (k + 1) ⟨v.h,v.cas,v.bits,a3,n3,c3⟩ (xs ++ [xx]) h r) := by
                have ho := HI.out.o
                obtain ⟨e1,e2⟩ : changeM numS (wordsM y) = some xx.told∧xx.Fit := HK2.out
                have hl : lineM (changeM numS) rest = some (xx.told,r) := by rw [HLW.out,e1];rfl
                have hlen := line_len HCUT.out
                refine Lib.hid ⟨HDR.out.1,HDR.out.2,by have := HI.out.z;omega,by rw [List.length_append];have := HI.out.q;simp;omega, ?_,fun z hz => ?_,fun _ => HI.out.hf (by omega),fun hk => by omega,fun hk => by omega⟩
                · obtain ⟨m,hm⟩ : ∃ m,k = m + 3 := ⟨k - 3,by omega⟩
                  rw [hm] at ho ⊢
                  rw [List.map_append]
                  exact ho.trans (st_3 HNE.out (by omega) hl)
                · rcases List.mem_append.1 hz with hz | hz
                  · exact HI.out.f z hz
                  · rw [List.mem_singleton] at hz;subst hz;exact e2
              have hk65 : k + 1≤65536 := by have := line_len HCUT.out;have := HI.out.z;omega
              have hk1 : (k : Int) + 1≤9223372036854775807 := by omega
              go_wp2_with fail
              go_roundw
              case rel => exact ⟨k + 1,_,xs ++ [xx],h,r,by go_num,hk65,HX,HNX⟩
              case measure => simp [intOf];omega
            | false =>
              go_upto_region 32 with (at_builtin;have hw3 := below_one (w5.alloc (.cells #[.bool xx.t.s,.slice xx.t.a xx.t.n xx.t.c,.slice xx.t.b xx.t.m xx.t.d,.string xx.nm,.bool xx.v.s,.slice xx.v.a xx.v.n xx.v.c,.slice xx.v.b xx.v.m xx.v.d] 43)) (.cells #[.bool xx.t.s,.slice xx.t.a xx.t.n xx.t.c,.slice xx.t.b xx.t.m xx.t.d,.string xx.nm,.bool xx.v.s,.slice xx.v.a xx.v.n xx.v.c,.slice xx.v.b xx.v.m xx.v.d] 43);refine appendC rfl _ _ rfl g v.sl xs xx 43 (w5.heap.size + 1) rfl rfl (by simp) (HX.out.o.later hw3) (by have := HX.out.s.lt;simp at this;omega) (by have := HI.out.q;omega) ?_;intro v3 w3 hown honly hat;obtain ⟨a3,c3,hv3⟩ := hown.sl;obtain ⟨n3,hn3⟩ : ∃ n,(xs ++ [xx]).length = n := ⟨_,rfl⟩;rw [hn3] at hv3;subst hv3;clear hn3;have HO3 := Lib.hid hown;have HY3 := Lib.hid honly;have HX3 := Lib.hid (HX.out.later hw3);have HT3 := Lib.hid (RV.Is.later HT.out hw3);have HV3 := Lib.hid (RV.Is.later HV.out hw3);have HS4 := Lib.hid (show SBlk w3 g v from Blk.only HX3.out.s HY3.out (HX3.out.o.notin HX3.out.s (by decide)));clear p0 p1 p2 p3 p4 p5 z0 z1 z2 z3 z4 z5 zf pf;obtain ⟨-,-,-,-,-,k5'⟩ := HS4.out.cells;have kf' := Blk.free HS4.out;clear hown honly hat hw3 x0 x1 x2 x3 x4 x5 x6)
              replace HX := Lib.hid (RpX.push HX3.out HO3.out HY3.out HT3.out HV3.out)
              obtain ⟨W6,hW6⟩ : ∃ W6,W6 = w3.setCell ⟨g,5,none⟩ (.slice a3 n3 c3) := ⟨_,rfl⟩
              rw [←hW6] at HX ⊢
              clear hW6 HX3 HS4 k5' kf'
              obtain ⟨p0,p1,p2,p3,p4,p5⟩ := HX.out.s.cells;obtain ⟨z0,z1,z2,z3,z4,z5⟩ := HX.out.z.cells;have zf := Blk.free HX.out.z;have pf := Blk.free HX.out.s
              have HN := Lib.hid (show lineM (changeM numS) rest = none by rw [HLW.out,show changeM numS (wordsM y) = none from HK2.out];rfl)
              have HE : Hid (O = .inl (k + 1)) := by
                have ho := HI.out.o
                obtain ⟨m,hm⟩ : ∃ m,k = m + 3 := ⟨k - 3,by omega⟩
                rw [hm] at ho ⊢
                exact Lib.hid (ho.trans (st_no3 HNE.out HN.out))
              have hk1 : (k : Int) + 1≤9223372036854775807 := by omega
              go_wp2_with fail
              refine bodyPost_ret (v := .tuple #[.agg #[.bool false,.slice none 0 0,.slice none 0 0,.int .i64 0,.int .i64 0,.slice none 0 0],.int .i64 200,.int .i64 ((k + 1 : Nat) : Int)]) (by simp [results,Tryz.results9,go_sem, *]) rfl ?_
              exact rp_err HE.out HX.out (only_put6 _ _ _ _ _ _ _ _)
          · clear hok
            have hl2 : (k : Int) + 1 < (ln : Int) := by omega
            go_upto_region 15 with (go_at_call 33;(with_reducible refine (words_t y _ HYS.out).mono ?_);rintro e w4 ⟨wa,wn,wc,rfl,hr,hb⟩;have HWR := Lib.hid hr;replace HX := Lib.hid (HX.out.later hb);clear hb hr;clear p0 p1 p2 p3 p4 p5 z0 z1 z2 z3 z4 z5 zf pf;obtain ⟨p0,p1,p2,p3,p4,p5⟩ := HX.out.s.cells;obtain ⟨z0,z1,z2,z3,z4,z5⟩ := HX.out.z.cells;have zf := Blk.free HX.out.z;have pf := Blk.free HX.out.s)
            clear hlast hl2
            have HWZ := Lib.hid (show ∀ z∈wordsM y,z.size≤1000000 from fun z hz => by rw [←HY.out] at hz;have h8 := word_size hz;have h9 := HYS.out;rw [←HY.out,bsL_size] at h9;omega)
            have HLW := Lib.hid (show lineM (changeM numS) rest = (changeM numS (wordsM y)).map fun z => (z,r) by rw [line_words HCUT.out,HY.out])
            go_upto_region 13 with (go_at_call 37;(with_reducible refine (rchange_t _ _ _ _ _ HX.out.gl HWR.out HWZ.out).mono ?_);rintro e w5 ⟨xx,bb,rfl,ht,hv,hok2,hb⟩;have hb1 := bthen hb (below_one w5 (.cells #[.bool xx.t.s,.slice xx.t.a xx.t.n xx.t.c,.slice xx.t.b xx.t.m xx.t.d,.string xx.nm,.bool xx.v.s,.slice xx.v.a xx.v.n xx.v.c,.slice xx.v.b xx.v.m xx.v.d] 43));replace HX := Lib.hid (HX.out.later hb1);have HT := Lib.hid (RV.Is.later ht (below_one w5 (.cells #[.bool xx.t.s,.slice xx.t.a xx.t.n xx.t.c,.slice xx.t.b xx.t.m xx.t.d,.string xx.nm,.bool xx.v.s,.slice xx.v.a xx.v.n xx.v.c,.slice xx.v.b xx.v.m xx.v.d] 43)));have HV := Lib.hid (RV.Is.later hv (below_one w5 (.cells #[.bool xx.t.s,.slice xx.t.a xx.t.n xx.t.c,.slice xx.t.b xx.t.m xx.t.d,.string xx.nm,.bool xx.v.s,.slice xx.v.a xx.v.n xx.v.c,.slice xx.v.b xx.v.m xx.v.d] 43)));have HK2 := Lib.hid hok2;have HC := Lib.hid (Blk.new w5 43 #[.bool xx.t.s,.slice xx.t.a xx.t.n xx.t.c,.slice xx.t.b xx.t.m xx.t.d,.string xx.nm,.bool xx.v.s,.slice xx.v.a xx.v.n xx.v.c,.slice xx.v.b xx.v.m xx.v.d]);obtain ⟨x0,x1,x2,x3,x4,x5,x6⟩ := HC.out.sev;clear p0 p1 p2 p3 p4 p5 z0 z1 z2 z3 z4 z5 zf pf;obtain ⟨p0,p1,p2,p3,p4,p5⟩ := HX.out.s.cells;obtain ⟨z0,z1,z2,z3,z4,z5⟩ := HX.out.z.cells;have zf := Blk.free HX.out.z;have pf := Blk.free HX.out.s;clear ht hv hok2 hb hb1)
            cases bb with
            | true =>
              go_upto_region 32 with (at_builtin;have hw3 := below_one (w5.alloc (.cells #[.bool xx.t.s,.slice xx.t.a xx.t.n xx.t.c,.slice xx.t.b xx.t.m xx.t.d,.string xx.nm,.bool xx.v.s,.slice xx.v.a xx.v.n xx.v.c,.slice xx.v.b xx.v.m xx.v.d] 43)) (.cells #[.bool xx.t.s,.slice xx.t.a xx.t.n xx.t.c,.slice xx.t.b xx.t.m xx.t.d,.string xx.nm,.bool xx.v.s,.slice xx.v.a xx.v.n xx.v.c,.slice xx.v.b xx.v.m xx.v.d] 43);refine appendC rfl _ _ rfl g v.sl xs xx 43 (w5.heap.size + 1) rfl rfl (by simp) (HX.out.o.later hw3) (by have := HX.out.s.lt;simp at this;omega) (by have := HI.out.q;omega) ?_;intro v3 w3 hown honly hat;obtain ⟨a3,c3,hv3⟩ := hown.sl;obtain ⟨n3,hn3⟩ : ∃ n,(xs ++ [xx]).length = n := ⟨_,rfl⟩;rw [hn3] at hv3;subst hv3;clear hn3;have HO3 := Lib.hid hown;have HY3 := Lib.hid honly;have HX3 := Lib.hid (HX.out.later hw3);have HT3 := Lib.hid (RV.Is.later HT.out hw3);have HV3 := Lib.hid (RV.Is.later HV.out hw3);have HS4 := Lib.hid (show SBlk w3 g v from Blk.only HX3.out.s HY3.out (HX3.out.o.notin HX3.out.s (by decide)));clear p0 p1 p2 p3 p4 p5 z0 z1 z2 z3 z4 z5 zf pf;obtain ⟨-,-,-,-,-,k5'⟩ := HS4.out.cells;have kf' := Blk.free HS4.out;clear hown honly hat hw3 x0 x1 x2 x3 x4 x5 x6)
              replace HX := Lib.hid (RpX.push HX3.out HO3.out HY3.out HT3.out HV3.out)
              obtain ⟨W6,hW6⟩ : ∃ W6,W6 = w3.setCell ⟨g,5,none⟩ (.slice a3 n3 c3) := ⟨_,rfl⟩
              rw [←hW6] at HX ⊢
              clear hW6 HX3 HS4 k5' kf'
              obtain ⟨p0,p1,p2,p3,p4,p5⟩ := HX.out.s.cells;obtain ⟨z0,z1,z2,z3,z4,z5⟩ := HX.out.z.cells;have zf := Blk.free HX.out.z;have pf := Blk.free HX.out.s
              have HNX : Hid (RpI O LL false (k + 1) ⟨v.h,v.cas,v.bits,a3,n3,c3⟩ (xs ++ [xx]) h r) := by
                have ho := HI.out.o
                obtain ⟨e1,e2⟩ : changeM numS (wordsM y) = some xx.told∧xx.Fit := HK2.out
                have hl : lineM (changeM numS) rest = some (xx.told,r) := by rw [HLW.out,e1];rfl
                have hlen := line_len HCUT.out
                refine Lib.hid ⟨HDR.out.1,HDR.out.2,by have := HI.out.z;omega,by rw [List.length_append];have := HI.out.q;simp;omega, ?_,fun z hz => ?_,fun _ => HI.out.hf (by omega),fun hk => by omega,fun hk => by omega⟩
                · obtain ⟨m,hm⟩ : ∃ m,k = m + 3 := ⟨k - 3,by omega⟩
                  rw [hm] at ho ⊢
                  rw [List.map_append]
                  exact ho.trans (st_3 HNE.out (by omega) hl)
                · rcases List.mem_append.1 hz with hz | hz
                  · exact HI.out.f z hz
                  · rw [List.mem_singleton] at hz;subst hz;exact e2
              have hk65 : k + 1≤65536 := by have := line_len HCUT.out;have := HI.out.z;omega
              have hk1 : (k : Int) + 1≤9223372036854775807 := by omega
              go_wp2_with fail
              go_roundw
              case rel => exact ⟨k + 1,_,xs ++ [xx],h,r,by go_num,hk65,HX,HNX⟩
              case measure => simp [intOf];omega
            | false =>
              go_upto_region 32 with (at_builtin;have hw3 := below_one (w5.alloc (.cells #[.bool xx.t.s,.slice xx.t.a xx.t.n xx.t.c,.slice xx.t.b xx.t.m xx.t.d,.string xx.nm,.bool xx.v.s,.slice xx.v.a xx.v.n xx.v.c,.slice xx.v.b xx.v.m xx.v.d] 43)) (.cells #[.bool xx.t.s,.slice xx.t.a xx.t.n xx.t.c,.slice xx.t.b xx.t.m xx.t.d,.string xx.nm,.bool xx.v.s,.slice xx.v.a xx.v.n xx.v.c,.slice xx.v.b xx.v.m xx.v.d] 43);refine appendC rfl _ _ rfl g v.sl xs xx 43 (w5.heap.size + 1) rfl rfl (by simp) (HX.out.o.later hw3) (by have := HX.out.s.lt;simp at this;omega) (by have := HI.out.q;omega) ?_;intro v3 w3 hown honly hat;obtain ⟨a3,c3,hv3⟩ := hown.sl;obtain ⟨n3,hn3⟩ : ∃ n,(xs ++ [xx]).length = n := ⟨_,rfl⟩;rw [hn3] at hv3;subst hv3;clear hn3;have HO3 := Lib.hid hown;have HY3 := Lib.hid honly;have HX3 := Lib.hid (HX.out.later hw3);have HT3 := Lib.hid (RV.Is.later HT.out hw3);have HV3 := Lib.hid (RV.Is.later HV.out hw3);have HS4 := Lib.hid (show SBlk w3 g v from Blk.only HX3.out.s HY3.out (HX3.out.o.notin HX3.out.s (by decide)));clear p0 p1 p2 p3 p4 p5 z0 z1 z2 z3 z4 z5 zf pf;obtain ⟨-,-,-,-,-,k5'⟩ := HS4.out.cells;have kf' := Blk.free HS4.out;clear hown honly hat hw3 x0 x1 x2 x3 x4 x5 x6)
              replace HX := Lib.hid (RpX.push HX3.out HO3.out HY3.out HT3.out HV3.out)
              obtain ⟨W6,hW6⟩ : ∃ W6,W6 = w3.setCell ⟨g,5,none⟩ (.slice a3 n3 c3) := ⟨_,rfl⟩
              rw [←hW6] at HX ⊢
              clear hW6 HX3 HS4 k5' kf'
              obtain ⟨p0,p1,p2,p3,p4,p5⟩ := HX.out.s.cells;obtain ⟨z0,z1,z2,z3,z4,z5⟩ := HX.out.z.cells;have zf := Blk.free HX.out.z;have pf := Blk.free HX.out.s
              have HN := Lib.hid (show lineM (changeM numS) rest = none by rw [HLW.out,show changeM numS (wordsM y) = none from HK2.out];rfl)
              have HE : Hid (O = .inl (k + 1)) := by
                have ho := HI.out.o
                obtain ⟨m,hm⟩ : ∃ m,k = m + 3 := ⟨k - 3,by omega⟩
                rw [hm] at ho ⊢
                exact Lib.hid (ho.trans (st_no3 HNE.out HN.out))
              have hk1 : (k : Int) + 1≤9223372036854775807 := by omega
              go_wp2_with fail
              refine bodyPost_ret (v := .tuple #[.agg #[.bool false,.slice none 0 0,.slice none 0 0,.int .i64 0,.int .i64 0,.slice none 0 0],.int .i64 200,.int .i64 ((k + 1 : Nat) : Int)]) (by simp [results,Tryz.results9,go_sem, *]) rfl ?_
              exact rp_err HE.out HX.out (only_put6 _ _ _ _ _ _ _ _)
        · have HCUT := Lib.hid hcut
          have HYS := Lib.hid (show (bsL rest).size≤65536 by rw [bsL_size];have := HI.out.z;omega)
          obtain ⟨b,off,hla,hlb,hlc⟩ := HX.out.r.at_ hLk
          subst hla
          obtain ⟨y,hy⟩ : ∃ y,bsL rest = y := ⟨_,rfl⟩
          rw [hy] at HYS hlc
          have HY := Lib.hid hy
          clear hcut hLk hlb hy
          try rw [Nat.add_zero] at hlc
          obtain ⟨rfl,hlast⟩ : ends = false∧¬ (k : Int) < (ln : Int) - 1 := by cases ends;exact ⟨rfl,by rw [HLN.out] at hok;simpa using hok⟩;exact absurd hok (by simp)
          clear hok
          have hl2 : decide ((k : Int) + 1 < (ln : Int)) = false := decide_eq_false (by omega)
          have hl3 : decide ((k : Int) < (ln : Int) - 1) = false := decide_eq_false (by omega)
          clear hlast
          go_upto_region 15 with (go_at_call 33;(with_reducible refine (words_t y _ HYS.out).mono ?_);rintro e w4 ⟨wa,wn,wc,rfl,hr,hb⟩;have HWR := Lib.hid hr;replace HX := Lib.hid (HX.out.later hb);clear hb hr;clear p0 p1 p2 p3 p4 p5 z0 z1 z2 z3 z4 z5 zf pf;obtain ⟨p0,p1,p2,p3,p4,p5⟩ := HX.out.s.cells;obtain ⟨z0,z1,z2,z3,z4,z5⟩ := HX.out.z.cells;have zf := Blk.free HX.out.z;have pf := Blk.free HX.out.s)
          try simp only [hl2,hl3]
          clear hl2 hl3
          have HWZ := Lib.hid (show ∀ z∈wordsM y,z.size≤1000000 from fun z hz => by rw [←HY.out] at hz;have h8 := word_size hz;have h9 := HYS.out;rw [←HY.out,bsL_size] at h9;omega)
          go_upto_region 13 with (go_at_call 37;(with_reducible refine (rchange_t _ _ _ _ _ HX.out.gl HWR.out HWZ.out).mono ?_);rintro e w5 ⟨xx,bb,rfl,ht,hv,hok2,hb⟩;have hb1 := bthen hb (below_one w5 (.cells #[.bool xx.t.s,.slice xx.t.a xx.t.n xx.t.c,.slice xx.t.b xx.t.m xx.t.d,.string xx.nm,.bool xx.v.s,.slice xx.v.a xx.v.n xx.v.c,.slice xx.v.b xx.v.m xx.v.d] 43));replace HX := Lib.hid (HX.out.later hb1);have HT := Lib.hid (RV.Is.later ht (below_one w5 (.cells #[.bool xx.t.s,.slice xx.t.a xx.t.n xx.t.c,.slice xx.t.b xx.t.m xx.t.d,.string xx.nm,.bool xx.v.s,.slice xx.v.a xx.v.n xx.v.c,.slice xx.v.b xx.v.m xx.v.d] 43)));have HV := Lib.hid (RV.Is.later hv (below_one w5 (.cells #[.bool xx.t.s,.slice xx.t.a xx.t.n xx.t.c,.slice xx.t.b xx.t.m xx.t.d,.string xx.nm,.bool xx.v.s,.slice xx.v.a xx.v.n xx.v.c,.slice xx.v.b xx.v.m xx.v.d] 43)));have HK2 := Lib.hid hok2;have HC := Lib.hid (Blk.new w5 43 #[.bool xx.t.s,.slice xx.t.a xx.t.n xx.t.c,.slice xx.t.b xx.t.m xx.t.d,.string xx.nm,.bool xx.v.s,.slice xx.v.a xx.v.n xx.v.c,.slice xx.v.b xx.v.m xx.v.d]);obtain ⟨x0,x1,x2,x3,x4,x5,x6⟩ := HC.out.sev;clear p0 p1 p2 p3 p4 p5 z0 z1 z2 z3 z4 z5 zf pf;obtain ⟨p0,p1,p2,p3,p4,p5⟩ := HX.out.s.cells;obtain ⟨z0,z1,z2,z3,z4,z5⟩ := HX.out.z.cells;have zf := Blk.free HX.out.z;have pf := Blk.free HX.out.s;clear ht hv hok2 hb hb1)
          go_upto_region 32 with (at_builtin;have hw3 := below_one (w5.alloc (.cells #[.bool xx.t.s,.slice xx.t.a xx.t.n xx.t.c,.slice xx.t.b xx.t.m xx.t.d,.string xx.nm,.bool xx.v.s,.slice xx.v.a xx.v.n xx.v.c,.slice xx.v.b xx.v.m xx.v.d] 43)) (.cells #[.bool xx.t.s,.slice xx.t.a xx.t.n xx.t.c,.slice xx.t.b xx.t.m xx.t.d,.string xx.nm,.bool xx.v.s,.slice xx.v.a xx.v.n xx.v.c,.slice xx.v.b xx.v.m xx.v.d] 43);refine appendC rfl _ _ rfl g v.sl xs xx 43 (w5.heap.size + 1) rfl rfl (by simp) (HX.out.o.later hw3) (by have := HX.out.s.lt;simp at this;omega) (by have := HI.out.q;omega) ?_;intro v3 w3 hown honly hat;obtain ⟨a3,c3,hv3⟩ := hown.sl;obtain ⟨n3,hn3⟩ : ∃ n,(xs ++ [xx]).length = n := ⟨_,rfl⟩;rw [hn3] at hv3;subst hv3;clear hn3;have HO3 := Lib.hid hown;have HY3 := Lib.hid honly;have HX3 := Lib.hid (HX.out.later hw3);have HT3 := Lib.hid (RV.Is.later HT.out hw3);have HV3 := Lib.hid (RV.Is.later HV.out hw3);have HS4 := Lib.hid (show SBlk w3 g v from Blk.only HX3.out.s HY3.out (HX3.out.o.notin HX3.out.s (by decide)));clear p0 p1 p2 p3 p4 p5 z0 z1 z2 z3 z4 z5 zf pf;obtain ⟨-,-,-,-,-,k5'⟩ := HS4.out.cells;have kf' := Blk.free HS4.out;clear hown honly hat hw3 x0 x1 x2 x3 x4 x5 x6)
          replace HX := Lib.hid (RpX.push HX3.out HO3.out HY3.out HT3.out HV3.out)
          obtain ⟨W6,hW6⟩ : ∃ W6,W6 = w3.setCell ⟨g,5,none⟩ (.slice a3 n3 c3) := ⟨_,rfl⟩
          rw [←hW6] at HX ⊢
          clear hW6 HX3 HS4 k5' kf'
          obtain ⟨p0,p1,p2,p3,p4,p5⟩ := HX.out.s.cells;obtain ⟨z0,z1,z2,z3,z4,z5⟩ := HX.out.z.cells;have zf := Blk.free HX.out.z;have pf := Blk.free HX.out.s
          have HE : Hid (O = .inl (k + 1)) := by
            have ho := HI.out.o
            obtain ⟨m,hm⟩ : ∃ m,k = m + 3 := ⟨k - 3,by omega⟩
            rw [hm] at ho ⊢
            exact Lib.hid (ho.trans (st_no3 HNE.out (line_none HCUT.out)))
          have hk1 : (k : Int) + 1≤9223372036854775807 := by omega
          go_wp2_with fail
          refine bodyPost_ret (v := .tuple #[.agg #[.bool false,.slice none 0 0,.slice none 0 0,.int .i64 0,.int .i64 0,.slice none 0 0],.int .i64 200,.int .i64 ((k + 1 : Nat) : Int)]) (by simp [results,Tryz.results9,go_sem, *]) rfl ?_
          exact rp_err HE.out HX.out (only_put6 _ _ _ _ _ _ _ _)
end Go.Proofs.YtkcgikoploohkaaGreatDoor
