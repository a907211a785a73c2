import Derived.Test.YtpnlbjnbgemocaaGreatZQB
import Derived.Deep.RegionHeld3
namespace Go.Proofs.YtpnlbjnbgemocaaGreat
set_option linter.unusedVariables false
set_option linter.unusedSimpArgs false
set_option maxRecDepth 100000
open Go.RowKit Nums
theorem raw_parts {N:Int}{D:Nat}{q:Rat}(hD:0<D)(h:mkRat N D=q):∃ g:Nat,0<g∧N=q.num*(g:Int)∧D=q.den*g:=by
  obtain⟨f1,f2,f3,f4,f5,-,-⟩:=norm_facts hD h
  refine⟨Nat.gcd N.natAbs D,f5, ?_, ?_⟩
  · have:=Int.mul_fdiv_add_fmod N ((Nat.gcd N.natAbs D:Nat):Int)
    rw [f1,f2,Int.add_zero,Int.mul_comm] at this
    exact this.symm
  · rw [←f3];exact(Nat.div_mul_cancel (Nat.dvd_of_mod_eq_zero f4)).symm
theorem sgn_mul_pos {Z g:Int}(hg:0<g):sgn (Z*g)=sgn Z:=by
  unfold sgn
  rcases Int.lt_trichotomy Z 0 with h | h | h
  · rw [if_pos h,if_pos (Int.mul_neg_of_neg_of_pos h hg)]
  · subst h;simp
  · have:=Int.mul_pos h hg
    rw [if_neg (show ¬ Z*g<0 by omega),if_pos this,if_neg (show ¬ Z<0 by omega),if_pos h]
theorem sgn_raw {N:Int}{D:Nat}{q:Rat}(hD:0<D)(h:mkRat N D=q):sgn N=sgn q.num:=by
  obtain⟨g,hg,e,-⟩:=raw_parts hD h
  rw [e];exact sgn_mul_pos (by omega)
end Go.Proofs.YtpnlbjnbgemocaaGreat
/- What crossed tells. -/
namespace Go.Proofs.YtpnlbjnbgemocaaGreat
set_option linter.unusedVariables false
set_option linter.unusedSimpArgs false
set_option maxRecDepth 100000
open Go.RowKit Nums
end Go.Proofs.YtpnlbjnbgemocaaGreat
/- What Make and Sign tell. -/
namespace Go.Proofs.YtpnlbjnbgemocaaGreat
set_option linter.unusedVariables false
set_option linter.unusedSimpArgs false
set_option maxRecDepth 100000
open Go.RowKit Nums
end Go.Proofs.YtpnlbjnbgemocaaGreat
/- What Cmp, flip, Neg and Mul tell. -/
namespace Go.Proofs.YtpnlbjnbgemocaaGreat
set_option linter.unusedVariables false
set_option linter.unusedSimpArgs false
set_option maxRecDepth 100000
open Go.RowKit Nums
def FlipK (K:Nat)(M:Int)(b:Option Addr)(m d:Nat)(w:World)(e:Ending)(w':World):Prop:=
  ∃ a n c,e=.returned (.agg #[.bool (decide (M<0)),.slice a n c,.slice b m d])∧n≤K∧Row w' a n c (limbs M.natAbs)∧Below w.heap.size w w'
set_option maxHeartbeats 4000000 in
theorem flipR (K:Nat)(M:Int){s:Bool}{a b:Option Addr}{n c m d:Nat}{xs:List Nat}{w:World}(h0:Row w a n c xs)(hM:-sv s (val xs)=M)(hn:n≤K)(hK:K≤100) :
    Calls Tryz.prog 187 #[.agg #[.bool s,.slice a n c,.slice b m d]] w (FlipK K M b m d w):=by
  have HB:=Lib.hid (below_two w (.cells #[.bool s,.slice a n c,.slice b m d] 46) (.cells #[.bool false,.slice none 0 0,.slice none 0 0] 46))
  have X0:Hid (Tri ((w.alloc (.cells #[.bool s,.slice a n c,.slice b m d] 46)).alloc (.cells #[.bool false,.slice none 0 0,.slice none 0 0] 46)) (w.heap.size) (.bool s) (.slice a n c) (.slice b m d)):=((tri_new _ (.bool s) (.slice a n c) (.slice b m d)).alloc _)
  have Z:Hid (Tri ((w.alloc (.cells #[.bool s,.slice a n c,.slice b m d] 46)).alloc (.cells #[.bool false,.slice none 0 0,.slice none 0 0] 46)) (w.heap.size+1) (.bool false) (.slice none 0 0) (.slice none 0 0)):=(tri_newE (by simp))
  have LM:=Lib.hid (lenZ_neg (lenZ_raw h0 hn rfl) hM)
  have R0:=Lib.hid (h0.later HB.out);clear h0
  have HM:=Lib.hid hM;clear hM
  go_enter Tryz.func187,Tryz.ntmps187
  go_wp2_with fail
  replace R0:=Lib.hid R0.out.drew
  replace X0:=Lib.hid X0.out.drew
  replace Z:=Lib.hid Z.out.drew
  replace HB:=Lib.hid HB.out.drew
  obtain⟨kX00,kX01,kX02,-,-,-,-⟩:=X0.out
  obtain⟨kZ0,kZ1,kZ2,kZ3,kZ4,kZ5,kZ6⟩:=Z.out
  go_region_held3 (fun w'=>w'.cell? ⟨w.heap.size,0,none⟩=some (.bool s)∧w'.cell? ⟨w.heap.size,1,none⟩=some (.slice a n c)∧w'.cell? ⟨w.heap.size,2,none⟩=some (.slice b m d))
    (first | (refine⟨?_, ?_, ?_⟩ <;> with_reducible assumption) | (go_keep;done) | (refine⟨?_, ?_, ?_⟩ <;> (repeat rw [cell_other (by first | (simp;done) | (simp;omega))]) <;> with_reducible assumption))
    (first
      | (have mk:=G1;clear mk
         go_at_call 86
         refine(over_any _ _ _ _ _ _ _ _).mono ?_
         rintro e v2 ⟨rfl,hb⟩
         replace RN:=Lib.hid (RN.out.later hb)
         replace X0:=Lib.hid (X0.out.later hb)
         replace Z:=Lib.hid (Z.out.later hb)
         replace HB:=Lib.hid (bthen HB.out hb);clear hb
         clear kX00 kX01 kX02 kZ0 kZ1 kZ2 kZ3 kZ4 kZ5 kZ6
         obtain⟨kX00,kX01,kX02,-,-,-,-⟩:=X0.out
         obtain⟨kZ0,kZ1,kZ2,kZ3,kZ4,kZ5,kZ6⟩:=Z.out
         have G2:Hid True:=trivial)
      | (skip
         go_at_call 196
         refine(negI K M R0.out rfl (by omega) HM.out LM.out).mono ?_
         rintro e v1 ⟨an,nn,cn,rfl,bn,hr,hb⟩
         clear R0
         replace X0:=Lib.hid (X0.out.later hb)
         replace Z:=Lib.hid (Z.out.later hb)
         replace HB:=Lib.hid (bthen HB.out hb);clear hb
         clear kX00 kX01 kX02 kZ0 kZ1 kZ2 kZ3 kZ4 kZ5 kZ6
         obtain⟨kX00,kX01,kX02,-,-,-,-⟩:=X0.out
         obtain⟨kZ0,kZ1,kZ2,kZ3,kZ4,kZ5,kZ6⟩:=Z.out
         have RN:=Lib.hid hr;clear hr
         have G1:Hid True:=trivial))
  all_goals
    go_wp2
    exact bodyPost_ret (v:=.agg #[.bool (decide (M<0)),.slice an nn cn,.slice b m d]) (by simp [results,Tryz.results187,go_sem, *]) rfl ⟨an,nn,cn,rfl,bn,RN.out.put3 Z.out _ _ _,below_put3 HB.out (by omega) _ _ _⟩
set_option maxHeartbeats 4000000 in
theorem negR (K J:Nat)(q:Rat){s:Bool}{a b:Option Addr}{n c m d:Nat}{xs ys:List Nat}{w:World}(h0:Row w a n c xs)(h1:Row w b m d ys)(hq:mkRat (sv s (val xs)) (val ys)=-q)(hn:n≤K)(hm:m≤J)(hK:K≤95)(hJ1:1≤J)(hJ:J≤95) :
    Calls Tryz.prog 178 #[.agg #[.bool s,.slice a n c,.slice b m d]] w (RatK K J q w):=by
  have HB:=Lib.hid (below_two w (.cells #[.bool s,.slice a n c,.slice b m d] 46) (.cells #[.bool false,.slice none 0 0,.slice none 0 0] 46))
  have X0:Hid (Tri ((w.alloc (.cells #[.bool s,.slice a n c,.slice b m d] 46)).alloc (.cells #[.bool false,.slice none 0 0,.slice none 0 0] 46)) (w.heap.size) (.bool s) (.slice a n c) (.slice b m d)):=((tri_new _ (.bool s) (.slice a n c) (.slice b m d)).alloc _)
  have Z:Hid (Tri ((w.alloc (.cells #[.bool s,.slice a n c,.slice b m d] 46)).alloc (.cells #[.bool false,.slice none 0 0,.slice none 0 0] 46)) (w.heap.size+1) (.bool false) (.slice none 0 0) (.slice none 0 0)):=(tri_newE (by simp))
  have R0:=Lib.hid (h0.later HB.out);clear h0
  have R1:=Lib.hid (h1.later HB.out);clear h1
  obtain⟨M,hM⟩:∃ M,-sv s (val xs)=M:=⟨_,rfl⟩
  have hQ:mkRat M (val ys)=q:=by rw [←hM,←Rat.neg_mkRat,hq,Rat.neg_neg]
  clear hq
  have HM:=Lib.hid hM;clear hM
  have HQ:=Lib.hid hQ;clear hQ
  go_enter Tryz.func178,Tryz.ntmps178
  go_wp2_with fail
  refine(flipR K M R0.out HM.out hn (by omega)).mono ?_
  rintro e w1 ⟨an,nn,cn,rfl,bn,hr,hb⟩
  replace R1:=Lib.hid (R1.out.later hb)
  replace X0:=Lib.hid (X0.out.later hb)
  replace Z:=Lib.hid (Z.out.later hb)
  replace HB:=Lib.hid (bthen HB.out hb)
  clear hb
  clear R0
  obtain⟨kX00,kX01,kX02,-,-,-,-⟩:=X0.out
  obtain⟨kZ0,kZ1,kZ2,-,-,-,-⟩:=Z.out
  have RN:=Lib.hid hr;clear hr
  go_wp2_with fail
  refine(normR K J q RN.out R1.out (by rw [sv_limbs];exact HQ.out) bn hm hK hJ1 hJ).mono ?_
  rintro e w2 ⟨ar,nr,cr,br,mr,dr,rfl,h2,h3,hr,hr2,hb⟩
  replace R1:=Lib.hid (R1.out.later hb)
  replace RN:=Lib.hid (RN.out.later hb)
  replace X0:=Lib.hid (X0.out.later hb)
  replace Z:=Lib.hid (Z.out.later hb)
  replace HB:=Lib.hid (bthen HB.out hb)
  clear hb
  clear kX00 kX01 kX02 kZ0 kZ1 kZ2
  have RA:=Lib.hid hr;clear hr
  have RB:=Lib.hid hr2;clear hr2
  obtain⟨kX00,kX01,kX02,-,-,-,-⟩:=X0.out
  obtain⟨kZ0,kZ1,kZ2,kZ3,kZ4,kZ5,kZ6⟩:=Z.out
  go_wp2
  exact bodyPost_ret (v:=.agg #[.bool (decide (q.num<0)),.slice ar nr cr,.slice br mr dr]) (by simp [results,Tryz.results178,go_sem, *]) rfl
    ⟨ar,nr,cr,br,mr,dr,rfl,h2,h3,RA.out.put3 Z.out _ _ _,RB.out.put3 Z.out _ _ _,below_put3 HB.out (by omega) _ _ _⟩
end Go.Proofs.YtpnlbjnbgemocaaGreat
