import Derived.Test.YtkcgikoploohkaaGreatDoorSo3
import Derived.Deep.DeepCutAuto
import Derived.Laws.EntriesVeiled
namespace Go.Proofs.YtkcgikoploohkaaGreatDoor
set_option linter.unusedVariables false
set_option linter.unusedSimpArgs false
set_option maxRecDepth 100000
open Go.RowKit Go.Shelf Nums
theorem once_lims {S : ScT} (h : OnceS S) {xs : List CM} (e : xs.map CM.told = S.ch) (hf : ∀ x∈xs,x.Fit) : ∀ x∈xs,x.t.n≤34∧x.t.m≤34∧x.v.n≤34∧x.v.m≤34∧x.nm.size≤2000 := by
  intro x hx
  have hm : x.told∈S.ch := by rw [←e];exact List.mem_map_of_mem hx
  obtain ⟨g1,g2⟩ := h.c _ hm
  have hs : x.nm.size≤2000 := h.s _ hm
  obtain ⟨⟨f1,f2⟩,f3,f4⟩ := hf x hx
  have a := ng_limbs g1
  have b := ng_limbs g2
  have a1 : (limbs x.p.num.natAbs).length≤34 := a.1
  have a2 : (limbs x.p.den).length≤34 := a.2
  have b1 : (limbs x.q.num.natAbs).length≤34 := b.1
  have b2 : (limbs x.q.den).length≤34 := b.2
  exact ⟨by omega,by omega,by omega,by omega,hs⟩
theorem once_h {S : ScT} (h : OnceS S) {v : RV} (hf : v.Fit S.h) : v.n≤34∧v.m≤34 := by
  have a := ng_limbs h.h
  obtain ⟨f1,f2⟩ := hf
  exact ⟨by rw [f1];exact a.1,by rw [f2];exact a.2⟩
theorem Tr.u8 {w : World} {t : TypeId} {cs : List Value} (ht : Tryz.prog.underlying t = some (.int .u8)) (h : Tr w t cs) : ∃ n : Nat,cs = [.int .u8 (n : Int)]∧n < 256 := by
  obtain ⟨n,h1,w1⟩ := h.int ht
  simp [Lit.wf,IntKind.min,IntKind.max,IntKind.signed,IntKind.bits,Bool.and_eq_true,decide_eq_true_eq] at w1
  exact ⟨n.toNat,by rw [h1,Int.toNat_of_nonneg w1.1],by omega⟩
theorem bytes_of_tr {w : World} {v : Value} (h : Tr w 22 [v]) : ∃ a n c l,v = .slice a n c∧TRow w a n c l := by
  obtain ⟨a,n,c,hv,h1,h2,h2',-,b,off,h3,h4⟩ := h.slice 1 Tryz.underlying22 (by kernel_rfl) (by decide)
  obtain ⟨l,hl,hx⟩ := pick n (fun i (x : UInt8) => b < w.heap.size∧w.cell? ⟨b,off + i,none⟩ = some (.int .u8 (x.toNat : Int))) fun i hi => by
    obtain ⟨hb,ds,q1,q2,q3⟩ := h4 i hi
    obtain ⟨x,rfl,hx⟩ := q3.u8 Tryz.underlying5
    refine ⟨UInt8.ofNat x,hb, ?_⟩
    have := q1 0 (by decide)
    rw [UInt8.toNat_ofNat',Nat.mod_eq_of_lt hx]
    simpa using this
  exact ⟨a,n,c,l,by simpa using hv,hl,h1,h2,b,off,h3,hx⟩
end Go.Proofs.YtkcgikoploohkaaGreatDoor
