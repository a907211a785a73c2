import Derived.Test.YtpnlbjnbgemocaaGreatZExOToExAN6
import Derived.Deep.DeepCutAuto
import Derived.Deep.RegionLaw
namespace Go.Proofs.YtpnlbjnbgemocaaGreat
set_option linter.unusedVariables false
set_option linter.unusedSimpArgs false
set_option maxRecDepth 100000
open Go.RowKit Nums
theorem Blk.onlyE {w w':World}{g T:Nat}{vs:Array Value}{S:List (Option Nat)}(h:Blk w g T vs)(hb:Only S w w')(hl:g<w.heap.size)(hg:some g ∉ S):Blk w' g T vs:=(hb.block g hl hg).trans h
theorem VAt.setM {w:World}{b o g T i:Nat}{vs:Array Value}{u:Value}{x:VM}(h:VAt w b o x)(hm:Blk w g T vs)(hi:vs[i]?=some u)(hu:∀ z,u≠.int .u32 z)(hne:b≠g)(y:Value):VAt (w.setCell ⟨g,i,none⟩ y) b o x:=by
  have hc:∀ j,(w.setCell ⟨g,i,none⟩ y).cell? ⟨b,j,none⟩=w.cell? ⟨b,j,none⟩:=fun j=>World.cell?_setCell_far _ _ _ _ (fun e=>hne e.symm)
  exact⟨(hc _).trans h.c0,(hc _).trans h.c1,(hc _).trans h.c2,(hc _).trans h.c3,(hc _).trans h.c4,h.num.setB hm hi hu y⟩
theorem only_put5 (g:Nat)(w:World)(y0 y1 y2 y3 y4:Value):Only [some g] w (((((w.setCell ⟨g,0,none⟩ y0).setCell ⟨g,1,none⟩ y1).setCell ⟨g,2,none⟩ y2).setCell ⟨g,3,none⟩ y3).setCell ⟨g,4,none⟩ y4):=
  ((((Only.set (S:=[some g]) (by simp) _ _ _).trans (Only.set (by simp) _ _ _)).trans (Only.set (by simp) _ _ _)).trans (Only.set (by simp) _ _ _)).trans (Only.set (by simp) _ _ _)
theorem FAt.ofM {w:World}{g:Nat}{bits:Int}{dv bg:Bool}{sb ns cs:Nat}{m3 m4 m5 m6 m7 m8 m9 m10 m11 m12 m13 m15 m16 m17 m18 m19 m20 u:Value}(h:Blk w g 65 #[.int .i64 bits,.bool dv,.bool bg,m3,m4,m5,m6,m7,m8,m9,m10,m11,m12,m13,.slice (some ⟨sb,0,none⟩) ns cs,m15,m16,m17,m18,m19,m20,u]):FAt w g bits dv bg:=
  ⟨h.cell 0 rfl,h.cell 1 rfl,h.cell 2 rfl,h.free 1,h.free 2,h.lt⟩
end Go.Proofs.YtpnlbjnbgemocaaGreat
