import Derived.Test.YtpnlbjnbgemocaaGreatZNC
import Derived.ProofKit
import Derived.OpenShut
import Derived.ShutString
import Derived.ChangeOld
import Derived.Shelf.Small.Bits
import Derived.Test.YtpnlbjnbgemocaaGreatProg
import Derived.Test.YtpnlbjnbgemocaaGreatZNAToHpMN7
import Derived.Deep.RegionWith
import Derived.Lib.ItoaNum
namespace Go.Proofs.YtpnlbjnbgemocaaGreat
set_option linter.unusedVariables false
set_option linter.unusedSimpArgs false
set_option maxRecDepth 100000
open Go.ChangeShapes Go.WideShapes Go.ChangeAt Go.RowKit Nums
open Go.ChangeMaps (open_string shut_string)
theorem val_pow {w:World}{a:Option Addr}{n c k:Nat}{xs:List Nat}(h:Row w a n c xs)(hn:n≤k):val xs<4294967296 ^ k:=by
  have h1:=val_lt xs h.2.2.2.2.1
  rw [h.1] at h1
  exact Nat.lt_of_lt_of_le h1 (Nat.pow_le_pow_right (by omega) hn)
end Go.Proofs.YtpnlbjnbgemocaaGreat
/- The calls of nat in the words of the numbers that they are handed; how long their answers are. -/
namespace Go.Proofs.YtpnlbjnbgemocaaGreat
set_option linter.unusedVariables false
set_option linter.unusedSimpArgs false
set_option maxRecDepth 100000
open Go.RowKit Nums
theorem len_of {X k:Nat}(h:X<4294967296 ^ k):(limbs X).length≤k:=limbs_len X k h
theorem len_le {X Y k:Nat}(h:X≤Y)(hY:(limbs Y).length≤k):(limbs X).length≤k:=Nat.le_trans (limbs_len_mono h) hY
theorem row_len' {w:World}{a:Option Addr}{n c k:Nat}{xs:List Nat}(h:Row w a n c xs)(hn:n≤k):(limbs (val xs)).length≤k:=len_of (val_pow h hn)
section
variable {w:World} {a b:Option Addr} {n c m d:Nat} {xs ys:List Nat} {X Y N k:Nat}
def NumK (k N:Nat)(w:World)(e:Ending)(w':World):Prop:=∃ a' m,e=.returned (.slice a' m m)∧m≤k∧Row w' a' m m (limbs N)∧Below w.heap.size w w'
theorem numK {e:Ending}{w':World}(h:Num N w e w')(hk:(limbs N).length≤k):NumK k N w e w':=by
  obtain⟨a',m,h1,h2,h3,h4⟩:=h
  exact⟨a',m,h1,by omega,h3,h4⟩
theorem addN (k N:Nat)(h0:Row w a n c xs)(h1:Row w b m d ys)(hX:val xs=X)(hY:val ys=Y)(hn:n≤100)(hm:m≤100)(hN:X+Y=N)(hk:(limbs N).length≤k):Calls Tryz.prog 138 #[.slice a n c,.slice b m d] w (NumK k N w):=by
  subst hX;subst hY;subst hN
  exact(add_any a b n c m d xs ys w h0 h1 (by omega) (by omega)).mono fun e w' h=>numK h hk
theorem subN (k N:Nat)(h0:Row w a n c xs)(h1:Row w b m d ys)(hX:val xs=X)(hY:val ys=Y)(hn:n≤100)(hm:m≤100)(hle:Y≤X)(hN:X-Y=N)(hk:(limbs N).length≤k):Calls Tryz.prog 139 #[.slice a n c,.slice b m d] w fun e w'=>∃ a' m,e=.returned (.tuple #[.slice a' m m,.int .i64 0])∧m≤k∧Row w' a' m m (limbs N)∧Below w.heap.size w w':=by
  subst hX;subst hY;subst hN
  refine(sub_ge a b n c m d xs ys w h0 h1 (by omega) (by omega) hle).mono ?_
  rintro e w' ⟨a',m,h1,h2,h3,h4⟩
  exact⟨a',m,h1,by omega,h3,h4⟩
theorem sameN (h0:Row w a n c xs)(h1:Row w b m d ys)(h:xs=ys)(hn:n≤100):Calls Tryz.prog 123 #[.slice a n c,.slice b m d] w fun e w'=>e=.returned (.bool true)∧Below w.heap.size w w':=by
  subst h
  exact same_any a b n c m d xs w h0 h1 (by omega)
end
end Go.Proofs.YtpnlbjnbgemocaaGreat
/- The contracts of bits.Len32 and bits.LeadingZeros32, laid at this program: every number. -/
namespace Go.Proofs.YtpnlbjnbgemocaaGreat
set_option linter.unusedVariables false
set_option linter.unusedSimpArgs false
set_option maxRecDepth 100000
open Go.Shelf
def Tryz.lays128_ren:Go.Shelf.Ren:=⟨fun | 128=>168 | n=>n,fun | 51=>120 | 3=>3 | 4=>4 | 46=>193 | 5=>5 | 9=>9 | n=>n,fun | n=>n⟩
theorem Tryz.lays128:Go.Proofs.Lays.n128 Tryz.prog Tryz.lays128_ren:={
  mixed:=by kernel_rfl
  f128:=Tryz.func168.trans (congrArg some (by kernel_rfl))
  t3:=Tryz.underlying3
  a3:=Tryz.isAgg3
  z3:=Tryz.sizeOf3
  v3:=Tryz.zeroValue3
  t4:=Tryz.underlying4
  a4:=Tryz.isAgg4
  z4:=Tryz.sizeOf4
  v4:=Tryz.zeroValue4
  t5:=Tryz.underlying5
  a5:=Tryz.isAgg5
  z5:=Tryz.sizeOf5
  v5:=Tryz.zeroValue5
  t9:=Tryz.underlying9
  a9:=Tryz.isAgg9
  z9:=Tryz.sizeOf9
  v9:=Tryz.zeroValue9
  t46:=Tryz.underlying193
  a46:=Tryz.isAgg193
  z46:=Tryz.sizeOf193
  v46:=Tryz.zeroValue193
  t51:=Tryz.underlying120
  a51:=Tryz.isAgg120
  z51:=Tryz.sizeOf120
  v51:=Tryz.zeroValue120 }
theorem Tryz.bits_Len32 (x:Int)(w:World)(h0:0≤x)(h1:x≤4294967295) :
    Calls Tryz.prog 168 #[.int .u32 x] w fun e w'=>e=.returned (.int .i64 (Lib.bitLen x.toNat))∧w'=w:=Any.bits_Len32 Tryz.lays128 x w h0 h1
def Tryz.lays133_ren:Go.Shelf.Ren:=⟨fun | 133=>192 | 128=>168 | n=>n,fun | 51=>120 | 3=>3 | 4=>4 | 46=>193 | 5=>5 | 9=>9 | n=>n,fun | n=>n⟩
theorem Tryz.lays133:Go.Proofs.Lays.n133 Tryz.prog Tryz.lays133_ren:={
  mixed:=by kernel_rfl
  f128:=Tryz.func168.trans (congrArg some (by kernel_rfl))
  f133:=Tryz.func192.trans (congrArg some (by kernel_rfl))
  t3:=Tryz.underlying3
  a3:=Tryz.isAgg3
  z3:=Tryz.sizeOf3
  v3:=Tryz.zeroValue3
  t4:=Tryz.underlying4
  a4:=Tryz.isAgg4
  z4:=Tryz.sizeOf4
  v4:=Tryz.zeroValue4
  t5:=Tryz.underlying5
  a5:=Tryz.isAgg5
  z5:=Tryz.sizeOf5
  v5:=Tryz.zeroValue5
  t9:=Tryz.underlying9
  a9:=Tryz.isAgg9
  z9:=Tryz.sizeOf9
  v9:=Tryz.zeroValue9
  t46:=Tryz.underlying193
  a46:=Tryz.isAgg193
  z46:=Tryz.sizeOf193
  v46:=Tryz.zeroValue193
  t51:=Tryz.underlying120
  a51:=Tryz.isAgg120
  z51:=Tryz.sizeOf120
  v51:=Tryz.zeroValue120 }
theorem Tryz.bits_LeadingZeros32 (x:Int)(w:World)(h0:0≤x)(h1:x≤4294967295) :
    Calls Tryz.prog 192 #[.int .u32 x] w fun e w'=>e=.returned (.int .i64 (32-(Lib.bitLen x.toNat:Int)))∧w'=w:=Any.bits_LeadingZeros32 Tryz.lays133 x w h0 h1
end Go.Proofs.YtpnlbjnbgemocaaGreat
/- What takeTimes and giveBack do to a window of a row that the call owns. -/
namespace Go.Proofs.YtpnlbjnbgemocaaGreat
set_option linter.unusedVariables false
set_option linter.unusedSimpArgs false
set_option maxRecDepth 100000
open Go.RowKit Nums
def win (cs:List Nat)(i:Nat)(zs:List Nat):List Nat:=cs.take i++(zs++cs.drop (i+zs.length))
theorem length_win {cs zs:List Nat}{i:Nat}(h:i+zs.length≤cs.length):(win cs i zs).length=cs.length:=by simp [win];omega
theorem getD_win {cs zs:List Nat}{i k:Nat}(h:i+zs.length≤cs.length)(hk:k<zs.length):(win cs i zs).getD (i+k) 0=zs.getD k 0:=by
  have hi:i≤cs.length:=by omega
  have h2:¬ i+k<i:=by omega
  simp [win,List.getElem?_append,hi,hk,Nat.min_eq_left,h2]
theorem set_win {cs zs:List Nat}{i k u:Nat}(h:i+zs.length≤cs.length)(hk:k<zs.length):(win cs i zs).set (i+k) u=win cs i (zs.set k u):=by
  have hi:(cs.take i).length=i:=by simp;omega
  unfold win
  rw [List.set_append_right _ _ (by rw [hi];omega),hi,show i+k-i=k by omega,List.set_append_left _ _ hk,List.length_set]
theorem win_self {cs:List Nat}{i m:Nat}(h:i+m≤cs.length):win cs i ((cs.drop i).take m)=cs:=by
  unfold win
  have hl:((cs.drop i).take m).length=m:=by simp;omega
  rw [hl,←List.drop_drop,List.take_append_drop,List.take_append_drop]
theorem small_win {cs zs:List Nat}{i:Nat}(h:Small cs)(hz:Small zs):Small (win cs i zs):=
  small_append (small_take h i) (small_append hz (fun x hx=>h x (List.mem_of_mem_drop hx)))
theorem Mem.grown {w w':World}{g gb:Nat}{cs:List Nat}(h:Mem w gb cs)(hg:w.grownBy w' (some g))(hne:gb≠g):Mem w' gb cs:=h.keep (hg.block gb h.lt (by simpa using hne))
theorem getD_take {cs:List Nat}{n k:Nat}(hk:k<n):(cs.take n).getD k 0=cs.getD k 0:=by simp [List.getElem?_take,hk]
theorem sub32_int (X Y Bo:Int)(x y b:Nat)(w:World)(hX:X=(x:Int))(hY:Y=(y:Int))(hB:Bo=(b:Int))(hx:x<4294967296)(hy:y<4294967296)(hb:b≤1) :
    Calls Tryz.prog 173 #[.int .u32 X,.int .u32 Y,.int .u32 Bo] w fun e w'=>(∃ d b':Nat,e=.returned (.tuple #[.int .u32 (d:Nat),.int .u32 (b':Nat)])∧SubBit x y b d b')∧w=w':=by
  subst hX;subst hY;subst hB
  exact sub32_any x y b w hx hy hb
set_option maxHeartbeats 2000000 in
theorem takeTimes_any (g i n cap gb capb t:Nat)(cs A ds:List Nat)(w:World)(T:Int)(hT:T=(t:Int))(ht:t<4294967296)
    (hm:Mem w g (win cs i A)) (hA:A.length=n+1) (hAs:Small A) (hi:i+(n+1)≤cs.length) (hb:Mem w gb ds) (hds:Small ds) (hnd:n≤ds.length) (hne:gb≠g) (hn:n≤1000000000) (hil:i≤1000000000) :
    Calls Tryz.prog 201 #[.slice (some ⟨g,i,none⟩) (n+1) cap,.slice (some ⟨gb,0,none⟩) n capb,.int .u32 T] w fun e w'=>
      (∃(zs:List Nat) (b':Nat),e=.returned (.bool (decide (0<b')))∧b'≤1∧zs.length=n+1∧Small zs∧Mem w' g (win cs i zs)∧val zs+t*val (ds.take n)=val A+4294967296 ^ (n+1)*b')∧w.grownBy w' (some g):=by
  subst hT
  have HM:=Lib.hid hm;clear hm
  have HB:=Lib.hid hb;clear hb
  have HDS:=Lib.hid hds;clear hds
  have HA:=Lib.hid hA;clear hA
  have hne':gb≠g:=hne
  have HNE:=Lib.hid hne;clear hne
  go_enter Tryz.func201,Tryz.ntmps201
  go_wp2
  go_loopw [7,8,13] (fun cv bv kv wr=>∃(k c b:Nat) (zs:List Nat),k≤n∧kv=.int .i64 (k:Int)∧cv=.int .u64 (c:Int)∧c<4294967296∧bv=.int .u32 (b:Int)∧b≤1∧Hid (zs.length=n+1∧Small zs∧Mem wr g (win cs i zs)∧TakeAt A (ds.take n) t zs k c b)∧w.grownBy wr (some g)) (fun _ _ kv _=>n-(intOf kv).toNat)
  case atStart=>exact⟨0,0,0,A,Nat.zero_le _,rfl,rfl,by omega,rfl,by omega,⟨HA.out,hAs,HM.out,by simp [val],fun _ _=>rfl⟩,grown_refl _ _⟩
  case round=>
    obtain⟨k,c,b,zs,hk,rfl,rfl,hc,rfl,hb1,HZ,hgr⟩:=hrel
    have hlen:i+zs.length≤cs.length:=by rw [HZ.out.1];exact hi
    have HLEN:=Lib.hid hlen;clear hlen
    have hzl:(win cs i zs).length=cs.length:=length_win HLEN.out
    have HZL:=Lib.hid hzl;clear hzl
    by_cases hk0:k<n
    · have hx:=HZ.out.2.2.1.cell (i+k) (by rw [HZL.out];omega)
      have hxf:=HZ.out.2.2.1.free (i+k)
      rw [getD_win HLEN.out (by rw [HZ.out.1];omega)] at hx
      have hy:=(HB.out.grown hgr HNE.out).cell k (by omega)
      have hxl:=getD_lt zs HZ.out.2.1 k
      have hyl:=getD_lt ds HDS.out k
      obtain⟨x,hxe⟩:∃ x,x=zs.getD k 0:=⟨_,rfl⟩
      obtain⟨y,hye⟩:∃ y,y=ds.getD k 0:=⟨_,rfl⟩
      rw [←hxe] at hx hxl
      rw [←hye] at hy hyl
      have HXE:=Lib.hid hxe;clear hxe
      have hye':y=(ds.take n).getD k 0:=by rw [getD_take hk0];exact hye
      have HYE:=Lib.hid hye';clear hye' hye
      have hroom:=mul_room c y t 0 hc hyl ht (by omega)
      have hr1:(y:Int)*(t:Int)≤18446744065119617025:=by have:=hroom.1;rw [←Int.natCast_mul];omega
      have hr0:0≤(y:Int)*(t:Int):=by rw [←Int.natCast_mul];omega
      have HR:=Lib.hid hroom;clear hroom
      have hi0:(k:Int)<(n:Int)+1:=by omega
      go_wp2_with fail
      refine(sub32_int _ _ _ x ((c+y*t) % 4294967296) b _ rfl (by simp) rfl hxl (Nat.mod_lt _ (by omega)) hb1).mono ?_
      rintro e w' ⟨⟨d,b',rfl,hsb⟩,rfl⟩
      have HSB:=Lib.hid hsb;clear hsb
      go_wp2
      go_roundw
      case rel=>
        refine⟨k+1,(c+y*t) / 4294967296,b',zs.set k d,by omega,by go_num,by go_num,by have:=HR.out.2;simpa using this,rfl,HSB.out.2.1,⟨by simp [HZ.out.1],small_set HZ.out.2.1 _ _ HSB.out.1, ?_, ?_⟩,grown_set hgr _ _⟩
        · have h:=HZ.out.2.2.1.setI (i+k) _ d rfl
          rw [set_win HLEN.out (by rw [HZ.out.1];omega)] at h
          exact h
        · exact HZ.out.2.2.2.step (lo:=(c+y*t) % 4294967296) (by rw [HZ.out.1];omega) HXE.out HYE.out (by omega) HSB.out.2.2
      case measure=>simp [intOf];omega
    · obtain rfl:n=k:=by omega
      have hx:=HZ.out.2.2.1.cell (i+n) (by rw [HZL.out];omega)
      have hxf:=HZ.out.2.2.1.free (i+n)
      rw [getD_win HLEN.out (by rw [HZ.out.1];omega)] at hx
      have hxl:=getD_lt zs HZ.out.2.1 n
      obtain⟨x,hxe⟩:∃ x,x=zs.getD n 0:=⟨_,rfl⟩
      rw [←hxe] at hx hxl
      have HXE:=Lib.hid hxe;clear hxe
      have hi0:(n:Int)<(n:Int)+1:=by omega
      go_wp2_with fail
      refine(sub32_int _ _ _ x c b _ rfl (by omega) rfl hxl hc hb1).mono ?_
      rintro e w' ⟨⟨d,b',rfl,hsb⟩,rfl⟩
      have HSB:=Lib.hid hsb;clear hsb
      go_wp2
      go_ret
      refine⟨⟨zs.set n d,b',ret_boolN (by simp),HSB.out.2.1,by simp [HZ.out.1],small_set HZ.out.2.1 _ _ HSB.out.1, ?_, ?_⟩,grown_set hgr _ _⟩
      · have h:=HZ.out.2.2.1.setI (i+n) _ d rfl
        rw [set_win HLEN.out (by rw [HZ.out.1];omega)] at h
        exact h
      · exact HZ.out.2.2.2.last HZ.out.1 HA.out (by simp;omega) HXE.out HSB.out.2.2
theorem add32_int (X Y Bo:Int)(x y b:Nat)(w:World)(hX:X=(x:Int))(hY:Y=(y:Int))(hB:Bo=(b:Int))(hx:x<4294967296)(hy:y<4294967296)(hb:b≤1) :
    Calls Tryz.prog 206 #[.int .u32 X,.int .u32 Y,.int .u32 Bo] w fun e w'=>e=.returned (.tuple #[.int .u32 ((x+y+b) % 4294967296:Nat),.int .u32 ((x+y+b) / 4294967296:Nat)])∧w=w':=by
  subst hX;subst hY;subst hB
  refine(add32_any x y b w hx hy hb).mono ?_
  rintro e w' ⟨⟨d,c,rfl,h1,h2,h3⟩,rfl⟩
  have e1:d=(x+y+b) % 4294967296:=by omega
  have e2:c=(x+y+b) / 4294967296:=by omega
  exact⟨by rw [←e1,←e2],rfl⟩
theorem grown_drew {w wr:World}{row:Option Nat}(h:w.grownBy wr row):w.grownBy wr.drew row:=⟨h.os,h.tape,h.output,h.size,h.block⟩
set_option maxHeartbeats 2000000 in
theorem giveBack_any (g i n cap gb capb : Nat) (cs A ds : List Nat) (w : World)
    (hm:Mem w g (win cs i A)) (hA:A.length=n+1) (hAs:Small A) (hi:i+(n+1)≤cs.length) (hb:Mem w gb ds) (hds:Small ds) (hnd:n≤ds.length) (hne:gb≠g) (hn:n≤1000000000) (hil:i≤1000000000) :
    Calls Tryz.prog 202 #[.slice (some ⟨g,i,none⟩) (n+1) cap,.slice (some ⟨gb,0,none⟩) n capb] w fun e w'=>
      (∃(zs:List Nat) (c':Nat),e=.returned (.tuple #[])∧zs.length=n+1∧Small zs∧Mem w' g (win cs i zs)∧val zs+4294967296 ^ (n+1)*c'=val A+val (ds.take n))∧w.grownBy w' (some g):=by
  have HM:=Lib.hid hm;clear hm
  have HB:=Lib.hid hb;clear hb
  have HDS:=Lib.hid hds;clear hds
  have HA:=Lib.hid hA;clear hA
  have HNE:=Lib.hid hne;clear hne
  go_enter Tryz.func202,Tryz.ntmps202
  go_wp2
  go_loopw [4,8] (fun cv kv wr=>∃(k c:Nat) (zs:List Nat),k≤n∧kv=.int .i64 (k:Int)∧cv=.int .u32 (c:Int)∧c≤1∧Hid (zs.length=n+1∧Small zs∧Mem wr g (win cs i zs)∧GiveAt A (ds.take n) zs k c)∧w.grownBy wr (some g)) (fun _ kv _=>n-(intOf kv).toNat)
  case atStart=>exact⟨0,0,A,Nat.zero_le _,rfl,rfl,by omega,⟨HA.out,hAs,HM.out,by simp [val],fun _ _=>rfl⟩,grown_refl _ _⟩
  case round =>
    obtain⟨k,c,zs,hk,rfl,rfl,hc,HZ,hgr⟩:=hrel
    have HLEN:Hid (i+zs.length≤cs.length):=by
      have h1:=HZ.out.1
      exact(by omega:i+zs.length≤cs.length)
    have HZL:Hid ((win cs i zs).length=cs.length):=length_win HLEN.out
    by_cases hk0:k<n
    · have hx := HZ.out.2.2.1.cell (i + k) (by rw [HZL.out]; omega)
      have hxf:=HZ.out.2.2.1.free (i+k)
      rw [getD_win HLEN.out (by rw [HZ.out.1];omega)] at hx
      have hy:=(HB.out.grown hgr HNE.out).cell k (by omega)
      have hxl:=getD_lt zs HZ.out.2.1 k
      have hyl:=getD_lt ds HDS.out k
      obtain⟨x,hxe⟩:∃ x,x=zs.getD k 0:=⟨_,rfl⟩
      obtain⟨y,hye⟩:∃ y,y=ds.getD k 0:=⟨_,rfl⟩
      rw [←hxe] at hx hxl
      rw [←hye] at hy hyl
      have HXE:=Lib.hid hxe;clear hxe
      have hye':y=(ds.take n).getD k 0:=by rw [getD_take hk0];exact hye
      have HYE:=Lib.hid hye';clear hye' hye
      have hi0:(k:Int)<(n:Int)+1:=by omega
      have hi1:(k:Int)<(n:Int):=by omega
      have hi2:(0:Int)≤(k:Int):=by omega
      obtain⟨u,hu⟩:∃ u,u=(x+y+c) % 4294967296:=⟨_,rfl⟩
      obtain⟨c',hc'⟩:∃ c',c'=(x+y+c) / 4294967296:=⟨_,rfl⟩
      have hul:u<4294967296:=by omega
      have hcl:c'≤1:=by omega
      have HU : Hid (u + 4294967296 * c' = x + y + c) := by have : u + 4294967296 * c' = x + y + c := by omega
                                                            exact this
      have HC:∀ wx,Calls Tryz.prog 206 #[.int .u32 (x:Int),.int .u32 (y:Int),.int .u32 (c:Int)] wx fun e w'=>e=.returned (.tuple #[.int .u32 (u:Nat),.int .u32 (c':Nat)])∧wx=w':=by
        intro wx
        rw [hu,hc']
        exact add32_int _ _ _ x y c wx rfl rfl rfl hxl hyl hc
      have HCC:=Lib.hid HC;clear HC hu hc'
      go_wp2
      go_region_with (go_at_call 206;refine(HCC.out _).mono ?_;rintro e wz ⟨rfl,rfl⟩)
      all_goals
        go_wp2
        go_roundw
        case rel=>
          refine⟨k+1,c',zs.set k u,by omega,by go_num,rfl,hcl,⟨by simp [HZ.out.1],small_set HZ.out.2.1 _ _ hul, ?_, ?_⟩, ?_⟩
          · have h:=HZ.out.2.2.1.setI (i+k) _ u rfl
            rw [set_win HLEN.out (by rw [HZ.out.1];omega)] at h
            exact h.keep rfl
          · exact HZ.out.2.2.2.step (by rw [HZ.out.1];omega) HXE.out HYE.out HU.out
          · exact grown_drew (grown_set hgr _ _)
        case measure=>simp [intOf];omega
    · obtain rfl:n=k:=by omega
      have hx:=HZ.out.2.2.1.cell (i+n) (by rw [HZL.out];omega)
      have hxf:=HZ.out.2.2.1.free (i+n)
      rw [getD_win HLEN.out (by rw [HZ.out.1];omega)] at hx
      have hxl:=getD_lt zs HZ.out.2.1 n
      obtain⟨x,hxe⟩:∃ x,x=zs.getD n 0:=⟨_,rfl⟩
      rw [←hxe] at hx hxl
      have HXE:=Lib.hid hxe;clear hxe
      have hi0:(n:Int)<(n:Int)+1:=by omega
      go_wp2
      go_end0
      refine⟨⟨zs.set n ((x+c) % 4294967296),(x+c) / 4294967296,rfl,by simp [HZ.out.1],small_set HZ.out.2.1 _ _ (Nat.mod_lt _ (by omega)), ?_, ?_⟩,grown_set hgr _ _⟩
      · have h:=HZ.out.2.2.1.setI (i+n) (((x:Int)+(c:Int)) % 4294967296) ((x+c) % 4294967296) (by simp)
        rw [set_win HLEN.out (by rw [HZ.out.1];omega)] at h
        exact h
      · exact HZ.out.2.2.2.last HZ.out.1 HA.out (by simp;omega) HXE.out (by omega)
end Go.Proofs.YtpnlbjnbgemocaaGreat
/- What guess tells: the quotient's limb, or one more. -/
namespace Go.Proofs.YtpnlbjnbgemocaaGreat
set_option linter.unusedVariables false
set_option linter.unusedSimpArgs false
set_option maxRecDepth 100000
open Go.RowKit Nums
theorem grown_cell {w wr:World}{a:Addr}{v:Value}(h:w.cell? a=some v)(hg:w.grownBy wr none):wr.cell? a=some v:=hg.cell h (by simp)
theorem grown_drewN {w wr:World}{row:Option Nat}(h:w.grownBy wr row)(n:Nat):w.grownBy (wr.drewN n) row:=
  ⟨h.os,h.tape,h.output,h.size,h.block⟩
theorem wrap_small (q:Nat)(h:q≤4294967297):IntKind.u64.wrap (q:Int)=(q:Int):=by
  simp [IntKind.wrap,IntKind.bits,IntKind.signed]
  omega
set_option maxHeartbeats 4000000 in
theorem guess_any (g i m cap gb capb:Nat)(A D:Nat)(us ds es:List Nat)(cs:List Nat)(w:World)
    (hm:Mem w g (win cs i us)) (hA:us.length=m+3) (hAs:Small us) (hi:i+(m+3)≤cs.length) (hb:Mem w gb es) (hes:Small es) (hnd:m+2≤es.length) (hds:ds=es.take (m+2))
    (hmm:m≤1000000000) (hil:i≤1000000000) (hAv:A=val us) (hDv:D=val ds) (hhigh:2147483648≤ds.getD (m+1) 0) (hq:A<4294967296*D) :
    Calls Tryz.prog 200 #[.slice (some ⟨g,i,none⟩) (m+3) cap,.slice (some ⟨gb,0,none⟩) (m+2) capb] w fun e w'=>
      (∃ t:Nat,e=.returned (.int .u32 (t:Nat))∧t<4294967296∧A / D≤t∧t≤A / D+1)∧w.grownBy w' none:=by
  have hsd:Small ds:=by rw [hds];exact small_take hes _
  have hld:ds.length=m+2:=by rw [hds];simp;omega
  have htop:=topN_le (m+2) us ds hA hld (by omega) hsd (by rw [←hAv,←hDv];exact hq)
  have hwl:i+us.length≤cs.length:=by rw [hA];exact hi
  have hlen:=length_win hwl
  have c2:=hm.cell (i+(m+2)) (by rw [hlen];omega)
  have c1:=hm.cell (i+(m+1)) (by rw [hlen];omega)
  have c0:=hm.cell (i+m) (by rw [hlen];omega)
  rw [getD_win hwl (by omega)] at c2 c1 c0
  have d1:=hb.cell (m+1) (by omega)
  have d0:=hb.cell m (by omega)
  have e1:es.getD (m+1) 0=ds.getD (m+1) 0:=by rw [hds,getD_take (by omega)]
  have e0:es.getD m 0=ds.getD m 0:=by rw [hds,getD_take (by omega)]
  rw [e1] at d1
  rw [e0] at d0
  obtain⟨x2,hx2⟩:∃ x,x=us.getD (m+2) 0:=⟨_,rfl⟩
  obtain⟨x1,hx1⟩:∃ x,x=us.getD (m+1) 0:=⟨_,rfl⟩
  obtain⟨x0,hx0⟩:∃ x,x=us.getD m 0:=⟨_,rfl⟩
  obtain⟨y1,hy1⟩:∃ x,x=ds.getD (m+1) 0:=⟨_,rfl⟩
  obtain⟨y0,hy0⟩:∃ x,x=ds.getD m 0:=⟨_,rfl⟩
  have l2:x2<4294967296:=by rw [hx2];exact getD_lt us hAs _
  have l1:x1<4294967296:=by rw [hx1];exact getD_lt us hAs _
  have l0:x0<4294967296:=by rw [hx0];exact getD_lt us hAs _
  have k1:y1<4294967296:=by rw [hy1];exact getD_lt ds hsd _
  have k0:y0<4294967296:=by rw [hy0];exact getD_lt ds hsd _
  have hh:2147483648≤y1:=by rw [hy1];exact hhigh
  have htop':x2≤y1:=by rw [hx2,hy1];exact htop
  have HDONE:=Lib.hid (fun t h1 h2 h3=>guess_done A D m t us ds x2 x1 x0 y1 y0 hA hld hAs hsd hAv hDv hx2 hx1 hx0 hy1 hy0 (by omega) hq h1 h2 h3)
  rw [←hx2] at c2
  rw [←hx1] at c1
  rw [←hx0] at c0
  rw [←hy1] at d1
  rw [←hy0] at d0
  clear hx2 hx1 hx0 hy1 hy0 htop hhigh e1 e0 hlen hwl hld hsd hds hq hAv hDv hA hAs hes hm hb hnd
  have C2:=Lib.hid c2
  have C1:=Lib.hid c1
  have C0:=Lib.hid c0;clear c0
  have D1:=Lib.hid d1
  have D0:=Lib.hid d0;clear d0
  have hor:=or_limbs x2 x1 l2 l1
  obtain⟨top,ht⟩:∃ top,top=x2*4294967296+x1:=⟨_,rfl⟩
  rw [←ht] at hor
  have htl:top<(y1+1)*4294967296:=by omega
  have HTL:=Lib.hid htl
  have htb:top / y1≤4294967297:=by
    apply Nat.le_of_lt_succ
    rw [Nat.div_lt_iff_lt_mul (by omega)]
    omega
  have hrb:top % y1<y1:=Nat.mod_lt _ (by omega)
  have HST:=Lib.hid (guess_start y1 top y0 x0 (by omega) l0)
  have HT:=Lib.hid ht;clear ht htl
  obtain⟨q0,hq0⟩:∃ q0,q0=top / y1:=⟨_,rfl⟩
  obtain⟨r0,hr0⟩:∃ r0,r0=top % y1:=⟨_,rfl⟩
  rw [←hq0] at htb HST
  rw [←hr0] at hrb HST
  have hqi:(top:Int) / (y1:Int)=(q0:Int):=by rw [hq0];simp
  have hri:(top:Int) % (y1:Int)=(r0:Int):=by rw [hr0];simp
  have HQ0:=Lib.hid hqi;clear hqi hq0
  have HR0:=Lib.hid hri;clear hri hr0
  have i1:(1:Int)≤(y1:Int):=by omega
  have j0:(0:Int)≤(m:Int):=by omega
  have n0:((m:Int)+2-1).toNat=m+1:=by omega
  have n1:((m:Int)+2).toNat=m+2:=by omega
  go_enter Tryz.func200,Tryz.ntmps200
  go_wp2
  go_quiet (fail)
  go_wp2
  go_quiet (fail)
  go_wp2
  go_loopw [8,9] (fun tv rv wr=>∃ t r:Nat,tv=.int .u64 (t:Int)∧rv=.int .u64 (r:Int)∧t≤4294967297∧r<8589934592∧Hid (GuessAt y1 top y0 x0 t r)∧w.grownBy wr none) (fun tv _ _=>(intOf tv).toNat)
  case atStart=>exact⟨q0,r0,congrArg (Value.int .u64) (by rw [HQ0.out];exact wrap_small q0 htb),congrArg (Value.int .u64) HR0.out,htb,by omega,HST.out,grown_drewN (grown_drewN (grown_refl _ _) _) _⟩
  case round=>
    obtain⟨t,r,rfl,rfl,htl,hrl,HG,hgr⟩:=hrel
    have f0:=grown_cell C0.out hgr
    have h0:=grown_cell D0.out hgr
    have n2:((m:Int)+2-2).toNat=m:=by omega
    have j2:(0:Int)≤(m:Int)+2-2:=by omega
    by_cases hr:r≤4294967295
    · have hrI:(r:Int)≤4294967295:=by omega
      by_cases ht:t≤4294967295
      · have htI:decide ((4294967295:Int)<(t:Int))=false:=by rw [decide_eq_false_iff_not];omega
        have hroom:=mul_room 0 t y0 0 (by omega) (by omega) k0 (by omega)
        have hr1:(t:Int)*(y0:Int)≤18446744065119617025:=by have:=hroom.1;rw [←Int.natCast_mul];omega
        have hr2:0≤(t:Int)*(y0:Int):=by rw [←Int.natCast_mul];omega
        clear hroom
        have hor2:=or_limbs r x0 (by omega) l0
        obtain⟨U,hU⟩:∃ U,U=r*4294967296+x0:=⟨_,rfl⟩
        rw [←hU] at hor2
        have HU:=Lib.hid hU;clear hU
        by_cases hc:U<t*y0
        · have hcI:(U:Int)<(t:Int)*(y0:Int):=by rw [←Int.natCast_mul];omega
          have HSTEP:=Lib.hid (guess_step HG.out (Or.inr (by rw [←HU.out];exact hc)))
          have HC:=Lib.hid hc;clear hc
          have ht0:0<t:=HSTEP.out.1
          go_wp2
          go_quiet (fail)
          go_wp2
          go_roundw
          case rel=>exact⟨t-1,r+y1,by go_num,by go_num,by omega,by omega,HSTEP.out.2,grown_drewN hgr _⟩
          case measure=>simp [intOf];omega
        · have hcI:decide ((U:Int)<(t:Int)*(y0:Int))=false:=by rw [decide_eq_false_iff_not,←Int.natCast_mul];omega
          have HEX:=Lib.hid (guess_exit HG.out k0 HTL.out (by omega) (Or.inr ⟨ht,by rw [←HU.out];omega⟩))
          have HC:=Lib.hid hc;clear hc
          go_wp2
          go_quiet (fail)
          go_wp2
          go_ret
          refine⟨⟨t,congrArg Ending.returned (congrArg (Value.int .u32) (rfl)),by have:=HEX.out.1;omega, ?_⟩,grown_drewN hgr _⟩
          have h2:=HEX.out.2
          have h3:=HG.out.2
          rw [HT.out] at h2 h3
          exact HDONE.out t HEX.out.1 h2 h3
      · have HSTEP:=Lib.hid (guess_step HG.out (Or.inl (by omega)))
        have htI:(4294967295:Int)<(t:Int):=by omega
        have ht0:0<t:=by omega
        go_wp2
        go_quiet (fail)
        go_wp2
        go_roundw
        case rel=>exact⟨t-1,r+y1,by go_num,by go_num,by omega,by omega,HSTEP.out.2,grown_drewN hgr _⟩
        case measure=>simp [intOf];omega
    · have HEX:=Lib.hid (guess_exit HG.out k0 HTL.out (by omega) (Or.inl (by omega)))
      have hrI:decide ((r:Int)≤4294967295)=false:=by rw [decide_eq_false_iff_not];omega
      go_wp2
      go_quiet (fail)
      go_wp2
      go_ret
      refine⟨⟨t,congrArg Ending.returned (congrArg (Value.int .u32) (by have:=HEX.out.1;omega)),by have:=HEX.out.1;omega, ?_⟩,grown_drewN hgr _⟩
      have h2:=HEX.out.2
      have h3:=HG.out.2
      rw [HT.out] at h2 h3
      exact HDONE.out t HEX.out.1 h2 h3
end Go.Proofs.YtpnlbjnbgemocaaGreat
/- What takeOff does: a limb of the quotient, and the rest where it lay. -/
namespace Go.Proofs.YtpnlbjnbgemocaaGreat
set_option linter.unusedVariables false
set_option linter.unusedSimpArgs false
set_option maxRecDepth 100000
open Go.RowKit Nums
theorem grown_trans {w w1 w2:World}{row:Option Nat}(h1:w.grownBy w1 none)(h2:w1.grownBy w2 row):w.grownBy w2 row:=
  ⟨h2.os.trans h1.os,h2.tape.trans h1.tape,h2.output.trans h1.output,Nat.le_trans h1.size h2.size,fun k hk hne=>(h2.block k (Nat.lt_of_lt_of_le hk h1.size) hne).trans (h1.block k hk (by simp))⟩
theorem grown_trans2 {w w1 w2:World}{row:Option Nat}(h1:w.grownBy w1 row)(h2:w1.grownBy w2 row):w.grownBy w2 row:=
  ⟨h2.os.trans h1.os,h2.tape.trans h1.tape,h2.output.trans h1.output,Nat.le_trans h1.size h2.size,fun k hk hne=>(h2.block k (Nat.lt_of_lt_of_le hk h1.size) hne).trans (h1.block k hk hne)⟩
theorem Mem.still {w w':World}{g:Nat}{cs:List Nat}(h:Mem w g cs)(hg:w.grownBy w' none):Mem w' g cs:=h.keep (hg.block g h.lt (by simp))
set_option maxHeartbeats 2000000 in
theorem takeOff_any (g i m cap gb capb:Nat)(A D:Nat)(us ds es:List Nat)(cs:List Nat)(w:World)
    (hm:Mem w g (win cs i us)) (hA:us.length=m+3) (hAs:Small us) (hi:i+(m+3)≤cs.length) (hb:Mem w gb es) (hes:Small es) (hnd:m+2≤es.length) (hds:ds=es.take (m+2)) (hne:gb≠g)
    (hmm:m≤100000000) (hil:i≤1000000000) (hAv:A=val us) (hDv:D=val ds) (hhigh:2147483648≤ds.getD (m+1) 0) (hq:A<4294967296*D) :
    Calls Tryz.prog 194 #[.slice (some ⟨g,i,none⟩) (m+3) cap,.slice (some ⟨gb,0,none⟩) (m+2) capb] w fun e w'=>
      (∃ zs:List Nat,e=.returned (.int .u32 (A / D:Nat))∧zs.length=m+3∧Small zs∧Mem w' g (win cs i zs)∧val zs=A-A / D*D)∧w.grownBy w' (some g):=by
  have HD0:Hid (0<D):=by
    rcases Nat.eq_zero_or_pos D with h | h
    · rw [h] at hq;omega
    · exact h
  have HAM:Hid (A<4294967296 ^ (m+3)):=by have:=val_lt us hAs;rw [hA,←hAv] at this;exact this
  have HDM:Hid (D≤4294967296 ^ (m+3)):=by
    have h1:=val_lt ds (by rw [hds];exact small_take hes _)
    rw [←hDv,hds,List.length_take,Nat.min_eq_left hnd] at h1
    have h2:4294967296 ^ (m+2)≤4294967296 ^ (m+3):=Nat.pow_le_pow_right (by omega) (by omega)
    exact Nat.le_of_lt (Nat.lt_of_lt_of_le h1 h2)
  have HG:=Lib.hid (guess_any g i m cap gb capb A D us ds es cs w hm hA hAs hi hb hes hnd hds (by omega) hil hAv hDv hhigh hq)
  have HM:=Lib.hid hm;clear hm
  have HA:=Lib.hid hA;clear hA
  have HAS:=Lib.hid hAs;clear hAs
  have HB:=Lib.hid hb;clear hb
  have HES:=Lib.hid hes;clear hes
  have HDS:=Lib.hid hds;clear hds
  have HAV:=Lib.hid hAv;clear hAv
  have HDV:=Lib.hid hDv;clear hDv
  have HNE:=Lib.hid hne;clear hne hhigh hq
  go_enter Tryz.func194,Tryz.ntmps194
  go_wp2_with fail
  refine(HG.out).mono ?_
  rintro e w1 ⟨⟨t,rfl,ht,hq1,hq2⟩,hg1⟩
  have HQ1:=Lib.hid hq1;clear hq1
  have HQ2:=Lib.hid hq2;clear hq2
  have HG1:=Lib.hid hg1;clear hg1
  go_wp2_with fail
  refine(takeTimes_any g i (m+2) cap gb capb t cs us es w1 _ rfl ht (HM.out.still HG1.out) HA.out HAS.out (by omega) (HB.out.still HG1.out) HES.out hnd HNE.out (by omega) hil).mono ?_
  rintro e w2 ⟨⟨zs,b',rfl,hb1,hzl,hzs,hzm,hzv⟩,hg2⟩
  rw [←HDS.out,←HDV.out,←HAV.out] at hzv
  have HZL:=Lib.hid hzl;clear hzl
  have HZS:=Lib.hid hzs;clear hzs
  have HZM:=Lib.hid hzm;clear hzm
  have HZV:=Lib.hid hzv;clear hzv
  have HG2:=Lib.hid (grown_trans HG1.out hg2)
  have HB2:=Lib.hid ((HB.out.still HG1.out).grown hg2 HNE.out);clear hg2
  rcases(by omega:b'=0∨b'=1) with rfl | rfl
  · go_wp2
    go_ret
    have h:=off_plain HZV.out rfl HQ1.out HD0.out
    exact⟨⟨zs,congrArg Ending.returned (congrArg (Value.int .u32) (congrArg Int.ofNat h.2)),HZL.out,HZS.out,HZM.out,h.1⟩,HG2.out⟩
  · go_wp2_with fail
    refine(giveBack_any g i (m+2) cap gb capb cs zs es w2 HZM.out HZL.out HZS.out (by omega) HB2.out HES.out hnd HNE.out (by omega) hil).mono ?_
    rintro e w3 ⟨⟨ys,c',rfl,hyl,hys,hym,hyv⟩,hg3⟩
    rw [←HDS.out,←HDV.out] at hyv
    have HV1:Hid (val zs<4294967296 ^ (m+3)):=by have:=val_lt zs HZS.out;rw [HZL.out] at this;exact this
    have HV2:Hid (val ys<4294967296 ^ (m+3)):=by have:=val_lt ys hys;rw [hyl] at this;exact this
    have HOFF:=Lib.hid (off_back HV1.out HV2.out HDM.out HZV.out rfl hyv HQ2.out HD0.out)
    have HYL:=Lib.hid hyl;clear hyl
    have HYS:=Lib.hid hys;clear hys
    have HYM:=Lib.hid hym;clear hym hyv
    have HG3:=Lib.hid (grown_trans2 HG2.out hg3);clear hg3
    have ht0:0<t:=HOFF.out.1
    go_wp2
    go_ret
    refine⟨⟨ys,congrArg Ending.returned (congrArg (Value.int .u32) ?_),HYL.out,HYS.out,HYM.out,HOFF.out.2.2⟩,HG3.out⟩
    rw [←HOFF.out.2.1]
    show((t:Int)-1)=_
    omega
end Go.Proofs.YtpnlbjnbgemocaaGreat
/- What shiftUp and shiftDown tell: times, and divided by, a power of two below a limb. -/
namespace Go.Proofs.YtpnlbjnbgemocaaGreat
set_option linter.unusedVariables false
set_option linter.unusedSimpArgs false
set_option maxRecDepth 100000
open Go.RowKit Nums
theorem pow_room31 (s:Nat)(hs:s≤31):2 ^ s≤2147483648:=Nat.pow_le_pow_right (n:=2) (by omega) hs
theorem up_or (c x s:Nat)(hc:c<2 ^ s)(hx:x<4294967296)(hs:s≤31):bits BinOp.or IntKind.u64 (c:Int) (IntKind.u64.wrap ((x:Int)*2 ^ s))=((c+x*2 ^ s:Nat):Int):=by
  have h1:=pow_room31 s hs
  have h2:x*2 ^ s≤4294967295*2147483648:=Nat.mul_le_mul (by omega) h1
  have e:((x:Int)*2 ^ s)=((x*2 ^ s:Nat):Int):=by simp
  have e2:IntKind.u64.wrap ((x*2 ^ s:Nat):Int)=((x*2 ^ s:Nat):Int):=by rw [IntKind.wrap_u64];omega
  rw [e,e2,u64_or_nat _ _ (by omega) (by omega),Nat.or_comm,nat_join s (x*2 ^ s) c (Nat.mul_mod_left x (2 ^ s)) hc,Nat.add_comm]
theorem up_step {zs xs:List Nat}{k c x s u c':Nat}(h:val (zs.take k)+4294967296 ^ k*c=val (xs.take k)*2 ^ s)(hk:k<zs.length)(hx:x=xs.getD k 0)(hu:u+4294967296*c'=c+x*2 ^ s):val ((zs.set k u).take (k+1))+4294967296 ^ (k+1)*c'=val (xs.take (k+1))*2 ^ s:=by
  rw [val_set_take zs k u hk,val_take_next xs,←hx,Nat.pow_succ,Nat.mul_assoc,Nat.add_mul,←h,Nat.mul_assoc]
  have e:4294967296 ^ k*(u+4294967296*c')=4294967296 ^ k*(c+x*2 ^ s):=by rw [hu]
  simp only [Nat.mul_add] at e
  omega
theorem up_carry {c x s:Nat}(hc:c<2 ^ s)(hx:x<4294967296):(c+x*2 ^ s) / 4294967296<2 ^ s:=by
  rw [Nat.div_lt_iff_lt_mul (by omega)]
  have h2:x*2 ^ s≤4294967295*2 ^ s:=Nat.mul_le_mul_right _ (by omega)
  omega
set_option maxHeartbeats 2000000 in
theorem shiftUp_any (a:Option Addr)(n c s:Nat)(xs:List Nat)(w:World)(hr:Row w a n c xs)(hn:n≤100000000)(hs:s≤31) :
    Calls Tryz.prog 193 #[.slice a n c,.int .i64 (s:Int)] w fun e w'=>(∃(g:Nat) (zs:List Nat),e=.returned (.slice (some ⟨g,0,none⟩) (n+1) (n+1))∧w.heap.size≤g∧Mem w' g zs∧zs.length=n+1∧Small zs∧val zs=val xs*2 ^ s)∧Below w.heap.size w w':=by
  obtain⟨hl,-,-,-,hsm,b0,o0,hor0,hc0⟩:=hr
  have HL:=Lib.hid hl;clear hl
  have HC0:=Lib.hid hc0;clear hc0
  have si:(0:Int)≤(s:Int):=by omega
  have sj:(s:Int)<64:=by omega
  rcases(show _∨Hid _ from hor0) with rfl | hor0
  all_goals
    go_enter Tryz.func193,Tryz.ntmps193
    go_wp2_with (at_make;refine make32 rfl _ rfl _ (n+1) rfl (by omega) (by omega) ?_)
    intro g w1 hg hmem hbel
    have HG:=Lib.hid hmem;clear hmem
    go_wp2
    go_loopw [6,14] (fun cv t wr=>∃(k c:Nat) (zs:List Nat),k≤n∧t=.int .i64 (k:Int)∧cv=.int .u64 (c:Int)∧c<4294967296∧Hid (zs.length=n+1∧Small zs∧Mem wr g zs∧c<2 ^ s∧val (zs.take k)+4294967296 ^ k*c=val (xs.take k)*2 ^ s)∧Below w.heap.size w wr) (fun _ t _=>n-(intOf t).toNat)
    case atStart=>exact⟨0,0,List.replicate (n+1) 0,Nat.zero_le _,rfl,rfl,by omega,⟨by simp,by intro x hx;simp at hx;omega,HG.out,Nat.pow_pos (by omega),by simp [val]⟩,hbel⟩
    case round=>
      obtain⟨k,c,zs,hk,rfl,rfl,hc1,HZ,hbr⟩:=hrel
      by_cases hk0:k<n
      · first
        | (exfalso;have:=hor0.out;omega)
        | (have hcell0:=cells_at HC0.out hbr k hk0
           have hx:=getD_lt xs hsm k
           obtain⟨x,hxe⟩:∃ x,x=xs.getD k 0:=⟨_,rfl⟩
           rw [←hxe] at hcell0 hx
           have HXE:=Lib.hid hxe;clear hxe
           have hz:=HZ.out.2.2.1.cell k (by rw [HZ.out.1];omega)
           have hzf:=HZ.out.2.2.1.free k
           have hor:=up_or c x s HZ.out.2.2.2.1 hx hs
           obtain⟨v,hv⟩:∃ v,v=c+x*2 ^ s:=⟨_,rfl⟩
           have hvr:=up_carry HZ.out.2.2.2.1 hx
           rw [←hv] at hor hvr
           have HVR:=Lib.hid hvr;clear hvr
           have HP:=Lib.hid (pow_room31 s hs)
           have hv1:v / 4294967296<4294967296:=by have h1:=HVR.out;have h2:=HP.out;omega
           have HV:=Lib.hid hv;clear hv
           go_wp2
           go_roundw
           case rel=>exact⟨k+1,v / 4294967296,zs.set k (v % 4294967296),by omega,by go_num,by go_num,hv1,⟨by simp [HZ.out.1],small_set HZ.out.2.1 _ _ (Nat.mod_lt _ (by omega)),HZ.out.2.2.1.setI k _ _ (by simp),HVR.out,up_step HZ.out.2.2.2.2 (by rw [HZ.out.1];omega) HXE.out (by rw [←HV.out];omega)⟩,hbr.setCell (by exact hg) _⟩
           case measure=>simp [intOf];omega)
      · obtain rfl:n=k:=by omega
        have hz:=HZ.out.2.2.1.cell n (by rw [HZ.out.1];omega)
        have hzf:=HZ.out.2.2.1.free n
        go_wp2
        go_ret
        refine⟨⟨g,zs.set n c,rfl,hg,HZ.out.2.2.1.setI n _ _ (by omega),by simp [HZ.out.1],small_set HZ.out.2.1 _ _ hc1, ?_⟩,hbr.setCell (by exact hg) _⟩
        have e:=val_set_take zs n c (by rw [HZ.out.1];omega)
        rw [List.take_of_length_le (by simp [HZ.out.1]),HZ.out.2.2.2.2,List.take_of_length_le (by rw [HL.out];exact Nat.le_refl _)] at e
        exact e
theorem or_up (x y:Nat)(hx:x<4294967296)(hy:y<4294967296):bits BinOp.or IntKind.u64 (x:Int) ((y:Int)*4294967296)=((x+4294967296*y:Nat):Int):=by
  have e:((y:Int)*4294967296)=((y*4294967296:Nat):Int):=by simp
  rw [e,u64_or_nat _ _ (by omega) (by omega),Nat.or_comm,nat_join 32 (y*4294967296) x (by omega) (by omega)]
  congr 1
  omega
set_option maxHeartbeats 2000000 in
theorem shiftDown_any (g n c s:Nat)(cs:List Nat)(w:World)(hm:Mem w g cs)(hcs:Small cs)(hl:cs.length=n)(hn:n≤1000000000)(hs:s≤31) :
    Calls Tryz.prog 195 #[.slice (some ⟨g,0,none⟩) n c,.int .i64 (s:Int)] w fun e w'=>(∃ zs:List Nat,e=.returned (.tuple #[])∧Mem w' g zs∧zs.length=n∧Small zs∧val zs=val cs / 2 ^ s)∧w.grownBy w' (some g):=by
  have HM:=Lib.hid hm;clear hm
  have HL:=Lib.hid hl;clear hl
  have si:(0:Int)≤(s:Int):=by omega
  have sj:(s:Int)<64:=by omega
  go_enter Tryz.func195,Tryz.ntmps195
  go_wp2
  go_loopw [8] (fun t wr=>∃(k:Nat) (zs:List Nat),k≤n∧t=.int .i64 (k:Int)∧Hid (zs.length=n∧Small zs∧Mem wr g zs∧DownAt cs s zs k)∧w.grownBy wr (some g)) (fun t _=>n-(intOf t).toNat)
  case atStart=>exact⟨0,cs,Nat.zero_le _,rfl,⟨HL.out,hcs,HM.out,by simp [val],fun _ _=>rfl⟩,grown_refl _ _⟩
  case round=>
    obtain⟨k,zs,hk,rfl,HZ,hgr⟩:=hrel
    by_cases hk0:k<n
    · have hx:=HZ.out.2.2.1.cell k (by rw [HZ.out.1];omega)
      have hxf:=HZ.out.2.2.1.free k
      have hxl:=getD_lt zs HZ.out.2.1 k
      obtain⟨x,hxe⟩:∃ x,x=zs.getD k 0:=⟨_,rfl⟩
      rw [←hxe] at hx hxl
      have HXE:=Lib.hid hxe;clear hxe
      by_cases hk1:k+1<n
      · have hy:=HZ.out.2.2.1.cell (k+1) (by rw [HZ.out.1];omega)
        have hyl:=getD_lt zs HZ.out.2.1 (k+1)
        obtain⟨y,hye⟩:∃ y,y=zs.getD (k+1) 0:=⟨_,rfl⟩
        rw [←hye] at hy hyl
        have HYE:=Lib.hid hye;clear hye
        have hor:=or_up x y hxl hyl
        obtain⟨v,hv⟩:∃ v,v=x+4294967296*y:=⟨_,rfl⟩
        rw [←hv] at hor
        have HV:=Lib.hid hv;clear hv
        have hk2:(k:Int)+1<(n:Int):=by omega
        go_wp2
        go_roundw
        case rel=>
          refine⟨k+1,zs.set k (v / 2 ^ s % 4294967296),by omega,by go_num,⟨by simp [HZ.out.1],small_set HZ.out.2.1 _ _ (Nat.mod_lt _ (by omega)),HZ.out.2.2.1.setI k _ _ (by simp), ?_⟩,grown_set hgr _ _⟩
          rw [HV.out]
          exact HZ.out.2.2.2.step hs hcs (by rw [HZ.out.1,HL.out]) (by rw [HZ.out.1];exact hk0) HXE.out HYE.out
        case measure=>simp [intOf];omega
      · have hk2:¬(k:Int)+1<(n:Int):=by omega
        have HYE:Hid (0=zs.getD (k+1) 0):=by rw [getD_ge zs (k+1) (by rw [HZ.out.1];omega)];exact rfl
        go_wp2
        go_roundw
        case rel=>
          refine⟨k+1,zs.set k (x / 2 ^ s % 4294967296),by omega,by go_num,⟨by simp [HZ.out.1],small_set HZ.out.2.1 _ _ (Nat.mod_lt _ (by omega)),HZ.out.2.2.1.setI k _ _ (by simp), ?_⟩,grown_set hgr _ _⟩
          have h:=HZ.out.2.2.2.step (y:=0) hs hcs (by rw [HZ.out.1,HL.out]) (by rw [HZ.out.1];exact hk0) HXE.out HYE.out
          simpa using h
        case measure=>simp [intOf];omega
    · obtain rfl:n=k:=by omega
      go_wp2
      go_end0
      refine⟨⟨zs,rfl,HZ.out.2.2.1,HZ.out.1,HZ.out.2.1, ?_⟩,hgr⟩
      have h:=HZ.out.2.2.2
      rw [←HL.out] at h
      exact h.done (by rw [HZ.out.1,HL.out])
end Go.Proofs.YtpnlbjnbgemocaaGreat
/- What divideLong tells: quotient and rest of two rows, the divisor of two limbs at least, not above what is divided. -/
namespace Go.Proofs.YtpnlbjnbgemocaaGreat
set_option linter.unusedVariables false
set_option linter.unusedSimpArgs false
set_option maxRecDepth 100000
open Go.RowKit Nums
theorem len_bits (x:Nat)(h0:0<x)(hx:x<4294967296):1≤Lib.bitLen x∧Lib.bitLen x≤32∧2 ^ (Lib.bitLen x-1)≤x∧x<2 ^ Lib.bitLen x:=by
  have h:=Lib.bitLenAux_bounds 64 x (by omega) (by omega)
  have h2:=Lib.bitLen_le x 32 (by omega) hx
  exact⟨h.1,h2,h.2.1,h.2.2⟩
theorem lz_any (x:Nat)(w:World)(h0:0<x)(hx:x<4294967296) :
    Calls Tryz.prog 192 #[.int .u32 (x:Int)] w fun e w'=>(∃ s:Nat,e=.returned (.int .i64 (s:Int))∧s≤31∧x*2 ^ s<4294967296∧2147483648≤x*2 ^ s)∧w=w':=by
  refine(Tryz.bits_LeadingZeros32 (x:Int) w (by omega) (by omega)).mono ?_
  rintro e w' ⟨rfl,rfl⟩
  obtain⟨h1,h2,h3,h4⟩:=len_bits x h0 hx
  rw [Int.toNat_natCast]
  refine⟨⟨32-Lib.bitLen x,congrArg Ending.returned (congrArg (Value.int .i64) (by omega)),by omega, ?_, ?_⟩,rfl⟩
  · have e1:2 ^ Lib.bitLen x*2 ^ (32-Lib.bitLen x)=4294967296:=by rw [←Nat.pow_add,show Lib.bitLen x+(32-Lib.bitLen x)=32 by omega]
    rw [←e1]
    exact(Nat.mul_lt_mul_right (Nat.pow_pos (by omega))).2 h4
  · have e1:2 ^ (Lib.bitLen x-1)*2 ^ (32-Lib.bitLen x)=2147483648:=by rw [←Nat.pow_add,show Lib.bitLen x-1+(32-Lib.bitLen x)=31 by omega]
    rw [←e1]
    exact Nat.mul_le_mul_right _ h3
theorem takeOff_len (g i m N cap gb capb:Nat)(A D:Nat)(us ds es:List Nat)(cs:List Nat)(w:World)(hN:N=m+3)
    (hm:Mem w g (win cs i us)) (hA:us.length=m+3) (hAs:Small us) (hi:i+(m+3)≤cs.length) (hb:Mem w gb es) (hes:Small es) (hnd:m+2≤es.length) (hds:ds=es.take (m+2)) (hne:gb≠g)
    (hmm:m≤100000000) (hil:i≤1000000000) (hAv:A=val us) (hDv:D=val ds) (hhigh:2147483648≤ds.getD (m+1) 0) (hq:A<4294967296*D) :
    Calls Tryz.prog 194 #[.slice (some ⟨g,i,none⟩) N cap,.slice (some ⟨gb,0,none⟩) (m+2) capb] w fun e w'=>
      (∃ zs:List Nat,e=.returned (.int .u32 (A / D:Nat))∧zs.length=m+3∧Small zs∧Mem w' g (win cs i zs)∧val zs=A-A / D*D)∧w.grownBy w' (some g):=by
  subst hN
  exact takeOff_any g i m cap gb capb A D us ds es cs w hm hA hAs hi hb hes hnd hds hne hmm hil hAv hDv hhigh hq
theorem cut_mem {N:Nat}{w:World}{zs:List Nat}{g n:Nat}(hm:Mem w g zs)(hs:Small zs)(hl:zs.length=n)(hn:n≤1000000000)(hv:val zs=N) :
    Calls Tryz.prog 140 #[.slice (some ⟨g,0,none⟩) n n] w fun e w'=>∃ a' m,e=.returned (.slice a' m m)∧m=(limbs N).length∧Row w a' m m (limbs N)∧w=w':=by
  subst hl
  refine(cut_num _ _ _ zs w (hm.row0 hs zs.length (Nat.le_refl _) (by unfold maxLen;omega)) hn).mono ?_
  rintro e w' ⟨a',m,rfl,hm,hmn,hrow,-,rfl⟩
  rw [hv] at hm hrow
  exact⟨a',m,rfl,hm,hrow,rfl⟩
theorem pow_le_of_len {B n:Nat}(h:(limbs B).length=n+1):4294967296 ^ n≤B:=by
  apply Nat.le_of_not_lt
  intro hlt
  have:=limbs_len B n hlt
  omega
set_option maxHeartbeats 4000000 in
theorem divide_long (a0 a1:Option Addr)(n0 m:Nat)(A B:Nat)(w:World)(h0:Row w a0 n0 n0 (limbs A))(h1:Row w a1 (m+2) (m+2) (limbs B))(hn0:n0≤100000000)(hle:m+2≤n0) :
    Calls Tryz.prog 186 #[.slice a0 n0 n0,.slice a1 (m+2) (m+2)] w (QR A B w):=by
  have hl1:(limbs B).length=m+2:=h1.1
  have hl0:(limbs A).length=n0:=h0.1
  have HPB:=Lib.hid (pow_le_of_len hl1)
  have HPA:Hid (A<4294967296 ^ n0):=by have:=lt_pow_len A;rw [hl0] at this;exact this
  have HL1:=Lib.hid hl1;clear hl1
  have HL0:=Lib.hid hl0;clear hl0
  have H0:=Lib.hid h0;clear h0
  obtain⟨-,-,-,-,-,b1,o1,hor1,hc1⟩:=h1
  rcases hor1 with rfl | hor1
  case inr=>omega
  have H1:Hid (Row w (some ⟨b1,o1,none⟩) (m+2) (m+2) (limbs B)):=⟨HL1.out,by omega,by unfold maxLen;omega,by simp,small_limbs B,b1,o1,Or.inl rfl,hc1⟩
  have hcell:=(hc1 (m+1) (by omega)).2
  have hyl:=getD_lt (limbs B) (small_limbs B) (m+1)
  have hy0:(limbs B).getD (m+1) 0≠0:=by
    intro h
    have e:=val_take_succ (limbs B) (m+1) (by rw [HL1.out];omega)
    rw [h,List.take_of_length_le (by rw [HL1.out];exact Nat.le_refl _),val_limbs] at e
    have h2:=val_lt ((limbs B).take (m+1)) (small_take (small_limbs B) _)
    rw [List.length_take,Nat.min_eq_left (by rw [HL1.out];omega)] at h2
    have h3:=HPB.out
    omega
  obtain⟨y,hy⟩:∃ y,y=(limbs B).getD (m+1) 0:=⟨_,rfl⟩
  rw [←hy] at hcell hyl hy0
  have HY:=Lib.hid hy;clear hy hc1
  have hyp:0<y:=by omega
  clear hy0
  have n1:((m:Int)+2-1).toNat=m+1:=by omega
  have n2:((m:Int)+2).toNat=m+2:=by omega
  go_enter Tryz.func186,Tryz.ntmps186
  go_wp2_with fail
  refine(lz_any y _ hyp hyl).mono ?_
  rintro e w' ⟨⟨s,rfl,hs,hs1,hs2⟩,rfl⟩
  have HS1:=Lib.hid hs1;clear hs1
  have HS2:=Lib.hid hs2;clear hs2
  go_wp2_with fail
  refine(shiftUp_any _ (m+2) (m+2) s (limbs B) w H1.out (by omega) hs).mono ?_
  rintro e w1 ⟨⟨gb,es,rfl,hgb,hmb,hlb,hsb,hvb⟩,hb1⟩
  rw [val_limbs] at hvb
  have HN:=Lib.hid (norm_divisor (limbs B) es (m+1) s y HL1.out (small_limbs B) HY.out HS1.out HS2.out hs hlb hsb (by rw [val_limbs];exact hvb))
  have HMB:=Lib.hid hmb;clear hmb
  have HLB:=Lib.hid hlb;clear hlb
  have HSB:=Lib.hid hsb;clear hsb hvb
  have HB1:=Lib.hid hb1;clear hb1
  have H01:=Lib.hid (row_below (Nat.le_refl _) HB1.out H0.out)
  go_wp2_with fail
  refine(shiftUp_any _ n0 n0 s (limbs A) w1 H01.out (by omega) hs).mono ?_
  rintro e w2 ⟨⟨g,cs,rfl,hg,hmg,hlg,hsg,hvg⟩,hb2⟩
  rw [val_limbs] at hvg
  have HMB2:=Lib.hid (HMB.out.below hb2 HMB.out.lt)
  have hne:gb≠g:=by have:=HMB.out.lt;omega
  have HNE:=Lib.hid hne;clear hne
  have HGG:Hid (w.heap.size≤g):=Nat.le_trans HB1.out.size hg
  clear hg
  have HMG:=Lib.hid hmg;clear hmg
  have HLG:=Lib.hid hlg;clear hlg
  have HSG:=Lib.hid hsg;clear hsg
  have HVG:=Lib.hid hvg;clear hvg
  have HB2:=Lib.hid (HB1.out.trans (hb2.mono HB1.out.size));clear hb2
  obtain⟨l,rfl⟩:∃ l,n0=m+1+l:=⟨n0-(m+1),by omega⟩
  go_wp2_with (at_make;refine make32 rfl _ rfl _ l rfl (by omega) (by omega) ?_)
  intro gq w3 hgq hmq hb3
  have HMB3:=Lib.hid (HMB2.out.below hb3 HMB2.out.lt)
  have HMG3:=Lib.hid (HMG.out.below hb3 HMG.out.lt)
  have HNQ:Hid (g≠gq):=by
    have h1:=HMG.out.lt
    exact(by omega:g≠gq)
  have HNB:Hid (gb≠gq):=by
    have h1:=HMB2.out.lt
    exact(by omega:gb≠gq)
  have HGQ:Hid (w.heap.size≤gq):=Nat.le_trans HB2.out.size hgq
  have HMQ:=Lib.hid hmq;clear hmq hgq
  have HB3:=Lib.hid (HB2.out.trans (hb3.mono HB2.out.size));clear hb3
  have HST:Hid (LongAt (A*2 ^ s) (B*2 ^ s) cs (List.replicate l 0) l):=by
    have h:=LongAt.start (A:=A) (s:=s) (D:=B*2 ^ s) (n0:=m+1+l) (n1:=m+2) HVG.out HLG.out HSG.out HPA.out hle (by
      rw [Nat.pow_succ,Nat.mul_right_comm]
      exact Nat.mul_le_mul_right _ (Nat.mul_le_mul_right _ HPB.out)) hs (by omega)
    rw [show m+1+l-(m+2)+1=l by omega] at h
    exact h
  have hl1:1≤l:=by omega
  go_wp2
  go_loopw [11] (fun t wr=>∃(k:Nat) (cs qs:List Nat),k≤l∧t=.int .i64 ((k:Int)-1)∧Hid (cs.length=m+1+l+1∧Small cs∧Mem wr g cs∧qs.length=l∧Small qs∧Mem wr gq qs∧Mem wr gb es∧LongAt (A*2 ^ s) (B*2 ^ s) cs qs k)∧Below w.heap.size w wr) (fun t _=>(intOf t+1).toNat)
  case atStart=>exact⟨l,cs,List.replicate l 0,Nat.le_refl _,rfl,⟨HLG.out,HSG.out,HMG3.out,by simp,by intro x hx;simp at hx;omega,HMQ.out,HMB3.out,HST.out⟩,HB3.out⟩
  case round=>
    obtain⟨k,cs,qs,hk,rfl,HZ,hbr⟩:=hrel
    by_cases hk0:0<k
    · obtain⟨i,rfl⟩:∃ i,k=i+1:=⟨k-1,by omega⟩
      have ei:((i+1:Nat):Int)-1=(i:Int):=by omega
      rw [ei]
      clear ei hk0
      have HDV:Hid (val (es.take (m+2))=B*2 ^ s):=by have:=HN.out.1;rw [val_limbs] at this;exact this
      have HDL:Hid (B*2 ^ s<4294967296 ^ (m+2)):=by have:=HN.out.2.2;rw [val_limbs] at this;exact this
      have HPRE:Hid (val (cs.drop i)<4294967296*(B*2 ^ s)):=HZ.out.2.2.2.2.2.2.2.pre HZ.out.2.1 (by rw [HZ.out.1];omega)
      have HDP:Hid (B*2 ^ s*4294967296≤4294967296 ^ (m+3)):=by
        have h1:=HDL.out
        have h2:4294967296 ^ (m+3)=4294967296 ^ (m+2)*4294967296:=by rw [←Nat.pow_succ]
        rw [h2]
        exact Nat.mul_le_mul_right _ (Nat.le_of_lt h1)
      obtain⟨us,hus⟩:∃ us,us=(cs.drop i).take (m+3):=⟨_,rfl⟩
      have HUV:Hid (val us=val (cs.drop i)):=by
        rw [hus]
        refine(val_take_lt (cs.drop i) (m+3) ?_).1
        have h1:=HPRE.out
        have h2:=HDP.out
        omega
      have HULEN:Hid (us.length=m+3):=by
        have h1:=HZ.out.1
        rw [hus]
        have:((cs.drop i).take (m+3)).length=m+3:=by simp;omega
        exact this
      have HUS:Hid (Small us):=by rw [hus];exact small_take (fun x hx=>HZ.out.2.1 x (List.mem_of_mem_drop hx)) _
      have HWIN:Hid (Mem wr g (win cs i us)):=by
        rw [hus,win_self (by rw [HZ.out.1];omega)];exact HZ.out.2.2.1
      have HUQ:Hid (val us<4294967296*val (es.take (m+2))):=by rw [HUV.out,HDV.out];exact HPRE.out
      have HUSE:=Lib.hid hus;clear hus
      have hil:¬ m+1+l+1=i:=by omega
      have hil2:(i:Int)+((m:Int)+2)+1≤(m:Int)+1+(l:Int)+1:=by omega
      go_wp2_with fail
      refine(takeOff_len g i m _ _ gb (m+2+1) (val us) (val (es.take (m+2))) us (es.take (m+2)) es cs wr (by omega) HWIN.out HULEN.out HUS.out (by rw [HZ.out.1];omega) HZ.out.2.2.2.2.2.2.1 HSB.out (by rw [HLB.out];omega) rfl HNE.out (by omega) (by omega) rfl rfl HN.out.2.1 HUQ.out).mono ?_
      rintro e w4 ⟨⟨zs,rfl,hzl,hzs,hzm,hzv⟩,hgr⟩
      have HGR:=Lib.hid hgr;clear hgr
      have hql:val us / val (es.take (m+2))<4294967296:=by
        rw [Nat.div_lt_iff_lt_mul]
        · exact HUQ.out
        · have h1:=HUQ.out
          rcases Nat.eq_zero_or_pos (val (es.take (m+2))) with h | h
          · rw [h] at h1;omega
          · exact h
      obtain⟨q,hqe⟩:∃ q,q=val us / val (es.take (m+2)):=⟨_,rfl⟩
      rw [←hqe] at hql hzv ⊢
      rw [HDV.out] at hqe hzv
      have HQE:=Lib.hid hqe;clear hqe
      have HZL:=Lib.hid hzl;clear hzl
      have HZS:=Lib.hid hzs;clear hzs
      have HZM:=Lib.hid hzm;clear hzm
      have HZV:=Lib.hid hzv;clear hzv
      have HMQ4:=Lib.hid (HZ.out.2.2.2.2.2.1.grown HGR.out HNQ.out.symm)
      have HMB4:=Lib.hid (HZ.out.2.2.2.2.2.2.1.grown HGR.out HNE.out)
      have hq:=HMQ4.out.cell i (by rw [HZ.out.2.2.2.1];omega)
      have hqf:=HMQ4.out.free i
      have hb4:Below w.heap.size w w4:=hbr.grown HGR.out hbr.size (by intro k hk;simp at hk;have:=HGG.out;omega)
      go_wp2
      go_roundw
      case rel=>
        refine⟨i,win cs i zs,qs.set i q,by omega,by go_num,⟨?_,small_win HZ.out.2.1 HZS.out, ?_,by simp [HZ.out.2.2.2.1],small_set HZ.out.2.2.2.2.1 _ _ hql,HMQ4.out.setI i _ q rfl, ?_, ?_⟩,hb4.setCell (by exact HGQ.out) _⟩
        · rw [length_win (by rw [HZL.out,HZ.out.1];omega),HZ.out.1]
        · exact HZM.out.keep (Below.heap_setCell _ _ _ _ HNQ.out)
        · exact HMB4.out.keep (Below.heap_setCell _ _ _ _ HNB.out)
        · have h:=HZ.out.2.2.2.2.2.2.2.step (q:=q) (zs:=zs) HZ.out.2.1 (by rw [HZ.out.1];omega) (by rw [HZ.out.2.2.2.1];omega) HDP.out (by omega) HUSE.out HQE.out (by rw [HZV.out,←HQE.out]) HZL.out
          exact h
      case measure=>simp [intOf]
    · obtain rfl:k=0:=by omega
      have HDONE:=Lib.hid (HZ.out.2.2.2.2.2.2.2.done)
      go_wp2_with fail
      refine(shiftDown_any g (m+1+l+1) _ s cs wr HZ.out.2.2.1 HZ.out.2.1 HZ.out.1 (by omega) hs).mono ?_
      rintro e w4 ⟨⟨zs,rfl,hzm,hzl,hzs,hzv⟩,hgr⟩
      have HGR:=Lib.hid hgr;clear hgr
      rw [HDONE.out.2] at hzv
      have HZM:=Lib.hid hzm;clear hzm
      have HZL:=Lib.hid hzl;clear hzl
      have HZS:=Lib.hid hzs;clear hzs
      have HZV:=Lib.hid hzv;clear hzv
      have HMQ4:=Lib.hid (HZ.out.2.2.2.2.2.1.grown HGR.out HNQ.out.symm)
      have HB4:Hid (Below w.heap.size w w4):=hbr.grown HGR.out hbr.size (by intro k hk;simp at hk;have:=HGG.out;omega)
      go_wp2_with fail
      refine(cut_mem (N:=A / B) HMQ4.out HZ.out.2.2.2.2.1 HZ.out.2.2.2.1 (by omega) HDONE.out.1).mono ?_
      rintro e w' ⟨q,mq,rfl,hmq,hrq,rfl⟩
      have HMQ5:=Lib.hid hmq;clear hmq
      have HRQ:=Lib.hid hrq;clear hrq
      go_wp2_with fail
      refine(cut_mem (N:=A % B) HZM.out HZS.out HZL.out (by omega) HZV.out).mono ?_
      rintro e w' ⟨r,mr,rfl,hmr,hrr,rfl⟩
      have HMR5:=Lib.hid hmr;clear hmr
      have HRR:=Lib.hid hrr;clear hrr
      go_wp2
      go_ret2
      exact⟨q,mq,r,mr,rfl,HMQ5.out,HRQ.out,HMR5.out,HRR.out,HB4.out⟩
end Go.Proofs.YtpnlbjnbgemocaaGreat
/- What divide tells, of any number and any but 0. -/
namespace Go.Proofs.YtpnlbjnbgemocaaGreat
set_option linter.unusedVariables false
set_option linter.unusedSimpArgs false
set_option maxRecDepth 100000
open Go.RowKit Nums
set_option maxHeartbeats 1000000 in
theorem divide_big (a0 a1:Option Addr)(n0 m:Nat)(A B:Nat)(w:World)(h0:Row w a0 n0 n0 (limbs A))(h1:Row w a1 (m+2) (m+2) (limbs B))(hn0:n0≤100000000)(hge:B≤A) :
    Calls Tryz.prog 169 #[.slice a0 n0 n0,.slice a1 (m+2) (m+2)] w (QR A B w):=by
  have hle:m+2≤n0:=by rw [←h1.1,←h0.1];exact limbs_len_mono hge
  have H0:=Lib.hid h0;clear h0
  have H1:=Lib.hid h1;clear h1
  have HG:=Lib.hid hge;clear hge
  have hmz:(((m:Int)+2)==1)=false:=by rw [beq_eq_false_iff_ne];omega
  go_enter Tryz.func169,Tryz.ntmps169
  go_wp2_with fail
  refine(cmp_ge a0 _ n0 n0 (m+2) (m+2) _ _ w H0.out H1.out (by omega) (by omega) (by rw [val_limbs,val_limbs];exact HG.out)).mono ?_
  rintro e w1 ⟨⟨r,rfl,hr0⟩,hb⟩
  have HB:=Lib.hid hb;clear hb
  go_wp2_with fail
  refine(divide_long a0 a1 n0 m A B w1 (row_below (Nat.le_refl _) HB.out H0.out) (row_below (Nat.le_refl _) HB.out H1.out) hn0 hle).mono ?_
  rintro e w' ⟨q',mq',r',mr',rfl,h1,h2,h3,h4,h5⟩
  have K1:=Lib.hid h1;clear h1
  have K2:=Lib.hid h2;clear h2
  have K3:=Lib.hid h3;clear h3
  have K4:=Lib.hid h4;clear h4
  have K5:=Lib.hid h5;clear h5
  go_wp2
  go_ret2
  exact⟨q',mq',r',mr',rfl,K1.out,K2.out,K3.out,K4.out,HB.out.trans (K5.out.mono HB.out.size)⟩
theorem divides_all (A B:Nat)(hB:0<B):Divides A B:=by
  intro a0 a1 n0 n1 w h0 h1 hn0 hn1
  rcases Nat.lt_or_ge A B with h | h
  · exact divide_less a0 a1 n0 n1 A B w h0 h1 hn0 hn1 h
  · rcases(by omega:n1=0∨n1=1∨2≤n1) with e | e | e
    · exfalso
      have:=h1.1
      rw [e] at this
      have:=length_limbs_zero.1 this
      omega
    · exact divide_short a0 a1 n0 n1 A B w h0 h1 hn0 e h
    · obtain⟨m,rfl⟩:∃ m,n1=m+2:=⟨n1-2,by omega⟩
      exact divide_big a0 a1 n0 m A B w h0 h1 hn0 h
section
variable {w:World} {a b:Option Addr} {n c m d:Nat} {xs ys:List Nat} {X Y N k:Nat}
theorem divN (k l:Nat)(h0:Row w a n c xs)(h1:Row w b m d ys)(hX:val xs=X)(hY:val ys=Y)(hn:n≤100)(hm:m≤100)(hY0:0<Y)(hk:(limbs (X / Y)).length≤k)(hl:(limbs (X % Y)).length≤l) :
    Calls Tryz.prog 135 #[.slice a n c,.slice b m d] w fun e w'=>∃ q mq r mr,e=.returned (.tuple #[.slice q mq mq,.slice r mr mr,.int .i64 0])∧mq≤k∧mr≤l∧Row w' q mq mq (limbs (X / Y))∧Row w' r mr mr (limbs (X % Y))∧Below w.heap.size w w':=by
  subst hX;subst hY
  refine(div_of a b n c m d xs ys w h0 h1 (by omega) (by omega) hY0 (divides_all _ _ hY0)).mono ?_
  rintro e w' ⟨q,mq,r,mr,h1,h2,h3,h4,h5,h6⟩
  exact⟨q,mq,r,mr,h1,by omega,by omega,h3,h5,h6⟩
theorem gcdN (k:Nat)(h0:Row w a n c xs)(h1:Row w b m d ys)(hX:val xs=X)(hY:val ys=Y)(hn:n≤100)(hm:m≤100)(hN:Nat.gcd X Y=N)(hk:(limbs N).length≤k):Calls Tryz.prog 132 #[.slice a n c,.slice b m d] w (NumK k N w):=by
  subst hX;subst hY;subst hN
  exact(gcd_of 100 (by omega) a b n c m d xs ys w h0 h1 hn hm (fun A B hB _ _ _=>divides_all A B hB)).mono fun e w' h=>numK h hk
end
end Go.Proofs.YtpnlbjnbgemocaaGreat
