import Derived.Test.YtbdpcngcbnoioaaGreatDoorGpa
import Derived.Test.YtbdpcngcbnoioaaGreatDoorGa5
import Derived.Shelf.Strconv.Itoa3
import Derived.Test.YtbdpcngcbnoioaaGreatDoorRows
import Derived.Laws.IdiomStrings
set_option maxRecDepth 100000
set_option maxHeartbeats 40000000
namespace Go.Proofs.YtbdpcngcbnoioaaGreatDoor
open Go.RowKit Go.Shelf
def Byt (cs:Array Value):Prop:=∀ i,i<cs.size->∃ n:Nat,n<256/\cs[i]?=some (.int .u8 (n:Int))
theorem Byt.set {cs:Array Value} (h:Byt cs) (i n:Nat) (hn:n<256):Byt (cs.setIfInBounds i (.int .u8 (n:Int))):=by
 intro j hj;rw [Array.size_setIfInBounds] at hj
 by_cases e:i=j
 ·subst e;exact ⟨n,hn,Array.getElem?_setIfInBounds_self_of_lt hj⟩
 ·rw [Array.getElem?_setIfInBounds_ne e];exact h j hj
structure FmI (blk sz:Nat) (w:World) (wr:World):Prop where
 bk:∃ cs,Bk wr blk cs 344/\cs.size=sz/\Byt cs
 bx:∀ b,b<w.heap.size->b≠blk->wr.heap[b]?=w.heap[b]?
 os:wr.os=w.os/\wr.tape=w.tape/\wr.output=w.output/\w.heap.size<=wr.heap.size
theorem FmI.put {blk sz:Nat} {w wr:World} (h:FmI blk sz w wr) (i n:Nat) (hn:n<256):FmI blk sz w (wr.setCell ⟨blk,i,none⟩ (.int .u8 (n:Int))):=by
 obtain ⟨⟨cs,hb,hs,hy⟩,hx,h1,h2,h3,h4⟩:=h;exact ⟨⟨_,hb.set i _,by simpa using hs,hy.set i n hn⟩,fun b hl hne=>(Below.heap_setCell _ _ _ _ hne).trans (hx b hl hne),h1,h2,h3,by simpa using h4⟩
theorem FmI.putI {blk sz:Nat} {w wr:World} (h:FmI blk sz w wr) (i:Nat) (z:Int) (hz:0<=z/\z<256):FmI blk sz w (wr.setCell ⟨blk,i,none⟩ (.int .u8 z)):=by
 obtain ⟨n,rfl⟩:=Int.eq_ofNat_of_zero_le hz.1;exact h.put i n (by omega)
theorem FmI.drew {blk sz:Nat} {w wr:World} (h:FmI blk sz w wr):FmI blk sz w wr.drew:=⟨h.bk,h.bx,h.os⟩
theorem FmI.put8 {blk sz:Nat} {w wr:World} (h:FmI blk sz w wr) (i:Nat) (x:UInt8):FmI blk sz w (wr.setCell ⟨blk,i,none⟩ (.int .u8 (x.toNat:Int))):=h.put i x.toNat x.toNat_lt
theorem FmI.get {blk sz:Nat} {w wr:World} (h:FmI blk sz w wr) {i:Nat} (hi:i<sz):∃ z:Nat,wr.cell? ⟨blk,i,none⟩=some (.int .u8 (z:Int))/\wr.frozen? ⟨blk,i,none⟩=false:=by
 obtain ⟨⟨cs,hb,hs,hy⟩,_⟩:=h;obtain ⟨n,_,hc⟩:=hy i (by omega);exact ⟨n,hb.cell hc,hb.free i⟩
theorem fmt10_any {blk off nd cap sz:Nat} {u:Nat} {w:World} (h:FmI blk sz w w) (hn:off+nd<=sz) (hnd:nd<=24) (hu:u<18446744073709551616) :
  Calls Tryz.prog 308 #[.slice (some ⟨blk,off,none⟩) nd cap, .int .u64 (u:Int)] w fun e w'=>e= .returned (.tuple #[])/\FmI blk sz w w':=by
 go_enter Tryz.func308,Tryz.ntmps308;go_wp2_with fail
 go_loopw [1,4] (fun uv nv wr=>∃ (v n:Nat),uv= .int .u64 (v:Int)/\nv= .int .i64 (n:Int)/\v<18446744073709551616/\n<=nd/\Hid (FmI blk sz w wr)) (fun _ nv _=>(intOf nv).toNat)
 case atStart=>exact ⟨u,nd,rfl,rfl,hu,Nat.le_refl _,h⟩
 case round =>
  clear h;obtain ⟨v,n,rfl,rfl,hv,hle,HI⟩:=hrel
  by_cases h8:8<=n
  ·obtain ⟨k,rfl⟩:∃ k,n=k+8:=⟨n-8,by omega⟩;have i8:(8:Int)<=(k:Int)+8:=by omega
   go_wp2_with fail;have hxaHI1:(0:Int)<=(v:Int)%100*2+1/\(v:Int)%100*2+1<200:=by omega
   have hxbHI1:(0:Int)<=(v:Int)%100*2/\(v:Int)%100*2<200:=by omega
   have hkh:(0:Int)<=(k:Int)+7/\(k:Int)+7<(nd:Int):=by omega
   have hkl:(0:Int)<=(k:Int)+6/\(k:Int)+6<(nd:Int):=by omega
   obtain ⟨zh,ch,fh⟩:=FmI.get HI.out (i:=off+(k+7)) (by omega);obtain ⟨zl,cl,fl⟩:=FmI.get HI.out (i:=off+(k+6)) (by omega)
   go_region
   generalize hW:(World.setCell (World.setCell wr ⟨blk,off+(k+7),none⟩ _) ⟨blk,off+(k+6),none⟩ _)=w1;have HI1:Hid (FmI blk sz w w1):=by rw [<- hW];exact FmI.put8 (FmI.put8 HI.out _ _) _ _
   clear hW ch cl fh fl hkh hkl;go_wp2_with fail;have hxaHI2:(0:Int)<=(v:Int)%10000 / 100*2+1/\(v:Int)%10000 / 100*2+1<200:=by omega
   have hxbHI2:(0:Int)<=(v:Int)%10000 / 100*2/\(v:Int)%10000 / 100*2<200:=by omega
   have hkh:(0:Int)<=(k:Int)+5/\(k:Int)+5<(nd:Int):=by omega
   have hkl:(0:Int)<=(k:Int)+4/\(k:Int)+4<(nd:Int):=by omega
   obtain ⟨zh,ch,fh⟩:=FmI.get HI1.out (i:=off+(k+5)) (by omega);obtain ⟨zl,cl,fl⟩:=FmI.get HI1.out (i:=off+(k+4)) (by omega)
   go_region
   generalize hW:(World.setCell (World.setCell w1 ⟨blk,off+(k+5),none⟩ _) ⟨blk,off+(k+4),none⟩ _)=w2;have HI2:Hid (FmI blk sz w w2):=by rw [<- hW];exact FmI.put8 (FmI.put8 HI1.out _ _) _ _
   clear hW ch cl fh fl hkh hkl;go_wp2_with fail;have hxaHI3:(0:Int)<=(v:Int)%100000000 / 10000%100*2+1/\(v:Int)%100000000 / 10000%100*2+1<200:=by omega
   have hxbHI3:(0:Int)<=(v:Int)%100000000 / 10000%100*2/\(v:Int)%100000000 / 10000%100*2<200:=by omega
   have hkh:(0:Int)<=(k:Int)+3/\(k:Int)+3<(nd:Int):=by omega
   have hkl:(0:Int)<=(k:Int)+2/\(k:Int)+2<(nd:Int):=by omega
   obtain ⟨zh,ch,fh⟩:=FmI.get HI2.out (i:=off+(k+3)) (by omega);obtain ⟨zl,cl,fl⟩:=FmI.get HI2.out (i:=off+(k+2)) (by omega)
   go_region
   generalize hW:(World.setCell (World.setCell w2 ⟨blk,off+(k+3),none⟩ _) ⟨blk,off+(k+2),none⟩ _)=w3;have HI3:Hid (FmI blk sz w w3):=by rw [<- hW];exact FmI.put8 (FmI.put8 HI2.out _ _) _ _
   clear hW ch cl fh fl hkh hkl;go_wp2_with fail;have hxaHI4:(0:Int)<=(v:Int)%100000000 / 10000 / 100*2+1/\(v:Int)%100000000 / 10000 / 100*2+1<200:=by omega
   have hxbHI4:(0:Int)<=(v:Int)%100000000 / 10000 / 100*2/\(v:Int)%100000000 / 10000 / 100*2<200:=by omega
   have hkh:(0:Int)<=(k:Int)+1/\(k:Int)+1<(nd:Int):=by omega
   have hkl:(0:Int)<=(k:Int)/\(k:Int)<(nd:Int):=by omega
   obtain ⟨zh,ch,fh⟩:=FmI.get HI3.out (i:=off+(k+1)) (by omega);obtain ⟨zl,cl,fl⟩:=FmI.get HI3.out (i:=off+(k)) (by omega)
   go_region
   generalize hW:(World.setCell (World.setCell w3 ⟨blk,off+(k+1),none⟩ _) ⟨blk,off+(k),none⟩ _)=w4;have HI4:Hid (FmI blk sz w w4):=by rw [<- hW];exact FmI.put8 (FmI.put8 HI3.out _ _) _ _
   clear hW ch cl fh fl hkh hkl;go_wp2_with fail;refine ⟨⟨v / 100000000,k,by simp,by go_num,by omega,by omega,by show FmI _ _ _ _;repeat' (first|exact HI4.out|apply FmI.drew)⟩,by simp [intOf];omega⟩
  ·have i8:¬ (8:Int)<=(n:Int):=by omega
   obtain ⟨x,hx,hxl⟩:∃ x:Nat,(v:Int)%4294967296=(x:Int)/\x<4294967296:=⟨v%4294967296,by omega,by omega⟩
   by_cases h4:4<=n
   ·obtain ⟨j4,rfl⟩:∃ j4,n=j4+4:=⟨n-4,by omega⟩;have ii4:(4:Int)<=(j4:Int)+4:=by omega
    go_wp2_with fail;have hxaHI5:(0:Int)<=(x:Int)%100*2+1/\(x:Int)%100*2+1<200:=by omega
    have hxbHI5:(0:Int)<=(x:Int)%100*2/\(x:Int)%100*2<200:=by omega
    have hkh:(0:Int)<=(j4:Int)+3/\(j4:Int)+3<(nd:Int):=by omega
    have hkl:(0:Int)<=(j4:Int)+2/\(j4:Int)+2<(nd:Int):=by omega
    obtain ⟨zh,ch,fh⟩:=FmI.get HI.out (i:=off+(j4+3)) (by omega);obtain ⟨zl,cl,fl⟩:=FmI.get HI.out (i:=off+(j4+2)) (by omega)
    go_region
    generalize hW:(World.setCell (World.setCell wr ⟨blk,off+(j4+3),none⟩ _) ⟨blk,off+(j4+2),none⟩ _)=w5;have HI5:Hid (FmI blk sz w w5):=by rw [<- hW];exact FmI.put8 (FmI.put8 HI.out _ _) _ _
    clear hW ch cl fh fl hkh hkl;go_wp2_with fail;have hxaHI6:(0:Int)<=(x:Int)%10000 / 100*2+1/\(x:Int)%10000 / 100*2+1<200:=by omega
    have hxbHI6:(0:Int)<=(x:Int)%10000 / 100*2/\(x:Int)%10000 / 100*2<200:=by omega
    have hkh:(0:Int)<=(j4:Int)+1/\(j4:Int)+1<(nd:Int):=by omega
    have hkl:(0:Int)<=(j4:Int)/\(j4:Int)<(nd:Int):=by omega
    obtain ⟨zh,ch,fh⟩:=FmI.get HI5.out (i:=off+(j4+1)) (by omega);obtain ⟨zl,cl,fl⟩:=FmI.get HI5.out (i:=off+(j4)) (by omega)
    go_region
    generalize hW:(World.setCell (World.setCell w5 ⟨blk,off+(j4+1),none⟩ _) ⟨blk,off+(j4),none⟩ _)=w6;have HI6:Hid (FmI blk sz w w6):=by rw [<- hW];exact FmI.put8 (FmI.put8 HI5.out _ _) _ _
    clear hW ch cl fh fl hkh hkl
    by_cases h2:2<=j4
    ·obtain ⟨i2,rfl⟩:∃ i2,j4=i2+2:=⟨j4-2,by omega⟩;have ii2:(2:Int)<=(i2:Int)+2:=by omega
     go_wp2_with fail;have hxaHI11:(0:Int)<=((x:Int) / 10000)%100*2+1/\((x:Int) / 10000)%100*2+1<200:=by omega
     have hxbHI11:(0:Int)<=((x:Int) / 10000)%100*2/\((x:Int) / 10000)%100*2<200:=by omega
     have hkh:(0:Int)<=(i2:Int)+1/\(i2:Int)+1<(nd:Int):=by omega
     have hkl:(0:Int)<=(i2:Int)/\(i2:Int)<(nd:Int):=by omega
     obtain ⟨zh,ch,fh⟩:=FmI.get HI6.out (i:=off+(i2+1)) (by omega);obtain ⟨zl,cl,fl⟩:=FmI.get HI6.out (i:=off+(i2)) (by omega)
     go_region
     generalize hW:(World.setCell (World.setCell w6 ⟨blk,off+(i2+1),none⟩ _) ⟨blk,off+(i2),none⟩ _)=w11;have HI11:Hid (FmI blk sz w w11):=by rw [<- hW];exact FmI.put8 (FmI.put8 HI6.out _ _) _ _
     clear hW ch cl fh fl hkh hkl
     by_cases hz:0<i2
     ·have hz1:(0:Int)<(i2:Int):=by omega
      have hkz:(0:Int)<(nd:Int):=by omega
      obtain ⟨zh,ch,fh⟩:=FmI.get HI11.out (i:=off) (by omega);go_wp2_with fail;generalize hW:World.setCell w11 ⟨blk,off,none⟩ _=w99;have HF:Hid (FmI blk sz w w99):=by rw [<- hW];refine FmI.putI HI11.out _ _ ?_;first|omega|(rw [IntKind.wrap_u8];omega)
      clear hW;refine bodyPost_end (results_none rfl _ _ _) rfl ?_;exact ⟨rfl,by repeat' (first|exact HF.out|apply FmI.drew)⟩
     ·have hz1:¬ (0:Int)<(i2:Int):=by omega
      go_wp2_with fail;refine bodyPost_end (results_none rfl _ _ _) rfl ?_;exact ⟨rfl,by repeat' (first|exact HI11.out|apply FmI.drew)⟩
    ·have ii2:¬ (2:Int)<=(j4:Int):=by omega
     by_cases hz:0<j4
     ·have hz1:(0:Int)<(j4:Int):=by omega
      have hkz:(0:Int)<(nd:Int):=by omega
      obtain ⟨zh,ch,fh⟩:=FmI.get HI6.out (i:=off) (by omega);go_wp2_with fail;generalize hW:World.setCell w6 ⟨blk,off,none⟩ _=w99;have HF:Hid (FmI blk sz w w99):=by rw [<- hW];refine FmI.putI HI6.out _ _ ?_;first|omega|(rw [IntKind.wrap_u8];omega)
      clear hW;refine bodyPost_end (results_none rfl _ _ _) rfl ?_;exact ⟨rfl,by repeat' (first|exact HF.out|apply FmI.drew)⟩
     ·have hz1:¬ (0:Int)<(j4:Int):=by omega
      go_wp2_with fail;refine bodyPost_end (results_none rfl _ _ _) rfl ?_;exact ⟨rfl,by repeat' (first|exact HI6.out|apply FmI.drew)⟩
   ·have ii4:¬ (4:Int)<=(n:Int):=by omega
    by_cases h2:2<=n
    ·obtain ⟨i2,rfl⟩:∃ i2,n=i2+2:=⟨n-2,by omega⟩;have ii2:(2:Int)<=(i2:Int)+2:=by omega
     go_wp2_with fail;have hxaHI12:(0:Int)<=(x:Int)%100*2+1/\(x:Int)%100*2+1<200:=by omega
     have hxbHI12:(0:Int)<=(x:Int)%100*2/\(x:Int)%100*2<200:=by omega
     have hkh:(0:Int)<=(i2:Int)+1/\(i2:Int)+1<(nd:Int):=by omega
     have hkl:(0:Int)<=(i2:Int)/\(i2:Int)<(nd:Int):=by omega
     obtain ⟨zh,ch,fh⟩:=FmI.get HI.out (i:=off+(i2+1)) (by omega);obtain ⟨zl,cl,fl⟩:=FmI.get HI.out (i:=off+(i2)) (by omega)
     go_region
     generalize hW:(World.setCell (World.setCell wr ⟨blk,off+(i2+1),none⟩ _) ⟨blk,off+(i2),none⟩ _)=w12;have HI12:Hid (FmI blk sz w w12):=by rw [<- hW];exact FmI.put8 (FmI.put8 HI.out _ _) _ _
     clear hW ch cl fh fl hkh hkl
     by_cases hz:0<i2
     ·have hz1:(0:Int)<(i2:Int):=by omega
      have hkz:(0:Int)<(nd:Int):=by omega
      obtain ⟨zh,ch,fh⟩:=FmI.get HI12.out (i:=off) (by omega);go_wp2_with fail;generalize hW:World.setCell w12 ⟨blk,off,none⟩ _=w99;have HF:Hid (FmI blk sz w w99):=by rw [<- hW];refine FmI.putI HI12.out _ _ ?_;first|omega|(rw [IntKind.wrap_u8];omega)
      clear hW;refine bodyPost_end (results_none rfl _ _ _) rfl ?_;exact ⟨rfl,by repeat' (first|exact HF.out|apply FmI.drew)⟩
     ·have hz1:¬ (0:Int)<(i2:Int):=by omega
      go_wp2_with fail;refine bodyPost_end (results_none rfl _ _ _) rfl ?_;exact ⟨rfl,by repeat' (first|exact HI12.out|apply FmI.drew)⟩
    ·have ii2:¬ (2:Int)<=(n:Int):=by omega
     by_cases hz:0<n
     ·have hz1:(0:Int)<(n:Int):=by omega
      have hkz:(0:Int)<(nd:Int):=by omega
      obtain ⟨zh,ch,fh⟩:=FmI.get HI.out (i:=off) (by omega);go_wp2_with fail;generalize hW:World.setCell wr ⟨blk,off,none⟩ _=w99;have HF:Hid (FmI blk sz w w99):=by rw [<- hW];refine FmI.putI HI.out _ _ ?_;first|omega|(rw [IntKind.wrap_u8];omega)
      clear hW;refine bodyPost_end (results_none rfl _ _ _) rfl ?_;exact ⟨rfl,by repeat' (first|exact HF.out|apply FmI.drew)⟩
     ·have hz1:¬ (0:Int)<(n:Int):=by omega
      go_wp2_with fail;refine bodyPost_end (results_none rfl _ _ _) rfl ?_;exact ⟨rfl,by repeat' (first|exact HI.out|apply FmI.drew)⟩
end Go.Proofs.YtbdpcngcbnoioaaGreatDoor
namespace Go.Proofs.YtbdpcngcbnoioaaGreatDoor
open Go.Shelf
def lenU_ren:Go.Shelf.Ren:=⟨fun|129=>214|n=>n,fun|53=>248|3=>3|4=>4|46=>192|5=>5|9=>9|n=>n,fun|n=>n⟩
theorem lenU:Go.Proofs.Lays.n129 Tryz.prog lenU_ren:={
 mixed:=by kernel_rfl,
 f129:=Tryz.func214.trans (congrArg some (by kernel_rfl)),
 t3:=Tryz.underlying3,
 a3:=Tryz.isAgg3,
 z3:=Tryz.sizeOf3,
 v3:=Tryz.zeroValue3,
 t4:=Tryz.underlying4,
 a4:=Tryz.isAgg4,
 z4:=Tryz.sizeOf4,
 v4:=Tryz.zeroValue4,
 t5:=Tryz.underlying5,
 a5:=Tryz.isAgg5,
 z5:=Tryz.sizeOf5,
 v5:=Tryz.zeroValue5,
 t9:=Tryz.underlying9,
 a9:=Tryz.isAgg9,
 z9:=Tryz.sizeOf9,
 v9:=Tryz.zeroValue9,
 t46:=Tryz.underlying192,
 a46:=Tryz.isAgg192,
 z46:=Tryz.sizeOf192,
 v46:=Tryz.zeroValue192,
 t53:=Tryz.underlying248,
 a53:=Tryz.isAgg248,
 z53:=Tryz.sizeOf248,
 v53:=Tryz.zeroValue248 }
def l10U_ren:Go.Shelf.Ren:=⟨fun|317=>310|n=>n,fun|3=>3|46=>192|n=>n,fun|n=>n⟩
theorem l10U:Go.Proofs.Lays.n317 Tryz.prog l10U_ren:={
 mixed:=by kernel_rfl,
 f317:=Tryz.func310.trans (congrArg some (by kernel_rfl)),
 t3:=Tryz.underlying3,
 a3:=Tryz.isAgg3,
 z3:=Tryz.sizeOf3,
 v3:=Tryz.zeroValue3,
 t46:=Tryz.underlying192,
 a46:=Tryz.isAgg192,
 z46:=Tryz.sizeOf192,
 v46:=Tryz.zeroValue192 }
def b2U_ren:Go.Shelf.Ren:=⟨fun|318=>311|n=>n,fun|3=>3|4=>4|n=>n,fun|n=>n⟩
theorem b2U:Go.Proofs.Lays.n318 Tryz.prog b2U_ren:={
 mixed:=by kernel_rfl,
 f318:=Tryz.func311.trans (congrArg some (by kernel_rfl)),
 t3:=Tryz.underlying3,
 a3:=Tryz.isAgg3,
 z3:=Tryz.sizeOf3,
 v3:=Tryz.zeroValue3,
 t4:=Tryz.underlying4,
 a4:=Tryz.isAgg4,
 z4:=Tryz.sizeOf4,
 v4:=Tryz.zeroValue4 }
end Go.Proofs.YtbdpcngcbnoioaaGreatDoor
set_option maxRecDepth 100000
set_option maxHeartbeats 8000000
namespace Go.Proofs.YtbdpcngcbnoioaaGreatDoor
open Go.RowKit Go.Shelf
theorem bool2_any (b:Bool) (w:World):Calls Tryz.prog 311 #[.bool b] w fun e w'=>(∃ o:Nat,o<=1/\e= .returned (.int .i64 (o:Int)))/\w'=w:=by
 refine (Any.internal_strconv_bool2_int b2U b w).mono ?_;rintro e w' ⟨rfl,rfl⟩;cases b
 ·exact ⟨⟨0,by omega,rfl⟩,rfl⟩
 ·exact ⟨⟨1,by omega,rfl⟩,rfl⟩
theorem bitLenAux_le:∀ f x:Nat,Lib.bitLenAux f x<=f
 | 0,_=>Nat.le_refl _
 | f+1,x=>by
  simp only [Lib.bitLenAux]
  split
  ·omega
  ·have:=bitLenAux_le f (x / 2);omega
theorem bitLen_64 (x:Nat):Lib.bitLen x<=64:=bitLenAux_le 64 x
theorem l10_19:∀ b:Fin 65,Lib.l10 b.val<=19:=by decide +kernel
def Pow (w:World):Prop:=∀ i:Nat,i<20->∃ z:Nat,z<18446744073709551616/\w.cell? ⟨1,i,none⟩=some (.int .u64 (z:Int))
theorem numDigits_any {u:Nat} (h2:u<18446744073709551616) (w:World) (hp:Pow w) :
  Calls Tryz.prog 307 #[.int .u64 (u:Int)] w fun e w'=>(∃ nd:Nat,nd<=20/\e= .returned (.int .i64 (nd:Int)))/\w'=w:=by
 have HP:=(show Hid (Pow w) from hp);have HL:=(show Hid _ from Any.bits_Len64 lenU (u:Int) w (by omega) (by omega));clear hp;go_enter Tryz.func307,Tryz.ntmps307;go_wp2_with fail;refine Calls.mono HL.out ?_;rintro e w1 ⟨rfl,rfl⟩;obtain ⟨b,hb,hb64⟩:∃ b:Nat,Lib.bitLen u=b/\b<=64:=⟨_,rfl,bitLen_64 u⟩;have HL10:=(show Hid _ from Any.internal_strconv_log10Pow2 l10U b hb64 w1);obtain ⟨k,hk,hk19⟩:∃ k:Nat,Lib.l10 b=k/\k<=19:=⟨_,rfl,l10_19 ⟨b,by omega⟩⟩;rw [hk] at HL10;obtain ⟨z,hz,hc⟩:=HP.out k (by omega);have ik:(0:Int)<=(k:Int)/\(k:Int)<20:=by omega
 have HB:=(show Hid _ from fun (b:Bool)=>bool2_any b w1);clear hk HL;go_wp2_with fail;clear hb;refine Calls.mono HL10.out ?_;rintro e w2 ⟨rfl,rfl⟩;go_wp2_with fail;refine Calls.mono (HB.out _) ?_;rintro e w3 ⟨⟨o,ho,rfl⟩,rfl⟩;have io:IntKind.i64.wrap ((k:Int)+(o:Int))=((k+o:Nat):Int):=by rw [IntKind.wrap_i64];omega
 go_wp2_with fail;go_ret;exact ⟨⟨k+o,by omega,by first|rfl|simp⟩,rfl⟩
theorem byt_list {w:World} {blk:Nat} {cs:Array Value} {t:TypeId} (hb:Bk w blk cs t) (hy:Byt cs):∀ (m off:Nat),off+m<=cs.size->∃ l:List UInt8,l.length=m/\∀ j (hj:j<l.length),w.cell? ⟨blk,off+j,none⟩=some (.int .u8 (l[j].toNat:Int))
 | 0,_,_=>⟨[],rfl,fun j hj=>by simp at hj⟩
 | m+1,off,h=>by
  obtain ⟨l,hl,hc⟩:=byt_list hb hy m (off+1) (by omega);obtain ⟨n,hn,h0⟩:=hy off (by omega);refine ⟨UInt8.ofNat n::l,by simp [hl],fun j hj=>?_⟩;cases j with
  | zero =>
   have:=hb.cell h0;simp only [List.getElem_cons_zero,UInt8.toNat_ofNat',Nat.add_zero];rw [this];simp [Nat.mod_eq_of_lt hn]
  | succ j =>
   have:=hc j (by simpa using hj);simp only [List.getElem_cons_succ];rw [<- this]
   congr 2
   omega
abbrev zer24:Array Value:=#[.int .u8 0, .int .u8 0, .int .u8 0, .int .u8 0, .int .u8 0, .int .u8 0, .int .u8 0, .int .u8 0, .int .u8 0, .int .u8 0, .int .u8 0, .int .u8 0, .int .u8 0, .int .u8 0, .int .u8 0, .int .u8 0, .int .u8 0, .int .u8 0, .int .u8 0, .int .u8 0, .int .u8 0, .int .u8 0, .int .u8 0, .int .u8 0]
theorem zer24_byt:Byt zer24:=by
 intro i hi;refine ⟨0,by omega,?_⟩;have e:zer24=Array.replicate 24 (.int .u8 0):=rfl;rw [e,Array.getElem?_replicate,if_pos (show i<24 from hi)]
 rfl
theorem fmI_new (w:World):FmI w.heap.size 24 (w.alloc (.cells zer24 344)) (w.alloc (.cells zer24 344)) :=
 ⟨⟨zer24,Bk.new _ _ rfl,rfl,zer24_byt⟩,fun _ _ _=>rfl,rfl,rfl,rfl,Nat.le_refl _⟩
theorem FmI.below {blk sz:Nat} {w0 w wr:World} (h:FmI blk sz w wr) (h0:Below w0.heap.size w0 w) (hb:w0.heap.size<=blk):Below w0.heap.size w0 wr :=
 h0.trans ⟨h.os.1,h.os.2.1,h.os.2.2.1,h.os.2.2.2,fun b hl=>h.bx b (Nat.lt_of_lt_of_le hl h0.size) (by omega)⟩
theorem FmI.conv {blk sz:Nat} {w wr:World} (h:FmI blk sz w wr) (off m cap:Nat) (hm:off+m<=sz):∃ s:ByteArray,s.size=m/\(convert 22 9 (.slice (some ⟨blk,off,none⟩) m cap)).run Tryz.prog wr= .ok (.string s) wr:=by
 obtain ⟨⟨cs,hb,hs,hy⟩,_⟩:=h;obtain ⟨l,hl,hc⟩:=byt_list hb hy m off (by omega);refine ⟨⟨l.toArray⟩,by show l.toArray.size=m;simpa using hl,?_⟩;subst hl;refine run_convert_bytes_back (P:=Tryz.prog) wr 22 9 5 ⟨blk,off,none⟩ cap l Tryz.underlying22 Tryz.underlying5 Tryz.underlying9 fun j hj=>?_;have e:(⟨blk,off,none⟩:Addr).add j=⟨blk,off+j,none⟩:=by simp [Addr.add]
 rw [e];exact hc j hj
theorem formatInt_any {n:Int} (hn:n<0\/100<=n) (h0 : -9223372036854775808<=n) (h1:n<=9223372036854775807) (w:World) (hp:Pow w) :
  Calls Tryz.prog 305 #[.int .i64 n, .int .i64 10] w fun e w'=>(∃ s:ByteArray,e= .returned (.string s)/\s.size<=24)/\Below w.heap.size w w':=by
 have hb0:Below w.heap.size w (w.alloc (.cells zer24 344)):=bAz (Below.refl _ _) _;have HN:=(show Hid _ from fmI_new w);have HP:Hid (Pow (w.alloc (.cells zer24 344))):=fun i hi=>by
  obtain ⟨z,hz,hc⟩:=hp i hi;exact ⟨z,hz,cB hb0 hc⟩
 have HB0:=(show Hid _ from hb0);clear hp hb0
 rcases hn with hn|hn
 ·have i1:¬ (0<=n):=by omega
  obtain ⟨u,hu,hlt⟩:∃ u:Nat,IntKind.u64.wrap (-IntKind.u64.wrap n)=(u:Int)/\u<18446744073709551616:=⟨(-n).toNat,by rw [IntKind.wrap_u64,IntKind.wrap_u64];omega,by omega⟩;go_enter Tryz.func305,Tryz.ntmps305;go_wp2_with fail;generalize (w.alloc (.cells zer24 344))=W0 at *;refine Calls.mono (numDigits_any hlt W0 HP.out) ?_;rintro e W0' ⟨⟨nd,hnd,rfl⟩,rfl⟩;have iw:IntKind.i64.wrap (1+(nd:Int))=1+(nd:Int):=by rw [IntKind.wrap_i64];omega
  have j1:(1:Int)<=1+(nd:Int)/\1+(nd:Int)<=24:=by omega
  go_wp2_with fail;refine Calls.mono (fmt10_any HN.out (off:=1) (cap:=23) (by omega) (by omega) hlt) ?_;rintro e w3 ⟨rfl,hf⟩;have HF:=(show Hid _ from hf);obtain ⟨z,hz,hzf⟩:=FmI.get HF.out (i:=0) (by omega);have HF4:Hid (FmI w.heap.size 24 W0' (w3.setCell ⟨w.heap.size,0,none⟩ (.int .u8 45))):=FmI.putI HF.out 0 45 (by omega);obtain ⟨s,hs,hcv⟩:=FmI.conv HF4.out 0 (nd+1) 24 (by omega);have HBF:Hid (Below w.heap.size w (w3.setCell ⟨w.heap.size,0,none⟩ (.int .u8 45))):=FmI.below HF4.out HB0.out (Nat.le_refl _);have j0:(0:Int)<=1+(nd:Int)/\1+(nd:Int)<=24:=by omega
  have j2:(1+(nd:Int)).toNat=nd+1:=by omega
  clear hf;go_wp2_with fail;go_ret;exact ⟨⟨s,rfl,by omega⟩,HBF.out⟩
 ·have i1:(0<=n):=by omega
  have i2:¬ (n<100):=by omega
  have i3:¬ (n<0):=by omega
  obtain ⟨u,rfl⟩:=Int.eq_ofNat_of_zero_le i1;have hlt:u<18446744073709551616:=by omega
  go_enter Tryz.func305,Tryz.ntmps305;go_wp2_with fail;generalize (w.alloc (.cells zer24 344))=W0 at *;refine Calls.mono (numDigits_any hlt W0 HP.out) ?_;rintro e W0' ⟨⟨nd,hnd,rfl⟩,rfl⟩;have iw:IntKind.i64.wrap (1+(nd:Int))=1+(nd:Int):=by rw [IntKind.wrap_i64];omega
  have j1:(1:Int)<=1+(nd:Int)/\1+(nd:Int)<=24:=by omega
  go_wp2_with fail;refine Calls.mono (fmt10_any HN.out (off:=1) (cap:=23) (by omega) (by omega) hlt) ?_;rintro e w3 ⟨rfl,hf⟩;have HF:=(show Hid _ from hf);obtain ⟨s,hs,hcv⟩:=FmI.conv HF.out 1 nd 23 (by omega);have HBF:Hid (Below w.heap.size w w3):=FmI.below HF.out HB0.out (Nat.le_refl _);clear hf;go_wp2_with fail;go_ret;exact ⟨⟨s,rfl,by omega⟩,HBF.out⟩
theorem itoa_any (n:Int) (h0 : -9223372036854775808<=n) (h1:n<=9223372036854775807) (w:World) (hp:Pow w) :
  Calls Tryz.prog 303 #[.int .i64 n] w fun e w'=>(∃ s:ByteArray,e= .returned (.string s)/\s.size<=24)/\Below w.heap.size w w':=by
 by_cases hs:0<=n/\n<100
 ·obtain ⟨i,rfl⟩:=Int.eq_ofNat_of_zero_le hs.1;refine (Any.strconv_Itoa_small itoU i (by omega) w).mono ?_;rintro e w' ⟨rfl,rfl⟩;refine ⟨⟨_,rfl,?_⟩,Below.refl _ _⟩;have h:∀ i:Fin 100,(Lib.decDigits i.val).length<=24:=by decide +kernel
  have:=h ⟨i,by omega⟩
  show (Lib.decDigits i).toArray.size<=24
  simpa using this
 ·have HF:=(show Hid _ from formatInt_any (n:=n) (by omega) h0 h1 w hp);have h2:Calls Tryz.prog 304 #[.int .i64 n] w fun e w'=>(∃ s:ByteArray,e= .returned (.string s)/\s.size<=24)/\Below w.heap.size w w':=by
   go_enter Tryz.func304,Tryz.ntmps304;go_wp2_with fail;refine Calls.mono HF.out ?_;rintro e w1 ⟨⟨s,rfl,hs⟩,hb⟩;go_wp2_with fail;go_ret;exact ⟨⟨s,rfl,hs⟩,hb⟩
  have HI:=(show Hid _ from h2);clear h2;go_enter Tryz.func303,Tryz.ntmps303;go_wp2_with fail;refine Calls.mono HI.out ?_;rintro e w1 ⟨⟨s,rfl,hs⟩,hb⟩;go_wp2_with fail;go_ret;exact ⟨⟨s,rfl,hs⟩,hb⟩
end Go.Proofs.YtbdpcngcbnoioaaGreatDoor
