import Derived.Test.YtbdpcngcbnoioaaDoorGpa
import Derived.Test.YtbdpcngcbnoioaaDoorGa5
set_option maxRecDepth 100000
set_option maxHeartbeats 40000000
namespace Go.Proofs.YtbdpcngcbnoioaaDoor
open Go.RowKit Go.Shelf
def Byt (cs:Array Value):Prop:=∀ i,i<cs.size->∃ n:Nat,n<256/\cs[i]?=some (.int .u8 (n:Int))
theorem Byt.set {cs:Array Value} (h:Byt cs) (i n:Nat) (hn:n<256):Byt (cs.setIfInBounds i (.int .u8 (n:Int))):=by
 intro j hj;rw [Array.size_setIfInBounds] at hj
 by_cases e:i=j
 ·subst e;exact ⟨n,hn,Array.getElem?_setIfInBounds_self_of_lt hj⟩
 ·rw [Array.getElem?_setIfInBounds_ne e];exact h j hj
structure FmI (blk sz:Nat) (w:World) (wr:World):Prop where
 bk:∃ cs,Bk wr blk cs 126/\cs.size=sz/\Byt cs
 bx:∀ b,b<w.heap.size->b≠blk->wr.heap[b]?=w.heap[b]?
 os:wr.os=w.os/\wr.tape=w.tape/\wr.output=w.output/\w.heap.size<=wr.heap.size
theorem FmI.put {blk sz:Nat} {w wr:World} (h:FmI blk sz w wr) (i n:Nat) (hn:n<256):FmI blk sz w (wr.setCell ⟨blk,i,none⟩ (.int .u8 (n:Int))):=by
 obtain ⟨⟨cs,hb,hs,hy⟩,hx,h1,h2,h3,h4⟩:=h;exact ⟨⟨_,hb.set i _,by simpa using hs,hy.set i n hn⟩,fun b hl hne=>(Below.heap_setCell _ _ _ _ hne).trans (hx b hl hne),h1,h2,h3,by simpa using h4⟩
theorem FmI.putI {blk sz:Nat} {w wr:World} (h:FmI blk sz w wr) (i:Nat) (z:Int) (hz:0<=z/\z<256):FmI blk sz w (wr.setCell ⟨blk,i,none⟩ (.int .u8 z)):=by
 obtain ⟨n,rfl⟩:=Int.eq_ofNat_of_zero_le hz.1;exact h.put i n (by omega)
theorem FmI.drew {blk sz:Nat} {w wr:World} (h:FmI blk sz w wr):FmI blk sz w wr.drew:=⟨h.bk,h.bx,h.os⟩
theorem FmI.put8 {blk sz:Nat} {w wr:World} (h:FmI blk sz w wr) (i:Nat) (x:UInt8):FmI blk sz w (wr.setCell ⟨blk,i,none⟩ (.int .u8 (x.toNat:Int))):=h.put i x.toNat x.toNat_lt
theorem FmI.get {blk sz:Nat} {w wr:World} (h:FmI blk sz w wr) {i:Nat} (hi:i<sz):∃ z:Nat,wr.cell? ⟨blk,i,none⟩=some (.int .u8 (z:Int))/\wr.frozen? ⟨blk,i,none⟩=false:=by
 obtain ⟨⟨cs,hb,hs,hy⟩,_⟩:=h;obtain ⟨n,_,hc⟩:=hy i (by omega);exact ⟨n,hb.cell hc,hb.free i⟩
theorem fmt10_any {blk off nd cap sz:Nat} {u:Nat} {w:World} (h:FmI blk sz w w) (hn:off+nd<=sz) (hnd:nd<=24) (hu:u<18446744073709551616) :
  Calls Tryd.prog 64 #[.slice (some ⟨blk,off,none⟩) nd cap, .int .u64 (u:Int)] w fun e w'=>e= .returned (.tuple #[])/\FmI blk sz w w':=by
 go_enter Tryd.func64,Tryd.ntmps64;go_wp2_with fail
 go_loopw [1,4] (fun uv nv wr=>∃ (v n:Nat),uv= .int .u64 (v:Int)/\nv= .int .i64 (n:Int)/\v<18446744073709551616/\n<=nd/\Hid (FmI blk sz w wr)) (fun _ nv _=>(intOf nv).toNat)
 case atStart=>exact ⟨u,nd,rfl,rfl,hu,Nat.le_refl _,h⟩
 case round =>
  clear h;obtain ⟨v,n,rfl,rfl,hv,hle,HI⟩:=hrel
  by_cases h8:8<=n
  ·obtain ⟨k,rfl⟩:∃ k,n=k+8:=⟨n-8,by omega⟩;have i8:(8:Int)<=(k:Int)+8:=by omega
   go_wp2_with fail;have hxaHI1:(0:Int)<=(v:Int)%100*2+1/\(v:Int)%100*2+1<200:=by omega
   have hxbHI1:(0:Int)<=(v:Int)%100*2/\(v:Int)%100*2<200:=by omega
   have hkh:(0:Int)<=(k:Int)+7/\(k:Int)+7<(nd:Int):=by omega
   have hkl:(0:Int)<=(k:Int)+6/\(k:Int)+6<(nd:Int):=by omega
   obtain ⟨zh,ch,fh⟩:=FmI.get HI.out (i:=off+(k+7)) (by omega);obtain ⟨zl,cl,fl⟩:=FmI.get HI.out (i:=off+(k+6)) (by omega)
   go_region
   generalize hW:(World.setCell (World.setCell wr ⟨blk,off+(k+7),none⟩ _) ⟨blk,off+(k+6),none⟩ _)=w1;have HI1:Hid (FmI blk sz w w1):=by rw [<- hW];exact FmI.put8 (FmI.put8 HI.out _ _) _ _
   clear hW ch cl fh fl hkh hkl;go_wp2_with fail;have hxaHI2:(0:Int)<=(v:Int)%10000 / 100*2+1/\(v:Int)%10000 / 100*2+1<200:=by omega
   have hxbHI2:(0:Int)<=(v:Int)%10000 / 100*2/\(v:Int)%10000 / 100*2<200:=by omega
   have hkh:(0:Int)<=(k:Int)+5/\(k:Int)+5<(nd:Int):=by omega
   have hkl:(0:Int)<=(k:Int)+4/\(k:Int)+4<(nd:Int):=by omega
   obtain ⟨zh,ch,fh⟩:=FmI.get HI1.out (i:=off+(k+5)) (by omega);obtain ⟨zl,cl,fl⟩:=FmI.get HI1.out (i:=off+(k+4)) (by omega)
   go_region
   generalize hW:(World.setCell (World.setCell w1 ⟨blk,off+(k+5),none⟩ _) ⟨blk,off+(k+4),none⟩ _)=w2;have HI2:Hid (FmI blk sz w w2):=by rw [<- hW];exact FmI.put8 (FmI.put8 HI1.out _ _) _ _
   clear hW ch cl fh fl hkh hkl;go_wp2_with fail;have hxaHI3:(0:Int)<=(v:Int)%100000000 / 10000%100*2+1/\(v:Int)%100000000 / 10000%100*2+1<200:=by omega
   have hxbHI3:(0:Int)<=(v:Int)%100000000 / 10000%100*2/\(v:Int)%100000000 / 10000%100*2<200:=by omega
   have hkh:(0:Int)<=(k:Int)+3/\(k:Int)+3<(nd:Int):=by omega
   have hkl:(0:Int)<=(k:Int)+2/\(k:Int)+2<(nd:Int):=by omega
   obtain ⟨zh,ch,fh⟩:=FmI.get HI2.out (i:=off+(k+3)) (by omega);obtain ⟨zl,cl,fl⟩:=FmI.get HI2.out (i:=off+(k+2)) (by omega)
   go_region
   generalize hW:(World.setCell (World.setCell w2 ⟨blk,off+(k+3),none⟩ _) ⟨blk,off+(k+2),none⟩ _)=w3;have HI3:Hid (FmI blk sz w w3):=by rw [<- hW];exact FmI.put8 (FmI.put8 HI2.out _ _) _ _
   clear hW ch cl fh fl hkh hkl;go_wp2_with fail;have hxaHI4:(0:Int)<=(v:Int)%100000000 / 10000 / 100*2+1/\(v:Int)%100000000 / 10000 / 100*2+1<200:=by omega
   have hxbHI4:(0:Int)<=(v:Int)%100000000 / 10000 / 100*2/\(v:Int)%100000000 / 10000 / 100*2<200:=by omega
   have hkh:(0:Int)<=(k:Int)+1/\(k:Int)+1<(nd:Int):=by omega
   have hkl:(0:Int)<=(k:Int)/\(k:Int)<(nd:Int):=by omega
   obtain ⟨zh,ch,fh⟩:=FmI.get HI3.out (i:=off+(k+1)) (by omega);obtain ⟨zl,cl,fl⟩:=FmI.get HI3.out (i:=off+(k)) (by omega)
   go_region
   generalize hW:(World.setCell (World.setCell w3 ⟨blk,off+(k+1),none⟩ _) ⟨blk,off+(k),none⟩ _)=w4;have HI4:Hid (FmI blk sz w w4):=by rw [<- hW];exact FmI.put8 (FmI.put8 HI3.out _ _) _ _
   clear hW ch cl fh fl hkh hkl;go_wp2_with fail;refine ⟨⟨v / 100000000,k,by simp,by go_num,by omega,by omega,by show FmI _ _ _ _;repeat' (first|exact HI4.out|apply FmI.drew)⟩,by simp [intOf];omega⟩
  ·have i8:¬ (8:Int)<=(n:Int):=by omega
   obtain ⟨x,hx,hxl⟩:∃ x:Nat,(v:Int)%4294967296=(x:Int)/\x<4294967296:=⟨v%4294967296,by omega,by omega⟩
   by_cases h4:4<=n
   ·obtain ⟨j4,rfl⟩:∃ j4,n=j4+4:=⟨n-4,by omega⟩;have ii4:(4:Int)<=(j4:Int)+4:=by omega
    go_wp2_with fail;have hxaHI5:(0:Int)<=(x:Int)%100*2+1/\(x:Int)%100*2+1<200:=by omega
    have hxbHI5:(0:Int)<=(x:Int)%100*2/\(x:Int)%100*2<200:=by omega
    have hkh:(0:Int)<=(j4:Int)+3/\(j4:Int)+3<(nd:Int):=by omega
    have hkl:(0:Int)<=(j4:Int)+2/\(j4:Int)+2<(nd:Int):=by omega
    obtain ⟨zh,ch,fh⟩:=FmI.get HI.out (i:=off+(j4+3)) (by omega);obtain ⟨zl,cl,fl⟩:=FmI.get HI.out (i:=off+(j4+2)) (by omega)
    go_region
    generalize hW:(World.setCell (World.setCell wr ⟨blk,off+(j4+3),none⟩ _) ⟨blk,off+(j4+2),none⟩ _)=w5;have HI5:Hid (FmI blk sz w w5):=by rw [<- hW];exact FmI.put8 (FmI.put8 HI.out _ _) _ _
    clear hW ch cl fh fl hkh hkl;go_wp2_with fail;have hxaHI6:(0:Int)<=(x:Int)%10000 / 100*2+1/\(x:Int)%10000 / 100*2+1<200:=by omega
    have hxbHI6:(0:Int)<=(x:Int)%10000 / 100*2/\(x:Int)%10000 / 100*2<200:=by omega
    have hkh:(0:Int)<=(j4:Int)+1/\(j4:Int)+1<(nd:Int):=by omega
    have hkl:(0:Int)<=(j4:Int)/\(j4:Int)<(nd:Int):=by omega
    obtain ⟨zh,ch,fh⟩:=FmI.get HI5.out (i:=off+(j4+1)) (by omega);obtain ⟨zl,cl,fl⟩:=FmI.get HI5.out (i:=off+(j4)) (by omega)
    go_region
    generalize hW:(World.setCell (World.setCell w5 ⟨blk,off+(j4+1),none⟩ _) ⟨blk,off+(j4),none⟩ _)=w6;have HI6:Hid (FmI blk sz w w6):=by rw [<- hW];exact FmI.put8 (FmI.put8 HI5.out _ _) _ _
    clear hW ch cl fh fl hkh hkl
    by_cases h2:2<=j4
    ·obtain ⟨i2,rfl⟩:∃ i2,j4=i2+2:=⟨j4-2,by omega⟩;have ii2:(2:Int)<=(i2:Int)+2:=by omega
     go_wp2_with fail;have hxaHI11:(0:Int)<=((x:Int) / 10000)%100*2+1/\((x:Int) / 10000)%100*2+1<200:=by omega
     have hxbHI11:(0:Int)<=((x:Int) / 10000)%100*2/\((x:Int) / 10000)%100*2<200:=by omega
     have hkh:(0:Int)<=(i2:Int)+1/\(i2:Int)+1<(nd:Int):=by omega
     have hkl:(0:Int)<=(i2:Int)/\(i2:Int)<(nd:Int):=by omega
     obtain ⟨zh,ch,fh⟩:=FmI.get HI6.out (i:=off+(i2+1)) (by omega);obtain ⟨zl,cl,fl⟩:=FmI.get HI6.out (i:=off+(i2)) (by omega)
     go_region
     generalize hW:(World.setCell (World.setCell w6 ⟨blk,off+(i2+1),none⟩ _) ⟨blk,off+(i2),none⟩ _)=w11;have HI11:Hid (FmI blk sz w w11):=by rw [<- hW];exact FmI.put8 (FmI.put8 HI6.out _ _) _ _
     clear hW ch cl fh fl hkh hkl
     by_cases hz:0<i2
     ·have hz1:(0:Int)<(i2:Int):=by omega
      have hkz:(0:Int)<(nd:Int):=by omega
      obtain ⟨zh,ch,fh⟩:=FmI.get HI11.out (i:=off) (by omega);go_wp2_with fail;generalize hW:World.setCell w11 ⟨blk,off,none⟩ _=w99;have HF:Hid (FmI blk sz w w99):=by rw [<- hW];refine FmI.putI HI11.out _ _ ?_;first|omega|(rw [IntKind.wrap_u8];omega)
      clear hW;refine bodyPost_end (results_none rfl _ _ _) rfl ?_;exact ⟨rfl,by repeat' (first|exact HF.out|apply FmI.drew)⟩
     ·have hz1:¬ (0:Int)<(i2:Int):=by omega
      go_wp2_with fail;refine bodyPost_end (results_none rfl _ _ _) rfl ?_;exact ⟨rfl,by repeat' (first|exact HI11.out|apply FmI.drew)⟩
    ·have ii2:¬ (2:Int)<=(j4:Int):=by omega
     by_cases hz:0<j4
     ·have hz1:(0:Int)<(j4:Int):=by omega
      have hkz:(0:Int)<(nd:Int):=by omega
      obtain ⟨zh,ch,fh⟩:=FmI.get HI6.out (i:=off) (by omega);go_wp2_with fail;generalize hW:World.setCell w6 ⟨blk,off,none⟩ _=w99;have HF:Hid (FmI blk sz w w99):=by rw [<- hW];refine FmI.putI HI6.out _ _ ?_;first|omega|(rw [IntKind.wrap_u8];omega)
      clear hW;refine bodyPost_end (results_none rfl _ _ _) rfl ?_;exact ⟨rfl,by repeat' (first|exact HF.out|apply FmI.drew)⟩
     ·have hz1:¬ (0:Int)<(j4:Int):=by omega
      go_wp2_with fail;refine bodyPost_end (results_none rfl _ _ _) rfl ?_;exact ⟨rfl,by repeat' (first|exact HI6.out|apply FmI.drew)⟩
   ·have ii4:¬ (4:Int)<=(n:Int):=by omega
    by_cases h2:2<=n
    ·obtain ⟨i2,rfl⟩:∃ i2,n=i2+2:=⟨n-2,by omega⟩;have ii2:(2:Int)<=(i2:Int)+2:=by omega
     go_wp2_with fail;have hxaHI12:(0:Int)<=(x:Int)%100*2+1/\(x:Int)%100*2+1<200:=by omega
     have hxbHI12:(0:Int)<=(x:Int)%100*2/\(x:Int)%100*2<200:=by omega
     have hkh:(0:Int)<=(i2:Int)+1/\(i2:Int)+1<(nd:Int):=by omega
     have hkl:(0:Int)<=(i2:Int)/\(i2:Int)<(nd:Int):=by omega
     obtain ⟨zh,ch,fh⟩:=FmI.get HI.out (i:=off+(i2+1)) (by omega);obtain ⟨zl,cl,fl⟩:=FmI.get HI.out (i:=off+(i2)) (by omega)
     go_region
     generalize hW:(World.setCell (World.setCell wr ⟨blk,off+(i2+1),none⟩ _) ⟨blk,off+(i2),none⟩ _)=w12;have HI12:Hid (FmI blk sz w w12):=by rw [<- hW];exact FmI.put8 (FmI.put8 HI.out _ _) _ _
     clear hW ch cl fh fl hkh hkl
     by_cases hz:0<i2
     ·have hz1:(0:Int)<(i2:Int):=by omega
      have hkz:(0:Int)<(nd:Int):=by omega
      obtain ⟨zh,ch,fh⟩:=FmI.get HI12.out (i:=off) (by omega);go_wp2_with fail;generalize hW:World.setCell w12 ⟨blk,off,none⟩ _=w99;have HF:Hid (FmI blk sz w w99):=by rw [<- hW];refine FmI.putI HI12.out _ _ ?_;first|omega|(rw [IntKind.wrap_u8];omega)
      clear hW;refine bodyPost_end (results_none rfl _ _ _) rfl ?_;exact ⟨rfl,by repeat' (first|exact HF.out|apply FmI.drew)⟩
     ·have hz1:¬ (0:Int)<(i2:Int):=by omega
      go_wp2_with fail;refine bodyPost_end (results_none rfl _ _ _) rfl ?_;exact ⟨rfl,by repeat' (first|exact HI12.out|apply FmI.drew)⟩
    ·have ii2:¬ (2:Int)<=(n:Int):=by omega
     by_cases hz:0<n
     ·have hz1:(0:Int)<(n:Int):=by omega
      have hkz:(0:Int)<(nd:Int):=by omega
      obtain ⟨zh,ch,fh⟩:=FmI.get HI.out (i:=off) (by omega);go_wp2_with fail;generalize hW:World.setCell wr ⟨blk,off,none⟩ _=w99;have HF:Hid (FmI blk sz w w99):=by rw [<- hW];refine FmI.putI HI.out _ _ ?_;first|omega|(rw [IntKind.wrap_u8];omega)
      clear hW;refine bodyPost_end (results_none rfl _ _ _) rfl ?_;exact ⟨rfl,by repeat' (first|exact HF.out|apply FmI.drew)⟩
     ·have hz1:¬ (0:Int)<(n:Int):=by omega
      go_wp2_with fail;refine bodyPost_end (results_none rfl _ _ _) rfl ?_;exact ⟨rfl,by repeat' (first|exact HI.out|apply FmI.drew)⟩
end Go.Proofs.YtbdpcngcbnoioaaDoor
